/- The sums of MeasureSets: 1 and one share against the two others. -/
import Derived.Test.YtendkghifcjffaaGreatDoorSetsF
import Derived.Test.YtendkghifcjffaaGreatDoorNearsW
namespace Go.Proofs.YtendkghifcjffaaGreatDoor

theorem cell_ad {W : World} {o : Obj} {b k : Nat} {v : Value} (h : (W.drewN 1).cell? ⟨b, k, none⟩ = some v) : (W.alloc o).drew.cell? ⟨b, k, none⟩ = some v :=
  cellB (w := W) (Go.RowKit.Below.drew (below_box W o)) h
theorem own2_ad {W : World} {o : Obj} {b : Nat} {n d : Int} (h : Own2 (W.drewN 1) b n d) : Own2 (W.alloc o).drew b n d :=
  Own2.below (w := W) ⟨h.c0, h.c1, h.f0, h.f1⟩ (Go.RowKit.Below.drew (below_box W o))
theorem below_ad {B : Nat} {w W : World} {o : Obj} (h : Go.RowKit.Below B w (W.drewN 1)) (hB : B ≤ W.heap.size) : Go.RowKit.Below B w (W.alloc o).drew :=
  Go.RowKit.Below.drew (Go.RowKit.Below.alloc (show Go.RowKit.Below B w W from ⟨h.os, h.tape, h.output, h.size, h.block⟩) hB o)
theorem own2_nd (W : World) (n d : Int) (T : TypeId) : Own2 (W.alloc (.cells #[.int .i64 n, .int .i64 d] T)).drew W.heap.size n d :=
  ⟨(own2_new W n d T).c0, (own2_new W n d T).c1, (own2_new W n d T).f0, (own2_new W n d T).f1⟩
theorem ne_ad {W : World} {b k : Nat} {v : Value} (h : (W.drewN 1).cell? ⟨b, k, none⟩ = some v) : b ≠ W.heap.size := Nat.ne_of_lt (cellLt (w := W) h)
theorem heap_two {w : World} {b c : Nat} {x y : Value} (h : b ≠ c) : ((w.setCell ⟨c, 0, none⟩ x).setCell ⟨c, 1, none⟩ y).heap[b]? = w.heap[b]? := by
  rw [Go.RowKit.Below.heap_setCell _ _ _ _ h, Go.RowKit.Below.heap_setCell _ _ _ _ h]
theorem own2_other {w : World} {b c : Nat} {n d : Int} (h : Own2 w b n d) (hne : b ≠ c) (x y : Value) : Own2 ((w.setCell ⟨c, 0, none⟩ x).setCell ⟨c, 1, none⟩ y) b n d := by
  have e := heap_two (w := w) (x := x) (y := y) hne
  have c0 := h.c0
  have c1 := h.c1
  have f0 := h.f0
  have f1 := h.f1
  refine ⟨?_, ?_, ?_, ?_⟩
  · unfold World.cell? at c0 ⊢
    rw [e]
    exact c0
  · unfold World.cell? at c1 ⊢
    rw [e]
    exact c1
  · unfold World.frozen? at f0 ⊢
    rw [e]
    exact f0
  · unfold World.frozen? at f1 ⊢
    rw [e]
    exact f1
theorem own2_store {w : World} {c : Nat} {n d : Int} (h : Own2 w c n d) (x y : Int) : Own2 ((w.setCell ⟨c, 0, none⟩ (.int .i64 x)).setCell ⟨c, 1, none⟩ (.int .i64 y)) c x y := by
  have c0 := h.c0
  have c1 := h.c1
  have f0 := h.f0
  have f1 := h.f1
  refine ⟨?_, ?_, ?_, ?_⟩ <;> simp [go_sem, c0, c1, f0, f1]
theorem jac_den (a b : List (List UInt8)) (h : a.length + b.length ≤ 10000) : (jacT a b).2 ≤ 10000 := by
  have h1 := uni_le a b
  have h2 := both_uni a b
  unfold jacT
  split
  · decide
  · obtain ⟨x, y, e, _, _, _, _, _, hb⟩ := shr_in (p := (both a b : Int)) (q := (uni a b : Int)) (by omega) (by omega) (by omega) (by omega)
    rw [e]
    show y ≤ 10000
    omega
theorem mul_in {a b : Int} (a0 : 0 ≤ a) (a1 : a ≤ 10000) (b0 : 0 ≤ b) (b1 : b ≤ 10000) : 0 ≤ a * b ∧ a * b ≤ 100000000 := by
  refine ⟨Int.mul_nonneg a0 b0, ?_⟩
  have h1 : a * b ≤ 10000 * b := Int.mul_le_mul_of_nonneg_right a1 b0
  omega
theorem sets_math (l m n : List (List UInt8)) (hl : l.length ≤ 40) (hm : m.length ≤ 40) (hn : n.length ≤ 40) :
    ∃ sn sd tn td : Int, L1.opr (L1.vldB 1 1 && L1.vldB (jacT l m).1 (jacT l m).2) (1 * (jacT l m).2 + (jacT l m).1 * 1) (1 * (jacT l m).2) = (sn, sd, 0) ∧
      L1.opr (L1.vldB (jacT l n).1 (jacT l n).2 && L1.vldB (jacT n m).1 (jacT n m).2) ((jacT l n).1 * (jacT n m).2 + (jacT n m).1 * (jacT l n).2) ((jacT l n).2 * (jacT n m).2) = (tn, td, 0) ∧
      ¬ L1.cmpR sn sd tn td < 0 := by
  have tri := jac_tri l m n (by omega) (by omega) (by omega)
  obtain ⟨v1, x1, y1⟩ := jac_unit l m (by omega)
  obtain ⟨v2, x2, y2⟩ := jac_unit l n (by omega)
  obtain ⟨v3, x3, y3⟩ := jac_unit n m (by omega)
  have d1 := jac_den l m (by omega)
  have d2 := jac_den l n (by omega)
  have d3 := jac_den n m (by omega)
  generalize (jacT l m).1 = an at *
  generalize (jacT l m).2 = ad at *
  generalize (jacT l n).1 = bn at *
  generalize (jacT l n).2 = bd at *
  generalize (jacT n m).1 = cn at *
  generalize (jacT n m).2 = cd at *
  have p1 : 0 < ad := by obtain ⟨k, _⟩ := v1; omega
  have p2 : 0 < bd := by obtain ⟨k, _⟩ := v2; omega
  have p3 : 0 < cd := by obtain ⟨k, _⟩ := v3; omega
  obtain ⟨m1, m2⟩ := mul_in (a := bn) (b := cd) (by omega) (by omega) (by omega) (by omega)
  obtain ⟨m3, m4⟩ := mul_in (a := cn) (b := bd) (by omega) (by omega) (by omega) (by omega)
  obtain ⟨_, m6⟩ := mul_in (a := bd) (b := cd) (by omega) (by omega) (by omega) (by omega)
  have m5 : 0 < bd * cd := Int.mul_pos p2 p3
  obtain ⟨sn, sd, es, vs, qs, _, _⟩ := mk_in (p := 1 * ad + an * 1) (q := 1 * ad) (by omega) (by omega) (by omega) (by omega)
  obtain ⟨tn, td, et, vt, qt, _, _⟩ := mk_in (p := bn * cd + cn * bd) (q := bd * cd) (by omega) (by omega) (by omega) (by omega)
  refine ⟨sn, sd, tn, td, ?_, ?_, ?_⟩
  · rw [L1.vldB_mk vld_one, L1.vldB_mk v1]
    exact es
  · rw [L1.vldB_mk v2, L1.vldB_mk v3]
    exact et
  · have s0 : 0 < sd := by obtain ⟨k, _⟩ := vs; omega
    have t0 : 0 < td := by obtain ⟨k, _⟩ := vt; omega
    have hle := frac_le (p := 1 * ad + an * 1) (q := 1 * ad) (p' := bn * cd + cn * bd) (q' := bd * cd) (by omega) m5 s0 t0 qs qt (by
      rw [Int.one_mul, Int.mul_one]
      exact tri)
    unfold L1.cmpR
    rw [L1.vldB_mk vs, L1.vldB_mk vt]
    unfold L1.cmpI
    simp only [Bool.and_self, if_true]
    rw [if_neg (by omega)]
    split <;> omega
/-- Jaccard of lists with the same elements, and with none in common, as the law asks them. -/
theorem sets_one (l m : List (List UInt8)) (h : l.length + m.length ≤ 10000) : decide (jacT l m = (1, 1)) = (withinB l m && withinB m l) := by
  rw [Bool.eq_iff_iff, decide_eq_true_eq, jac_one l m h, Bool.and_eq_true]
  unfold withinB
  simp
theorem sets_zero (l m : List (List UInt8)) (h : l.length + m.length ≤ 10000) : decide (jacT l m = (0, 1)) = (apartB l m && (decide (0 < l.length) || decide (0 < m.length))) := by
  rw [Bool.eq_iff_iff, decide_eq_true_eq, jac_zero l m h, Bool.and_eq_true]
  unfold apartB
  simp
end Go.Proofs.YtendkghifcjffaaGreatDoor
