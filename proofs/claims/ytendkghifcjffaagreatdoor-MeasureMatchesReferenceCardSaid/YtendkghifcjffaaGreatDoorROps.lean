/- The contracts of Add, Sub, Mul, Div, Cmp. -/
import Derived.Test.YtendkghifcjffaaGreatDoorRMake
import Derived.IntWalk
namespace Go.Proofs.YtendkghifcjffaaGreatDoor.L1
open Go.RowKit

theorem mul_bound {a b : Int} {A B : Int} (h1 : -A ≤ a) (h2 : a ≤ A) (h3 : -B ≤ b) (h4 : b ≤ B) : -(A * B) ≤ a * b ∧ a * b ≤ A * B := by
  have : (a * b).natAbs ≤ (A * B).natAbs := by
    rw [Int.natAbs_mul, Int.natAbs_mul]
    exact Nat.mul_le_mul (by omega) (by omega)
  have hA : 0 ≤ A * B := Int.mul_nonneg (by omega) (by omega)
  omega

theorem i64_in {x : Int} (h : -9223372036854775808 ≤ x ∧ x ≤ 9223372036854775807) : IntKind.i64.wrap x = x := IntWalk.i64_in x h

theorem two_ret {a b c d : Int} (h : a = c) (k : b = d) : Ending.returned (.tuple #[.int .i64 a, .int .i64 b]) = .returned (.tuple #[.int .i64 c, .int .i64 d]) := by rw [h, k]

/-- The products of the numbers of two valid ratios. -/
structure Prods (an ad bn bd : Int) : Prop where
  p1 : -1000000000000000000 ≤ an * bd ∧ an * bd ≤ 1000000000000000000
  p2 : -1000000000000000000 ≤ bn * ad ∧ bn * ad ≤ 1000000000000000000
  p3 : -1000000000000000000 ≤ ad * bd ∧ ad * bd ≤ 1000000000000000000
  p4 : -1000000000000000000 ≤ an * bn ∧ an * bn ≤ 1000000000000000000
  p5 : -1000000000000000000 ≤ ad * bn ∧ ad * bn ≤ 1000000000000000000

theorem prods {an ad bn bd : Int} (ha : Vld an ad) (hb : Vld bn bd) : Prods an ad bn bd := by
  obtain ⟨h1, h2, h3, h4, _⟩ := ha
  obtain ⟨k1, k2, k3, k4, _⟩ := hb
  have g := fun {a b : Int} (h1 : -1000000000 ≤ a) (h2 : a ≤ 1000000000) (h3 : -1000000000 ≤ b) (h4 : b ≤ 1000000000) => mul_bound h1 h2 h3 h4
  exact ⟨g h3 h4 (by omega) k2, g k3 k4 (by omega) h2, g (by omega) h2 (by omega) k2, g h3 h4 k3 k4, g (by omega) h2 k3 k4⟩

/-- A cell that holds something lies in a block that exists. -/
theorem cellLt {w : World} {b o : Nat} {v : Value} (hc : w.cell? ⟨b, o, none⟩ = some v) : b < w.heap.size := by
  rcases Nat.lt_or_ge b w.heap.size with h | h
  · exact h
  · simp [World.cell?, Array.getElem?_eq_none h] at hc

theorem cellB {w w1 : World} {b o : Nat} {v : Value} (hb : Below w.heap.size w w1) (hc : w.cell? ⟨b, o, none⟩ = some v) : w1.cell? ⟨b, o, none⟩ = some v :=
  (hb.cell (p := ⟨b, o, none⟩) (cellLt hc)).trans hc

theorem frozenB {w w1 : World} {b o : Nat} {v : Value} (hb : Below w.heap.size w w1) (hc : w.cell? ⟨b, o, none⟩ = some v) (hf : w.frozen? ⟨b, o, none⟩ = false) : w1.frozen? ⟨b, o, none⟩ = false :=
  (hb.frozen (p := ⟨b, o, none⟩) (cellLt hc)).trans hf

/-- Block b holds a ratio. -/
structure Rat2 (w : World) (b : Nat) (n d : Int) : Prop where
  c0 : w.cell? ⟨b, 0, none⟩ = some (.int .i64 n)
  c1 : w.cell? ⟨b, 1, none⟩ = some (.int .i64 d)
theorem Rat2.below {w w1 : World} {b : Nat} {n d : Int} (h : Rat2 w b n d) (hb : Below w.heap.size w w1) : Rat2 w1 b n d := ⟨cellB hb h.c0, cellB hb h.c1⟩
theorem Rat2.lt {w : World} {b : Nat} {n d : Int} (h : Rat2 w b n d) : b < w.heap.size := cellLt h.c0
theorem Rat2.ne {w : World} {b : Nat} {n d : Int} (h : Rat2 w b n d) : b ≠ w.heap.size := Nat.ne_of_lt h.lt
theorem Rat2.alloc {w : World} {b : Nat} {n d : Int} (h : Rat2 w b n d) (o : Obj) : Rat2 (w.alloc o) b n d := h.below ((Below.refl _ _).alloc (Nat.le_refl _) _)

/-- Block b is a ratio's, and may be written. -/
structure Own2 (w : World) (b : Nat) (n d : Int) : Prop extends Rat2 w b n d where
  f0 : w.frozen? ⟨b, 0, none⟩ = false
  f1 : w.frozen? ⟨b, 1, none⟩ = false
theorem Own2.below {w w1 : World} {b : Nat} {n d : Int} (h : Own2 w b n d) (hb : Below w.heap.size w w1) : Own2 w1 b n d :=
  { h.toRat2.below hb with f0 := frozenB hb h.c0 h.f0, f1 := frozenB hb h.c1 h.f1 }

theorem boxes3 (w : World) (A B C : Obj) : Below w.heap.size w (((w.alloc A).alloc B).alloc C) :=
  (((Below.refl _ _).alloc (Nat.le_refl _) _).alloc (by simp) _).alloc (by simp; omega) _

theorem below_up {B C : Nat} {a b c : World} (h : Below B a b) (k : Below C b c) (hC : B ≤ C) : Below B a c := h.trans (k.mono hC)

theorem add_cl (an ad bn bd : Int) (b c : Nat) (w : World) (ha : Rat2 w b an ad) (hb : Rat2 w c bn bd) (hp : Prods an ad bn bd) :
    Calls Tryz.prog 44 #[.pointer (some ⟨b, 0, none⟩), .pointer (some ⟨c, 0, none⟩)] w fun e w' => e = .returned (.tuple #[.int .i64 (an * bd + bn * ad), .int .i64 (ad * bd)]) ∧ ∃ k, w' = w.drewN k := by
  have a0 := ha.c0; have a1 := ha.c1; have b0 := hb.c0; have b1 := hb.c1
  go_enter Tryz.func44, Tryz.ntmps44
  go_wp2_with fail
  go_quiet (fail)
  go_wp2_with fail
  go_ret2
  have hp1 := hp.p1
  have hp2 := hp.p2
  have hp3 := hp.p3
  exact ⟨two_ret (by simp only [wrap64]; omega) (by simp only [wrap64]; omega), _, rfl⟩

theorem operate_bad (an ad bn bd : Int) (f : Value) (w : World) (h : (vldB an ad && vldB bn bd) = false) :
    Calls Tryz.prog 43 #[.agg #[.int .i64 an, .int .i64 ad], .agg #[.int .i64 bn, .int .i64 bd], f] w (RatioPost w (0, 0, 1)) := by
  by_cases hva : vldB an ad = true
  · have hvb : vldB bn bd = false := by simpa [hva] using h
    clear h
    go_enter Tryz.func43, Tryz.ntmps43
    go_wp2_with fail
    refine (valid_any an ad _).mono ?_
    rintro e w1 ⟨rfl, hb1⟩
    have R1 : Own2 w1 (w.heap.size + 1 + 1) 0 0 := Own2.below ⟨⟨by simp [go_sem], by simp [go_sem]⟩, by simp [go_sem], by simp [go_sem]⟩ hb1
    have B1 : Rat2 w1 (w.heap.size + 1) bn bd := Rat2.below ⟨by simp [go_sem], by simp [go_sem]⟩ hb1
    have c0 := B1.c0; have c1 := B1.c1
    have HB := below_up (boxes3 w _ _ _) hb1 (by simp; omega)
    clear hb1
    go_wp2_with fail
    refine (valid_any bn bd _).mono ?_
    rintro e w2 ⟨rfl, hb2⟩
    have R2 := R1.below hb2
    have r0 := R2.c0; have r1 := R2.c1; have f0 := R2.f0; have f1 := R2.f1
    have HB2 := below_up HB hb2 HB.size
    clear hb2 c0 c1
    go_wp2_with fail
    refine bodyPost_ret (v := .tuple #[.agg #[.int .i64 0, .int .i64 0], .int .i64 1]) (by simp [results, Tryz.results43, go_sem, r0, r1]) rfl ?_
    exact ⟨rfl, (HB2.setCell (show w.heap.size ≤ w.heap.size + 1 + 1 by omega) _).setCell (show w.heap.size ≤ w.heap.size + 1 + 1 by omega) _⟩
  · have hva' : vldB an ad = false := by simpa using hva
    clear h hva
    go_enter Tryz.func43, Tryz.ntmps43
    go_wp2_with fail
    refine (valid_any an ad _).mono ?_
    rintro e w2 ⟨rfl, hb1⟩
    have R2 : Own2 w2 (w.heap.size + 1 + 1) 0 0 := Own2.below ⟨⟨by simp [go_sem], by simp [go_sem]⟩, by simp [go_sem], by simp [go_sem]⟩ hb1
    have r0 := R2.c0; have r1 := R2.c1; have f0 := R2.f0; have f1 := R2.f1
    have HB2 := below_up (boxes3 w _ _ _) hb1 (by simp; omega)
    clear hb1
    go_wp2_with fail
    refine bodyPost_ret (v := .tuple #[.agg #[.int .i64 0, .int .i64 0], .int .i64 1]) (by simp [results, Tryz.results43, go_sem, r0, r1]) rfl ?_
    exact ⟨rfl, (HB2.setCell (show w.heap.size ≤ w.heap.size + 1 + 1 by omega) _).setCell (show w.heap.size ≤ w.heap.size + 1 + 1 by omega) _⟩

theorem operate_add (an ad bn bd : Int) (b c : Nat) (w : World) (ha : vldB an ad = true) (hb : vldB bn bd = true) (ra : Rat2 w b an ad) (rb : Rat2 w c bn bd) :
    Calls Tryz.prog 43 #[.agg #[.int .i64 an, .int .i64 ad], .agg #[.int .i64 bn, .int .i64 bd], .func (Fn.func 44) #[] #[.pointer (some ⟨b, 0, none⟩), .pointer (some ⟨c, 0, none⟩)]] w (RatioPost w (mk (an * bd + bn * ad) (ad * bd))) := by
  have P := prods (vldB_true ha) (vldB_true hb)
  go_enter Tryz.func43, Tryz.ntmps43
  go_wp2_with fail
  refine (valid_any an ad _).mono ?_
  rintro e w1 ⟨rfl, hb1⟩
  have R1 : Own2 w1 (w.heap.size + 1 + 1) 0 0 := Own2.below ⟨⟨by simp [go_sem], by simp [go_sem]⟩, by simp [go_sem], by simp [go_sem]⟩ hb1
  have B1 : Rat2 w1 (w.heap.size + 1) bn bd := Rat2.below ⟨by simp [go_sem], by simp [go_sem]⟩ hb1
  have c0 := B1.c0; have c1 := B1.c1
  have HB := below_up (boxes3 w _ _ _) hb1 (by simp; omega)
  clear hb1
  go_wp2_with fail
  refine (valid_any bn bd _).mono ?_
  rintro e w2 ⟨rfl, hb2⟩
  have R2 := R1.below hb2
  have HB2 := below_up HB hb2 HB.size
  clear hb2 c0 c1
  go_wp2_with fail
  refine (add_cl an ad bn bd b c w2 (ra.below HB2) (rb.below HB2) P).mono ?_
  rintro e w3 ⟨rfl, k, rfl⟩
  go_wp2_with fail
  refine (make_any (an * bd + bn * ad) (ad * bd) _ ?_ ?_ ?_ ?_).mono ?_
  iterate 4 (obtain ⟨_, _, _, _, _⟩ := P; omega)
  rintro e w4 ⟨rfl, hb4⟩
  have hb3 : Below w2.heap.size w2 w4 := (below_drewN _ w2 k).trans hb4
  have R3 := R2.below hb3
  have HB3 := below_up HB2 hb3 HB2.size
  have r0 := R3.c0; have r1 := R3.c1; have f0 := R3.f0; have f1 := R3.f1
  clear hb3 hb4
  go_wp2_with fail
  refine bodyPost_ret (v := .tuple #[.agg #[.int .i64 (mk (an * bd + bn * ad) (ad * bd)).1, .int .i64 (mk (an * bd + bn * ad) (ad * bd)).2.1], .int .i64 (mk (an * bd + bn * ad) (ad * bd)).2.2]) (by simp [results, Tryz.results43, go_sem, r0, r1]) rfl ?_
  exact ⟨rfl, (HB3.setCell (show w.heap.size ≤ w.heap.size + 1 + 1 by omega) _).setCell (show w.heap.size ≤ w.heap.size + 1 + 1 by omega) _⟩

/-- Add, for every two ratios. -/
theorem add_any (an ad bn bd : Int) (w : World) :
    Calls Tryz.prog 24 #[.agg #[.int .i64 an, .int .i64 ad], .agg #[.int .i64 bn, .int .i64 bd]] w (RatioPost w (opr (vldB an ad && vldB bn bd) (an * bd + bn * ad) (ad * bd))) := by
  cases hv : (vldB an ad && vldB bn bd)
  · have HV := Lib.hid hv
    clear hv
    unfold opr
    rw [if_neg (by decide)]
    go_enter Tryz.func24, Tryz.ntmps24
    go_wp2_with fail
    refine (operate_bad an ad bn bd _ _ HV.out).mono ?_
    rintro e w1 ⟨rfl, hb1⟩
    have R1 : Own2 w1 (w.heap.size + 1 + 1) 0 0 := Own2.below ⟨⟨by simp [go_sem], by simp [go_sem]⟩, by simp [go_sem], by simp [go_sem]⟩ hb1
    have HB := below_up (boxes3 w _ _ _) hb1 (by simp; omega)
    have r0 := R1.c0; have r1 := R1.c1; have f0 := R1.f0; have f1 := R1.f1
    clear hb1
    go_wp2_with fail
    refine bodyPost_ret (v := .tuple #[.agg #[.int .i64 0, .int .i64 0], .int .i64 1]) (by simp [results, Tryz.results24, go_sem, r0, r1]) rfl ?_
    exact ⟨rfl, (HB.setCell (show w.heap.size ≤ w.heap.size + 1 + 1 by omega) _).setCell (show w.heap.size ≤ w.heap.size + 1 + 1 by omega) _⟩
  · have HV := Lib.hid (Bool.and_eq_true_iff.1 hv)
    clear hv
    unfold opr
    rw [if_pos rfl]
    go_enter Tryz.func24, Tryz.ntmps24
    go_wp2_with fail
    refine (operate_add an ad bn bd w.heap.size (w.heap.size + 1) _ HV.out.1 HV.out.2 ⟨by simp [go_sem], by simp [go_sem]⟩ ⟨by simp [go_sem], by simp [go_sem]⟩).mono ?_
    rintro e w1 ⟨rfl, hb1⟩
    have R1 : Own2 w1 (w.heap.size + 1 + 1) 0 0 := Own2.below ⟨⟨by simp [go_sem], by simp [go_sem]⟩, by simp [go_sem], by simp [go_sem]⟩ hb1
    have HB := below_up (boxes3 w _ _ _) hb1 (by simp; omega)
    have r0 := R1.c0; have r1 := R1.c1; have f0 := R1.f0; have f1 := R1.f1
    clear hb1
    go_wp2_with fail
    refine bodyPost_ret (v := .tuple #[.agg #[.int .i64 (mk (an * bd + bn * ad) (ad * bd)).1, .int .i64 (mk (an * bd + bn * ad) (ad * bd)).2.1], .int .i64 (mk (an * bd + bn * ad) (ad * bd)).2.2]) (by simp [results, Tryz.results24, go_sem, r0, r1]) rfl ?_
    exact ⟨rfl, (HB.setCell (show w.heap.size ≤ w.heap.size + 1 + 1 by omega) _).setCell (show w.heap.size ≤ w.heap.size + 1 + 1 by omega) _⟩

end Go.Proofs.YtendkghifcjffaaGreatDoor.L1
