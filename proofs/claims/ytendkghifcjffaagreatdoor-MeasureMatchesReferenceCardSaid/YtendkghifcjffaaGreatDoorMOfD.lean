/- The contracts of the measures' comparisons. -/
import Derived.Test.YtendkghifcjffaaGreatDoorMOfC
namespace Go.Proofs.YtendkghifcjffaaGreatDoor
open Go.RowKit

theorem cell_two {w1 : World} {b c o : Nat} {v : Value} (hne : b ≠ c) (h : w1.cell? ⟨b, o, none⟩ = some v) (x y : Value) : ((w1.setCell ⟨c, 0, none⟩ x).setCell ⟨c, 1, none⟩ y).cell? ⟨b, o, none⟩ = some v := by
  unfold World.cell? at h ⊢
  rw [RowKit.Below.heap_setCell _ _ _ _ hne, RowKit.Below.heap_setCell _ _ _ _ hne]
  exact h
/-- What equal returns. -/
def eqT (k n : Int) (x : List UInt8) (k2 n2 : Int) (y : List UInt8) : Int × Int := if L2.cmpV k n x k2 n2 y = 0 then (1, 1) else (0, 1)

theorem equal_any (k n : Int) (x : List UInt8) (k2 n2 : Int) (y : List UInt8) (w : World) :
    Calls Tryz.prog 50 #[V k n x, V k2 n2 y] w fun e w' => e = .returned (rat (eqT k n x k2 n2 y)) ∧ Below w.heap.size w w' := by
  have HC := Lib.hid (L2.compare_any k n x k2 n2 y)
  have HE := Lib.hid (show eqT k n x k2 n2 y = if L2.cmpV k n x k2 n2 y = 0 then (1, 1) else (0, 1) from rfl)
  obtain ⟨c, hc⟩ : ∃ c, L2.cmpV k n x k2 n2 y = c := ⟨_, rfl⟩
  rw [hc] at HC HE
  clear hc
  by_cases h0 : c = 0
  · subst h0
    have HT := Lib.hid (show eqT k n x k2 n2 y = (1, 1) by rw [HE.out, if_pos rfl])
    go_enter Tryz.func50, Tryz.ntmps50
    go_wp2_with fail
    refine (HC.out _).mono ?_
    rintro e w1 ⟨rfl, hb⟩
    have R1 : Own2 w1 (w.heap.size + 1 + 1) 0 0 := Own2.below ⟨by simp [go_sem], by simp [go_sem], by simp [go_sem], by simp [go_sem]⟩ hb
    have HB1 := Lib.hid (below_up (L2.boxes3 w _ _ _) hb (by simp <;> omega))
    clear hb
    go_wp2_with fail
    refine (share_any 1 1 (by decide) (by decide) (by decide) (by decide) _).mono ?_
    rw [shr_11]
    rintro e w2 ⟨rfl, hb⟩
    have R2 := R1.below hb
    have HB2 := Lib.hid (below_up HB1.out hb HB1.out.size)
    have r0 := R2.c0
    have r1 := R2.c1
    have f0 := R2.f0
    have f1 := R2.f1
    clear hb R1
    go_wp2_with fail
    refine bodyPost_ret (v := rat (1, 1)) (by simp [results, Tryz.results50, go_sem, r0, r1]) rfl ?_
    exact ⟨rat_ret HT.out.symm, below_two HB2.out (by omega)⟩
  · have HT := Lib.hid (show eqT k n x k2 n2 y = (0, 1) by rw [HE.out, if_neg h0])
    have hz : (c == 0) = false := by rw [beq_eq_false_iff_ne]; exact h0
    go_enter Tryz.func50, Tryz.ntmps50
    go_wp2_with fail
    refine (HC.out _).mono ?_
    rintro e w1 ⟨rfl, hb⟩
    have R1 : Own2 w1 (w.heap.size + 1 + 1) 0 0 := Own2.below ⟨by simp [go_sem], by simp [go_sem], by simp [go_sem], by simp [go_sem]⟩ hb
    have HB1 := Lib.hid (below_up (L2.boxes3 w _ _ _) hb (by simp <;> omega))
    clear hb
    go_wp2_with fail
    refine (share_any 0 1 (by decide) (by decide) (by decide) (by decide) _).mono ?_
    rw [shr_01]
    rintro e w2 ⟨rfl, hb⟩
    have R2 := R1.below hb
    have HB2 := Lib.hid (below_up HB1.out hb HB1.out.size)
    have r0 := R2.c0
    have r1 := R2.c1
    have f0 := R2.f0
    have f1 := R2.f1
    clear hb R1
    go_wp2_with fail
    refine bodyPost_ret (v := rat (0, 1)) (by simp [results, Tryz.results50, go_sem, r0, r1]) rfl ?_
    exact ⟨rat_ret HT.out.symm, below_two HB2.out (by omega)⟩

set_option maxRecDepth 100000 in
set_option maxHeartbeats 800000 in
theorem m1_any (k n : Int) (x : List UInt8) (k2 n2 : Int) (y : List UInt8) (hx : x.length ≤ 1000) (hy : y.length ≤ 1000) (w : World) :
    Calls Tryz.prog 52 #[V k n x, V k2 n2 y] w fun e w' => e = .returned (rat (alikeT (L3.foldT x) (L3.foldT y))) ∧ Below w.heap.size w w' := by
  have hx2 : x.length ≤ 1100 := by omega
  have hy2 : y.length ≤ 1100 := by omega
  have hx3 : (L3.foldT x).length ≤ 1000 := Nat.le_trans (L3.foldT_len x) hx
  have hy3 : (L3.foldT y).length ≤ 1000 := Nat.le_trans (L3.foldT_len y) hy
  have C1 := Lib.hid (L3.fold_any x hx2)
  have C2 := Lib.hid (L3.fold_any y hy2)
  obtain ⟨r, hr⟩ : ∃ r, alikeT (L3.foldT x) (L3.foldT y) = r := ⟨_, rfl⟩
  have C3 := Lib.hid (alike_any (L3.foldT x) (L3.foldT y) hx3 hy3)
  rw [hr] at C3
  have HR := Lib.hid hr
  obtain ⟨fx, hfx⟩ : ∃ fx, L3.foldT x = fx := ⟨_, rfl⟩
  obtain ⟨fy, hfy⟩ : ∃ fy, L3.foldT y = fy := ⟨_, rfl⟩
  rw [hfx] at C1 C3
  rw [hfy] at C2 C3
  clear hr hx2 hy2 hx3 hy3 hfx hfy hx hy
  go_enter Tryz.func52, Tryz.ntmps52
  go_wp2_with fail
  obtain ⟨W, hW⟩ : ∃ W, W = ((w.alloc (Obj.cells #[Value.int IntKind.i64 k, Value.int IntKind.i64 n, Value.string { data := x.toArray }] 26)).alloc (Obj.cells #[Value.int IntKind.i64 k2, Value.int IntKind.i64 n2, Value.string { data := y.toArray }] 26)).alloc (Obj.cells #[Value.int IntKind.i64 0, Value.int IntKind.i64 0] 32) := ⟨_, rfl⟩
  rw [← hW]
  have A : W.cell? ⟨w.heap.size, 2, none⟩ = some (str x) := by rw [hW]; simp [go_sem]
  have B : W.cell? ⟨w.heap.size + 1, 2, none⟩ = some (str y) := by rw [hW]; simp [go_sem]
  have R : Hid (Own2 W (w.heap.size + 1 + 1) 0 0) := Lib.hid (by rw [hW]; exact ⟨by simp [go_sem], by simp [go_sem], by simp [go_sem], by simp [go_sem]⟩)
  have HB : Hid (Below w.heap.size w W) := Lib.hid (by rw [hW]; exact L2.boxes3 w _ _ _)
  have n1 : ¬ w.heap.size = w.heap.size + 1 + 1 := by omega
  have n2 : ¬ w.heap.size + 1 + 1 = w.heap.size := by omega
  clear hW
  go_region_held3 (fun w' => w'.cell? ⟨w.heap.size, 2, none⟩ = some (str x) ∧ w'.cell? ⟨w.heap.size + 1, 2, none⟩ = some (str y)) (go_keep)
    (first | (go_at_call_of 53 (str x); refine (C1.out _).mono ?_; rintro e v1 ⟨rfl, hv1⟩; have g1 := Lib.hid ((below_drewN _ W 1).trans hv1); clear hv1; have A1 := cellB g1.out A; have B1 := cellB g1.out B) | (go_at_call_of 53 (str y); refine (C2.out _).mono ?_; rintro e v2 ⟨rfl, hv2⟩; have g2 := Lib.hid hv2; clear hv2; have A2 := cellB g2.out A1; have B2 := cellB g2.out B1) | (go_at_call 10; refine (C3.out _).mono ?_; rintro e v3 ⟨rfl, hv3⟩; have g3 := Lib.hid hv3; clear hv3; have A3 := cellB g3.out A2; have B3 := cellB g3.out B2; have A4 := cell_two (c := w.heap.size + 1 + 1) (by omega) A3; have B4 := cell_two (c := w.heap.size + 1 + 1) (by omega) B3; have R3 := ((R.out.below g1.out).below g2.out).below g3.out; have r0 := R3.c0; have r1 := R3.c1; have f0 := R3.f0; have f1 := R3.f1; clear R3))
  have HB1 := Lib.hid (below_up HB.out g1.out HB.out.size)
  have HB2 := Lib.hid (below_up HB1.out g2.out HB1.out.size)
  have HB3 := Lib.hid (below_up HB2.out g3.out HB2.out.size)
  clear g1 g2 g3 A A1 A2 A3 A4 B B1 B2 B3 B4 R HB HB1 HB2
  go_wp2_with fail
  refine bodyPost_ret (v := rat r) (by simp [results, Tryz.results52, go_sem, r0, r1]) rfl ?_
  exact ⟨rat_ret HR.out.symm, below_two HB3.out (by omega)⟩

set_option maxRecDepth 100000 in
set_option maxHeartbeats 800000 in
theorem m3_any (k n : Int) (x : List UInt8) (k2 n2 : Int) (y : List UInt8) (hx : x.length ≤ 1000) (hy : y.length ≤ 1000) (w : World) :
    Calls Tryz.prog 56 #[V k n x, V k2 n2 y] w fun e w' => e = .returned (rat (jaroT (L3.foldT x) (L3.foldT y))) ∧ Below w.heap.size w w' := by
  have hx2 : x.length ≤ 1100 := by omega
  have hy2 : y.length ≤ 1100 := by omega
  have hx3 : (L3.foldT x).length ≤ 1000 := Nat.le_trans (L3.foldT_len x) hx
  have hy3 : (L3.foldT y).length ≤ 1000 := Nat.le_trans (L3.foldT_len y) hy
  have C1 := Lib.hid (L3.fold_any x hx2)
  have C2 := Lib.hid (L3.fold_any y hy2)
  obtain ⟨r, hr⟩ : ∃ r, jaroT (L3.foldT x) (L3.foldT y) = r := ⟨_, rfl⟩
  have C3 := Lib.hid (jaro_any (L3.foldT x) (L3.foldT y))
  rw [hr] at C3
  have HR := Lib.hid hr
  obtain ⟨fx, hfx⟩ : ∃ fx, L3.foldT x = fx := ⟨_, rfl⟩
  obtain ⟨fy, hfy⟩ : ∃ fy, L3.foldT y = fy := ⟨_, rfl⟩
  rw [hfx] at C1 C3
  rw [hfy] at C2 C3
  clear hr hx2 hy2 hx3 hy3 hfx hfy hx hy
  go_enter Tryz.func56, Tryz.ntmps56
  go_wp2_with fail
  obtain ⟨W, hW⟩ : ∃ W, W = ((w.alloc (Obj.cells #[Value.int IntKind.i64 k, Value.int IntKind.i64 n, Value.string { data := x.toArray }] 26)).alloc (Obj.cells #[Value.int IntKind.i64 k2, Value.int IntKind.i64 n2, Value.string { data := y.toArray }] 26)).alloc (Obj.cells #[Value.int IntKind.i64 0, Value.int IntKind.i64 0] 32) := ⟨_, rfl⟩
  rw [← hW]
  have A : W.cell? ⟨w.heap.size, 2, none⟩ = some (str x) := by rw [hW]; simp [go_sem]
  have B : W.cell? ⟨w.heap.size + 1, 2, none⟩ = some (str y) := by rw [hW]; simp [go_sem]
  have R : Hid (Own2 W (w.heap.size + 1 + 1) 0 0) := Lib.hid (by rw [hW]; exact ⟨by simp [go_sem], by simp [go_sem], by simp [go_sem], by simp [go_sem]⟩)
  have HB : Hid (Below w.heap.size w W) := Lib.hid (by rw [hW]; exact L2.boxes3 w _ _ _)
  have n1 : ¬ w.heap.size = w.heap.size + 1 + 1 := by omega
  have n2 : ¬ w.heap.size + 1 + 1 = w.heap.size := by omega
  clear hW
  go_region_held3 (fun w' => w'.cell? ⟨w.heap.size, 2, none⟩ = some (str x) ∧ w'.cell? ⟨w.heap.size + 1, 2, none⟩ = some (str y)) (go_keep)
    (first | (go_at_call_of 53 (str x); refine (C1.out _).mono ?_; rintro e v1 ⟨rfl, hv1⟩; have g1 := Lib.hid ((below_drewN _ W 1).trans hv1); clear hv1; have A1 := cellB g1.out A; have B1 := cellB g1.out B) | (go_at_call_of 53 (str y); refine (C2.out _).mono ?_; rintro e v2 ⟨rfl, hv2⟩; have g2 := Lib.hid hv2; clear hv2; have A2 := cellB g2.out A1; have B2 := cellB g2.out B1) | (go_at_call 16; refine (C3.out _).mono ?_; rintro e v3 ⟨rfl, hv3⟩; have g3 := Lib.hid hv3; clear hv3; have A3 := cellB g3.out A2; have B3 := cellB g3.out B2; have A4 := cell_two (c := w.heap.size + 1 + 1) (by omega) A3; have B4 := cell_two (c := w.heap.size + 1 + 1) (by omega) B3; have R3 := ((R.out.below g1.out).below g2.out).below g3.out; have r0 := R3.c0; have r1 := R3.c1; have f0 := R3.f0; have f1 := R3.f1; clear R3))
  have HB1 := Lib.hid (below_up HB.out g1.out HB.out.size)
  have HB2 := Lib.hid (below_up HB1.out g2.out HB1.out.size)
  have HB3 := Lib.hid (below_up HB2.out g3.out HB2.out.size)
  clear g1 g2 g3 A A1 A2 A3 A4 B B1 B2 B3 B4 R HB HB1 HB2
  go_wp2_with fail
  refine bodyPost_ret (v := rat r) (by simp [results, Tryz.results56, go_sem, r0, r1]) rfl ?_
  exact ⟨rat_ret HR.out.symm, below_two HB3.out (by omega)⟩

end Go.Proofs.YtendkghifcjffaaGreatDoor
