/- The contracts of Cmp and Parse, for every argument; what the laws' own 'of' returns. -/
import Derived.Test.YtendkghifcjffaaGreatDoorROps
import Derived.Test.YtendkghifcjffaaGreatDoorShelf
namespace Go.Proofs.YtendkghifcjffaaGreatDoor.L1
open Go.RowKit

/-- The three-way comparison. -/
def cmpI (x y : Int) : Int := if x < y then -1 else if y < x then 1 else 0
/-- What Cmp returns. -/
def cmpR (an ad bn bd : Int) : Int := if vldB an ad && vldB bn bd then cmpI (an * bd) (bn * ad) else 0

theorem cmpInt_any (x y : Int) (w : World) : Calls Tryz.prog 46 #[.int .i64 x, .int .i64 y] w fun e w' => e = .returned (.int .i64 (cmpI x y)) ∧ w' = w := by
  refine (Any.cmp_Compare_int Tryz.lays122 x y w).mono ?_
  rintro e w' ⟨rfl, rfl⟩
  refine ⟨ret_int ?_, rfl⟩
  unfold Lib.compareInt cmpI
  rfl

theorem boxes2 (w : World) (A B : Obj) : Below w.heap.size w ((w.alloc A).alloc B) :=
  ((Below.refl _ _).alloc (Nat.le_refl _) _).alloc (by simp) _

theorem cmp_bad (an ad bn bd : Int) (w : World) (h : (vldB an ad && vldB bn bd) = false) :
    Calls Tryz.prog 25 #[.agg #[.int .i64 an, .int .i64 ad], .agg #[.int .i64 bn, .int .i64 bd]] w fun e w' => e = .returned (.int .i64 0) ∧ Below w.heap.size w w' := by
  by_cases hva : vldB an ad = true
  · have hvb : vldB bn bd = false := by simpa [hva] using h
    clear h
    go_enter Tryz.func25, Tryz.ntmps25
    go_wp2_with fail
    refine (valid_any an ad _).mono ?_
    rintro e w1 ⟨rfl, hb1⟩
    have B1 : Rat2 w1 (w.heap.size + 1) bn bd := Rat2.below ⟨by simp [go_sem], by simp [go_sem]⟩ hb1
    have c0 := B1.c0; have c1 := B1.c1
    have HB := below_up (boxes2 w _ _) hb1 (by simp; omega)
    clear hb1
    go_wp2_with fail
    refine (valid_any bn bd _).mono ?_
    rintro e w2 ⟨rfl, hb2⟩
    have HB2 := below_up HB hb2 HB.size
    clear hb2 c0 c1
    go_wp2_with fail
    go_ret
    exact ⟨rfl, HB2⟩
  · have hva' : vldB an ad = false := by simpa using hva
    clear h hva
    go_enter Tryz.func25, Tryz.ntmps25
    go_wp2_with fail
    refine (valid_any an ad _).mono ?_
    rintro e w2 ⟨rfl, hb1⟩
    have HB2 := below_up (boxes2 w _ _) hb1 (by simp; omega)
    clear hb1
    go_wp2_with fail
    go_ret
    exact ⟨rfl, HB2⟩

theorem cmp_ok (an ad bn bd : Int) (w : World) (ha : vldB an ad = true) (hb : vldB bn bd = true) :
    Calls Tryz.prog 25 #[.agg #[.int .i64 an, .int .i64 ad], .agg #[.int .i64 bn, .int .i64 bd]] w fun e w' => e = .returned (.int .i64 (cmpI (an * bd) (bn * ad))) ∧ Below w.heap.size w w' := by
  have P := prods (vldB_true ha) (vldB_true hb)
  go_enter Tryz.func25, Tryz.ntmps25
  go_wp2_with fail
  refine (valid_any an ad _).mono ?_
  rintro e w1 ⟨rfl, hb1⟩
  have A1 : Rat2 w1 w.heap.size an ad := Rat2.below ⟨by simp [go_sem], by simp [go_sem]⟩ hb1
  have B1 : Rat2 w1 (w.heap.size + 1) bn bd := Rat2.below ⟨by simp [go_sem], by simp [go_sem]⟩ hb1
  have c0 := B1.c0; have c1 := B1.c1
  have HB := below_up (boxes2 w _ _) hb1 (by simp; omega)
  clear hb1
  go_wp2_with fail
  refine (valid_any bn bd _).mono ?_
  rintro e w2 ⟨rfl, hb2⟩
  have A2 := A1.below hb2; have B2 := B1.below hb2
  have HB2 := below_up HB hb2 HB.size
  clear hb2 c0 c1
  have a0 := A2.c0; have a1 := A2.c1; have b0 := B2.c0; have b1 := B2.c1
  obtain ⟨p1, p2, p3, p4, p5⟩ := P
  go_wp2_with fail
  refine (cmpInt_any (an * bd) (bn * ad) _).mono ?_
  rintro e w' ⟨rfl, rfl⟩
  go_wp2_with fail
  go_ret
  exact ⟨rfl, HB2⟩

/-- Cmp, for every two ratios. -/
theorem cmp_any (an ad bn bd : Int) (w : World) :
    Calls Tryz.prog 25 #[.agg #[.int .i64 an, .int .i64 ad], .agg #[.int .i64 bn, .int .i64 bd]] w fun e w' => e = .returned (.int .i64 (cmpR an ad bn bd)) ∧ Below w.heap.size w w' := by
  unfold cmpR
  cases h : (vldB an ad && vldB bn bd)
  · rw [if_neg (by decide)]
    exact cmp_bad an ad bn bd w h
  · rw [if_pos rfl]
    exact cmp_ok an ad bn bd w (Bool.and_eq_true_iff.1 h).1 (Bool.and_eq_true_iff.1 h).2
end Go.Proofs.YtendkghifcjffaaGreatDoor.L1
