/- The contracts of the reference's Cmp and, whole, of Add, Sub, Mul, Div. -/
import Derived.Test.YtpmggfmhkjafkaaDoorRefOps
namespace Go.Proofs.YtpmggfmhkjafkaaDoor
open Go.RowKit

theorem refcmp_bad (an ad bn bd : Int) (w : World) (h : (vldB an ad && vldB bn bd) = false) :
    Calls Tryd.prog 26 #[.agg #[.int .i64 an, .int .i64 ad], .agg #[.int .i64 bn, .int .i64 bd]] w fun e w' => e = .returned (.int .i64 0) ∧ Below w.heap.size w w' := by
  by_cases hva : vldB an ad = true
  · have hvb : vldB bn bd = false := by simpa [hva] using h
    clear h
    go_enter Tryd.func26, Tryd.ntmps26
    go_wp2_with fail
    refine (refvalid_any an ad _).mono ?_
    rintro e w1 ⟨rfl, hb1⟩
    have B1 : Rat2 w1 (w.heap.size + 1) bn bd := Rat2.below ⟨by simp [go_sem], by simp [go_sem]⟩ hb1
    have c0 := B1.c0; have c1 := B1.c1
    have HB := below_up (boxes2 w _ _) hb1 (by simp; omega)
    clear hb1
    go_wp2_with fail
    refine (refvalid_any bn bd _).mono ?_
    rintro e w2 ⟨rfl, hb2⟩
    have HB2 := below_up HB hb2 HB.size
    clear hb2 c0 c1
    go_wp2_with fail
    go_ret
    exact ⟨rfl, HB2⟩
  · have hva' : vldB an ad = false := by simpa using hva
    clear h hva
    go_enter Tryd.func26, Tryd.ntmps26
    go_wp2_with fail
    refine (refvalid_any an ad _).mono ?_
    rintro e w2 ⟨rfl, hb1⟩
    have HB2 := below_up (boxes2 w _ _) hb1 (by simp; omega)
    clear hb1
    go_wp2_with fail
    go_ret
    exact ⟨rfl, HB2⟩

theorem refcmp_ok (an ad bn bd : Int) (w : World) (ha : vldB an ad = true) (hb : vldB bn bd = true) :
    Calls Tryd.prog 26 #[.agg #[.int .i64 an, .int .i64 ad], .agg #[.int .i64 bn, .int .i64 bd]] w fun e w' => e = .returned (.int .i64 (cmpI (an * bd) (bn * ad))) ∧ Below w.heap.size w w' := by
  have P := prods (vldB_true ha) (vldB_true hb)
  have t0 : (an * bd < bn * ad) → cmpI (an * bd) (bn * ad) = -1 := fun h => by unfold cmpI; rw [if_pos h]
  have t1 : ¬ (an * bd < bn * ad) → bn * ad < an * bd → cmpI (an * bd) (bn * ad) = 1 := fun h h' => by unfold cmpI; rw [if_neg h, if_pos h']
  have t2 : ¬ (an * bd < bn * ad) → ¬ bn * ad < an * bd → cmpI (an * bd) (bn * ad) = 0 := fun h h' => by unfold cmpI; rw [if_neg h, if_neg h']
  generalize cmpI (an * bd) (bn * ad) = c at *
  have T0 := Lib.hid t0; have T1 := Lib.hid t1; have T2 := Lib.hid t2
  clear t0 t1 t2
  by_cases h0 : an * bd < bn * ad
  case' neg => by_cases h1 : bn * ad < an * bd
  all_goals
    go_enter Tryd.func26, Tryd.ntmps26
    go_wp2_with fail
    refine (refvalid_any an ad _).mono ?_
    rintro e w1 ⟨rfl, hb1⟩
    have A1 : Rat2 w1 w.heap.size an ad := Rat2.below ⟨by simp [go_sem], by simp [go_sem]⟩ hb1
    have B1 : Rat2 w1 (w.heap.size + 1) bn bd := Rat2.below ⟨by simp [go_sem], by simp [go_sem]⟩ hb1
    have c0 := B1.c0; have c1 := B1.c1
    have HB := below_up (boxes2 w _ _) hb1 (by simp; omega)
    clear hb1
    go_wp2_with fail
    refine (refvalid_any bn bd _).mono ?_
    rintro e w2 ⟨rfl, hb2⟩
    have A2 := A1.below hb2; have B2 := B1.below hb2
    have HB2 := below_up HB hb2 HB.size
    clear hb2 c0 c1
    have a0 := A2.c0; have a1 := A2.c1; have b0 := B2.c0; have b1 := B2.c1
    obtain ⟨p1, p2, p3, p4, p5⟩ := P
    go_wp2_with fail
    go_ret
    first | exact ⟨ret_int (T0.out h0).symm, HB2⟩ | exact ⟨ret_int (T1.out h0 h1).symm, HB2⟩ | exact ⟨ret_int (T2.out h0 h1).symm, HB2⟩

/-- Cmp, for every two ratios. -/
theorem refcmp_any (an ad bn bd : Int) (w : World) :
    Calls Tryd.prog 26 #[.agg #[.int .i64 an, .int .i64 ad], .agg #[.int .i64 bn, .int .i64 bd]] w fun e w' => e = .returned (.int .i64 (cmpR an ad bn bd)) ∧ Below w.heap.size w w' := by
  unfold cmpR
  cases h : (vldB an ad && vldB bn bd)
  · rw [if_neg (by decide)]
    exact refcmp_bad an ad bn bd w h
  · rw [if_pos rfl]
    exact refcmp_ok an ad bn bd w (Bool.and_eq_true_iff.1 h).1 (Bool.and_eq_true_iff.1 h).2
end Go.Proofs.YtpmggfmhkjafkaaDoor
