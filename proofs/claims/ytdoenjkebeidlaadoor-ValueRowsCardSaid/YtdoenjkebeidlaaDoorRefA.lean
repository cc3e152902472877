/- The contracts of the reference's sign, Valid, Compare, digits, Decimal. -/
import Derived.Test.YtdoenjkebeidlaaDoorValid
import Derived.Test.YtdoenjkebeidlaaDoorCmp
import Derived.Test.YtdoenjkebeidlaaDoorMathT
import Derived.Laws.IdiomStrings
namespace Go.Proofs.YtdoenjkebeidlaaDoor
open Go.RowKit

theorem sign_any (x y : Int) (w : World) :
    Calls Tryd.prog 38 #[.int .i64 x, .int .i64 y] w fun e w' => e = .returned (.int .i64 (cmpI x y)) ∧ w = w' := by
  go_enter Tryd.func38, Tryd.ntmps38
  go_wp2_with fail
  all_goals
    go_ret
    exact ⟨ret_int (by first | rw [cmpI_lt (by assumption)] | rw [cmpI_gt (by assumption)] | (unfold cmpI; rw [if_neg (by omega), if_neg (by omega)])), rfl⟩

theorem refvalid_any (k n : Int) (t : List UInt8) (w : World) :
    Calls Tryd.prog 18 #[V k n t] w fun e w' => e = .returned (.bool (vldB k n t)) ∧ Below w.heap.size w w' := by
  go_enter Tryd.func18, Tryd.ntmps18
  go_wp2_with fail
  all_goals
    go_ret
    refine ⟨bool_ret (vldB_iff ?_), by go_grown⟩
    simp only [beq_iff_eq, beq_eq_false_iff_ne, ne_eq] at *
    unfold Vld
    by_cases ht : t = [] <;> simp [ht] <;> omega

theorem refcompare_any (k n : Int) (t : List UInt8) (k2 n2 : Int) (t2 : List UInt8) (w : World) :
    Calls Tryd.prog 20 #[V k n t, V k2 n2 t2] w fun e w' => e = .returned (.int .i64 (cmpV k n t k2 n2 t2)) ∧ Below w.heap.size w w' := by
  by_cases hk : k = k2
  · subst hk
    by_cases hn : n = n2
    · subst hn
      have hc := Lib.hid (show cmpV k n t k n t2 = cmpS t t2 by unfold cmpV; rw [cmpI_self, cmpI_self]; rfl)
      go_enter Tryd.func20, Tryd.ntmps20
      go_wp2_with fail
      · have h : Op.bytesLess t t2 = true := by assumption
        go_ret
        exact ⟨ret_int (by rw [bytesLess_eq] at h; rw [hc.out]; unfold cmpS; rw [h]; rfl), by go_grown⟩
      · have h : Op.bytesLess t t2 = false := by assumption
        have g : (!t == t2) = true := by assumption
        go_ret
        exact ⟨ret_int (by rw [hc.out]; exact (str_gt h g).symm), by go_grown⟩
      · have g : (!t == t2) = false := by assumption
        go_ret
        exact ⟨ret_int (by have e : t = t2 := by simpa using g
                           rw [hc.out, e, cmpS_self]), by go_grown⟩
    · have e2 : (n != n2) = true := by simpa using hn
      have hc := Lib.hid (show cmpV k n t k n2 t2 = cmpI n n2 by unfold cmpV; rw [cmpI_self, or2_zero]; exact or2_ne (by unfold cmpI; split; decide; rw [if_pos (by omega)]; decide) _)
      clear hn
      go_enter Tryd.func20, Tryd.ntmps20
      go_wp2_with fail
      refine (sign_any n n2 _).mono ?_
      rintro e w1 ⟨rfl, rfl⟩
      go_wp2_with fail
      go_ret
      exact ⟨ret_int hc.out.symm, by go_grown⟩
  · have e2 : (k != k2) = true := by simpa using hk
    have hc := Lib.hid (show cmpV k n t k2 n2 t2 = cmpI k k2 by unfold cmpV; exact or2_ne (by unfold cmpI; split; decide; rw [if_pos (by omega)]; decide) _)
    clear hk
    go_enter Tryd.func20, Tryd.ntmps20
    go_wp2_with fail
    refine (sign_any k k2 _).mono ?_
    rintro e w1 ⟨rfl, rfl⟩
    go_wp2_with fail
    go_ret
    exact ⟨ret_int hc.out.symm, by go_grown⟩
end Go.Proofs.YtdoenjkebeidlaaDoor
