/- The contract of Valid. -/
import Derived.Test.YtblgfillaenemaaDoorVBase
namespace Go.Proofs.YtblgfillaenemaaDoor.L2
open Go.RowKit

theorem valid_any (k n : Int) (t : List UInt8) (w : World) :
    Calls Tryd.prog 21 #[V k n t] w fun e w' => e = .returned (.bool (vldB k n t)) ∧ Below w.heap.size w w' := by
  go_enter Tryd.func21, Tryd.ntmps21
  go_wp2_with fail
  all_goals
    go_ret
    refine ⟨bool_ret (vldB_iff ?_), by go_grown⟩
    simp only [beq_iff_eq, beq_eq_false_iff_ne, ne_eq] at *
    unfold Vld
    by_cases ht : t = [] <;> simp [ht] <;> omega
end Go.Proofs.YtblgfillaenemaaDoor.L2
