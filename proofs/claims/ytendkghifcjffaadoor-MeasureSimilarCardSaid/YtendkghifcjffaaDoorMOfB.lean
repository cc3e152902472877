/- The contracts of the measures' methods and of Of. -/
import Derived.Test.YtendkghifcjffaaDoorMOf
import Derived.Test.YtendkghifcjffaaDoorVCmp
import Derived.Test.YtendkghifcjffaaDoorVValid
import Derived.Test.YtendkghifcjffaaDoorTTokens
namespace Go.Proofs.YtendkghifcjffaaDoor
open Go.RowKit

/-- A value of the program. -/
abbrev V (k n : Int) (t : List UInt8) : Value := .agg #[.int .i64 k, .int .i64 n, .string ⟨t.toArray⟩]

theorem any_any (x y : Int) (w : World) : Calls Tryd.prog 42 #[.int .i64 x, .int .i64 y] w fun e w' => e = .returned (.bool true) ∧ Below w.heap.size w w' := by
  go_enter Tryd.func42, Tryd.ntmps42
  go_wp2_with fail
  go_ret
  exact ⟨rfl, by go_grown⟩
theorem texts_any (x y : Int) (w : World) : Calls Tryd.prog 44 #[.int .i64 x, .int .i64 y] w fun e w' => e = .returned (.bool (decide (x = 1) && decide (y = 1))) ∧ Below w.heap.size w w' := by
  go_enter Tryd.func44, Tryd.ntmps44
  go_wp2_with fail
  all_goals
    go_ret
    refine ⟨bool_ret ?_, by go_grown⟩
    rw [Bool.eq_iff_iff]
    simp
    try omega
theorem counts_any (x y : Int) (w : World) : Calls Tryd.prog 50 #[.int .i64 x, .int .i64 y] w fun e w' => e = .returned (.bool (decide (x = y) && (decide (x = 2) || decide (x = 3)))) ∧ Below w.heap.size w w' := by
  go_enter Tryd.func50, Tryd.ntmps50
  go_wp2_with fail
  all_goals
    go_ret
    refine ⟨bool_ret ?_, by go_grown⟩
    rw [Bool.eq_iff_iff]
    simp
    try omega
end Go.Proofs.YtendkghifcjffaaDoor
