/- The contracts of the measures' methods and of Of. -/
import Derived.Test.YtendkghifcjffaaGreatDoorMOf
import Derived.Test.YtendkghifcjffaaGreatDoorVCmp
import Derived.Test.YtendkghifcjffaaGreatDoorVValid
import Derived.Test.YtendkghifcjffaaGreatDoorTTokens
namespace Go.Proofs.YtendkghifcjffaaGreatDoor
open Go.RowKit

/-- A value of the program. -/
abbrev V (k n : Int) (t : List UInt8) : Value := .agg #[.int .i64 k, .int .i64 n, .string ⟨t.toArray⟩]

theorem any_any (x y : Int) (w : World) : Calls Tryz.prog 49 #[.int .i64 x, .int .i64 y] w fun e w' => e = .returned (.bool true) ∧ Below w.heap.size w w' := by
  go_enter Tryz.func49, Tryz.ntmps49
  go_wp2_with fail
  go_ret
  exact ⟨rfl, by go_grown⟩
theorem texts_any (x y : Int) (w : World) : Calls Tryz.prog 51 #[.int .i64 x, .int .i64 y] w fun e w' => e = .returned (.bool (decide (x = 1) && decide (y = 1))) ∧ Below w.heap.size w w' := by
  go_enter Tryz.func51, Tryz.ntmps51
  go_wp2_with fail
  all_goals
    go_ret
    refine ⟨bool_ret ?_, by go_grown⟩
    rw [Bool.eq_iff_iff]
    simp
    try omega
theorem counts_any (x y : Int) (w : World) : Calls Tryz.prog 57 #[.int .i64 x, .int .i64 y] w fun e w' => e = .returned (.bool (decide (x = y) && (decide (x = 2) || decide (x = 3)))) ∧ Below w.heap.size w w' := by
  go_enter Tryz.func57, Tryz.ntmps57
  go_wp2_with fail
  all_goals
    go_ret
    refine ⟨bool_ret ?_, by go_grown⟩
    rw [Bool.eq_iff_iff]
    simp
    try omega
end Go.Proofs.YtendkghifcjffaaGreatDoor
