/- The contracts of Valid and Make. -/
import Derived.Test.YtendkghifcjffaaGreatDoorRGcd
import Derived.Test.YtendkghifcjffaaGreatDoorRMath
import Derived.Deep.RegionWith
import Derived.Deep.RegionHeld3
namespace Go.Proofs.YtendkghifcjffaaGreatDoor.L1
open Go.RowKit

theorem bool_ret {a b : Bool} (h : a = b) : Ending.returned (.bool a) = .returned (.bool b) := by rw [h]

theorem valid_out (n d : Int) (w : World) (h : d < 1 ∨ 1000000000 < d ∨ n < -1000000000 ∨ 1000000000 < n) :
    Calls Tryz.prog 45 #[.agg #[.int .i64 n, .int .i64 d]] w fun e w' => e = .returned (.bool false) ∧ Below w.heap.size w w' := by
  go_enter Tryz.func45, Tryz.ntmps45
  go_wp2_with fail
  all_goals first | (go_ret; exact ⟨rfl, by go_grown⟩) | (exfalso; omega)

theorem below_drewN (B : Nat) (w : World) (k : Nat) : Below B w (w.drewN k) := ⟨rfl, rfl, rfl, Nat.le_refl _, fun _ _ => rfl⟩

theorem dN {B : Nat} {a w : World} (h : Below B a w) (k : Nat) : Below B a (w.drewN k) := h.trans (below_drewN B w k)

theorem gcd_new (w : World) (A : Obj) (x y : Nat) (hx : x < 18446744073709551616) (hy : y < 18446744073709551616) :
    Calls Tryz.prog 61 #[.slice (some ⟨w.heap.size + 1, 0, none⟩) 2 2] ((w.alloc A).alloc (Obj.cells #[Value.int IntKind.u64 (x : Int), Value.int IntKind.u64 (y : Int)] 70)).drew fun e w' => e = .returned (.int .u64 (Nat.gcd x y : Int)) ∧ ∃ k, w' = (((w.alloc A).alloc (Obj.cells #[Value.int IntKind.u64 (x : Int), Value.int IntKind.u64 (y : Int)] 70)).drew).drewN k :=
  gcd_any x y hx hy (w.heap.size + 1) _ (by simp [go_sem]) (by simp [go_sem])

theorem one_beq {g : Nat} {b : Bool} (h : decide (g = 1) = b) : ((g : Int) == 1) = b := by
  rw [← h, Bool.eq_iff_iff]; simp; omega

theorem valid_in (n d : Int) (w : World) (h1 : 1 ≤ d) (h2 : d ≤ 1000000000) (h3 : -1000000000 ≤ n) (h4 : n ≤ 1000000000) :
    Calls Tryz.prog 45 #[.agg #[.int .i64 n, .int .i64 d]] w fun e w' => e = .returned (.bool (vldB n d)) ∧ Below w.heap.size w w' := by
  have HX := Lib.hid (show n.natAbs < 18446744073709551616 by omega)
  have HY := Lib.hid (show d.natAbs < 18446744073709551616 by omega)
  have HV := Lib.hid (show ((Nat.gcd n.natAbs d.natAbs : Int) == 1) = vldB n d from one_beq (by simp [vldB, Vld, h1, h2, h3, h4]))
  go_enter Tryz.func45, Tryz.ntmps45
  go_wp2_with fail
  go_region_held3 (fun w' => w'.cell? ⟨w.heap.size, 0, none⟩ = some (.int .i64 n) ∧ w'.cell? ⟨w.heap.size, 1, none⟩ = some (.int .i64 d)) (go_keep)
    (first | (go_at_call 62; refine (mag_any _ ?_ ?_ _).mono ?_; omega; omega; rintro e w' ⟨rfl, rfl⟩) | (go_at_call 61; refine (gcd_new w _ n.natAbs d.natAbs HX.out HY.out).mono ?_; rintro e w1 ⟨rfl, k, rfl⟩))
  go_wp2
  go_ret
  exact ⟨bool_ret HV.out, dN (((Below.refl _ _).alloc (Nat.le_refl _) _).alloc (by simp) _) _⟩

/-- Valid, for every ratio. -/
theorem valid_any (n d : Int) (w : World) :
    Calls Tryz.prog 45 #[.agg #[.int .i64 n, .int .i64 d]] w fun e w' => e = .returned (.bool (vldB n d)) ∧ Below w.heap.size w w' := by
  by_cases h : d < 1 ∨ 1000000000 < d ∨ n < -1000000000 ∨ 1000000000 < n
  · rw [vldB_false (by unfold Vld; omega)]
    exact valid_out n d w h
  · exact valid_in n d w (by omega) (by omega) (by omega) (by omega)
end Go.Proofs.YtendkghifcjffaaGreatDoor.L1
