/- The contracts of Valid and Make. -/
import Derived.Test.YtoifcfocffcmcaaDoorRGcd
import Derived.Test.YtoifcfocffcmcaaDoorRMath
import Derived.Deep.RegionWith
import Derived.Deep.RegionHeld3
namespace Go.Proofs.YtoifcfocffcmcaaDoor.L1
open Go.RowKit

theorem bool_ret {a b : Bool} (h : a = b) : Ending.returned (.bool a) = .returned (.bool b) := by rw [h]

theorem below_drewN (B : Nat) (w : World) (k : Nat) : Below B w (w.drewN k) := ⟨rfl, rfl, rfl, Nat.le_refl _, fun _ _ => rfl⟩

theorem dN {B : Nat} {a w : World} (h : Below B a w) (k : Nat) : Below B a (w.drewN k) := h.trans (below_drewN B w k)

theorem gcd_new (w : World) (A : Obj) (x y : Nat) (hx : x < 18446744073709551616) (hy : y < 18446744073709551616) :
    Calls Tryd.prog 38 #[.slice (some ⟨w.heap.size + 1, 0, none⟩) 2 2] ((w.alloc A).alloc (Obj.cells #[Value.int IntKind.u64 (x : Int), Value.int IntKind.u64 (y : Int)] 55)).drew fun e w' => e = .returned (.int .u64 (Nat.gcd x y : Int)) ∧ ∃ k, w' = (((w.alloc A).alloc (Obj.cells #[Value.int IntKind.u64 (x : Int), Value.int IntKind.u64 (y : Int)] 55)).drew).drewN k :=
  gcd_any x y hx hy (w.heap.size + 1) _ (by simp [go_sem]) (by simp [go_sem])

theorem one_beq {g : Nat} {b : Bool} (h : decide (g = 1) = b) : ((g : Int) == 1) = b := by
  rw [← h, Bool.eq_iff_iff]; simp; omega

end Go.Proofs.YtoifcfocffcmcaaDoor.L1
