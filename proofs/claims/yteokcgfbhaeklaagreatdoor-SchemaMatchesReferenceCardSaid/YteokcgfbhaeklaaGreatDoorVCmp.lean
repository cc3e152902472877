/- The contracts of order, cmp.Or and Compare. -/
import Derived.Test.YteokcgfbhaeklaaGreatDoorPBase
namespace Go.Proofs.YteokcgfbhaeklaaGreatDoor.L2
open Go.RowKit

theorem bytesLess_eq : ∀ x y, Op.bytesLess x y = ltS x y
  | _, [] => by unfold Op.bytesLess ltS; rfl
  | [], _ :: _ => rfl
  | a :: x, b :: y => by
    unfold Op.bytesLess ltS
    rw [bytesLess_eq x y, Bool.eq_iff_iff]
    simp [UInt8.lt_iff_toNat_lt, UInt8.toNat_inj]

theorem str_gt {x y : List UInt8} (h : Op.bytesLess x y = false) (g : (!x == y) = true) : cmpS x y = 1 := by
  rw [bytesLess_eq] at h
  have e : x ≠ y := by simpa using g
  rcases ltS_total x y e with h1 | h1
  · rw [h] at h1; cases h1
  · unfold cmpS; rw [h, h1]; rfl

end Go.Proofs.YteokcgfbhaeklaaGreatDoor.L2
