/- The contract of unit. -/
import Derived.Test.YtendkghifcjffaaDoorMLaw
import Derived.Test.YtendkghifcjffaaDoorRRef
namespace Go.Proofs.YtendkghifcjffaaDoor
open Go.RowKit

def unitB (r : Int × Int) : Bool := L1.vldB r.1 r.2 && decide (0 ≤ r.1) && decide (r.1 ≤ r.2)
theorem unitB_true {r : Int × Int} (h : UnitR r) : unitB r = true := by
  unfold unitB
  rw [L1.vldB_mk h.1, decide_eq_true h.2.1, decide_eq_true h.2.2]
  rfl
theorem unit_ok (r : Int × Int) (h : UnitR r) (w : World) : Calls Tryd.prog 17 #[rat r] w fun e w' => e = .returned (.bool true) ∧ Below w.heap.size w w' := by
  obtain ⟨n, d⟩ := r
  obtain ⟨hv, h0, h1⟩ := h
  have HV := Lib.hid (L1.vldB_mk hv)
  have g0 : (0 : Int) ≤ n := h0
  have g1 : n ≤ d := h1
  go_enter Tryd.func17, Tryd.ntmps17
  go_wp2_with fail
  refine (L1.refvalid_any n d _).mono ?_
  rw [HV.out]
  rintro e w1 ⟨rfl, hb⟩
  have R1 := (own2_new w n d _).below hb
  have HB1 := Lib.hid (below_up (below_box w _) hb (by simp))
  have r0 := R1.c0
  have r1 := R1.c1
  clear hb R1
  go_wp2_with fail
  go_ret
  exact ⟨rfl, HB1.out⟩
end Go.Proofs.YtendkghifcjffaaDoor
