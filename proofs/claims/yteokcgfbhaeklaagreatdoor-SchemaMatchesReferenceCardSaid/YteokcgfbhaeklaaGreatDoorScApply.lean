/- The contract of Apply. -/
import Derived.Test.YteokcgfbhaeklaaGreatDoorScAp1
import Derived.Test.YteokcgfbhaeklaaGreatDoorPAp
import Derived.Test.YteokcgfbhaeklaaGreatDoorPLoc
namespace Go.Proofs.YteokcgfbhaeklaaGreatDoor
open Go.RowKit

theorem kind_cases (k : Int) : k = 1 ∨ k = 2 ∨ k = 3 ∨ k = 4 ∨ (k ≠ 1 ∧ k ≠ 2 ∧ k ≠ 3 ∧ k ≠ 4) := by omega
set_option maxRecDepth 100000 in
set_option maxHeartbeats 4000000 in
theorem apply0_any (s : List TabT) (v : Value) (c : ChgT) (hk : c.kind ≠ 1 ∧ c.kind ≠ 2 ∧ c.kind ≠ 3 ∧ c.kind ≠ 4) (hm : Mid s) (w : World) (h : Tabs w v s) :
    Calls Tryz.prog 11 #[.agg #[v], Cv c] w (ApplyPost w (applyT s c)) := by
  have HF := Lib.hid (apply_err (s := s) (c := c) (er := 1) (by rw [loc_arg (Or.inr (formed_0 hk))]) (by decide))
  obtain ⟨A, cap, rfl, hcap⟩ := h.form
  have CL := Lib.hid (fun W (hW : Below w.heap.size w W) => locate0_any s (.slice A s.length cap) c hk hm W (h.below hW))
  clear hm h hk
  go_enter Tryz.func11, Tryz.ntmps11
  go_wp2_with fail
  refine (CL.out _ (((below_box w _).alloc (by simp) _).alloc (by simp; omega) _)).mono ?_
  clear CL
  rintro e w1 ⟨rfl, hb⟩
  have HB1 := Lib.hid (show Below w.heap.size w w1 from below_up (((below_box w _).alloc (by simp) _).alloc (by simp; omega) _) hb (by simp; omega))
  have r0 : w1.cell? ⟨w.heap.size + 1 + 1, 0, none⟩ = some (.slice none 0 0) := cellB hb (by simp [go_sem])
  have rf : w1.frozen? ⟨w.heap.size + 1 + 1, 0, none⟩ = false := frozenB (v := .slice none 0 0) hb (by simp [go_sem]) (by simp [go_sem])
  clear hb
  have r0' := Cell.alloc r0 (.cells #[.nilFunc, .nilFunc, .nilFunc, .nilFunc, .int .i64 0, .int .i64 0] 67)
  have rf' := frozenB (below_box w1 (.cells #[.nilFunc, .nilFunc, .nilFunc, .nilFunc, .int .i64 0, .int .i64 0] 67)) r0 rf
  have rr := Cell.alloc (World.cell?_setCell_same w1 ⟨w.heap.size + 1 + 1, 0, none⟩ (.slice none 0 0) r0) (.cells #[.nilFunc, .nilFunc, .nilFunc, .nilFunc, .int .i64 0, .int .i64 0] 67)
  have hlt1 : w.heap.size + 1 + 1 < w1.heap.size := cellLt r0
  go_wp2_with fail
  refine bodyPost_ret (v := .tuple #[.agg #[.slice none 0 0], .int .i64 1]) (by simp [results, Tryz.results11, go_sem, rr]) rfl ?_
  exact ⟨.slice none 0 0, by rw [HF.out], by rw [HF.out]; exact Slc.nil _, (HB1.out.setCell (p := ⟨w.heap.size + 1 + 1, 0, none⟩) (by show w.heap.size ≤ w.heap.size + 1 + 1; omega) _).alloc (by simp; omega) _⟩
/-- Apply, for every schema of the sizes and change. -/
theorem apply_any (s : List TabT) (v : Value) (c : ChgT) (hm : Mid s) (w : World) (h : Tabs w v s) :
    Calls Tryz.prog 11 #[.agg #[v], Cv c] w (ApplyPost w (applyT s c)) := by
  rcases kind_cases c.kind with k | k | k | k | k
  · exact apply1_any s v c k hm w h
  · exact apply2_any s v c k hm w h
  · exact apply3_any s v c k hm w h
  · exact apply4_any s v c k hm w h
  · exact apply0_any s v c k hm w h
end Go.Proofs.YteokcgfbhaeklaaGreatDoor
