/- The contract of Convert. -/
import Derived.Test.YteokcgfbhaeklaaGreatDoorPCvA
import Derived.Test.YteokcgfbhaeklaaGreatDoorPCvB
import Derived.Test.YteokcgfbhaeklaaGreatDoorPLoc
namespace Go.Proofs.YteokcgfbhaeklaaGreatDoor
open Go.RowKit

set_option maxRecDepth 100000 in
set_option maxHeartbeats 4000000 in
theorem convert0_any (s : List TabT) (v rv : Value) (c : ChgT) (n : Int) (row : List T3) (hk : c.kind ≠ 1 ∧ c.kind ≠ 2 ∧ c.kind ≠ 3 ∧ c.kind ≠ 4) (hm : Mid s) (w : World) (h : Tabs w v s) (hr : Vals w rv row) :
    Calls Tryz.prog 13 #[.agg #[v], Cv c, .int .i64 n, rv] w (RowPost w.heap.size w (convT s c n row)) := by
  have HF := Lib.hid (conv_err (s := s) (c := c) (er := 1) (by rw [loc_arg (Or.inr (formed_0 hk))]) (by decide) n row)
  obtain ⟨A, cap, rfl, hcap⟩ := h.form
  obtain ⟨Ar, capr, rfl, hcapr⟩ := hr.form
  have CL := Lib.hid (fun W (hW : Below w.heap.size w W) => locate0_any s (.slice A s.length cap) c hk hm W (h.below hW))
  clear hm h hk hr
  go_enter Tryz.func13, Tryz.ntmps13
  go_wp2_with fail
  refine (CL.out _ ((below_box w _).alloc (by simp) _)).mono ?_
  clear CL
  rintro e w1 ⟨rfl, hb⟩
  have HB1 := Lib.hid (show Below w.heap.size w w1 from below_up ((below_box w _).alloc (by simp) _) hb (by simp; omega))
  clear hb
  go_wp2_with fail
  go_ret2
  exact ⟨.slice none 0 0, by rw [HF.out]; rfl, by rw [HF.out]; exact Slc.nil _, HB1.out.trans ((below_box w1 _).mono HB1.out.size)⟩
/-- Convert, for every schema of the sizes, change, index and row. -/
theorem convert_any (s : List TabT) (v rv : Value) (c : ChgT) (n : Int) (row : List T3) (hm : Mid s) (hrl : row.length ≤ 4000) (w : World) (he : L2.Env w) (h : Tabs w v s) (hr : Vals w rv row) :
    Calls Tryz.prog 13 #[.agg #[v], Cv c, .int .i64 n, rv] w (RowPost w.heap.size w (convT s c n row)) := by
  have kc : c.kind = 1 ∨ c.kind = 2 ∨ c.kind = 3 ∨ c.kind = 4 ∨ (c.kind ≠ 1 ∧ c.kind ≠ 2 ∧ c.kind ≠ 3 ∧ c.kind ≠ 4) := by omega
  rcases kc with k | k | k | k | k
  · exact convert1_any s v rv c n row k hm hrl w h hr
  · exact convert2_any s v rv c n row k hm hrl w h hr
  · exact convert3_any s v rv c n row k hm hrl w h hr
  · exact convert4_any s v rv c n row k hm hrl w he h hr
  · exact convert0_any s v rv c n row k hm w h hr
end Go.Proofs.YteokcgfbhaeklaaGreatDoor
