/- The reference's Apply, whole; the reference's functions, their answers being known. -/
import Derived.Test.YteokcgfbhaeklaaGreatDoorScRfA1
import Derived.Test.YteokcgfbhaeklaaGreatDoorScRfA2
import Derived.Test.YteokcgfbhaeklaaGreatDoorScRfA3
import Derived.Test.YteokcgfbhaeklaaGreatDoorScRfA4
import Derived.Test.YteokcgfbhaeklaaGreatDoorScRfX
namespace Go.Proofs.YteokcgfbhaeklaaGreatDoor
open Go.RowKit

set_option maxRecDepth 100000 in
set_option maxHeartbeats 4000000 in
theorem apply0_rf (s : List TabT) (v : Value) (c : ChgT) (hk : c.kind ≠ 1 ∧ c.kind ≠ 2 ∧ c.kind ≠ 3 ∧ c.kind ≠ 4) (hm : Mid s) (hlen : Lens s) (hcn : c.name.length ≤ maxLen) (w : World) (h : Tabs w v s) :
    Calls Tryz.prog 12 #[.agg #[v], Cv c] w (ApplyPost w (applyT s c)) := by
  obtain ⟨A, cp, rfl, _⟩ := h.form
  have HS := Lib.hid h
  have CK := Lib.hid (fun W (hW : Tabs W (.slice A s.length cp) s) => check_rf s _ c hm hlen hcn W hW)
  have her0 : (locT s c).1 ≠ 0 := fun h0 => by
      obtain ⟨k, t, hl⟩ := loc_ok h0
      obtain ⟨u, hal⟩ := alt_ok hl
      rcases hal.kinds with h | h | h | h <;> have := h.1 <;> omega
  obtain ⟨er, her⟩ : ∃ er, (locT s c).1 = er := ⟨_, rfl⟩
  rw [her] at her0
  have HF := Lib.hid (apply_err her her0)
  have HER := Lib.hid her
  have q1 : (er != 0) = true := by simpa using her0
  clear h hm hlen hcn her
  go_enter Tryz.func12, Tryz.ntmps12
  go_wp2_with fail
  refine (CK.out _ (HS.out.below (((below_box w _).alloc (by simp) _).alloc (by simp; omega) _))).mono ?_
  rintro e w1 ⟨⟨ci, cj, rfl, hij⟩, hb⟩
  have hb2 : Below w.heap.size w w1 := below_up (((below_box w _).alloc (by simp) _).alloc (by simp; omega) _) hb (by simp; omega)
  replace HS := Lib.hid (HS.out.below hb2)
  have HB := Lib.hid hb2
  have z0 : w1.cell? ⟨w.heap.size, 0, none⟩ = some (.slice A s.length cp) := cellB hb (by simp [go_sem])
  have c0 : w1.cell? ⟨w.heap.size + 1, 0, none⟩ = some (.int .i64 c.kind) := cellB hb (by simp [go_sem])
  have c1 : w1.cell? ⟨w.heap.size + 1, 1, none⟩ = some (str c.table) := cellB hb (by simp [go_sem])
  have c2 : w1.cell? ⟨w.heap.size + 1, 2, none⟩ = some (str c.attr) := cellB hb (by simp [go_sem])
  have c3 : w1.cell? ⟨w.heap.size + 1, 3, none⟩ = some (str c.name) := cellB hb (by simp [go_sem])
  have c4 : w1.cell? ⟨w.heap.size + 1, 4, none⟩ = some (.int .i64 c.to) := cellB hb (by simp [go_sem])
  have c5 : w1.cell? ⟨w.heap.size + 1, 5, none⟩ = some (.int .i64 c.dft.1) := cellB hb (by simp [go_sem])
  have c6 : w1.cell? ⟨w.heap.size + 1, 6, none⟩ = some (.int .i64 c.dft.2.1) := cellB hb (by simp [go_sem])
  have c7 : w1.cell? ⟨w.heap.size + 1, 7, none⟩ = some (str c.dft.2.2) := cellB hb (by simp [go_sem])
  have r0 : w1.cell? ⟨w.heap.size + 1 + 1, 0, none⟩ = some (.slice none 0 0) := cellB hb (by simp [go_sem])
  have rf : w1.frozen? ⟨w.heap.size + 1 + 1, 0, none⟩ = false := frozenB (v := .slice none 0 0) hb (by simp [go_sem]) (by simp [go_sem])
  clear hb hb2
  rw [HER.out]
  have rr := World.cell?_setCell_same w1 ⟨w.heap.size + 1 + 1, 0, none⟩ (.slice none 0 0) r0
  clear hij her0 CK
  go_wp2_with fail
  refine bodyPost_ret (v := .tuple #[.agg #[.slice none 0 0], .int .i64 er]) (by simp [results, Tryz.results12, go_sem, rr]) rfl ?_
  exact ⟨.slice none 0 0, by rw [HF.out], by rw [HF.out]; exact Slc.nil _, HB.out.setCell (p := ⟨w.heap.size + 1 + 1, 0, none⟩) (by show w.heap.size ≤ w.heap.size + 1 + 1; omega) _⟩
theorem apply_rf_is (s : List TabT) (v : Value) (c : ChgT) (r : List TabT × Int) (hr : applyT s c = r) (hm : Mid s) (hlen : Lens s) (hcn : c.name.length ≤ maxLen) (w : World) (h : Tabs w v s) :
    Calls Tryz.prog 12 #[.agg #[v], Cv c] w (ApplyPost w r) := by
  subst hr
  have kc : c.kind = 1 ∨ c.kind = 2 ∨ c.kind = 3 ∨ c.kind = 4 ∨ (c.kind ≠ 1 ∧ c.kind ≠ 2 ∧ c.kind ≠ 3 ∧ c.kind ≠ 4) := by omega
  rcases kc with k | k | k | k | k
  · exact apply1_rf s v c k hm hlen hcn w h
  · exact apply2_rf s v c k hm hlen hcn w h
  · exact apply3_rf s v c k hm hlen hcn w h
  · exact apply4_rf s v c k hm hlen hcn w h
  · exact apply0_rf s v c k hm hlen hcn w h
theorem convert_rf_is (s : List TabT) (v rv : Value) (c : ChgT) (n : Int) (row : List T3) (r : List T3 × Int) (hr : convT s c n row = r) (hm : Mid s) (hlen : Lens s) (hcn : c.name.length ≤ maxLen) (hrl : row.length ≤ 4000) (w : World) (h : Tabs w v s) (hv : Vals w rv row) :
    Calls Tryz.prog 14 #[.agg #[v], Cv c, .int .i64 n, rv] w (RowPost w.heap.size w r) := hr ▸ convert_rf s v rv c n row hm hlen hcn hrl w h hv
theorem valid_rf_is (s : List TabT) (v : Value) (r : Bool) (hr : validB s = r) (hm : Mid s) (hlen : Lens s) (w : World) (h : Tabs w v s) :
    Calls Tryz.prog 18 #[.agg #[v]] w (BoolPost w r) := hr ▸ valid_rf s v hm hlen w h
theorem find_rf_is (s : List TabT) (v : Value) (nm : Txt) (r : Int) (hr : findT s nm = r) (hsl : s.length ≤ 4000) (w : World) (h : Tabs w v s) :
    Calls Tryz.prog 20 #[.agg #[v], str nm] w (IntPost w r) := hr ▸ find_rf s v nm hsl w h
theorem column_rf_is (n : Txt) (l : List AttrT) (va vk : Value) (nm : Txt) (r : Int) (hr : colT l nm = r) (hl : l.length ≤ 24) (hws : ∀ a ∈ l, a.was.length ≤ 24) (w : World) (h : Attrs w va l) :
    Calls Tryz.prog 24 #[.agg #[str n, va, vk], str nm] w (IntPost w r) := hr ▸ column_rf n l va vk nm (by omega) (fun a ha => by have := hws a ha; omega) w h
theorem fits_rf_is (n : Txt) (l : List AttrT) (row : List T3) (va vk rv : Value) (r : Bool) (hr : fitsB l row = r) (hl : l.length ≤ 24) (hrl : row.length ≤ 4000) (w : World) (ha : Attrs w va l) (hv : Vals w rv row) :
    Calls Tryz.prog 22 #[.agg #[str n, va, vk], rv] w (BoolPost w r) := hr ▸ fits_rf n l row va vk rv (by omega) hrl w ha hv
end Go.Proofs.YteokcgfbhaeklaaGreatDoor
