/- What locate returns. -/
import Derived.Test.YteokcgfbhaeklaaGreatDoorPFit
import Derived.Test.YteokcgfbhaeklaaGreatDoorScRefuse
import Derived.Test.YteokcgfbhaeklaaGreatDoorScValid
namespace Go.Proofs.YteokcgfbhaeklaaGreatDoor
open Go.RowKit

/-- The zero place. -/
abbrev zeroP : Value := .agg #[.nilFunc, .nilFunc, .nilFunc, .nilFunc, .int .i64 0, .int .i64 0]
/-- The place of a change of kind 1. -/
abbrev place1 (_ : Nat) (i j : Int) : Value := .agg #[.func (Fn.func 77) #[] #[], .func (Fn.func 78) #[] #[], .func (Fn.func 79) #[] #[], .func (Fn.func 80) #[] #[], .int .i64 i, .int .i64 j]
/-- The place of a change of kind 2. -/
abbrev place2 (z : Nat) (i j : Int) : Value := .agg #[.func (Fn.func 81) #[] #[.pointer (some ⟨z, 0, none⟩)], .func (Fn.func 82) #[] #[], .func (Fn.func 83) #[] #[], .func (Fn.func 84) #[] #[], .int .i64 i, .int .i64 j]
/-- The place of a change of kind 3. -/
abbrev place3 (z : Nat) (i j : Int) : Value := .agg #[.func (Fn.func 85) #[] #[.pointer (some ⟨z, 0, none⟩)], .func (Fn.func 86) #[] #[], .func (Fn.func 87) #[] #[], .func (Fn.func 88) #[] #[], .int .i64 i, .int .i64 j]
/-- The place of a change of kind 4. -/
abbrev place4 (_ : Nat) (i j : Int) : Value := .agg #[.func (Fn.func 89) #[] #[], .func (Fn.func 90) #[] #[], .func (Fn.func 91) #[] #[], .func (Fn.func 92) #[] #[], .int .i64 i, .int .i64 j]
/-- What locate returns: an error and whatever place, or the place of the change. -/
def LocPost (w : World) (s : List TabT) (c : ChgT) (pl : Nat → Int → Int → Value) (e : Ending) (w' : World) : Prop :=
  ((e = .returned (.tuple #[zeroP, .int .i64 (locT s c).1]) ∧ (locT s c).1 ≠ 0) ∨
   ∃ (z i : Nat) (y : Int) (t : TabT), ∃ hi : i < s.length, e = .returned (.tuple #[pl z (i : Int) y, .int .i64 (locT s c).1]) ∧ s[i] = t ∧ locT s c = (refT t y c, (i : Int), y) ∧ y = colT t.attrs c.attr ∧ (c.kind ≠ 1 → 0 ≤ y) ∧ validB s = true ∧ findT s c.table = (i : Int)) ∧ Below w.heap.size w w'
theorem loc_arg {s : List TabT} {c : ChgT} (h : validB s = false ∨ formedB c = false) : locT s c = (1, 0, 0) := if_pos h
theorem loc_none {s : List TabT} {c : ChgT} (h1 : validB s = true) (h2 : formedB c = true) (h : findT s c.table < 0) : locT s c = (11, 0, 0) := by
  unfold locT
  rw [if_neg (by simp [h1, h2]), if_pos h]
theorem loc_find {s : List TabT} {c : ChgT} (h1 : validB s = true) (h2 : formedB c = true) {i : Nat} (hi : i < s.length) (h : findT s c.table = (i : Int)) :
    locT s c = if colT s[i].attrs c.attr < 0 ∧ c.kind ≠ 1 then (11, 0, 0) else (refT s[i] (colT s[i].attrs c.attr) c, (i : Int), colT s[i].attrs c.attr) := by
  unfold locT
  rw [if_neg (by simp [h1, h2]), if_neg (by omega), h]
  simp [hi]
theorem formed_1 {c : ChgT} (h : c.kind = 1) : formedB c = decide (c.attr = []) := if_pos h
theorem formed_2 {c : ChgT} (h : c.kind = 2) : formedB c = decide (c.name = [] ∧ c.to = 0 ∧ c.dft = z3) := by unfold formedB; rw [if_neg (by omega), if_pos h]
theorem formed_3 {c : ChgT} (h : c.kind = 3) : formedB c = decide (c.to = 0 ∧ c.dft = z3) := by unfold formedB; rw [if_neg (by omega), if_neg (by omega), if_pos h]
theorem formed_4 {c : ChgT} (h : c.kind = 4) : formedB c = decide (c.name = []) := by unfold formedB; rw [if_neg (by omega), if_neg (by omega), if_neg (by omega), if_pos h]
theorem formed_0 {c : ChgT} (h : c.kind ≠ 1 ∧ c.kind ≠ 2 ∧ c.kind ≠ 3 ∧ c.kind ≠ 4) : formedB c = false := by unfold formedB; rw [if_neg h.1, if_neg h.2.1, if_neg h.2.2.1, if_neg h.2.2.2]
theorem cell_new (w : World) (cs : Array Value) (T : TypeId) (j : Nat) : (w.alloc (.cells cs T)).cell? ⟨w.heap.size, j, none⟩ = cs[j]? := cell_of_row _ w.heap.size j cs T (0, 0) (heap_alloc_new w _)
theorem frozen_new (w : World) (cs : Array Value) (T : TypeId) (j : Nat) : (w.alloc (.cells cs T)).frozen? ⟨w.heap.size, j, none⟩ = false := by
  have h := heap_alloc_new w (.cells cs T)
  simp only [World.frozen?, h]
  simp
theorem set6 {B : Nat} {w w1 : World} {g : Nat} (h : Below B w w1) (hg : B ≤ g) (a b c d e f : Value) :
    Below B w ((((((w1.setCell ⟨g, 0, none⟩ a).setCell ⟨g, 1, none⟩ b).setCell ⟨g, 2, none⟩ c).setCell ⟨g, 3, none⟩ d).setCell ⟨g, 4, none⟩ e).setCell ⟨g, 5, none⟩ f) :=
  (((((h.setCell (p := ⟨g, 0, none⟩) hg _).setCell (p := ⟨g, 1, none⟩) hg _).setCell (p := ⟨g, 2, none⟩) hg _).setCell (p := ⟨g, 3, none⟩) hg _).setCell (p := ⟨g, 4, none⟩) hg _).setCell (p := ⟨g, 5, none⟩) hg _
end Go.Proofs.YteokcgfbhaeklaaGreatDoor

/- The contract of locate at a change of no kind. -/
namespace Go.Proofs.YteokcgfbhaeklaaGreatDoor
open Go.RowKit

set_option maxRecDepth 100000 in
set_option maxHeartbeats 4000000 in
theorem locate0_any (s : List TabT) (v : Value) (c : ChgT) (hk : c.kind ≠ 1 ∧ c.kind ≠ 2 ∧ c.kind ≠ 3 ∧ c.kind ≠ 4) (hm : Mid s) (w : World) (h : Tabs w v s) :
    Calls Tryz.prog 31 #[.agg #[v], Cv c] w fun e w' => e = .returned (.tuple #[zeroP, .int .i64 1]) ∧ Below w.heap.size w w' := by
  obtain ⟨A, cap, rfl, hcap⟩ := h.form
  obtain ⟨V, hV⟩ : ∃ r, validB s = r := ⟨_, rfl⟩
  have CV := Lib.hid (fun W (hW : Below w.heap.size w W) => by have := valid_any s (.slice A s.length cap) hm W (h.below hW); rw [hV] at this; exact this)
  have W0 := Lib.hid (fun W => workOf0_any c.kind W hk)
  clear hm h hV hk
  go_enter Tryz.func31, Tryz.ntmps31
  go_wp2_with fail
  refine (W0.out _).mono ?_
  rintro e w1 ⟨rfl, hb⟩
  have HLO := Lib.hid (show Below w.heap.size w w1 from below_up (((below_box w _).alloc (by simp) _).alloc (by simp; omega) _) hb (by simp; omega))
  have L2' : w1.cell? ⟨w.heap.size, 0, none⟩ = some (.slice A s.length cap) := cellB hb (by simp [go_sem])
  have hlt1 : w.heap.size + 1 + 1 < w1.heap.size := by have := hb.size; simp at this; omega
  have R0 : Hid (∀ j, w1.cell? ⟨w.heap.size + 1 + 1, j, none⟩ = (#[.nilFunc, .nilFunc, .nilFunc, .nilFunc, .int .i64 0, .int .i64 0] : Array Value)[j]?) := Lib.hid (fun j => (hb.cell (p := ⟨w.heap.size + 1 + 1, j, none⟩) (by simp)).trans (by
    rw [show w.heap.size + 1 + 1 = ((w.alloc (.cells #[.slice A s.length cap] 24)).alloc (.cells #[.int .i64 c.kind, str c.table, str c.attr, str c.name, .int .i64 c.to, .int .i64 c.dft.1, .int .i64 c.dft.2.1, str c.dft.2.2] 28)).heap.size by simp]
    exact cell_new _ #[.nilFunc, .nilFunc, .nilFunc, .nilFunc, .int .i64 0, .int .i64 0] _ _))
  have R1 : Hid (∀ j, w1.frozen? ⟨w.heap.size + 1 + 1, j, none⟩ = false) := Lib.hid (fun j => (hb.frozen (p := ⟨w.heap.size + 1 + 1, j, none⟩) (by simp)).trans (by
    rw [show w.heap.size + 1 + 1 = ((w.alloc (.cells #[.slice A s.length cap] 24)).alloc (.cells #[.int .i64 c.kind, str c.table, str c.attr, str c.name, .int .i64 c.to, .int .i64 c.dft.1, .int .i64 c.dft.2.1, str c.dft.2.2] 28)).heap.size by simp]
    exact frozen_new _ #[.nilFunc, .nilFunc, .nilFunc, .nilFunc, .int .i64 0, .int .i64 0] _ _))
  clear hb W0
  have t0 := Cell.alloc L2' (.cells #[.nilFunc, .nilFunc, .nilFunc, .nilFunc] 65)
  have HLW := Lib.hid (HLO.out.trans ((below_box w1 (.cells #[.nilFunc, .nilFunc, .nilFunc, .nilFunc] 65)).mono HLO.out.size))
  go_wp2_with fail
  refine (CV.out _ HLW.out).mono ?_
  rintro e w2 ⟨rfl, hb2⟩
  have HL2 := Lib.hid (HLW.out.trans (hb2.mono (by have := HLO.out.size; simp; omega)))
  have hb3 : Below w1.heap.size w1 w2 := (below_box w1 _).trans (hb2.mono (by simp))
  have r0 := (hb3.cell (p := ⟨w.heap.size + 1 + 1, 0, none⟩) hlt1).trans (R0.out 0)
  have r1 := (hb3.cell (p := ⟨w.heap.size + 1 + 1, 1, none⟩) hlt1).trans (R0.out 1)
  have r2 := (hb3.cell (p := ⟨w.heap.size + 1 + 1, 2, none⟩) hlt1).trans (R0.out 2)
  have r3 := (hb3.cell (p := ⟨w.heap.size + 1 + 1, 3, none⟩) hlt1).trans (R0.out 3)
  have r4 := (hb3.cell (p := ⟨w.heap.size + 1 + 1, 4, none⟩) hlt1).trans (R0.out 4)
  have r5 := (hb3.cell (p := ⟨w.heap.size + 1 + 1, 5, none⟩) hlt1).trans (R0.out 5)
  have f0 := (hb3.frozen (p := ⟨w.heap.size + 1 + 1, 0, none⟩) hlt1).trans (R1.out 0)
  have f1 := (hb3.frozen (p := ⟨w.heap.size + 1 + 1, 1, none⟩) hlt1).trans (R1.out 1)
  have f2 := (hb3.frozen (p := ⟨w.heap.size + 1 + 1, 2, none⟩) hlt1).trans (R1.out 2)
  have f3 := (hb3.frozen (p := ⟨w.heap.size + 1 + 1, 3, none⟩) hlt1).trans (R1.out 3)
  have f4 := (hb3.frozen (p := ⟨w.heap.size + 1 + 1, 4, none⟩) hlt1).trans (R1.out 4)
  have f5 := (hb3.frozen (p := ⟨w.heap.size + 1 + 1, 5, none⟩) hlt1).trans (R1.out 5)
  clear hb2 hb3 t0 L2' HLW HLO R0 R1 CV hlt1
  cases V
  · go_wp2_with fail
    refine bodyPost_ret (v := .tuple #[zeroP, .int .i64 1]) (by simp [results, Tryz.results31, go_sem, r0, r1, r2, r3, r4, r5]) rfl ?_
    exact ⟨rfl, set6 HL2.out (by omega) _ _ _ _ _ _⟩
  · go_wp2_with fail
    refine bodyPost_ret (v := .tuple #[zeroP, .int .i64 1]) (by simp [results, Tryz.results31, go_sem, r0, r1, r2, r3, r4, r5]) rfl ?_
    exact ⟨rfl, set6 HL2.out (by omega) _ _ _ _ _ _⟩
end Go.Proofs.YteokcgfbhaeklaaGreatDoor

