/- How a schema that comes in is opened, with what is known of the lengths of its texts. -/
import Derived.Test.YteokcgfbhaeklaaGreatDoorFrame
import Derived.Test.YteokcgfbhaeklaaGreatDoorPRefC
namespace Go.Proofs.YteokcgfbhaeklaaGreatDoor
open Go.RowKit Go.ChangeShapes Go.WideShapes Go.ChangeAt Go.Joins

/-- What holds beside each element. -/
theorem Slc.beside {α : Type} {sz : Nat} {R : World → Nat → Nat → α → Prop} {P : α → Prop} {w : World} {v : Value} {l : List α} (h : Slc sz (fun w b o x => R w b o x ∧ P x) w v l) : Slc sz R w v l ∧ ∀ x ∈ l, P x := by
  obtain ⟨A, c, e, h1, h2, f⟩ := h
  refine ⟨⟨A, c, e, h1, h2, fun i hi => ?_⟩, fun x hx => ?_⟩
  · obtain ⟨b, o, e, r, _⟩ := f i hi
    exact ⟨b, o, e, r⟩
  · obtain ⟨i, hi, rfl⟩ := List.mem_iff_getElem.1 hx
    obtain ⟨b, o, e, _, r⟩ := f i hi
    exact r
theorem len_list (s : ByteArray) (h : s.size ≤ maxLen) : ∃ l : List UInt8, s = ⟨l.toArray⟩ ∧ l.length ≤ maxLen := ⟨s.data.toList, by cases s; simp, by cases s; simpa [ByteArray.size] using h⟩
set_option maxRecDepth 100000 in
theorem strs_trodL {H : Type} {enc : TypeId × Value → H} {W : World} {c : Value} {n : Nat} {y : DataW H × List MemPlace} (hf : DataW.trod enc Tryz.prog W 0 (fun _ => true) true n 51 [c] = some y) : ∃ l : List Txt, Strs W c l ∧ ∀ x ∈ l, x.length ≤ maxLen := by
  obtain ⟨l, h⟩ := slice_trod (α := Txt) [] Tryz.underlying51 cellsStr (by decide) (fun w b o x => w.cell? ⟨b, o, none⟩ = some (str x) ∧ x.length ≤ maxLen) (fun cs m y hl h => by
    obtain ⟨v, rfl⟩ := list1 hl
    obtain ⟨s, e, _, hs⟩ := DataW.trod_string Tryz.underlying9 h
    simp at e
    subst e
    obtain ⟨t, rfl, ht⟩ := len_list s hs
    exact ⟨t, fun b off hc => ⟨hc 0 (by simp), ht⟩⟩) hf
  obtain ⟨⟨A, cap, h1, h2, h3, h4⟩, h5⟩ := Slc.beside h
  refine ⟨l, ⟨A, cap, h1, h2, h3, fun i hi => ?_⟩, h5⟩
  obtain ⟨b, off, e, hc⟩ := h4 i hi
  rw [Nat.mul_one] at hc
  exact ⟨b, off, e, hc⟩
set_option maxRecDepth 100000 in
theorem attrs_trodL {H : Type} {enc : TypeId × Value → H} {W : World} {c : Value} {n : Nat} {y : DataW H × List MemPlace} (hf : DataW.trod enc Tryz.prog W 0 (fun _ => true) true n 41 [c] = some y) : ∃ l : List AttrT, Attrs W c l ∧ ∀ a ∈ l, a.name.length ≤ maxLen ∧ ∀ x ∈ a.was, x.length ≤ maxLen := by
  obtain ⟨l, h⟩ := slice_trod (α := AttrT) ⟨[], 0, [], z3⟩ Tryz.underlying41 cellsAttr (by decide) (fun w b o a => AttrR w b o a ∧ (a.name.length ≤ maxLen ∧ ∀ x ∈ a.was, x.length ≤ maxLen)) (fun cs m y hl h => by
    obtain ⟨xs, m, _, _, _, hxl, hf⟩ := DataW.trod_struct Tryz.underlying53 h
    obtain ⟨v0, v1, v2, v3, v4, v5, rfl⟩ := list6 hl
    have hl4 : xs.length = 4 := hxl
    have g0 := hf 0 _ rfl
    have g1 := hf 1 _ rfl
    have g2 := hf 2 _ rfl
    have g3 := hf 3 _ rfl
    rw [List.getElem?_eq_getElem (by omega)] at g0 g1 g2 g3
    simp [cellsInt, cellsStr, cellsStrs, cellsValue] at g0 g1 g2 g3
    obtain ⟨s, e0, _, hs⟩ := DataW.trod_string Tryz.underlying9 g0
    obtain ⟨k, e1, _, _⟩ := DataW.trod_int Tryz.underlying3 g1
    obtain ⟨ws, hws, hwl⟩ := strs_trodL g2
    obtain ⟨q, e3⟩ := value_trod (by simp) g3
    simp at e0 e1 e3
    obtain ⟨rfl, rfl, rfl⟩ := e3
    subst e0 e1
    obtain ⟨t, rfl, ht⟩ := len_list s hs
    exact ⟨⟨t, k, ws, q⟩, fun b off hc => ⟨⟨v2, ⟨hc 0 (by simp), hc 1 (by simp), hc 2 (by simp), hc 3 (by simp), hc 4 (by simp), hc 5 (by simp)⟩, hws⟩, ht, hwl⟩⟩) hf
  exact ⟨l, Slc.beside h⟩
theorem namesT_max {l : List AttrT} (h : ∀ a ∈ l, a.name.length ≤ maxLen ∧ ∀ x ∈ a.was, x.length ≤ maxLen) : ∀ x ∈ namesT l, x.length ≤ maxLen := by
  intro x hx
  obtain ⟨a, ha, hx⟩ := List.mem_flatMap.1 hx
  rcases List.mem_cons.1 hx with rfl | hx
  · exact (h a ha).1
  · exact (h a ha).2 x hx
set_option maxRecDepth 100000 in
theorem tabs_trodL {H : Type} {enc : TypeId × Value → H} {W : World} {c : Value} {n : Nat} {y : DataW H × List MemPlace} (hf : DataW.trod enc Tryz.prog W 0 (fun _ => true) true n 22 [c] = some y) : ∃ l : List TabT, Tabs W c l ∧ Lens l := by
  obtain ⟨l, h⟩ := slice_trod (α := TabT) ⟨[], [], []⟩ Tryz.underlying22 cellsTable (by decide) (fun w b o t => TabR w b o t ∧ (t.name.length ≤ maxLen ∧ ∀ x ∈ namesT t.attrs, x.length ≤ maxLen)) (fun cs m y hl h => by
    obtain ⟨xs, m, _, _, _, hxl, hf⟩ := DataW.trod_struct Tryz.underlying44 h
    obtain ⟨v0, v1, v2, rfl⟩ := list3 hl
    have hl3 : xs.length = 3 := hxl
    have g0 := hf 0 _ rfl
    have g1 := hf 1 _ rfl
    have g2 := hf 2 _ rfl
    rw [List.getElem?_eq_getElem (by omega)] at g0 g1 g2
    simp [cellsStr, cellsAttrs, cellsInts] at g0 g1 g2
    obtain ⟨s, e0, _, hs⟩ := DataW.trod_string Tryz.underlying9 g0
    obtain ⟨la, hla, hln⟩ := attrs_trodL g1
    obtain ⟨lk, hlk⟩ := ints_trod g2
    simp at e0
    subst e0
    obtain ⟨t, rfl, ht⟩ := len_list s hs
    exact ⟨⟨t, la, lk⟩, fun b off hc => ⟨⟨v1, v2, ⟨hc 0 (by simp), hc 1 (by simp), hc 2 (by simp)⟩, hla, hlk⟩, ht, namesT_max hln⟩⟩) hf
  exact ⟨l, Slc.beside h⟩
set_option maxRecDepth 100000 in
theorem open_schemaL {H : Type} {enc : TypeId × Value → H} {W : World} {base : Nat} {v : Value} {d : DataW H} {p : List MemPlace} (hok : Value.okWide Tryz.prog W .any base 24 v) (h : DataW.Trod enc Tryz.prog W 0 (fun _ => true) true 24 v d p) :
    ∃ (z : Value) (l : List TabT), v = .agg #[z] ∧ Tabs W z l ∧ Lens l := by
  obtain ⟨cs, rfl, hsz⟩ := okWide_struct Tryz.underlying24 hok
  obtain ⟨z, rfl⟩ := array1 (hsz.trans cellsSchema)
  obtain ⟨fuel, hf⟩ := h
  obtain ⟨xs, n, _, _, _, hlen, hx⟩ := DataW.trod_struct Tryz.underlying24 hf
  have hl : xs.length = 1 := hlen
  have g0 := hx 0 _ rfl
  rw [List.getElem?_eq_getElem (by omega)] at g0
  simp [Value.cells, cellsTables] at g0
  obtain ⟨l, hl⟩ := tabs_trodL g0
  exact ⟨z, l, rfl, hl⟩
end Go.Proofs.YteokcgfbhaeklaaGreatDoor
