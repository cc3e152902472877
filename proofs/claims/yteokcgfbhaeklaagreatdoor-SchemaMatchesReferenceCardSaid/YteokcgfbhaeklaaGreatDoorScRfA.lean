/- Words for the reference's Apply: what is not frozen; the copied schema with one table changed. -/
import Derived.Test.YteokcgfbhaeklaaGreatDoorPRefK
import Derived.Test.YteokcgfbhaeklaaGreatDoorPCopy
import Derived.Deep.Cut
namespace Go.Proofs.YteokcgfbhaeklaaGreatDoor
open Go.RowKit

/-- A block of which one cell is free is free. -/
theorem frz_all {w w1 : World} {b i : Nat} {v : Value} (hb : Below w.heap.size w w1) (hc : w.cell? ⟨b, i, none⟩ = some v) (h0 : ∀ j, w.frozen? ⟨b, j, none⟩ = false) (j : Nat) : w1.frozen? ⟨b, j, none⟩ = false :=
  (hb.frozen (p := ⟨b, j, none⟩) (cellLt hc)).trans (h0 j)
theorem src_attr1 (w : World) (t : TypeId) (p : AttrT × Value) (h : p.2.oneCell' = true) : Src (w.alloc (.cells (attrC p).toArray t)) (some ⟨w.heap.size, 0, none⟩) 1 1 6 (attrC p) :=
  ⟨rfl, Nat.le_refl _, (fun e => by cases e), fun ad e j u hj => by
    cases e
    exact World.news_of_block (heap_alloc_new w _) j u (by simpa using hj), fun u hu => by
    simp only [attrC, List.mem_cons, List.not_mem_nil, or_false] at hu
    rcases hu with rfl | rfl | rfl | rfl | rfl | rfl <;> first | exact h | rfl⟩
theorem apply_end {w W : World} {s : List TabT} {ps : List (TabT × Value × Value)} {base g cap k : Nat} {u : TabT} {va vk : Value} (hf : ps.map Prod.fst = s) (hps : ∀ p ∈ ps, Attrs w p.2.1 p.1.attrs ∧ Ints w p.2.2 p.1.key) (hb : Below w.heap.size w W)
    (ho : W.ownsRow base 44 3 (.slice (some ⟨g, 0, none⟩) s.length cap) s.length ((ps.set k (u, va, vk)).flatMap tabC)) (hu : Attrs W va u.attrs ∧ Ints W vk u.key) : Tabs W (.slice (some ⟨g, 0, none⟩) s.length cap) (s.set k u) := by
  have hl : ps.length = s.length := by rw [← hf, List.length_map]
  have h1 := tabs_of_own (n := s.length) (by rw [List.length_set, hl]) ho
  have h2 := tabs_shut h1 (fun p hp => by
    rcases List.mem_or_eq_of_mem_set hp with hp | rfl
    · exact ⟨(hps p hp).1.below hb, (hps p hp).2.below hb⟩
    · exact hu)
  rw [List.map_set, hf] at h2
  exact h2
end Go.Proofs.YteokcgfbhaeklaaGreatDoor
