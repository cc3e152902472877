/- What the functions that alter a table of the call's own return; the words for one attribute of a row. -/
import Derived.Test.YteokcgfbhaeklaaGreatDoorPCopy
namespace Go.Proofs.YteokcgfbhaeklaaGreatDoor
open Go.RowKit

/-- What an altering function returns: the table at ⟨g, o⟩ reads as t' (in whatever world that is the same from block g on), the row's other cells stand, nothing else has turned but the table's own blocks from lo to hi. -/
def AltPost (w : World) (lo hi g o : Nat) (t' : TabT) (e : Ending) (w' : World) : Prop :=
  e = .returned (.tuple #[]) ∧ (∀ w2 : World, (∀ b, g ≤ b → b < w'.heap.size → w2.heap[b]? = w'.heap[b]?) → TabR w2 g o t') ∧ (∀ x, (x < o ∨ o + 3 ≤ x) → w'.cell? ⟨g, x, none⟩ = w.cell? ⟨g, x, none⟩) ∧ Tch (fun b => b = g ∨ (lo ≤ b ∧ b < hi)) w w'
/-- The table at ⟨g, o⟩, which may be written. -/
structure TabW (w : World) (g o : Nat) (va vk : Value) (n : Txt) : Prop extends TabAt w g o va vk n where
  f1 : w.frozen? ⟨g, o + 1, none⟩ = false
  f2 : w.frozen? ⟨g, o + 2, none⟩ = false
theorem TabW.below {w w1 : World} {g o : Nat} {va vk : Value} {n : Txt} (h : TabW w g o va vk n) (hb : Below w.heap.size w w1) : TabW w1 g o va vk n :=
  { h.toTabAt.below hb with f1 := frozenB hb h.c1 h.f1, f2 := frozenB hb h.c2 h.f2 }
theorem TabW.lt {w : World} {g o : Nat} {va vk : Value} {n : Txt} (h : TabW w g o va vk n) : g < w.heap.size := cellLt h.c0
/-- A row with one element turned. -/
theorem modify_set {α : Type} (l : List α) (i : Nat) (hi : i < l.length) (f : α → α) : l.modify i f = l.set i (f l[i]) := by
  apply List.ext_getElem
  · simp
  · intro j h1 h2
    rw [List.getElem_modify, List.getElem_set]
    split <;> rename_i h <;> simp_all
theorem fst_set2 {α β : Type} (ps : List (α × β)) (i : Nat) (a : α) (b : β) : (ps.set i (a, b)).map Prod.fst = (ps.map Prod.fst).set i a := by
  rw [List.map_set]
theorem mem_set_cases {α : Type} {l : List α} {i : Nat} {x y : α} (h : y ∈ l.set i x) : y = x ∨ ∃ j, ∃ hj : j < l.length, j ≠ i ∧ y = l[j] := by
  obtain ⟨j, hj, rfl⟩ := List.getElem_of_mem h
  by_cases e : j = i
  · subst e; left; simp
  · right
    refine ⟨j, by simpa using hj, e, ?_⟩
    rw [List.getElem_set_ne (fun q => e q.symm)]
/-- One attribute of a table of the call's own has been turned: what is read then. -/
theorem alt_done {w wf : World} {lo hi : Nat} {t : TabT} {va vk : Value} {qs : List (AttrT × Value)} (ho : OwnT w lo hi (t, va, vk) qs) {col : Nat} {a' : AttrT} {wv' : Value} {S : Nat → Prop}
    (hrow : wf.ownsRow lo 53 6 va qs.length ((qs.set col (a', wv')).flatMap attrC)) (hw : OwnS wf lo wv' a'.was) (ht : Tch S w wf) (hS : ∀ j (hj : j < qs.length), j ≠ col → ∀ k, qs[j].2.ownBlock = some k → ¬ S k) (hK : ∀ k, vk.ownBlock = some k → ¬ S k) :
    ∀ w2 : World, (∀ b, lo ≤ b → b < wf.heap.size → w2.heap[b]? = wf.heap[b]?) → Attrs w2 va (t.attrs.set col a') ∧ Ints w2 vk t.key := by
  intro w2 h2
  have e : (qs.set col (a', wv')).map Prod.fst = t.attrs.set col a' := by
    rw [fst_set2, ho.fst]
  refine ⟨?_, ?_⟩
  · rw [← e]
    refine attrs_shut (attrs_of_own (by simp) (own_heap hrow (fun k ek => h2 k (hrow.lt k ek).1 (hrow.lt k ek).2))) (fun q hq => ?_)
    rcases mem_set_cases hq with rfl | ⟨j, hj, hne, rfl⟩
    · exact strs_of_own (own_heap hw (fun k ek => h2 k (hw.lt k ek).1 (hw.lt k ek).2))
    · have hj' := ho.was _ (List.getElem_mem hj)
      exact strs_of_own (own_heap hj' (fun k ek => (h2 k (hj'.lt k ek).1 (Nat.lt_of_lt_of_le (hj'.lt k ek).2 ht.size)).trans (ht.block k (hj'.lt k ek).2 (hS j hj hne k ek))))
  · have hk := ho.key
    exact ints_of_own rfl (own_heap hk (fun k ek => (h2 k (hk.lt k ek).1 (Nat.lt_of_lt_of_le (hk.lt k ek).2 ht.size)).trans (ht.block k (hk.lt k ek).2 (hK k ek))))
theorem altT_cast (t : TabT) (col : Nat) (c : ChgT) (hk : c.kind = 4) (hcol : col < t.attrs.length) : altT t col c = { t with attrs := t.attrs.set col { t.attrs[col] with kind := c.to, dft := c.dft } } := by
  unfold altT
  rw [if_neg (by omega), if_neg (by omega), if_neg (by omega), modify_set _ _ hcol]
theorem altT_rename (t : TabT) (col : Nat) (c : ChgT) (hk : c.kind = 3) (hcol : col < t.attrs.length) : altT t col c = { t with attrs := t.attrs.set col { t.attrs[col] with name := c.name, was := t.attrs[col].was ++ [t.attrs[col].name] } } := by
  unfold altT
  rw [if_neg (by omega), if_neg (by omega), if_pos hk, modify_set _ _ hcol]
theorem cell_of_heap {w w2 : World} {g o : Nat} {v : Value} (h : w2.heap[g]? = w.heap[g]?) (hc : w.cell? ⟨g, o, none⟩ = some v) : w2.cell? ⟨g, o, none⟩ = some v := by
  rw [World.cell?_of_block (a := ⟨g, o, none⟩) h]
  exact hc
theorem fst_get {α β : Type} {ps : List (α × β)} {l : List α} (h : ps.map Prod.fst = l) {i : Nat} (hi : i < ps.length) (hl : i < l.length) : l[i] = ps[i].1 := by
  subst h
  simp
end Go.Proofs.YteokcgfbhaeklaaGreatDoor
