/- What Apply returns; what stands of a copied schema when one of its tables has been altered. -/
import Derived.Test.YteokcgfbhaeklaaGreatDoorPCopy
import Derived.Test.YteokcgfbhaeklaaGreatDoorScAltB
import Derived.Test.YteokcgfbhaeklaaGreatDoorPLoc
namespace Go.Proofs.YteokcgfbhaeklaaGreatDoor
open Go.RowKit

theorem valid_tab {s : List TabT} (h : validB s = true) {t : TabT} (ht : t ∈ s) : (1 ≤ t.attrs.length ∧ t.attrs.length ≤ 12) ∧ (∀ a ∈ t.attrs, typedB a.kind a.dft = true) ∧ namesB (namesT t.attrs) = true ∧ Key t.key t.attrs.length := by
  unfold validB at h
  simp only [Bool.and_eq_true, decide_eq_true_eq, List.all_eq_true] at h
  have h1 := h.2.1 t ht
  unfold tabB keyB at h1
  simp only [Bool.and_eq_true, decide_eq_true_eq, List.all_eq_true] at h1
  exact ⟨h1.1, h1.2.1, h1.2.2.1, h1.2.2.2⟩
theorem valid_ne {s : List TabT} (h : validB s = true) : ∀ t ∈ s, 0 < t.attrs.length ∧ 0 < t.key.length := fun t ht => by
  obtain ⟨h1, _, _, h2⟩ := valid_tab h ht
  exact ⟨by omega, List.length_pos_iff.2 h2.1⟩
theorem valid_keys {s : List TabT} (h : validB s = true) {t : TabT} (ht : t ∈ s) : ∀ x ∈ t.key, 0 ≤ x ∧ x ≤ 4000 := fun x hx => by
  obtain ⟨h1, _, _, h2⟩ := valid_tab h ht
  have := h2.2.1 x hx
  omega

theorem OwnSch.below {w w' : World} {base g cap : Nat} {s : List TabT} {ps : List (TabT × Value × Value)} {c : Nat → Nat} (h : OwnSch w base g cap s ps c) (hb : Below w.heap.size w w') : OwnSch w' base g cap s ps c :=
  { h with
    row := own_heap h.row (fun q e => by cases e; exact hb.block g (h.row.lt g rfl).2)
    hi := Nat.le_trans h.hi hb.size
    own := fun j hj => by
      obtain ⟨qs, hq⟩ := h.own j hj
      have hl : ps.length = s.length := by rw [← h.fst, List.length_map]
      exact ⟨qs, hq.keep fun b _ h2 => hb.block b (by
        have := up_mono h.up (show j + 1 ≤ s.length by omega)
        have := h.hi
        omega)⟩ }
/-- The table at an index. -/
theorem OwnSch.at_ {w : World} {base g cap : Nat} {s : List TabT} {ps : List (TabT × Value × Value)} {c : Nat → Nat} (h : OwnSch w base g cap s ps c) {i : Nat} (hi : i < s.length) :
    ∃ va vk qs, TabW w g (i * 3) va vk s[i].name ∧ OwnT w (c i) (c (i + 1)) (s[i], va, vk) qs ∧ g < c i ∧ c (i + 1) ≤ w.heap.size := by
  have hl : ps.length = s.length := by rw [← h.fst, List.length_map]
  have hip : i < ps.length := by omega
  obtain ⟨qs, hq⟩ := h.own i hip
  obtain ⟨⟨t, va, vk⟩, hp⟩ : ∃ p, ps[i] = p := ⟨_, rfl⟩
  have ht : s[i] = t := by rw [fst_get h.fst hip hi, hp]
  rw [hp] at hq
  have hc : ∀ j, j < 3 → w.cell? ⟨g, i * 3 + j, none⟩ = (tabC (t, va, vk))[j]? := fun j hj => by
    rw [h.row.cellAt _ (by omega), flat_get tabC_len ps i j hip hj, hp]
  refine ⟨va, vk, qs, ⟨⟨by rw [ht]; exact hc 0 (by decide), hc 1 (by decide), hc 2 (by decide)⟩, h.row.frozenAt _, h.row.frozenAt _⟩, by rw [ht]; exact hq, ?_, ?_⟩
  · have := up_mono h.up (Nat.zero_le i)
    have := h.lo
    omega
  · have := up_mono h.up (show i + 1 ≤ s.length by omega)
    have := h.hi
    omega
/-- One table has been altered. -/
theorem OwnSch.done {w w' : World} {base g cap : Nat} {s : List TabT} {ps : List (TabT × Value × Value)} {c : Nat → Nat} (h : OwnSch w base g cap s ps c) {i : Nat} {t' : TabT} {e : Ending} (ha : AltPost w (c i) (c (i + 1)) g (i * 3) t' e w') :
    ∀ w2 : World, (∀ b, g ≤ b → b < w'.heap.size → w2.heap[b]? = w'.heap[b]?) → Tabs w2 (.slice (some ⟨g, 0, none⟩) s.length cap) (s.set i t') := by
  intro w2 hw2
  obtain ⟨_, hr, hx, ht⟩ := ha
  have hl : ps.length = s.length := by rw [← h.fst, List.length_map]
  have hcap : s.length ≤ cap := by
    rcases h.row.2 with ⟨e, _⟩ | ⟨g', cap', cur, e, _, _, hle, _⟩
    · cases e
    · cases e; exact hle
  refine ⟨some ⟨g, 0, none⟩, cap, by simp, by simpa using hcap, (fun e => by cases e), fun j hj => ⟨g, 0, rfl, ?_⟩⟩
  have hj' : j < s.length := by simpa using hj
  rw [Nat.zero_add]
  by_cases e : i = j
  · subst e
    rw [List.getElem_set_self]
    exact hr w2 hw2
  · rw [List.getElem_set_ne e]
    obtain ⟨va, vk, qs, h1, h2, h3, h4⟩ := h.at_ hj'
    have h2' : OwnT w' (c j) (c (j + 1)) (s[j], va, vk) qs := h2.keep fun b b1 b2 => ht.block b (by omega) (fun q => by
      rcases q with q | q
      · omega
      · rcases Nat.lt_trichotomy i j with hij | hij | hij
        · have := up_mono h.up (show i + 1 ≤ j by omega); omega
        · exact e hij
        · have := up_mono h.up (show j + 1 ≤ i by omega); omega)
    have hgz := hw2 g (Nat.le_refl _) (Nat.lt_of_lt_of_le (h.row.lt g rfl).2 ht.size)
    have h2'' : OwnT w2 (c j) (c (j + 1)) (s[j], va, vk) qs := h2'.keep fun b b1 b2 => hw2 b (by omega) (by have := ht.size; omega)
    have hxx : ∀ x, j * 3 ≤ x → x < j * 3 + 3 → w2.cell? ⟨g, x, none⟩ = w.cell? ⟨g, x, none⟩ := fun x x1 x2 => (World.cell?_of_block (a := ⟨g, x, none⟩) hgz).trans (hx x (by omega))
    exact ⟨va, vk, ⟨(hxx _ (by omega) (by omega)).trans h1.c0, (hxx _ (by omega) (by omega)).trans h1.c1, (hxx _ (by omega) (by omega)).trans h1.c2⟩, h2''.reads.1, h2''.reads.2⟩

/-- What Apply returns. -/
def ApplyPost (w : World) (r : List TabT × Int) (e : Ending) (w' : World) : Prop := ∃ v, e = .returned (.tuple #[.agg #[v], .int .i64 r.2]) ∧ Tabs w' v r.1 ∧ Below w.heap.size w w'
theorem apply_err {s : List TabT} {c : ChgT} {er : Int} (h : (locT s c).1 = er) (h0 : er ≠ 0) : applyT s c = ([], er) := by unfold applyT; rw [h, if_pos h0]
theorem apply_ok {s : List TabT} {c : ChgT} {i : Nat} {y : Int} (h : locT s c = (0, (i : Int), y)) (hi : i < s.length) : applyT s c = (s.set i (altT s[i] y.toNat c), 0) := by
  unfold applyT
  rw [h]
  simp only [ne_eq, not_true, if_false, Int.toNat_natCast]
  rw [modify_set _ _ hi]
end Go.Proofs.YteokcgfbhaeklaaGreatDoor
