/- Tables: maps from words to values that are known one by one. -/
import Derived.Test.YtcgkaecaddpenaaGreatDoorPPb
import Derived.Maps.OwnSet
import Derived.Maps.Views
import Derived.StringKeys
namespace Go.Proofs.YtcgkaecaddpenaaGreatDoor
open Go.RowKit
open L7 (Tk)
open L8

abbrev dn (n : Nat) : DataW Unit := .lit (.int .i64 (n : Int))
open Classical in
/-- How a value of the table reads: by its place in a list. -/
noncomputable def rdL (vs : List Value) (v : Value) : Option (DataW Unit × List MemPlace) :=
  if h : ∃ i : Nat, vs[i]? = some v then some (dn (Classical.choose h), []) else none
theorem rdL_at {vs : List Value} (hd : vs.Nodup) {i : Nat} {v : Value} (h : vs[i]? = some v) : rdL vs v = some (dn i, []) := by
  have hx : ∃ i : Nat, vs[i]? = some v := ⟨i, h⟩
  unfold rdL
  rw [dif_pos hx]
  have h2 := Classical.choose_spec hx
  have hl := (List.getElem?_eq_some_iff.1 h).1
  have : i = Classical.choose hx := (List.getElem?_inj hl hd).1 (h.trans h2.symm)
  rw [← this]
theorem rdL_inv {vs : List Value} {i : Nat} {v : Value} {ps : List MemPlace} (h : rdL vs v = some (dn i, ps)) : vs[i]? = some v := by
  unfold rdL at h
  split at h
  · rename_i hx
    have h2 := Classical.choose_spec hx
    simp only [Option.some.injEq, Prod.mk.injEq] at h
    obtain ⟨h1, _⟩ := h
    injection h1 with h1
    injection h1 with _ h1
    have h3 : Classical.choose hx = i := by omega
    rw [h3] at h2
    exact h2
  · cases h
/-- The table in block m: its words so far; the value of the word with the index i is the one with the index i + 1 in vs. -/
structure Tab (w : World) (vs : List Value) (m : Nat) (ks : List Txt) : Prop where
  own : ∃ D : DataW Unit, w.ownsMap Tryz.prog 9 (rdL vs) m ks.length D ∧ Maps.IsMap D ∧ (∀ x, Maps.has D (.string x) = decide (x ∈ ks)) ∧ ∀ i x, ks[i]? = some x → D.atKey (.string x) (dn 0) = dn (i + 1)
theorem tab_new (w : World) (vs : List Value) : Tab (w.alloc (.map #[] 0)) vs w.heap.size [] :=
  ⟨.map [], World.ownsMap_made w _ _ _, ⟨_, rfl⟩, fun x => by simp; rfl, fun i x h => by simp at h⟩
theorem key_str {x : Txt} (h : x.length ≤ 200000) : keyOf Tryz.prog 9 (str x) = some (.string x) := by
  have := WideMaps.keyOf_string_mk Tryz.underlying9 (s := ⟨x.toArray⟩) (by rw [sz]; unfold maxLen; omega)
  simpa using this
theorem tab_store {w : World} {vs : List Value} {m : Nat} {ks : List Txt} (h : Tab w vs m ks) {T e : TypeId} (hT : Tryz.prog.underlying T = some (.map 9 e)) (hd : vs.Nodup) (x : Txt) (hx : x ∉ ks) (hl : x.length ≤ 200000) (hk : ks.length ≤ 1000) (v : Value) (hv : vs[ks.length + 1]? = some v) :
    ∃ w', (Instr.mapUpdate T (.map (some m)) (str x) v).run Tryz.prog w = .ok () w' ∧ Tab w' vs m (ks ++ [x]) ∧ w.mapTurned w' m := by
  obtain ⟨D, hown, hm, hh, ha⟩ := h.own
  obtain ⟨w', h1, h2, h3⟩ := hown.store (Maps.string_keyed Tryz.underlying9) hT (by unfold maxLen; omega) (key_str hl) (rdL_at hd hv)
  refine ⟨w', h1, ⟨_, by simpa using h2, ?_, ?_, ?_⟩, h3⟩
  · exact hm.put (Lit.string x) (dn (ks.length + 1))
  · intro y
    by_cases e : y = x
    · subst e
      have hkl : WideAt.IsKeyLit (Lit.string y) := trivial
      rw [Maps.has_put_same hm hkl]
      simp
    · rw [Maps.has_put_other (by simpa using e), hh]
      simp [e]
  · intro i y hi
    rcases Nat.lt_or_ge i ks.length with hlt | hge
    · rw [List.getElem?_append_left hlt] at hi
      have hne : y ≠ x := fun e => hx (by rw [← e]; exact List.mem_of_getElem? hi)
      rw [Maps.atKey_put_other (by simpa using hne)]
      exact ha i y hi
    · have hi2 : i = ks.length := by
        have := (List.getElem?_eq_some_iff.1 hi).1
        simp at this
        omega
      subst hi2
      simp at hi
      subst hi
      have hkl : WideAt.IsKeyLit (Lit.string x) := trivial
      rw [Maps.atKey_put_same hm hkl]
theorem tab_look {w : World} {vs : List Value} {m : Nat} {ks : List Txt} (h : Tab w vs m ks) {T e : TypeId} (hT : Tryz.prog.underlying T = some (.map 9 e)) (hd : vs.Nodup) {z : Value} (hz : (zeroValue e).run Tryz.prog w = .ok z w) (hz0 : vs[0]? = some z) (x : Txt) (hl : x.length ≤ 200000) :
    (∀ i, ks[i]? = some x → ∃ v, vs[i + 1]? = some v ∧ (Instr.lookup T (.map (some m)) (str x) true).run Tryz.prog w = .ok (.tuple #[v, .bool true]) w) ∧
    (x ∉ ks → (Instr.lookup T (.map (some m)) (str x) true).run Tryz.prog w = .ok (.tuple #[z, .bool false]) w) := by
  obtain ⟨D, hown, hm, hh, ha⟩ := h.own
  obtain ⟨v, ps, h1, h2⟩ := hown.look_ok (Maps.string_keyed Tryz.underlying9) hT hz (rdL_at hd hz0) (key_str hl)
  rw [hh] at h1
  refine ⟨fun i hi => ?_, fun hx => ?_⟩
  · rw [ha i x hi] at h2
    exact ⟨v, rdL_inv h2, by rw [h1, decide_eq_true (List.mem_of_getElem? hi)]⟩
  · rw [decide_eq_false hx] at h1
    rw [Maps.atKey_of_not_has (by rw [hh]; exact decide_eq_false hx)] at h2
    have h3 := rdL_inv h2
    rw [hz0] at h3
    cases h3
    exact h1
theorem Tab.keep {w w' : World} {vs : List Value} {m : Nat} {ks : List Txt} (h : Tab w vs m ks) (hb : Below w.heap.size w w') : Tab w' vs m ks := by
  obtain ⟨D, hown, r⟩ := h.own
  exact ⟨D, hown.kept (row := none) ⟨hb.os, hb.tape, hb.output, hb.size, fun k hk _ => hb.block k hk⟩ (by simp), r⟩
theorem tch_turned {g m : Nat} {a w w1 : World} (h : Near g a w) (ht : w.mapTurned w1 m) (hm : a.heap.size ≤ m) : Near g a w1 :=
  ⟨ht.grown.os.trans h.os, ht.grown.tape.trans h.tape, ht.grown.output.trans h.output, Nat.le_trans h.size ht.grown.size, fun i hi hs => (ht.grown.block i (Nat.lt_of_lt_of_le hi h.size) (fun e => by have := Option.some.inj e; omega)).trans (h.block i hi hs)⟩
theorem below_turned {B b : Nat} {w wr w1 : World} (h : Below B w wr) (hB : B ≤ b) (hw : B ≤ wr.heap.size) (ht : wr.mapTurned w1 b) : Below B w w1 :=
  h.grown ht.grown hw (fun k e => by have := Option.some.inj e; omega)
/-- A table that is filled word by word: the worlds on the way. -/
theorem tab_chain (W0 : World) (vs : List Value) (hd : vs.Nodup) (ks : List Txt) (hks : ks.Nodup) (hl : ∀ x ∈ ks, x.length ≤ 200000) (hn : ks.length ≤ 1000) (hv : vs.length = ks.length + 1) {T e : TypeId} (hT : Tryz.prog.underlying T = some (.map 9 e)) :
    ∀ n, n ≤ ks.length → ∃ f : Nat → World, f 0 = W0.alloc (.map #[] 0) ∧ (∀ i x v, i < n → ks[i]? = some x → vs[i + 1]? = some v → (Instr.mapUpdate T (.map (some W0.heap.size)) (str x) v).run Tryz.prog (f i) = .ok () (f (i + 1))) ∧ Tab (f n) vs W0.heap.size (ks.take n) ∧ Below W0.heap.size W0 (f n) := by
  intro n
  induction n with
  | zero => exact fun _ => ⟨fun _ => W0.alloc (.map #[] 0), rfl, fun i x v h => absurd h (by omega), tab_new W0 vs, below_box _ _⟩
  | succ n ih =>
    intro hle
    obtain ⟨f, f0, hu, ht, hb⟩ := ih (by omega)
    obtain ⟨x, hx⟩ : ∃ x, ks[n]? = some x := ⟨_, List.getElem?_eq_getElem (by omega)⟩
    obtain ⟨v, hv1⟩ : ∃ v, vs[n + 1]? = some v := ⟨_, List.getElem?_eq_getElem (by omega)⟩
    have htk : (ks.take n).length = n := by simp; omega
    have hni : x ∉ ks.take n := by
      intro hm
      obtain ⟨j, hj, e⟩ := List.getElem_of_mem hm
      have h1 : ks[j]? = some x := by
        rw [List.getElem_take] at e
        rw [List.getElem?_eq_getElem (by omega), e]
      have := (List.getElem?_inj (by omega) hks).1 (h1.trans hx.symm)
      omega
    obtain ⟨w', h1, h2, h3⟩ := tab_store ht hT hd x hni (hl x (List.mem_of_getElem? hx)) (by omega) v (by rw [htk]; exact hv1)
    refine ⟨fun i => if i = n + 1 then w' else f i, by simp [f0], fun i y u hi hy hu2 => ?_, ?_, ?_⟩
    · rcases Nat.lt_or_ge i n with hlt | hge
      · have e1 : ¬ i = n + 1 := by omega
        have e2 : ¬ i + 1 = n + 1 := by omega
        simp only [if_neg e1, if_neg e2]
        exact hu i y u hlt hy hu2
      · obtain rfl : i = n := by omega
        have e1 : ¬ i = i + 1 := by omega
        simp only [if_neg e1, if_pos]
        rw [hx] at hy
        rw [hv1] at hu2
        cases hy
        cases hu2
        exact h1
    · simp only [if_pos]
      rw [List.take_add_one, hx]
      exact h2
    · simp only [if_pos]
      exact below_turned hb (Nat.le_refl _) hb.size h3
end Go.Proofs.YtcgkaecaddpenaaGreatDoor
