/- The Jaro matching of two texts: it is the same for both orders; it is whole exactly for equal texts. -/
namespace Go.Proofs.YtendkghifcjffaaDoor
def inWin (w i j : Nat) : Bool := decide (i ≤ j + w) && decide (j ≤ i + w)
/-- Whether byte c at place i may be matched with place j of b, T being what is matched already. -/
def mayHit (b : List UInt8) (w i : Nat) (c : UInt8) (T : List Bool) (j : Nat) : Bool := (T[j]? == some false) && (b[j]? == some c) && inWin w i j
def hit (b : List UInt8) (w i : Nat) (c : UInt8) (T : List Bool) : Option Nat := (List.range b.length).find? (mayHit b w i c T)
def upd (T : List Bool) : Option Nat → List Bool
  | none => T
  | some j => T.set j true
def hitAt (a b : List UInt8) (w i : Nat) (T : List Bool) : Option Nat := match a[i]? with
  | none => none
  | some c => hit b w i c T
/-- What of b is matched behind i bytes of a. -/
def tk (a b : List UInt8) (w : Nat) : Nat → List Bool
  | 0 => List.replicate b.length false
  | i + 1 => (fun T => upd T (hitAt a b w i T)) (tk a b w i)
def hitA (a b : List UInt8) (w i : Nat) : Option Nat := hitAt a b w i (tk a b w i)
theorem tk_succ (a b : List UInt8) (w i : Nat) : tk a b w (i + 1) = upd (tk a b w i) (hitA a b w i) := rfl
theorem tk_len (a b : List UInt8) (w : Nat) : ∀ i, (tk a b w i).length = b.length
  | 0 => by simp [tk]
  | i + 1 => by
    rw [tk_succ]
    unfold upd
    split
    · exact tk_len a b w i
    · rw [List.length_set]; exact tk_len a b w i
theorem hit_some {b : List UInt8} {w i : Nat} {c : UInt8} {T : List Bool} {j : Nat} (hj : j < b.length) (h : mayHit b w i c T j = true) (hn : ∀ k < j, mayHit b w i c T k = false) : hit b w i c T = some j := by
  unfold hit
  rw [List.find?_range_eq_some]
  exact ⟨h, by simpa using hj, fun k hk => by rw [hn k hk]; rfl⟩
theorem hit_none {b : List UInt8} {w i : Nat} {c : UInt8} {T : List Bool} (hn : ∀ k < b.length, mayHit b w i c T k = false) : hit b w i c T = none := by
  unfold hit
  rw [List.find?_eq_none]
  intro k hk
  rw [hn k (by simpa using hk)]
  decide
theorem hit_inv {b : List UInt8} {w i : Nat} {c : UInt8} {T : List Bool} {j : Nat} (h : hit b w i c T = some j) : j < b.length ∧ mayHit b w i c T j = true ∧ ∀ k < j, mayHit b w i c T k = false := by
  unfold hit at h
  rw [List.find?_range_eq_some] at h
  exact ⟨by simpa using h.2.1, h.1, fun k hk => by have := h.2.2 k hk; simpa using this⟩
theorem hitA_at {a b : List UInt8} {w i : Nat} (hi : i < a.length) : hitA a b w i = hit b w i a[i] (tk a b w i) := by
  unfold hitA hitAt
  rw [List.getElem?_eq_getElem hi]
theorem hitA_out {a b : List UInt8} {w i : Nat} (hi : a.length ≤ i) : hitA a b w i = none := by
  unfold hitA hitAt
  rw [List.getElem?_eq_none hi]
theorem mayHit_iff {b : List UInt8} {w i : Nat} {c : UInt8} {T : List Bool} {j : Nat} : mayHit b w i c T j = true ↔ T[j]? = some false ∧ b[j]? = some c ∧ i ≤ j + w ∧ j ≤ i + w := by
  unfold mayHit inWin
  simp only [Bool.and_eq_true, beq_iff_eq, decide_eq_true_eq]
  exact ⟨fun h => ⟨h.1.1, h.1.2, h.2⟩, fun h => ⟨⟨h.1, h.2.1⟩, h.2.2⟩⟩
theorem tk_free (a b : List UInt8) (w : Nat) : ∀ i j, (tk a b w i)[j]? = some false ↔ j < b.length ∧ ∀ k < i, hitA a b w k ≠ some j
  | 0, j => by simp [tk, List.getElem?_replicate]
  | i + 1, j => by
    have ih := tk_free a b w i j
    rw [tk_succ]
    cases h : hitA a b w i with
    | none =>
      show (tk a b w i)[j]? = some false ↔ _
      rw [ih]
      refine ⟨fun g => ⟨g.1, fun k hk => ?_⟩, fun g => ⟨g.1, fun k hk => g.2 k (by omega)⟩⟩
      rcases Nat.lt_or_ge k i with q | q
      · exact g.2 k q
      · have : k = i := by omega
        rw [this, h]
        intro e
        cases e
    | some m =>
      show ((tk a b w i).set m true)[j]? = some false ↔ _
      by_cases hm : m = j
      · subst hm
        constructor
        · intro g
          rw [List.getElem?_set] at g
          rw [if_pos rfl] at g
          split at g <;> cases g
        · intro g
          exact absurd h (g.2 i (by omega))
      · rw [List.getElem?_set_ne hm, ih]
        refine ⟨fun g => ⟨g.1, fun k hk => ?_⟩, fun g => ⟨g.1, fun k hk => g.2 k (by omega)⟩⟩
        rcases Nat.lt_or_ge k i with q | q
        · exact g.2 k q
        · have : k = i := by omega
          rw [this, h]
          intro e
          exact hm (Option.some.inj e)
theorem tk_true (a b : List UInt8) (w i j : Nat) : (tk a b w i)[j]? = some true ↔ ∃ k < i, hitA a b w k = some j := by
  have hf := tk_free a b w i j
  constructor
  · intro h
    have hj : j < b.length := by
      rw [← tk_len a b w i]
      exact (List.getElem?_eq_some_iff.1 h).1
    by_cases g : ∃ k < i, hitA a b w k = some j
    · exact g
    · have := hf.2 ⟨hj, fun k hk e => g ⟨k, hk, e⟩⟩
      rw [h] at this
      cases this
  · rintro ⟨k, hk, e⟩
    have hj : j < (tk a b w i).length := by
      rw [tk_len]
      rcases Nat.lt_or_ge k a.length with q | q
      · rw [hitA_at q] at e
        exact (hit_inv e).1
      · rw [hitA_out q] at e
        cases e
    rw [List.getElem?_eq_getElem hj]
    cases h : (tk a b w i)[j] with
    | true => rfl
    | false =>
      have := (hf.1 (by rw [List.getElem?_eq_getElem hj, h])).2 k hk
      exact absurd e this
/-- What a match is, said of all matches. -/
theorem hitA_iff (a b : List UInt8) (w i j : Nat) : hitA a b w i = some j ↔ (∃ c, a[i]? = some c ∧ b[j]? = some c) ∧ i ≤ j + w ∧ j ≤ i + w ∧ (∀ k < i, hitA a b w k ≠ some j) ∧ ∀ k < j, hitA a b w i ≠ some k := by
  constructor
  · intro h
    rcases Nat.lt_or_ge i a.length with q | q
    · have h' := h
      rw [hitA_at q] at h'
      obtain ⟨h1, h2, h3⟩ := hit_inv h'
      obtain ⟨g1, g2, g3, g4⟩ := mayHit_iff.1 h2
      refine ⟨⟨a[i], List.getElem?_eq_getElem q, g2⟩, g3, g4, ((tk_free a b w i j).1 g1).2, fun k hk e => ?_⟩
      rw [h] at e
      have := Option.some.inj e
      omega
    · rw [hitA_out q] at h
      cases h
  · rintro ⟨⟨c, h1, h2⟩, h3, h4, h5, h6⟩
    obtain ⟨q, h1'⟩ := List.getElem?_eq_some_iff.1 h1
    obtain ⟨q2, h2'⟩ := List.getElem?_eq_some_iff.1 h2
    have hp : mayHit b w i a[i] (tk a b w i) j = true := mayHit_iff.2 ⟨(tk_free a b w i j).2 ⟨q2, h5⟩, by rw [h2, h1'], h3, h4⟩
    cases e : hitA a b w i with
    | none =>
      rw [hitA_at q] at e
      unfold hit at e
      rw [List.find?_eq_none] at e
      exact absurd hp (e j (by simpa using q2))
    | some m =>
      have e' := e
      rw [hitA_at q] at e'
      obtain ⟨m1, m2, m3⟩ := hit_inv e'
      rcases Nat.lt_trichotomy m j with g | g | g
      · exact absurd e (h6 m g)
      · rw [g]
      · have := m3 j g
        rw [hp] at this
        cases this
theorem hitA_swap (a b : List UInt8) (w : Nat) : ∀ n i j, i + j = n → (hitA a b w i = some j ↔ hitA b a w j = some i) := by
  intro n
  induction n using Nat.strongRecOn with
  | _ n ih =>
    intro i j hn
    rw [hitA_iff a b, hitA_iff b a]
    constructor
    · rintro ⟨⟨c, h1, h2⟩, h3, h4, h5, h6⟩
      exact ⟨⟨c, h2, h1⟩, h4, h3, fun k hk e => h6 k hk ((ih (i + k) (by omega) i k rfl).2 e), fun k hk e => h5 k hk ((ih (k + j) (by omega) k j rfl).2 e)⟩
    · rintro ⟨⟨c, h1, h2⟩, h3, h4, h5, h6⟩
      exact ⟨⟨c, h2, h1⟩, h4, h3, fun k hk e => h6 k hk ((ih (k + j) (by omega) k j rfl).1 e), fun k hk e => h5 k hk ((ih (i + k) (by omega) i k rfl).1 e)⟩
theorem hitA_self (a : List UInt8) (w : Nat) : ∀ n i j, i + j = n → (hitA a a w i = some j ↔ i = j ∧ i < a.length) := by
  intro n
  induction n using Nat.strongRecOn with
  | _ n ih =>
    intro i j hn
    rw [hitA_iff]
    constructor
    · rintro ⟨⟨c, h1, h2⟩, h3, h4, h5, h6⟩
      have q := (List.getElem?_eq_some_iff.1 h1).1
      have q2 := (List.getElem?_eq_some_iff.1 h2).1
      refine ⟨?_, q⟩
      rcases Nat.lt_trichotomy i j with g | g | g
      · exact absurd ((ih (i + i) (by omega) i i rfl).2 ⟨rfl, q⟩) (h6 i g)
      · exact g
      · exact absurd ((ih (j + j) (by omega) j j rfl).2 ⟨rfl, q2⟩) (h5 j g)
    · rintro ⟨rfl, q⟩
      refine ⟨⟨a[i], List.getElem?_eq_getElem q, List.getElem?_eq_getElem q⟩, by omega, by omega, fun k hk e => ?_, fun k hk e => ?_⟩
      · have := (ih (k + i) (by omega) k i rfl).1 e
        omega
      · have := (ih (i + k) (by omega) i k rfl).1 e
        omega

/-! ### The matched bytes. -/
def selTo (l : List UInt8) (p : Nat → Bool) : Nat → List UInt8
  | 0 => []
  | k + 1 => selTo l p k ++ (if p k then l[k]?.toList else [])
theorem selTo_yes {l : List UInt8} {p : Nat → Bool} {k : Nat} (hk : k < l.length) (h : p k = true) : selTo l p (k + 1) = selTo l p k ++ [l[k]] := by
  rw [selTo, if_pos h, List.getElem?_eq_getElem hk]; rfl
theorem selTo_no {l : List UInt8} {p : Nat → Bool} {k : Nat} (h : p k = false) : selTo l p (k + 1) = selTo l p k := by
  rw [selTo, if_neg (by rw [h]; decide), List.append_nil]
theorem selTo_len (l : List UInt8) (p : Nat → Bool) : ∀ k, (selTo l p k).length ≤ k
  | 0 => Nat.le_refl _
  | k + 1 => by
    have := selTo_len l p k
    rw [selTo]
    split
    · cases l[k]? <;> simp <;> omega
    · simp; omega
theorem selTo_congr {l : List UInt8} {p q : Nat → Bool} : ∀ {k : Nat}, (∀ i < k, p i = q i) → selTo l p k = selTo l q k
  | 0, _ => rfl
  | k + 1, h => by rw [selTo, selTo, selTo_congr (fun i hi => h i (by omega)), h k (by omega)]
theorem selTo_all {l : List UInt8} {p : Nat → Bool} : ∀ {k : Nat}, k ≤ l.length → (∀ i < k, p i = true) → selTo l p k = l.take k
  | 0, _, _ => by simp [selTo]
  | k + 1, hk, h => by
    rw [selTo_yes (by omega) (h k (by omega)), selTo_all (by omega) (fun i hi => h i (by omega)), List.take_succ_eq_append_getElem (by omega)]
theorem selTo_full {l : List UInt8} {p : Nat → Bool} : ∀ {k : Nat}, k ≤ l.length → (selTo l p k).length = k → ∀ i < k, p i = true
  | 0, _, _ => fun i hi => by omega
  | k + 1, hk, h => by
    have h1 := selTo_len l p k
    cases hp : p k with
    | false =>
      rw [selTo_no hp] at h
      omega
    | true =>
      rw [selTo_yes (by omega) hp, List.length_append] at h
      intro i hi
      rcases Nat.lt_or_ge i k with g | g
      · exact selTo_full (l := l) (p := p) (k := k) (by omega) (by simpa using h) i g
      · rw [show i = k by omega]; exact hp
def tb (T : List Bool) (j : Nat) : Bool := T[j]? == some true
theorem selTo_count (l : List UInt8) (T : List Bool) (hl : T.length = l.length) : ∀ k, k ≤ l.length → (selTo l (tb T) k).length = (T.take k).count true
  | 0, _ => by simp [selTo]
  | k + 1, hk => by
    have ih := selTo_count l T hl k (by omega)
    rw [List.take_succ_eq_append_getElem (by omega), List.count_append]
    cases h : T[k]'(by omega) with
    | true =>
      rw [selTo_yes (by omega) (by unfold tb; rw [List.getElem?_eq_getElem (by omega), h]; rfl), List.length_append, ih]
      simp
    | false =>
      rw [selTo_no (by unfold tb; rw [List.getElem?_eq_getElem (by omega), h]; rfl), ih]
      simp
def fa (a b : List UInt8) (w i : Nat) : Bool := (hitA a b w i).isSome
def IA (a b : List UInt8) (w i : Nat) : List UInt8 := selTo a (fa a b w) i
def IB (a b : List UInt8) (w : Nat) : List UInt8 := selTo b (tb (tk a b w a.length)) b.length
theorem IA_count (a b : List UInt8) (w : Nat) : ∀ i, i ≤ a.length → (IA a b w i).length = (tk a b w i).count true
  | 0, _ => by simp [IA, selTo, tk, List.count_replicate]
  | i + 1, hi => by
    have ih := IA_count a b w i (by omega)
    unfold IA at *
    cases h : hitA a b w i with
    | none =>
      rw [selTo_no (by unfold fa; rw [h]; rfl), tk_succ, h, ih]
      rfl
    | some j =>
      rw [selTo_yes (by omega) (by unfold fa; rw [h]; rfl), tk_succ, h, List.length_append, ih]
      show _ = ((tk a b w i).set j true).count true
      rw [hitA_at (by omega)] at h
      obtain ⟨h1, h2, _⟩ := hit_inv h
      have h3 := (mayHit_iff.1 h2).1
      obtain ⟨h4, h5⟩ := List.getElem?_eq_some_iff.1 h3
      rw [List.count_set h4, h5]
      simp
theorem IA_IB_len (a b : List UInt8) (w : Nat) : (IA a b w a.length).length = (IB a b w).length := by
  rw [IA_count a b w _ (Nat.le_refl _)]
  unfold IB
  rw [selTo_count b _ (tk_len a b w _) _ (Nat.le_refl _), List.take_of_length_le (by rw [tk_len]; exact Nat.le_refl _)]
theorem swap_fa (a b : List UInt8) (w j : Nat) : fa b a w j = tb (tk a b w a.length) j := by
  unfold fa tb
  rw [Bool.eq_iff_iff, Option.isSome_iff_exists, beq_iff_eq, tk_true]
  constructor
  · rintro ⟨i, h⟩
    have h' := (hitA_swap b a w _ j i rfl).1 h
    refine ⟨i, ?_, h'⟩
    rcases Nat.lt_or_ge i a.length with q | q
    · exact q
    · rw [hitA_out q] at h'
      cases h'
  · rintro ⟨i, _, h⟩
    exact ⟨i, (hitA_swap a b w _ i j rfl).1 h⟩
theorem swap_IA (a b : List UInt8) (w : Nat) : IA b a w b.length = IB a b w := selTo_congr (fun j _ => swap_fa a b w j)
theorem swap_IB (a b : List UInt8) (w : Nat) : IB b a w = IA a b w a.length := (swap_IA b a w).symm
theorem self_IA (a : List UInt8) (w : Nat) : IA a a w a.length = a := by
  unfold IA
  rw [selTo_all (Nat.le_refl _) (fun i hi => ?_), List.take_length]
  unfold fa
  rw [(hitA_self a w _ i i rfl).2 ⟨rfl, hi⟩]
  rfl
theorem self_IB (a : List UInt8) (w : Nat) : IB a a w = a := by rw [← swap_IA, self_IA]
theorem full_IA {a b : List UInt8} {w : Nat} (h : (IA a b w a.length).length = a.length) : IA a b w a.length = a := by
  have := selTo_full (p := fa a b w) (Nat.le_refl a.length) h
  unfold IA
  rw [selTo_all (Nat.le_refl _) this, List.take_length]
theorem full_IB {a b : List UInt8} {w : Nat} (h : (IB a b w).length = b.length) : IB a b w = b := by
  rw [← swap_IA] at *
  exact full_IA h
theorem IA_le (a b : List UInt8) (w : Nat) : (IA a b w a.length).length ≤ a.length ∧ (IA a b w a.length).length ≤ b.length := by
  refine ⟨selTo_len _ _ _, ?_⟩
  rw [IA_IB_len]
  exact selTo_len _ _ _
theorem IA_apart {a b : List UInt8} {w : Nat} (h : ∀ x ∈ a, x ∉ b) : IA a b w a.length = [] := by
  have hn : ∀ i, fa a b w i = false := by
    intro i
    unfold fa
    cases e : hitA a b w i with
    | none => rfl
    | some j =>
      obtain ⟨⟨c, h1, h2⟩, _⟩ := (hitA_iff a b w i j).1 e
      exact absurd (List.mem_of_getElem? h2) (h c (List.mem_of_getElem? h1))
  unfold IA
  have : ∀ k, selTo a (fa a b w) k = [] := by
    intro k
    induction k with
    | zero => rfl
    | succ k ih => rw [selTo_no (hn k), ih]
  exact this _
/-- At how many of the first k places two lists differ. -/
def diffTo (x y : List UInt8) : Nat → Nat
  | 0 => 0
  | k + 1 => diffTo x y k + (if x[k]? = y[k]? then 0 else 1)
theorem diffTo_le (x y : List UInt8) : ∀ k, diffTo x y k ≤ k
  | 0 => Nat.le_refl _
  | k + 1 => by
    have := diffTo_le x y k
    rw [diffTo]
    split <;> omega
theorem diffTo_sym (x y : List UInt8) : ∀ k, diffTo x y k = diffTo y x k
  | 0 => rfl
  | k + 1 => by
    rw [diffTo, diffTo, diffTo_sym x y k]
    by_cases h : x[k]? = y[k]?
    · rw [if_pos h, if_pos h.symm]
    · rw [if_neg h, if_neg (fun e => h e.symm)]
theorem diffTo_self (x : List UInt8) : ∀ k, diffTo x x k = 0
  | 0 => rfl
  | k + 1 => by rw [diffTo, diffTo_self x k, if_pos rfl]
theorem diffTo_zero (x y : List UInt8) : ∀ k, diffTo x y k = 0 → ∀ i < k, x[i]? = y[i]?
  | 0, _ => fun i hi => by omega
  | k + 1, h => by
    rw [diffTo] at h
    intro i hi
    rcases Nat.lt_or_ge i k with g | g
    · exact diffTo_zero x y k (by omega) i g
    · rw [show i = k by omega]
      by_cases e : x[k]? = y[k]?
      · exact e
      · rw [if_neg e] at h; omega
theorem diff_eq {x y : List UInt8} (hl : x.length = y.length) (h : diffTo x y x.length = 0) : x = y := by
  apply List.ext_getElem?
  intro i
  rcases Nat.lt_or_ge i x.length with g | g
  · exact diffTo_zero x y _ h i g
  · rw [List.getElem?_eq_none g, List.getElem?_eq_none (by omega)]
end Go.Proofs.YtendkghifcjffaaDoor
