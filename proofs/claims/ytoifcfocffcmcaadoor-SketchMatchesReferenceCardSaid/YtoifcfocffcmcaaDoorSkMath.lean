/- The plain mathematics of sketches: hashes, least numbers, sketches, unions, keys. No program is imported. -/
import Derived.Lib.Slices
import Derived.Lib.Join
import Derived.Lib.ItoaNum
namespace Go.Proofs.YtoifcfocffcmcaaDoor

/-! ### Hashes. -/
def stepH (m h : Int) (c : UInt8) : Int := (h * m + ((c.toNat : Int) + 1)) % 2147483647
def factH (s : Int) : Int := 16807 + s % 1000003
def hashT (t : List UInt8) (seed : Int) : Int := (t.foldl (stepH (factH (seed % 2147483647))) (seed % 2147483647) * 48271 + 11) % 2147483647
theorem hash_range (t : List UInt8) (seed : Int) : 0 ≤ hashT t seed ∧ hashT t seed < 2147483647 := by unfold hashT; omega
theorem hash_less (t : List UInt8) (seed : Int) : hashT t (seed - 2147483647) = hashT t seed := by
  unfold hashT
  rw [Int.sub_emod_right]
theorem step_range (m h : Int) (c : UInt8) : 0 ≤ stepH m h c ∧ stepH m h c < 2147483647 := by unfold stepH; omega

/-! ### The least of some numbers. -/
def least : List Int → Int
  | [] => -1
  | x :: l => l.foldl min x
theorem least_minOf {l : List Int} (h : l ≠ []) : Lib.minOf l = least l := by
  cases l with
  | nil => exact absurd rfl h
  | cons x l => simp [Lib.minOf, least]
theorem foldmin_le (l : List Int) : ∀ x, l.foldl min x ≤ x ∧ ∀ y ∈ l, l.foldl min x ≤ y := by
  induction l with
  | nil => intro x; simp
  | cons z l ih =>
    intro x
    obtain ⟨h1, h2⟩ := ih (min x z)
    refine ⟨by simp only [List.foldl_cons]; omega, fun y hy => ?_⟩
    simp only [List.foldl_cons]
    rcases List.mem_cons.1 hy with rfl | hy
    · omega
    · exact h2 y hy
theorem foldmin_mem (l : List Int) : ∀ x, l.foldl min x = x ∨ l.foldl min x ∈ l := by
  induction l with
  | nil => intro x; simp
  | cons z l ih =>
    intro x
    simp only [List.foldl_cons]
    rcases ih (min x z) with h | h
    · rw [h]
      rcases (show min x z = x ∨ min x z = z by omega) with e | e
      · exact Or.inl e
      · exact Or.inr (by rw [e]; exact List.mem_cons_self)
    · exact Or.inr (List.mem_cons_of_mem _ h)
theorem foldmax_ge (l : List Int) : ∀ x, x ≤ l.foldl max x ∧ ∀ y ∈ l, y ≤ l.foldl max x := by
  induction l with
  | nil => intro x; simp
  | cons z l ih =>
    intro x
    obtain ⟨h1, h2⟩ := ih (max x z)
    refine ⟨by simp only [List.foldl_cons]; omega, fun y hy => ?_⟩
    simp only [List.foldl_cons]
    rcases List.mem_cons.1 hy with rfl | hy
    · omega
    · exact h2 y hy
theorem foldmax_mem (l : List Int) : ∀ x, l.foldl max x = x ∨ l.foldl max x ∈ l := by
  induction l with
  | nil => intro x; simp
  | cons z l ih =>
    intro x
    simp only [List.foldl_cons]
    rcases ih (max x z) with h | h
    · rw [h]
      rcases (show max x z = x ∨ max x z = z by omega) with e | e
      · exact Or.inl e
      · exact Or.inr (by rw [e]; exact List.mem_cons_self)
    · exact Or.inr (List.mem_cons_of_mem _ h)
theorem minOf_le {l : List Int} (h : l ≠ []) : (∀ y ∈ l, Lib.minOf l ≤ y) ∧ Lib.minOf l ∈ l := by
  cases l with
  | nil => exact absurd rfl h
  | cons x l =>
    have e : Lib.minOf (x :: l) = l.foldl min x := by simp [Lib.minOf]
    rw [e]
    refine ⟨fun y hy => ?_, ?_⟩
    · rcases List.mem_cons.1 hy with rfl | hy
      · exact (foldmin_le l y).1
      · exact (foldmin_le l x).2 y hy
    · rcases foldmin_mem l x with h | h
      · rw [h]; exact List.mem_cons_self
      · exact List.mem_cons_of_mem _ h
theorem maxOf_ge {l : List Int} (h : l ≠ []) : (∀ y ∈ l, y ≤ Lib.maxOf l) ∧ Lib.maxOf l ∈ l := by
  cases l with
  | nil => exact absurd rfl h
  | cons x l =>
    have e : Lib.maxOf (x :: l) = l.foldl max x := by simp [Lib.maxOf]
    rw [e]
    refine ⟨fun y hy => ?_, ?_⟩
    · rcases List.mem_cons.1 hy with rfl | hy
      · exact (foldmax_ge l y).1
      · exact (foldmax_ge l x).2 y hy
    · rcases foldmax_mem l x with h | h
      · rw [h]; exact List.mem_cons_self
      · exact List.mem_cons_of_mem _ h
theorem least_le {l : List Int} {y : Int} (hy : y ∈ l) : least l ≤ y := by
  have hn : l ≠ [] := by intro e; subst e; cases hy
  rw [← least_minOf hn]
  exact (minOf_le hn).1 y hy
theorem least_mem {l : List Int} (h : l ≠ []) : least l ∈ l := by
  rw [← least_minOf h]
  exact (minOf_le h).2
theorem least_is {l : List Int} {x : Int} (hm : x ∈ l) (h : ∀ y ∈ l, x ≤ y) : least l = x := by
  have hn : l ≠ [] := by intro e; subst e; cases hm
  have h1 := least_le hm
  have h2 := h _ (least_mem hn)
  omega
/-- The least depends on the elements alone. -/
theorem least_ext {l m : List Int} (h : ∀ x, x ∈ l ↔ x ∈ m) : least l = least m := by
  by_cases hn : l = []
  · subst hn
    have : m = [] := by
      cases m with
      | nil => rfl
      | cons y m => exact absurd ((h y).2 List.mem_cons_self) (by simp)
    rw [this]
  · have hm : m ≠ [] := by
      intro e
      subst e
      have := (h _).1 (least_mem hn)
      cases this
    refine least_is ((h _).2 (least_mem hm)) (fun y hy => least_le ((h y).1 hy))
theorem least_app {a b : List Int} (ha : a ≠ []) (hb : b ≠ []) : least (a ++ b) = min (least a) (least b) := by
  refine least_is ?_ (fun y hy => ?_)
  · rcases (show min (least a) (least b) = least a ∨ min (least a) (least b) = least b by omega) with e | e
    · rw [e]; exact List.mem_append_left _ (least_mem ha)
    · rw [e]; exact List.mem_append_right _ (least_mem hb)
  · rcases List.mem_append.1 hy with h | h
    · have := least_le h; omega
    · have := least_le h; omega

/-! ### Sketches. -/
def hashes (toks : List (List UInt8)) (seed : Int) : List Int := toks.map (fun t => hashT t seed)
def leastH (toks : List (List UInt8)) (seed : Int) : Int := least (hashes toks seed)
def sk (toks : List (List UInt8)) (n : Nat) : List Int := (List.range n).map (fun i : Nat => leastH toks (i : Int))
/-- What Make returns: the numbers and the error. -/
def makeT (toks : List (List UInt8)) (n : Int) : List Int × Int := if 1 ≤ n ∧ n ≤ 64 then (sk toks n.toNat, 0) else ([], 1)
theorem leastH_nil (i : Int) : leastH [] i = -1 := rfl
theorem leastH_range {toks : List (List UInt8)} (h : toks ≠ []) (i : Int) : 0 ≤ leastH toks i ∧ leastH toks i < 2147483647 := by
  have hn : hashes toks i ≠ [] := by intro e; exact h (List.map_eq_nil_iff.1 e)
  obtain ⟨t, _, e⟩ := List.mem_map.1 (least_mem hn)
  have e' : leastH toks i = hashT t i := e.symm
  rw [e']
  exact hash_range t i
theorem sk_len (toks : List (List UInt8)) (n : Nat) : (sk toks n).length = n := by simp [sk]
theorem sk_get (toks : List (List UInt8)) (n : Nat) {i : Nat} (h : i < (sk toks n).length) : (sk toks n)[i] = leastH toks (i : Int) := by simp [sk]
theorem sk_take (toks : List (List UInt8)) {m n : Nat} (h : m ≤ n) : (sk toks n).take m = sk toks m := by
  unfold sk
  rw [← List.map_take, List.take_range, Nat.min_eq_left h]

def okS (l : List Int) : Prop := 1 ≤ l.length ∧ l.length ≤ 64 ∧ ((∀ x ∈ l, x = -1) ∨ ∀ x ∈ l, 0 ≤ x ∧ x < 2147483647)
instance (l : List Int) : Decidable (okS l) := by unfold okS; infer_instance
def isSk (l : List Int) : Bool := decide (okS l)
theorem isSk_ok {l : List Int} (h : isSk l = true) : okS l := of_decide_eq_true h
theorem isSk_mk {l : List Int} (h : okS l) : isSk l = true := decide_eq_true h
theorem isSk_no {l : List Int} (h : ¬ okS l) : isSk l = false := decide_eq_false h
theorem isSk_len {l : List Int} (h : isSk l = true) : 1 ≤ l.length ∧ l.length ≤ 64 := ⟨(isSk_ok h).1, (isSk_ok h).2.1⟩
theorem isSk_short {l : List Int} (h : l.length < 1 ∨ 64 < l.length) : isSk l = false := isSk_no (by rintro ⟨h1, h2, _⟩; omega)
theorem sk_isSk (toks : List (List UInt8)) {n : Nat} (h1 : 1 ≤ n) (h2 : n ≤ 64) : isSk (sk toks n) = true := by
  refine isSk_mk ⟨by rw [sk_len]; exact h1, by rw [sk_len]; exact h2, ?_⟩
  by_cases ht : toks = []
  · subst ht
    refine Or.inl (fun x hx => ?_)
    obtain ⟨i, _, rfl⟩ := List.mem_map.1 hx
    rfl
  · refine Or.inr (fun x hx => ?_)
    obtain ⟨i, _, rfl⟩ := List.mem_map.1 hx
    exact leastH_range ht _
/-- By the least and the greatest number. -/
theorem isSk_minmax {l : List Int} (h1 : 1 ≤ l.length) (h2 : l.length ≤ 64) :
    isSk l = ((decide (0 ≤ Lib.minOf l) && decide (Lib.maxOf l < 2147483647)) || (decide (Lib.minOf l = -1) && decide (Lib.maxOf l = -1))) := by
  have hn : l ≠ [] := by intro e; subst e; simp at h1
  obtain ⟨a1, a2⟩ := minOf_le hn
  obtain ⟨b1, b2⟩ := maxOf_ge hn
  rw [Bool.eq_iff_iff]
  simp only [Bool.or_eq_true, Bool.and_eq_true, decide_eq_true_eq, isSk]
  constructor
  · rintro ⟨_, _, h | h⟩
    · exact Or.inr ⟨h _ a2, h _ b2⟩
    · exact Or.inl ⟨(h _ a2).1, (h _ b2).2⟩
  · rintro (⟨c1, c2⟩ | ⟨c1, c2⟩)
    · exact ⟨h1, h2, Or.inr (fun x hx => by have := a1 x hx; have := b1 x hx; omega)⟩
    · exact ⟨h1, h2, Or.inl (fun x hx => by have := a1 x hx; have := b1 x hx; omega)⟩
/-- The empty sketch. -/
def emp (l : List Int) : Bool := decide (l.headD 0 = -1)
theorem headD_get {l : List Int} (h : 0 < l.length) : l.headD 0 = l[0] := by
  cases l with
  | nil => simp at h
  | cons x l => rfl
theorem sk_emp (toks : List (List UInt8)) {n : Nat} (h1 : 1 ≤ n) : emp (sk toks n) = decide (toks = []) := by
  unfold emp
  rw [headD_get (by rw [sk_len]; omega), sk_get]
  by_cases ht : toks = []
  · subst ht; simp [leastH_nil]
  · have := leastH_range ht ((0 : Nat) : Int)
    rw [decide_eq_false ht, decide_eq_false (by omega)]
def alike (a b : List Int) : Bool := isSk a && (isSk b && decide (a.length = b.length))
/-- What Union returns. -/
def uniS (a b : List Int) : List Int := if emp a = true then b else if emp b = true then a else List.zipWith min a b
def unionT (a b : List Int) : List Int × Int := if alike a b = true then (uniS a b, 0) else ([], 1)
/-- At how many of the first j indices two lists are equal. -/
def eqK (a b : List Int) (j : Nat) : Nat := ((List.range j).filter (fun k => a.getD k 0 == b.getD k 0)).length
theorem eqK_zero (a b : List Int) : eqK a b 0 = 0 := rfl
theorem eqK_succ (a b : List Int) (j : Nat) : eqK a b (j + 1) = eqK a b j + (if a.getD j 0 = b.getD j 0 then 1 else 0) := by
  unfold eqK
  rw [List.range_succ, List.filter_append, List.length_append]
  congr 1
  by_cases h : a.getD j 0 = b.getD j 0
  · rw [if_pos h]; simp only [List.filter_cons, h, beq_self_eq_true, if_true, List.filter_nil, List.length_singleton]
  · rw [if_neg h]; simp only [List.filter_cons, beq_eq_false_iff_ne.2 h, List.filter_nil]; rfl
theorem eqK_le (a b : List Int) (j : Nat) : eqK a b j ≤ j := by
  induction j with
  | zero => exact Nat.le_refl _
  | succ j ih => rw [eqK_succ]; split <;> omega
theorem eqK_comm (a b : List Int) (j : Nat) : eqK a b j = eqK b a j := by
  induction j with
  | zero => rfl
  | succ j ih =>
    rw [eqK_succ, eqK_succ, ih]
    by_cases h : a.getD j 0 = b.getD j 0
    · rw [if_pos h, if_pos h.symm]
    · rw [if_neg h, if_neg (fun e => h e.symm)]
theorem eqK_all (a b : List Int) (j : Nat) : eqK a b j = j ↔ ∀ k < j, a.getD k 0 = b.getD k 0 := by
  induction j with
  | zero => simp [eqK_zero]
  | succ j ih =>
    rw [eqK_succ]
    have := eqK_le a b j
    constructor
    · intro h k hk
      by_cases q : a.getD j 0 = b.getD j 0
      · rw [if_pos q] at h
        rcases (show k < j ∨ k = j by omega) with g | rfl
        · exact ih.1 (by omega) k g
        · exact q
      · rw [if_neg q] at h; omega
    · intro h
      rw [if_pos (h j (by omega)), ih.2 (fun k hk => h k (by omega))]
def eqN (a b : List Int) : Nat := eqK a b a.length

/-! ### Keys. -/
def keyT (band : Nat) (l : List Int) : List UInt8 := Lib.itoa (band : Int) ++ (58 :: Lib.join (l.map Lib.itoa) [46])
def bandK (s : List Int) (rows k : Nat) : List UInt8 := keyT k ((s.drop (k * rows)).take rows)
def keysT (s : List Int) (rows : Nat) : List (List UInt8) := (List.range (s.length / rows)).map (bandK s rows)
def okB (s : List Int) (rows : Int) : Bool := isSk s && (decide (1 ≤ rows) && decide ((s.length : Int) % rows = 0))
def bandsT (s : List Int) (rows : Int) : List (List UInt8) × Int := if okB s rows = true then (if emp s = true then [] else keysT s rows.toNat, 0) else ([], 1)
end Go.Proofs.YtoifcfocffcmcaaDoor
