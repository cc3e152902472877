/- The plain mathematics of the reference of sketches: a list's check one by one, the least number one by one, a key one by one. No program is imported. -/
import Derived.Test.YtoifcfocffcmcaaDoorSkMath
namespace Go.Proofs.YtoifcfocffcmcaaDoor

/-- Whether a number is right in a list that begins with f. -/
def vB (f x : Int) : Bool := decide (-1 ≤ x) && (decide (x < 2147483647) && (decide (x < 0) == decide (f < 0)))
theorem vB_iff (f x : Int) : vB f x = true ↔ -1 ≤ x ∧ x < 2147483647 ∧ (x < 0 ↔ f < 0) := by
  unfold vB
  simp only [Bool.and_eq_true, decide_eq_true_eq, beq_iff_eq, decide_eq_decide]
theorem isSk_all {l : List Int} (h1 : 1 ≤ l.length) (h2 : l.length ≤ 64) : isSk l = l.all (vB (l.headD 0)) := by
  rw [Bool.eq_iff_iff, List.all_eq_true]
  have hm : l.headD 0 ∈ l := by rw [headD_get (by omega)]; exact List.getElem_mem _
  constructor
  · intro h x hx
    rw [vB_iff]
    obtain ⟨_, _, h3 | h3⟩ := isSk_ok h
    · have := h3 x hx
      have := h3 _ hm
      omega
    · have := h3 x hx
      have := h3 _ hm
      omega
  · intro h
    refine isSk_mk ⟨h1, h2, ?_⟩
    have hh := (vB_iff _ _).1 (h _ hm)
    by_cases hn : l.headD 0 < 0
    · refine Or.inl (fun x hx => ?_)
      have := (vB_iff _ _).1 (h x hx)
      omega
    · refine Or.inr (fun x hx => ?_)
      have := (vB_iff _ _).1 (h x hx)
      omega
/-- The least number, one by one. -/
theorem least_snoc {l : List Int} (hl : ∀ y ∈ l, 0 ≤ y) (h : Int) : least (l ++ [h]) = if least l < 0 ∨ h < least l then h else least l := by
  by_cases hn : l = []
  · subst hn
    rw [if_pos (Or.inl (by decide))]
    rfl
  · have h0 := hl _ (least_mem hn)
    rw [least_app hn (by simp)]
    show min (least l) h = _
    split <;> omega
theorem least_emp : least [] = -1 := rfl
theorem hashes_take (toks : List (List UInt8)) (i : Int) {k : Nat} (hk : k < toks.length) : hashes (toks.take (k + 1)) i = hashes (toks.take k) i ++ [hashT toks[k] i] := by
  unfold hashes
  rw [List.take_succ_eq_append_getElem hk, List.map_append]
  rfl
theorem hashes_nonneg (toks : List (List UInt8)) (i : Int) : ∀ y ∈ hashes toks i, 0 ≤ y := by
  intro y hy
  obtain ⟨t, _, rfl⟩ := List.mem_map.1 hy
  exact (hash_range t i).1
theorem least_step (toks : List (List UInt8)) (i : Int) {k : Nat} (hk : k < toks.length) :
    leastH (toks.take (k + 1)) i = if leastH (toks.take k) i < 0 ∨ hashT toks[k] i < leastH (toks.take k) i then hashT toks[k] i else leastH (toks.take k) i := by
  unfold leastH
  rw [hashes_take toks i hk, least_snoc (hashes_nonneg _ i)]
theorem leastH_low (toks : List (List UInt8)) (i : Int) : -1 ≤ leastH toks i ∧ leastH toks i < 2147483647 := by
  by_cases h : toks = []
  · subst h; rw [leastH_nil]; omega
  · have := leastH_range h i
    omega
theorem sk_more (toks : List (List UInt8)) (n : Nat) {i : Nat} (h : i < n) : (sk toks n).take (i + 1) = (sk toks n).take i ++ [leastH toks (i : Int)] := by
  rw [List.take_succ_eq_append_getElem (by rw [sk_len]; exact h), sk_get]
theorem zip_more {a b : List Int} {j : Nat} (ha : j < a.length) (hb : j < b.length) : (List.zipWith min a b).take (j + 1) = (List.zipWith min a b).take j ++ [min a[j] b[j]] := by
  rw [List.take_succ_eq_append_getElem (by simp; omega), List.getElem_zipWith]
/-- A key's text after k numbers. -/
def keyP (band : Nat) (l : List Int) (k : Nat) : List UInt8 := Lib.itoa (band : Int) ++ (58 :: Lib.join ((l.take k).map Lib.itoa) [46])
theorem keyP_zero (band : Nat) (l : List Int) : keyP band l 0 = Lib.itoa (band : Int) ++ [58] := by
  unfold keyP
  simp [Lib.join_nil]
theorem keyP_all (band : Nat) (l : List Int) : keyP band l l.length = keyT band l := by
  unfold keyP keyT
  rw [List.take_length]
theorem joinTail_snoc (sep x : List UInt8) (r : List (List UInt8)) : Lib.joinTail sep (r ++ [x]) = Lib.joinTail sep r ++ (sep ++ x) := by
  simp [Lib.joinTail]
theorem join_snoc (sep x : List UInt8) {r : List (List UInt8)} (h : r ≠ []) : Lib.join (r ++ [x]) sep = Lib.join r sep ++ (sep ++ x) := by
  cases r with
  | nil => exact absurd rfl h
  | cons y r => rw [List.cons_append, Lib.join_cons, Lib.join_cons, joinTail_snoc, List.append_assoc]
theorem join_one (sep x : List UInt8) : Lib.join [x] sep = x := by
  rw [Lib.join_cons]
  simp [Lib.joinTail]
theorem keyP_first (band : Nat) (l : List Int) (h : 0 < l.length) : keyP band l 1 = keyP band l 0 ++ Lib.itoa l[0] := by
  unfold keyP
  rw [List.take_succ_eq_append_getElem h]
  simp [Lib.join_nil, join_one]
theorem keyP_more (band : Nat) (l : List Int) {k : Nat} (hk : 0 < k) (h : k < l.length) : keyP band l (k + 1) = (keyP band l k ++ [46]) ++ Lib.itoa l[k] := by
  unfold keyP
  rw [List.take_succ_eq_append_getElem h, List.map_append, List.map_singleton, join_snoc]
  · simp
  · intro e
    have := congrArg List.length e
    simp only [List.length_map, List.length_take, List.length_nil] at this
    omega
theorem keys_more (s : List Int) {n k i : Nat} (hn : 0 < n) (hs : s.length = k * n) (h : i < k) : (keysT s n).take (i + 1) = (keysT s n).take i ++ [bandK s n i] := by
  have hl : (keysT s n).length = k := by
    unfold keysT
    rw [hs, Nat.mul_div_cancel _ hn]
    simp
  rw [List.take_succ_eq_append_getElem (by omega)]
  simp [keysT]
end Go.Proofs.YtoifcfocffcmcaaDoor
