/- More plain words on texts: good words, joined and split again; what two lists have in common. -/
import Derived.Test.YtfpegkdbimkhdaaDoorMath
namespace Go.Proofs.YtfpegkdbimkhdaaDoor
open Go

theorem u8_all {p : UInt8 → Prop} (h : ∀ i : Fin 256, p (UInt8.ofNat i.1)) (c : UInt8) : p c := by
  have := h ⟨c.toNat, c.toNat_lt⟩
  simpa using this
/-- A letter in lower case or a digit. -/
def good (c : UInt8) : Bool := decide (97 ≤ c.toNat ∧ c.toNat ≤ 122) || decide (48 ≤ c.toNat ∧ c.toNat ≤ 57)
theorem good_low {c : UInt8} (h : isW c = true) : good (low c) = true := u8_all (p := fun c => isW c = true → good (low c) = true) (by decide +kernel) c h
theorem good_isW {c : UInt8} (h : good c = true) : isW c = true ∧ low c = c := u8_all (p := fun c => good c = true → isW c = true ∧ low c = c) (by decide +kernel) c h

/-! ### Good words. -/
def GoodW (x : List UInt8) : Prop := x ≠ [] ∧ ∀ c ∈ x, good c = true
theorem wf_good : ∀ (r cur : List UInt8), (∀ c ∈ cur, good c = true) → ∀ x ∈ wordsFrom cur r, GoodW x
  | [], cur => fun h x hx => by
    rw [wf_nil] at hx
    split at hx
    · cases hx
    · rename_i hc
      rw [List.mem_singleton] at hx
      subst hx
      exact ⟨hc, h⟩
  | c :: r, cur => fun h x hx => by
    cases hc : isW c
    · rw [wf_s hc, List.mem_append] at hx
      rcases hx with hx | hx
      · split at hx
        · cases hx
        · rename_i hn
          rw [List.mem_singleton] at hx
          subst hx
          exact ⟨hn, h⟩
      · exact wf_good r [] (by simp) x hx
    · rw [wf_w hc] at hx
      refine wf_good r _ (fun d hd => ?_) x hx
      rcases List.mem_append.1 hd with hd | hd
      · exact h d hd
      · rw [List.mem_singleton] at hd
        subst hd
        exact good_low hc
theorem words_good (t : List UInt8) : ∀ x ∈ words t, GoodW x := wf_good t [] (by simp)
theorem wf_sep {c : UInt8} (hc : isW c = false) : ∀ (a cur b : List UInt8), wordsFrom cur (a ++ c :: b) = wordsFrom cur a ++ wordsFrom [] b
  | [], cur, b => by rw [List.nil_append, wf_s hc, wf_nil]
  | d :: a, cur, b => by
    rw [List.cons_append]
    cases hd : isW d
    · rw [wf_s hd, wf_s hd, wf_sep hc a [] b, List.append_assoc]
    · rw [wf_w hd, wf_w hd, wf_sep hc a _ b]
theorem words_sep {c : UInt8} (hc : isW c = false) (a b : List UInt8) : words (a ++ c :: b) = words a ++ words b := wf_sep hc a [] b
theorem wf_word : ∀ (x cur : List UInt8), (∀ c ∈ x, good c = true) → wordsFrom cur x = if cur ++ x = [] then [] else [cur ++ x]
  | [], cur, _ => by rw [wf_nil, List.append_nil]
  | c :: x, cur, h => by
    have hc := good_isW (h c (by simp))
    rw [wf_w hc.1, hc.2, wf_word x _ (fun d hd => h d (by simp [hd])), List.append_assoc]
    rfl
theorem words_word {x : List UInt8} (h : GoodW x) : words x = [x] := by
  unfold words
  rw [wf_word x [] h.2, List.nil_append, if_neg h.1]
theorem words_foldW (ws : List (List UInt8)) : (∀ x ∈ ws, GoodW x) → words (foldW ws) = ws := by
  refine snoc_ind (P := fun ws => (∀ x ∈ ws, GoodW x) → words (foldW ws) = ws) (fun _ => rfl) (fun pre x ih h => ?_) ws
  have hp := ih (fun y hy => h y (List.mem_append_left _ hy))
  have hx := h x (by simp)
  rw [foldW_snoc]
  split
  · rename_i h0
    rw [h0] at hp
    have e : pre = [] := hp.symm
    rw [e, words_word hx]
    rfl
  · rw [words_sep (by decide), hp, words_word hx]
theorem words_foldT (t : List UInt8) : words (foldT t) = words t := words_foldW _ (words_good t)
theorem foldT_idem (t : List UInt8) : foldT (foldT t) = foldT t := congrArg foldW (words_foldT t)

/-! ### The shape of a folded text. -/
def Shape (s : List UInt8) : Prop := ∀ i c, s[i]? = some c → good c = true ∨ (c = 32 ∧ 0 < i ∧ ∃ d, s[i + 1]? = some d ∧ good d = true)
theorem shape_good {x : List UInt8} (h : ∀ c ∈ x, good c = true) : Shape x := fun _ c hc => Or.inl (h c (List.mem_of_getElem? hc))
theorem shape_snoc {s x : List UInt8} (hs : Shape s) (h0 : s ≠ []) (hx : GoodW x) : Shape (s ++ 32 :: x) := fun i c hc => by
  rcases Nat.lt_trichotomy i s.length with h | h | h
  · rw [List.getElem?_append_left h] at hc
    rcases hs i c hc with g | ⟨e, hi, d, hd, g⟩
    · exact Or.inl g
    · have hlt : i + 1 < s.length := (List.getElem?_eq_some_iff.1 hd).1
      exact Or.inr ⟨e, hi, d, by rw [List.getElem?_append_left hlt]; exact hd, g⟩
  · rw [List.getElem?_append_right (by omega), show i - s.length = 0 by omega] at hc
    have e : c = 32 := by simpa using hc.symm
    obtain ⟨d, y, rfl⟩ : ∃ d y, x = d :: y := by
      cases x with
      | nil => exact absurd rfl hx.1
      | cons d y => exact ⟨d, y, rfl⟩
    refine Or.inr ⟨e, by have := List.length_pos_iff.2 h0; omega, d, ?_, hx.2 d (by simp)⟩
    rw [List.getElem?_append_right (by omega), show i + 1 - s.length = 1 by omega]
    rfl
  · rw [List.getElem?_append_right (by omega)] at hc
    obtain ⟨k, hk⟩ : ∃ k, i - s.length = k + 1 := ⟨i - s.length - 1, by omega⟩
    rw [hk, List.getElem?_cons_succ] at hc
    exact Or.inl (hx.2 c (List.mem_of_getElem? hc))
theorem shape_foldW (ws : List (List UInt8)) : (∀ x ∈ ws, GoodW x) → Shape (foldW ws) := by
  refine snoc_ind (P := fun ws => (∀ x ∈ ws, GoodW x) → Shape (foldW ws)) (fun _ => fun i c hc => by simp [foldW] at hc) (fun pre x ih h => ?_) ws
  have hp := ih (fun y hy => h y (List.mem_append_left _ hy))
  have hx := h x (by simp)
  rw [foldW_snoc]
  split
  · exact shape_good hx.2
  · rename_i h0
    exact shape_snoc hp h0 hx
theorem shape_foldT (t : List UInt8) : Shape (foldT t) := shape_foldW _ (words_good t)

/-! ### Two texts joined. -/
theorem foldW_append (ws : List (List UInt8)) (vs : List (List UInt8)) : (∀ x ∈ vs, GoodW x) → foldW (ws ++ vs) = if foldW ws = [] ∨ foldW vs = [] then foldW ws ++ foldW vs else foldW ws ++ 32 :: foldW vs := by
  refine snoc_ind (P := fun vs => (∀ x ∈ vs, GoodW x) → foldW (ws ++ vs) = if foldW ws = [] ∨ foldW vs = [] then foldW ws ++ foldW vs else foldW ws ++ 32 :: foldW vs) (fun _ => ?_) (fun pre x ih h => ?_) vs
  · have h0 : foldW [] = [] := rfl
    rw [List.append_nil, h0, if_pos (Or.inr rfl), List.append_nil]
  · have hx := (h x (by simp)).1
    rw [← List.append_assoc, foldW_snoc, foldW_snoc, ih (fun y hy => h y (List.mem_append_left _ hy))]
    by_cases a : foldW ws = []
    · simp [a]
    · by_cases b : foldW pre = []
      · simp [a, b, hx]
      · simp [a, b]
theorem foldT_join {c : UInt8} (hc : isW c = false) (a b : List UInt8) : foldT (a ++ c :: b) = if foldT a = [] ∨ foldT b = [] then foldT a ++ foldT b else foldT a ++ 32 :: foldT b := by
  unfold foldT
  rw [words_sep hc, foldW_append _ _ (words_good b)]
theorem tokens_join {c : UInt8} (hc : isW c = false) (a b : List UInt8) : sortD (words (a ++ c :: b)) = sortD (sortD (words a) ++ sortD (words b)) :=
  sortD_eq (fun z => by rw [words_sep hc, List.mem_append, List.mem_append, mem_sortD, mem_sortD])
theorem tokens_twice (a : List UInt8) : sortD (words (a ++ 10 :: a)) = sortD (words a) :=
  sortD_eq (fun z => by rw [words_sep (by decide), List.mem_append]; exact or_self_iff)

/-! ### A list turned. -/
def tot (l : List (List UInt8)) : Nat := (l.map (fun x => x.length + 1)).sum
theorem tot_append (l m : List (List UInt8)) : tot (l ++ m) = tot l + tot m := by simp [tot]
theorem tot_one (x : List UInt8) : tot [x] = x.length + 1 := by simp [tot]
theorem tot_cons (x : List UInt8) (l : List (List UInt8)) : tot (x :: l) = x.length + 1 + tot l := by simp [tot]
theorem wf_tot : ∀ (r cur : List UInt8), tot (wordsFrom cur r) ≤ cur.length + r.length + 1
  | [], cur => by
    rw [wf_nil]
    split
    · simp [tot]
    · rw [tot_one]; simp
  | c :: r, cur => by
    cases hc : isW c
    · have := wf_tot r []
      rw [wf_s hc, tot_append, List.length_cons]
      simp only [List.length_nil] at this
      split
      · simp only [tot, List.map_nil, List.sum_nil]
        simp only [tot] at this
        omega
      · rw [tot_one]; omega
    · have := wf_tot r (cur ++ [low c])
      rw [wf_w hc]
      simp only [List.length_append, List.length_cons, List.length_nil] at this ⊢
      omega
theorem tot_ins (x : List UInt8) : ∀ l, tot (ins x l) ≤ x.length + 1 + tot l
  | [] => by simp [ins, tot]
  | y :: r => by
    have := tot_ins x r
    unfold ins
    split
    · rw [tot_cons, tot_cons]; omega
    · split
      · rw [tot_cons]; omega
      · rw [tot_cons, tot_cons]; omega
theorem tot_sortD (l : List (List UInt8)) : tot (sortD l) ≤ tot l := by
  refine snoc_ind (P := fun l => tot (sortD l) ≤ tot l) (by simp [sortD]) (fun l x ih => ?_) l
  rw [sortD_snoc, tot_append, tot_one]
  have := tot_ins x (sortD l)
  omega
def turnW (l : List (List UInt8)) : List UInt8 := l.foldl (fun acc x => x ++ 44 :: acc) []
theorem turnW_snoc (pre : List (List UInt8)) (x : List UInt8) : turnW (pre ++ [x]) = x ++ 44 :: turnW pre := by simp [turnW]
theorem turnW_len (l : List (List UInt8)) : (turnW l).length = tot l := by
  refine snoc_ind (P := fun l => (turnW l).length = tot l) (by simp [turnW, tot]) (fun l x ih => ?_) l
  rw [turnW_snoc, tot_append, tot_one, List.length_append, List.length_cons, ih]
  omega
theorem words_turnW (l : List (List UInt8)) : (∀ x ∈ l, GoodW x) → words (turnW l) = l.reverse := by
  refine snoc_ind (P := fun l => (∀ x ∈ l, GoodW x) → words (turnW l) = l.reverse) (fun _ => rfl) (fun l x ih h => ?_) l
  rw [turnW_snoc, words_sep (by decide), words_word (h x (by simp)), ih (fun y hy => h y (List.mem_append_left _ hy)), List.reverse_append]
  rfl
theorem tokens_turned (t : List UInt8) : sortD (words (turnW (sortD (words t)))) = sortD (words t) := by
  rw [words_turnW _ (fun x hx => words_good t x ((mem_sortD _ _).1 hx))]
  exact sortD_eq (fun z => by rw [List.mem_reverse, mem_sortD])
theorem turned_len (t : List UInt8) : (turnW (sortD (words t))).length ≤ t.length + 1 := by
  rw [turnW_len]
  have h1 := tot_sortD (words t)
  have h2 := wf_tot t []
  simp only [List.length_nil] at h2
  unfold words at h1 ⊢
  omega

/-! ### Other bytes between the words, letters in upper case. -/
def caseB (b c : UInt8) : UInt8 := if isW c then (if 97 ≤ c.toNat ∧ c.toNat ≤ 122 then c - 32 else c) else b
theorem caseB_w (b c : UInt8) (h : isW c = true) : isW (caseB b c) = true ∧ low (caseB b c) = low c := by
  have e : caseB b c = (if 97 ≤ c.toNat ∧ c.toNat ≤ 122 then c - 32 else c) := if_pos h
  rw [e]
  exact u8_all (p := fun c => isW c = true → isW (if 97 ≤ c.toNat ∧ c.toNat ≤ 122 then c - 32 else c) = true ∧ low (if 97 ≤ c.toNat ∧ c.toNat ≤ 122 then c - 32 else c) = low c) (by decide +kernel) c h
theorem caseB_s (b c : UInt8) (h : isW c = false) : caseB b c = b := if_neg (by rw [h]; decide)
theorem wf_case {b : UInt8} (hb : isW b = false) : ∀ t cur, wordsFrom cur (t.map (caseB b)) = wordsFrom cur t
  | [], _ => rfl
  | c :: t, cur => by
    rw [List.map_cons]
    cases hc : isW c
    · rw [caseB_s b c hc, wf_s hb, wf_s hc, wf_case hb t []]
    · have h := caseB_w b c hc
      rw [wf_w h.1, wf_w hc, h.2, wf_case hb t _]
theorem words_case {b : UInt8} (hb : isW b = false) (t : List UInt8) : words (t.map (caseB b)) = words t := wf_case hb t []
theorem foldT_case {b : UInt8} (hb : isW b = false) (t : List UInt8) : foldT (t.map (caseB b)) = foldT t := congrArg foldW (words_case hb t)
end Go.Proofs.YtfpegkdbimkhdaaDoor
