/- Plain words on texts: the words of a text, lists in strict order. -/
import Derived.Lib.Case
namespace Go.Proofs.YtendkghifcjffaaGreatDoor.L3
open Go

theorem snoc_ind {α : Type} {P : List α → Prop} (h0 : P []) (hs : ∀ l x, P l → P (l ++ [x])) (l : List α) : P l := by
  have h : ∀ m : List α, P m.reverse := fun m => by
    induction m with
    | nil => exact h0
    | cons a m ih => rw [List.reverse_cons]; exact hs _ _ ih
  have := h l.reverse
  rwa [List.reverse_reverse] at this

/-! ### The order of texts by their bytes. -/
def ltS : List UInt8 → List UInt8 → Bool
  | _, [] => false
  | [], _ :: _ => true
  | a :: x, b :: y => decide (a.toNat < b.toNat) || (decide (a.toNat = b.toNat) && ltS x y)
theorem ltS_irrefl : ∀ x, ltS x x = false
  | [] => rfl
  | a :: x => by simp [ltS, ltS_irrefl x]
theorem ltS_asymm : ∀ x y, ltS x y = true → ltS y x = false
  | [], [], h => by simp [ltS] at h
  | [], _ :: _, _ => rfl
  | _ :: _, [], h => by simp [ltS] at h
  | a :: x, b :: y, h => by
    simp only [ltS, Bool.or_eq_true, Bool.and_eq_true, decide_eq_true_eq] at h
    rcases h with h | ⟨h, h2⟩
    · simp [ltS]; omega
    · simp [ltS, h, ltS_asymm x y h2]
theorem ltS_total : ∀ x y, x ≠ y → ltS x y = true ∨ ltS y x = true
  | [], [], h => absurd rfl h
  | [], _ :: _, _ => Or.inl rfl
  | _ :: _, [], _ => Or.inr rfl
  | a :: x, b :: y, h => by
    rcases Nat.lt_trichotomy a.toNat b.toNat with h1 | h1 | h1
    · exact Or.inl (by simp [ltS, h1])
    · have hxy : x ≠ y := fun e => h (by rw [e, UInt8.toNat_inj.1 h1])
      rcases ltS_total x y hxy with h2 | h2
      · exact Or.inl (by simp [ltS, h1, h2])
      · exact Or.inr (by simp [ltS, h1, h2])
    · exact Or.inr (by simp [ltS, h1])
theorem ltS_trans : ∀ x y z, ltS x y = true → ltS y z = true → ltS x z = true
  | _, [], _, h, _ => by unfold ltS at h; cases h
  | _, _ :: _, [], _, h => by unfold ltS at h; cases h
  | [], _ :: _, _ :: _, _, _ => rfl
  | a :: x, b :: y, c :: z, h, k => by
    simp only [ltS, Bool.or_eq_true, Bool.and_eq_true, decide_eq_true_eq] at h k ⊢
    rcases h with h | ⟨h, h2⟩ <;> rcases k with k | ⟨k, k2⟩
    · exact Or.inl (by omega)
    · exact Or.inl (by omega)
    · exact Or.inl (by omega)
    · exact Or.inr ⟨by omega, ltS_trans x y z h2 k2⟩
theorem ltS_ne {x y : List UInt8} (h : ltS x y = true) : x ≠ y := fun e => by rw [e, ltS_irrefl] at h; cases h

/-! ### The words of a text. -/
def isW (c : UInt8) : Bool := decide (97 ≤ c.toNat ∧ c.toNat ≤ 122) || (decide (65 ≤ c.toNat ∧ c.toNat ≤ 90) || decide (48 ≤ c.toNat ∧ c.toNat ≤ 57))
/-- A letter in lower case. -/
abbrev low (c : UInt8) : UInt8 := Lib.lowerB c
theorem isW_low128 {c : UInt8} (h : isW c = true) : c.toNat < 128 := by
  simp only [isW, Bool.or_eq_true, decide_eq_true_eq] at h
  omega
/-- The words of what is left, where cur has been read of the next one. -/
def wordsFrom (cur : List UInt8) : List UInt8 → List (List UInt8)
  | [] => if cur = [] then [] else [cur]
  | c :: r => if isW c then wordsFrom (cur ++ [low c]) r else (if cur = [] then [] else [cur]) ++ wordsFrom [] r
def words (t : List UInt8) : List (List UInt8) := wordsFrom [] t
theorem wf_nil (cur : List UInt8) : wordsFrom cur [] = if cur = [] then [] else [cur] := rfl
theorem wf_w {cur : List UInt8} {c : UInt8} {r : List UInt8} (h : isW c = true) : wordsFrom cur (c :: r) = wordsFrom (cur ++ [low c]) r := by rw [wordsFrom, if_pos h]
theorem wf_s {cur : List UInt8} {c : UInt8} {r : List UInt8} (h : isW c = false) : wordsFrom cur (c :: r) = (if cur = [] then [] else [cur]) ++ wordsFrom [] r := by rw [wordsFrom, if_neg (by rw [h]; decide)]
theorem wf_len : ∀ (t cur : List UInt8), (wordsFrom cur t).length ≤ t.length + 1 ∧ (cur = [] → (wordsFrom cur t).length ≤ t.length)
  | [], cur => by
    rw [wf_nil]
    by_cases h : cur = []
    · simp [h]
    · simp [h]
  | c :: r, cur => by
    have i0 := (wf_len r []).2 rfl
    have i1 := (wf_len r (cur ++ [low c])).1
    cases hc : isW c
    · rw [wf_s hc]
      by_cases h : cur = []
      · simp [h]; omega
      · simp [h]; omega
    · rw [wf_w hc]
      refine ⟨by simp; omega, fun _ => by simp; omega⟩
theorem words_len (t : List UInt8) : (words t).length ≤ t.length := (wf_len t []).2 rfl
/-- No word is longer than its text. -/
theorem wf_each : ∀ (t cur : List UInt8), ∀ x ∈ wordsFrom cur t, x.length ≤ cur.length + t.length
  | [], cur => fun x hx => by
    rw [wf_nil] at hx
    split at hx
    · cases hx
    · rw [List.mem_singleton] at hx; rw [hx]; simp
  | c :: r, cur => fun x hx => by
    cases hc : isW c
    · rw [wf_s hc, List.mem_append] at hx
      rcases hx with hx | hx
      · split at hx
        · cases hx
        · rw [List.mem_singleton] at hx; rw [hx]; simp
      · have := wf_each r [] x hx; simp at this ⊢; omega
    · rw [wf_w hc] at hx
      have := wf_each r _ x hx; simp at this ⊢; omega
theorem words_each {t x : List UInt8} (h : x ∈ words t) : x.length ≤ t.length := by have := wf_each t [] x h; simpa using this

/-! ### What the program's loop knows at place e, where the word begins at s. -/
/-- The part of t from s to e, in lower case. -/
def mid (t : List UInt8) (s e : Nat) : List UInt8 := ((t.drop s).take (e - s)).map low
theorem mid_self (t : List UInt8) (s : Nat) : mid t s s = [] := by simp [mid]
theorem mid_len {t : List UInt8} {s e : Nat} (he : e ≤ t.length) : (mid t s e).length = e - s := by simp [mid]; omega
theorem mid_snoc {t : List UInt8} {s e : Nat} (hs : s ≤ e) (he : e < t.length) : mid t s (e + 1) = mid t s e ++ [low t[e]] := by
  unfold mid
  rw [show e + 1 - s = (e - s) + 1 by omega, List.take_add_one, List.map_append]
  congr 1
  rw [List.getElem?_drop, show s + (e - s) = e by omega, List.getElem?_eq_getElem he]
  rfl
theorem mid_nil {t : List UInt8} {s e : Nat} (hs : s ≤ e) (he : e ≤ t.length) : mid t s e = [] ↔ s = e := by
  rw [← List.length_eq_zero_iff, mid_len he]; omega
/-- The part of t from s to e is of a word. -/
def WS (t : List UInt8) (s e : Nat) : Prop := ∀ x ∈ (t.drop s).take (e - s), isW x = true
theorem WS.self (t : List UInt8) (s : Nat) : WS t s s := fun x hx => by simp at hx
theorem WS.snoc {t : List UInt8} {s e : Nat} (h : WS t s e) (hs : s ≤ e) (he : e < t.length) (hw : isW t[e] = true) : WS t s (e + 1) := fun x hx => by
  rw [show e + 1 - s = (e - s) + 1 by omega, List.take_add_one, List.mem_append] at hx
  rcases hx with hx | hx
  · exact h x hx
  · rw [List.getElem?_drop, show s + (e - s) = e by omega, List.getElem?_eq_getElem he] at hx
    simp at hx
    rw [hx]; exact hw
theorem WS.ascii {t : List UInt8} {s e : Nat} (h : WS t s e) : ∀ x ∈ (t.drop s).take (e - s), x.toNat < 128 := fun x hx => isW_low128 (h x hx)
/-- What was read before place e, and is known at it. -/
def At (t : List UInt8) (pre : List (List UInt8)) (s e : Nat) : Prop := words t = pre ++ wordsFrom (mid t s e) (t.drop e)
theorem At.start (t : List UInt8) : At t [] 0 0 := by simp [At, words, mid]
theorem At.word {t : List UInt8} {pre : List (List UInt8)} {s e : Nat} (h : At t pre s e) (hs : s ≤ e) (he : e < t.length) (hw : isW t[e] = true) : At t pre s (e + 1) := by
  unfold At at *
  rw [h, List.drop_eq_getElem_cons he, wf_w hw, mid_snoc hs he]
theorem At.skip {t : List UInt8} {pre : List (List UInt8)} {e : Nat} (h : At t pre e e) (he : e < t.length) (hw : isW t[e] = false) : At t pre (e + 1) (e + 1) := by
  unfold At at *
  rw [h, List.drop_eq_getElem_cons he, wf_s hw, mid_self, mid_self]
  rfl
theorem At.give {t : List UInt8} {pre : List (List UInt8)} {s e : Nat} (h : At t pre s e) (hs : s < e) (he : e < t.length) (hw : isW t[e] = false) : At t (pre ++ [mid t s e]) (e + 1) (e + 1) := by
  unfold At at *
  rw [h, List.drop_eq_getElem_cons he, wf_s hw, if_neg (fun x => by rw [mid_nil (by omega) (by omega)] at x; omega), mid_self, List.append_assoc]
theorem At.last {t : List UInt8} {pre : List (List UInt8)} {s e : Nat} (h : At t pre s e) (he : e = t.length) (hs : s < e) : words t = pre ++ [mid t s e] := by
  subst he
  unfold At at h
  rw [h, List.drop_length, wf_nil, if_neg (fun x => by rw [mid_nil (by omega) (Nat.le_refl _)] at x; omega)]
theorem At.done {t : List UInt8} {pre : List (List UInt8)} {e : Nat} (h : At t pre e e) (he : e = t.length) : words t = pre := by
  subst he
  unfold At at h
  rw [h, List.drop_length, wf_nil, mid_self]
  simp
theorem At.pre {t : List UInt8} {pre : List (List UInt8)} {s e : Nat} (h : At t pre s e) : pre <+: words t := ⟨_, h.symm⟩
theorem At.lt {t : List UInt8} {pre : List (List UInt8)} {s e : Nat} (h : At t pre s e) (hs : s < e) (he : e ≤ t.length) : pre.length < (words t).length := by
  have hm : mid t s e ≠ [] := fun x => by rw [mid_nil (by omega) he] at x; omega
  have hl : ∀ (r cur : List UInt8), cur ≠ [] → 0 < (wordsFrom cur r).length := by
    intro r
    induction r with
    | nil => intro cur hc; rw [wf_nil, if_neg hc]; simp
    | cons c r ih =>
      intro cur hc
      cases hw : isW c
      · rw [wf_s hw, if_neg hc]; simp
      · rw [wf_w hw]; exact ih _ (by simp)
  have := hl (t.drop e) _ hm
  unfold At at h
  rw [h, List.length_append]; omega

/-! ### The text of a list of words. -/
def foldW (ws : List (List UInt8)) : List UInt8 := ws.foldl (fun acc x => if acc = [] then x else acc ++ 32 :: x) []
theorem foldW_snoc (pre : List (List UInt8)) (x : List UInt8) : foldW (pre ++ [x]) = if foldW pre = [] then x else foldW pre ++ 32 :: x := by unfold foldW; rw [List.foldl_append]; rfl
def foldT (t : List UInt8) : List UInt8 := foldW (words t)
theorem foldW_le {L : Nat} : ∀ (pre : List (List UInt8)), (∀ x ∈ pre, x.length ≤ L) → (foldW pre).length ≤ pre.length * (L + 1) := by
  refine snoc_ind (P := fun pre => (∀ x ∈ pre, x.length ≤ L) → (foldW pre).length ≤ pre.length * (L + 1)) ?_ ?_
  · intro _; simp [foldW]
  · intro pre x ih h
    have h1 := ih (fun y hy => h y (List.mem_append_left _ hy))
    have h2 := h x (by simp)
    rw [foldW_snoc, List.length_append, List.length_singleton, Nat.add_mul]
    split
    · omega
    · simp only [List.length_append, List.length_cons]; omega

theorem foldl_len : ∀ (r cur acc : List UInt8), ((wordsFrom cur r).foldl (fun acc x => if acc = [] then x else acc ++ 32 :: x) acc).length ≤ (if acc = [] then 0 else acc.length + 1) + cur.length + r.length
  | [], cur, acc => by
    rw [wf_nil]
    by_cases hc : cur = []
    · rw [if_pos hc, List.foldl_nil]
      by_cases ha : acc = []
      · rw [ha]; exact Nat.zero_le _
      · rw [if_neg ha]; omega
    · rw [if_neg hc, List.foldl_cons, List.foldl_nil]
      by_cases ha : acc = []
      · rw [if_pos ha, if_pos ha]; omega
      · rw [if_neg ha, if_neg ha]; simp; omega
  | c :: r, cur, acc => by
    cases hw : isW c
    · rw [wf_s hw]
      by_cases hc : cur = []
      · rw [if_pos hc, List.nil_append]
        have := foldl_len r [] acc
        simp at this ⊢
        omega
      · rw [if_neg hc, List.cons_append, List.nil_append, List.foldl_cons]
        by_cases ha : acc = []
        · have := foldl_len r [] cur
          rw [if_neg hc] at this
          rw [if_pos ha, if_pos ha]
          simp at this ⊢
          omega
        · have := foldl_len r [] (acc ++ 32 :: cur)
          rw [if_neg (by simp)] at this
          rw [if_neg ha, if_neg ha]
          simp at this ⊢
          omega
    · rw [wf_w hw]
      have := foldl_len r (cur ++ [low c]) acc
      simp only [List.length_append, List.length_cons, List.length_nil] at this ⊢
      omega
theorem foldT_len (t : List UInt8) : (foldT t).length ≤ t.length := by have := foldl_len t [] []; simpa [foldT, foldW, words] using this

/-! ### The parts of a text. -/
/-- The parts with n bytes that begin before place e - n. -/
def partsTo (t : List UInt8) (n : Nat) : Nat → List (List UInt8)
  | 0 => []
  | i + 1 => partsTo t n i ++ [(t.drop i).take n]
/-- The parts with n bytes; the text alone if it is shorter; none of an empty one. -/
def parts (t : List UInt8) (n : Nat) : List (List UInt8) := if t = [] then [] else if t.length < n then [t] else partsTo t n (t.length + 1 - n)
theorem partsTo_len (t : List UInt8) (n : Nat) : ∀ i, (partsTo t n i).length = i
  | 0 => rfl
  | i + 1 => by rw [partsTo, List.length_append, partsTo_len t n i]; rfl
theorem parts_len (t : List UInt8) (n : Nat) : (parts t n).length ≤ t.length + 1 := by
  unfold parts
  split
  · simp
  · split
    · simp
    · rw [partsTo_len]; omega
theorem parts_eq {t : List UInt8} {k : Nat} (h : t ≠ []) : parts t k = partsTo t (min k t.length) (t.length + 1 - min k t.length) := by
  unfold parts
  rw [if_neg h]
  split
  · rw [Nat.min_eq_right (by omega), show t.length + 1 - t.length = 0 + 1 by omega, partsTo, partsTo]
    simp
  · rw [Nat.min_eq_left (by omega)]
theorem mem_partsTo (t : List UInt8) (n : Nat) (z : List UInt8) : ∀ i, z ∈ partsTo t n i ↔ ∃ j, j < i ∧ z = (t.drop j).take n
  | 0 => by simp [partsTo]
  | i + 1 => by
    rw [partsTo, List.mem_append, mem_partsTo t n z i, List.mem_singleton]
    constructor
    · rintro (⟨j, hj, h⟩ | h)
      · exact ⟨j, by omega, h⟩
      · exact ⟨i, by omega, h⟩
    · rintro ⟨j, hj, h⟩
      rcases Nat.lt_or_ge j i with h1 | h1
      · exact Or.inl ⟨j, h1, h⟩
      · obtain rfl : j = i := by omega
        exact Or.inr h

/-- The parts of a folded text; none if the number is not from 1 to 8. -/
def gramsT (t : List UInt8) (n : Int) : List (List UInt8) := if n < 1 ∨ 8 < n then [] else parts (foldT t) n.toNat

/-! ### Lists in strict order. -/
def ins (x : List UInt8) : List (List UInt8) → List (List UInt8)
  | [] => [x]
  | y :: r => if ltS y x then y :: ins x r else if y = x then y :: r else x :: y :: r
def sortD (l : List (List UInt8)) : List (List UInt8) := l.foldl (fun acc x => ins x acc) []
abbrev Strict (l : List (List UInt8)) : Prop := l.Pairwise (fun a b => ltS a b = true)
theorem mem_ins (x z : List UInt8) : ∀ l, z ∈ ins x l ↔ z = x ∨ z ∈ l
  | [] => by simp [ins]
  | y :: r => by
    unfold ins
    split
    · simp only [List.mem_cons, mem_ins x z r]; constructor <;> (intro h; rcases h with h | h | h <;> simp [h])
    · split
      · rename_i h; subst h; simp only [List.mem_cons]; constructor
        · intro h; exact Or.inr h
        · intro h; rcases h with h | h | h <;> simp [h]
      · simp only [List.mem_cons]
theorem strict_ins (x : List UInt8) : ∀ l, Strict l → Strict (ins x l)
  | [], _ => by simp [ins, Strict]
  | y :: r, h => by
    rw [Strict, List.pairwise_cons] at h
    unfold ins
    split
    · rename_i hy
      refine List.pairwise_cons.2 ⟨fun z hz => ?_, strict_ins x r h.2⟩
      rcases (mem_ins x z r).1 hz with rfl | hz
      · exact hy
      · exact h.1 z hz
    · rename_i hy
      split
      · exact List.pairwise_cons.2 h
      · rename_i hne
        have hxy : ltS x y = true := by
          rcases ltS_total x y (fun e => hne e.symm) with h1 | h1
          · exact h1
          · exact absurd h1 hy
        refine List.pairwise_cons.2 ⟨fun z hz => ?_, List.pairwise_cons.2 h⟩
        rcases List.mem_cons.1 hz with rfl | hz
        · exact hxy
        · exact ltS_trans _ _ _ hxy (h.1 z hz)
theorem sortD_snoc (l : List (List UInt8)) (x : List UInt8) : sortD (l ++ [x]) = ins x (sortD l) := by simp [sortD]
theorem strict_sortD (l : List (List UInt8)) : Strict (sortD l) := by
  refine snoc_ind (P := fun l => Strict (sortD l)) (by simp [sortD, Strict]) (fun l x ih => ?_) l
  rw [sortD_snoc]; exact strict_ins x _ ih
theorem mem_sortD (l : List (List UInt8)) (z : List UInt8) : z ∈ sortD l ↔ z ∈ l := by
  refine snoc_ind (P := fun l => z ∈ sortD l ↔ z ∈ l) (by simp [sortD]) (fun l x ih => ?_) l
  rw [sortD_snoc, mem_ins, ih]; simp [or_comm]
/-- Two lists in strict order with the same elements are one. -/
theorem strict_eq : ∀ {l m : List (List UInt8)}, Strict l → Strict m → (∀ z, z ∈ l ↔ z ∈ m) → l = m
  | [], [], _, _, _ => rfl
  | [], y :: m, _, _, h => absurd ((h y).2 (by simp)) (by simp)
  | x :: l, [], _, _, h => absurd ((h x).1 (by simp)) (by simp)
  | x :: l, y :: m, hl, hm, h => by
    rw [Strict, List.pairwise_cons] at hl hm
    have e : x = y := by
      rcases List.mem_cons.1 ((h x).1 (by simp)) with e | hx
      · exact e
      · rcases List.mem_cons.1 ((h y).2 (by simp)) with e | hy
        · exact e.symm
        · have h1 := hl.1 y hy
          have h2 := hm.1 x hx
          rw [ltS_asymm _ _ h1] at h2; cases h2
    subst e
    rw [strict_eq hl.2 hm.2 (fun z => ?_)]
    constructor
    · intro hz
      rcases List.mem_cons.1 ((h z).1 (List.mem_cons_of_mem _ hz)) with rfl | hz'
      · have := hl.1 z hz; rw [ltS_irrefl] at this; cases this
      · exact hz'
    · intro hz
      rcases List.mem_cons.1 ((h z).2 (List.mem_cons_of_mem _ hz)) with rfl | hz'
      · have := hm.1 z hz; rw [ltS_irrefl] at this; cases this
      · exact hz'
theorem sortD_eq {l m : List (List UInt8)} (h : ∀ z, z ∈ l ↔ z ∈ m) : sortD l = sortD m := strict_eq (strict_sortD l) (strict_sortD m) (fun z => by rw [mem_sortD, mem_sortD]; exact h z)
theorem sortD_strict {l : List (List UInt8)} (h : Strict l) : sortD l = l := strict_eq (strict_sortD l) h (mem_sortD l)
theorem ins_len (x : List UInt8) : ∀ l, (ins x l).length ≤ l.length + 1
  | [] => by simp [ins]
  | y :: r => by
    unfold ins
    split
    · have := ins_len x r; simp; omega
    · split
      · simp
      · simp
theorem sortD_len (l : List (List UInt8)) : (sortD l).length ≤ l.length := by
  refine snoc_ind (P := fun l => (sortD l).length ≤ l.length) (by simp [sortD]) (fun l x ih => ?_) l
  rw [sortD_snoc]; have := ins_len x (sortD l); simp; omega
theorem strict_nodup {l : List (List UInt8)} (h : Strict l) : l.Nodup := h.imp (fun hab => ltS_ne hab)

/-- Whether a list is in strict order, by neighbours. -/
def incB : List (List UInt8) → Bool
  | [] => true
  | [_] => true
  | a :: b :: r => ltS a b && incB (b :: r)
theorem incB_strict : ∀ l, incB l = true ↔ Strict l
  | [] => by simp [incB, Strict]
  | [a] => by simp [incB, Strict]
  | a :: b :: r => by
    rw [incB, Bool.and_eq_true, incB_strict (b :: r)]
    constructor
    · rintro ⟨h, k⟩
      refine List.pairwise_cons.2 ⟨fun z hz => ?_, k⟩
      rcases List.mem_cons.1 hz with rfl | hz
      · exact h
      · exact ltS_trans _ _ _ h ((List.pairwise_cons.1 k).1 z hz)
    · intro h
      have h1 := List.pairwise_cons.1 h
      exact ⟨h1.1 b (by simp), h1.2⟩
end Go.Proofs.YtendkghifcjffaaGreatDoor.L3
