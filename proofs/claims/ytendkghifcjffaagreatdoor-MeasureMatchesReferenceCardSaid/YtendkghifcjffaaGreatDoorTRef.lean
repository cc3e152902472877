import Derived.Test.YtendkghifcjffaaGreatDoorTTokens
import Derived.Test.YtendkghifcjffaaGreatDoorTMath
import Derived.Laws.AppendOwnNone
/- The contracts of isSorted and Common, and of the reference's Increasing, Common, Same and In. -/
namespace Go.Proofs.YtendkghifcjffaaGreatDoor.L3
open Go.RowKit

theorem bytesLess_eq : ∀ x y, Op.bytesLess x y = ltS x y
  | _, [] => by unfold Op.bytesLess ltS; rfl
  | [], _ :: _ => rfl
  | a :: x, b :: y => by
    unfold Op.bytesLess ltS
    rw [bytesLess_eq x y, Bool.eq_iff_iff]
    simp [UInt8.lt_iff_toNat_lt, UInt8.toNat_inj]

theorem incB_step {l : List (List UInt8)} {j : Nat} (h : j + 1 < l.length) : incB (l.drop j) = (ltS l[j] l[j + 1] && incB (l.drop (j + 1))) := by
  rw [List.drop_eq_getElem_cons (show j < l.length by omega), List.drop_eq_getElem_cons h, incB]
theorem incB_end {l : List (List UInt8)} {j : Nat} (h : l.length ≤ j + 1) : incB (l.drop j) = true := by
  rcases Nat.lt_or_ge j l.length with h1 | h1
  · rw [List.drop_eq_getElem_cons h1, List.drop_eq_nil_of_le h]; rfl
  · rw [List.drop_eq_nil_of_le h1]; rfl

/-- How many elements two lists have in common, as the loop counts them. -/
def comm : List (List UInt8) → List (List UInt8) → Nat
  | [], _ => 0
  | _ :: _, [] => 0
  | a :: x, b :: y => if ltS a b then comm x (b :: y) else if ltS b a then comm (a :: x) y else comm x y + 1
termination_by x y => x.length + y.length
/-- What Common answers. -/
def commonT (a b : List (List UInt8)) : Nat := if incB a && incB b then comm a b else 0
def lenOf : Value → Nat
  | .slice _ n _ => n
  | _ => 0

theorem Strs.tail {w : World} {b off cap : Nat} {a : List UInt8} {x : List (List UInt8)} (h : Strs w (.slice (some ⟨b, off, none⟩) (a :: x).length cap) (a :: x)) :
    Strs w (.slice (if cap = 1 then some ⟨b, off, none⟩ else some ⟨b, off + 1, none⟩) x.length (cap - 1)) x := by
  obtain ⟨A, cap', e, hc, _, f⟩ := h
  cases e
  simp only [List.length_cons] at hc
  refine ⟨_, _, rfl, by omega, (fun e => by split at e <;> cases e), fun i hi => ?_⟩
  obtain ⟨b', off', e, h2⟩ := f (i + 1) (by simp; omega)
  cases e
  refine ⟨b, off + 1, if_neg (by omega), ?_⟩
  rw [show off + 1 + i = off + (i + 1) by omega, h2]
  rfl
theorem Strs.drew {w : World} {v : Value} {l : List (List UInt8)} (h : Strs w v l) : Strs w.drew v l := h.below (Below.refl _ _).drew
theorem comm_lt {a b : List UInt8} {x y : List (List UInt8)} (h : ltS a b = true) : comm (a :: x) (b :: y) = comm x (b :: y) := by rw [comm, if_pos h]
theorem comm_gt {a b : List UInt8} {x y : List (List UInt8)} (h : ltS a b = false) (g : ltS b a = true) : comm (a :: x) (b :: y) = comm (a :: x) y := by rw [comm, if_neg (by rw [h]; decide), if_pos g]
theorem comm_eq {a b : List UInt8} {x y : List (List UInt8)} (h : ltS a b = false) (g : ltS b a = false) : comm (a :: x) (b :: y) = comm x y + 1 := by rw [comm, if_neg (by rw [h]; decide), if_neg (by rw [g]; decide)]

end Go.Proofs.YtendkghifcjffaaGreatDoor.L3

/- More plain words on texts: good words, joined and split again; what two lists have in common. -/
namespace Go.Proofs.YtendkghifcjffaaGreatDoor.L3
open Go

theorem u8_all {p : UInt8 → Prop} (h : ∀ i : Fin 256, p (UInt8.ofNat i.1)) (c : UInt8) : p c := by
  have := h ⟨c.toNat, c.toNat_lt⟩
  simpa using this
/-- A letter in lower case or a digit. -/
def good (c : UInt8) : Bool := decide (97 ≤ c.toNat ∧ c.toNat ≤ 122) || decide (48 ≤ c.toNat ∧ c.toNat ≤ 57)
theorem good_low {c : UInt8} (h : isW c = true) : good (low c) = true := u8_all (p := fun c => isW c = true → good (low c) = true) (by decide +kernel) c h
theorem good_isW {c : UInt8} (h : good c = true) : isW c = true ∧ low c = c := u8_all (p := fun c => good c = true → isW c = true ∧ low c = c) (by decide +kernel) c h

/-! ### Good words. -/
def GoodW (x : List UInt8) : Prop := x ≠ [] ∧ ∀ c ∈ x, good c = true
theorem wf_good : ∀ (r cur : List UInt8), (∀ c ∈ cur, good c = true) → ∀ x ∈ wordsFrom cur r, GoodW x
  | [], cur => fun h x hx => by
    rw [wf_nil] at hx
    split at hx
    · cases hx
    · rename_i hc
      rw [List.mem_singleton] at hx
      subst hx
      exact ⟨hc, h⟩
  | c :: r, cur => fun h x hx => by
    cases hc : isW c
    · rw [wf_s hc, List.mem_append] at hx
      rcases hx with hx | hx
      · split at hx
        · cases hx
        · rename_i hn
          rw [List.mem_singleton] at hx
          subst hx
          exact ⟨hn, h⟩
      · exact wf_good r [] (by simp) x hx
    · rw [wf_w hc] at hx
      refine wf_good r _ (fun d hd => ?_) x hx
      rcases List.mem_append.1 hd with hd | hd
      · exact h d hd
      · rw [List.mem_singleton] at hd
        subst hd
        exact good_low hc
theorem words_good (t : List UInt8) : ∀ x ∈ words t, GoodW x := wf_good t [] (by simp)
theorem wf_sep {c : UInt8} (hc : isW c = false) : ∀ (a cur b : List UInt8), wordsFrom cur (a ++ c :: b) = wordsFrom cur a ++ wordsFrom [] b
  | [], cur, b => by rw [List.nil_append, wf_s hc, wf_nil]
  | d :: a, cur, b => by
    rw [List.cons_append]
    cases hd : isW d
    · rw [wf_s hd, wf_s hd, wf_sep hc a [] b, List.append_assoc]
    · rw [wf_w hd, wf_w hd, wf_sep hc a _ b]
theorem words_sep {c : UInt8} (hc : isW c = false) (a b : List UInt8) : words (a ++ c :: b) = words a ++ words b := wf_sep hc a [] b
theorem wf_word : ∀ (x cur : List UInt8), (∀ c ∈ x, good c = true) → wordsFrom cur x = if cur ++ x = [] then [] else [cur ++ x]
  | [], cur, _ => by rw [wf_nil, List.append_nil]
  | c :: x, cur, h => by
    have hc := good_isW (h c (by simp))
    rw [wf_w hc.1, hc.2, wf_word x _ (fun d hd => h d (by simp [hd])), List.append_assoc]
    rfl
theorem words_word {x : List UInt8} (h : GoodW x) : words x = [x] := by
  unfold words
  rw [wf_word x [] h.2, List.nil_append, if_neg h.1]
theorem words_foldW (ws : List (List UInt8)) : (∀ x ∈ ws, GoodW x) → words (foldW ws) = ws := by
  refine snoc_ind (P := fun ws => (∀ x ∈ ws, GoodW x) → words (foldW ws) = ws) (fun _ => rfl) (fun pre x ih h => ?_) ws
  have hp := ih (fun y hy => h y (List.mem_append_left _ hy))
  have hx := h x (by simp)
  rw [foldW_snoc]
  split
  · rename_i h0
    rw [h0] at hp
    have e : pre = [] := hp.symm
    rw [e, words_word hx]
    rfl
  · rw [words_sep (by decide), hp, words_word hx]
theorem words_foldT (t : List UInt8) : words (foldT t) = words t := words_foldW _ (words_good t)
theorem foldT_idem (t : List UInt8) : foldT (foldT t) = foldT t := congrArg foldW (words_foldT t)

/-! ### The shape of a folded text. -/
def Shape (s : List UInt8) : Prop := ∀ i c, s[i]? = some c → good c = true ∨ (c = 32 ∧ 0 < i ∧ ∃ d, s[i + 1]? = some d ∧ good d = true)
theorem shape_good {x : List UInt8} (h : ∀ c ∈ x, good c = true) : Shape x := fun _ c hc => Or.inl (h c (List.mem_of_getElem? hc))
theorem shape_snoc {s x : List UInt8} (hs : Shape s) (h0 : s ≠ []) (hx : GoodW x) : Shape (s ++ 32 :: x) := fun i c hc => by
  rcases Nat.lt_trichotomy i s.length with h | h | h
  · rw [List.getElem?_append_left h] at hc
    rcases hs i c hc with g | ⟨e, hi, d, hd, g⟩
    · exact Or.inl g
    · have hlt : i + 1 < s.length := (List.getElem?_eq_some_iff.1 hd).1
      exact Or.inr ⟨e, hi, d, by rw [List.getElem?_append_left hlt]; exact hd, g⟩
  · rw [List.getElem?_append_right (by omega), show i - s.length = 0 by omega] at hc
    have e : c = 32 := by simpa using hc.symm
    obtain ⟨d, y, rfl⟩ : ∃ d y, x = d :: y := by
      cases x with
      | nil => exact absurd rfl hx.1
      | cons d y => exact ⟨d, y, rfl⟩
    refine Or.inr ⟨e, by have := List.length_pos_iff.2 h0; omega, d, ?_, hx.2 d (by simp)⟩
    rw [List.getElem?_append_right (by omega), show i + 1 - s.length = 1 by omega]
    rfl
  · rw [List.getElem?_append_right (by omega)] at hc
    obtain ⟨k, hk⟩ : ∃ k, i - s.length = k + 1 := ⟨i - s.length - 1, by omega⟩
    rw [hk, List.getElem?_cons_succ] at hc
    exact Or.inl (hx.2 c (List.mem_of_getElem? hc))
theorem shape_foldW (ws : List (List UInt8)) : (∀ x ∈ ws, GoodW x) → Shape (foldW ws) := by
  refine snoc_ind (P := fun ws => (∀ x ∈ ws, GoodW x) → Shape (foldW ws)) (fun _ => fun i c hc => by simp [foldW] at hc) (fun pre x ih h => ?_) ws
  have hp := ih (fun y hy => h y (List.mem_append_left _ hy))
  have hx := h x (by simp)
  rw [foldW_snoc]
  split
  · exact shape_good hx.2
  · rename_i h0
    exact shape_snoc hp h0 hx
theorem shape_foldT (t : List UInt8) : Shape (foldT t) := shape_foldW _ (words_good t)

/-! ### Two texts joined. -/
theorem foldW_append (ws : List (List UInt8)) (vs : List (List UInt8)) : (∀ x ∈ vs, GoodW x) → foldW (ws ++ vs) = if foldW ws = [] ∨ foldW vs = [] then foldW ws ++ foldW vs else foldW ws ++ 32 :: foldW vs := by
  refine snoc_ind (P := fun vs => (∀ x ∈ vs, GoodW x) → foldW (ws ++ vs) = if foldW ws = [] ∨ foldW vs = [] then foldW ws ++ foldW vs else foldW ws ++ 32 :: foldW vs) (fun _ => ?_) (fun pre x ih h => ?_) vs
  · have h0 : foldW [] = [] := rfl
    rw [List.append_nil, h0, if_pos (Or.inr rfl), List.append_nil]
  · have hx := (h x (by simp)).1
    rw [← List.append_assoc, foldW_snoc, foldW_snoc, ih (fun y hy => h y (List.mem_append_left _ hy))]
    by_cases a : foldW ws = []
    · simp [a]
    · by_cases b : foldW pre = []
      · simp [a, b, hx]
      · simp [a, b]
theorem foldT_join {c : UInt8} (hc : isW c = false) (a b : List UInt8) : foldT (a ++ c :: b) = if foldT a = [] ∨ foldT b = [] then foldT a ++ foldT b else foldT a ++ 32 :: foldT b := by
  unfold foldT
  rw [words_sep hc, foldW_append _ _ (words_good b)]
theorem tokens_join {c : UInt8} (hc : isW c = false) (a b : List UInt8) : sortD (words (a ++ c :: b)) = sortD (sortD (words a) ++ sortD (words b)) :=
  sortD_eq (fun z => by rw [words_sep hc, List.mem_append, List.mem_append, mem_sortD, mem_sortD])
theorem tokens_twice (a : List UInt8) : sortD (words (a ++ 10 :: a)) = sortD (words a) :=
  sortD_eq (fun z => by rw [words_sep (by decide), List.mem_append]; exact or_self_iff)

/-! ### A list turned. -/
def tot (l : List (List UInt8)) : Nat := (l.map (fun x => x.length + 1)).sum
theorem tot_append (l m : List (List UInt8)) : tot (l ++ m) = tot l + tot m := by simp [tot]
theorem tot_one (x : List UInt8) : tot [x] = x.length + 1 := by simp [tot]
theorem tot_cons (x : List UInt8) (l : List (List UInt8)) : tot (x :: l) = x.length + 1 + tot l := by simp [tot]
theorem wf_tot : ∀ (r cur : List UInt8), tot (wordsFrom cur r) ≤ cur.length + r.length + 1
  | [], cur => by
    rw [wf_nil]
    split
    · simp [tot]
    · rw [tot_one]; simp
  | c :: r, cur => by
    cases hc : isW c
    · have := wf_tot r []
      rw [wf_s hc, tot_append, List.length_cons]
      simp only [List.length_nil] at this
      split
      · simp only [tot, List.map_nil, List.sum_nil]
        simp only [tot] at this
        omega
      · rw [tot_one]; omega
    · have := wf_tot r (cur ++ [low c])
      rw [wf_w hc]
      simp only [List.length_append, List.length_cons, List.length_nil] at this ⊢
      omega
theorem tot_ins (x : List UInt8) : ∀ l, tot (ins x l) ≤ x.length + 1 + tot l
  | [] => by simp [ins, tot]
  | y :: r => by
    have := tot_ins x r
    unfold ins
    split
    · rw [tot_cons, tot_cons]; omega
    · split
      · rw [tot_cons]; omega
      · rw [tot_cons, tot_cons]; omega
theorem tot_sortD (l : List (List UInt8)) : tot (sortD l) ≤ tot l := by
  refine snoc_ind (P := fun l => tot (sortD l) ≤ tot l) (by simp [sortD]) (fun l x ih => ?_) l
  rw [sortD_snoc, tot_append, tot_one]
  have := tot_ins x (sortD l)
  omega
def turnW (l : List (List UInt8)) : List UInt8 := l.foldl (fun acc x => x ++ 44 :: acc) []
theorem turnW_snoc (pre : List (List UInt8)) (x : List UInt8) : turnW (pre ++ [x]) = x ++ 44 :: turnW pre := by simp [turnW]
theorem turnW_len (l : List (List UInt8)) : (turnW l).length = tot l := by
  refine snoc_ind (P := fun l => (turnW l).length = tot l) (by simp [turnW, tot]) (fun l x ih => ?_) l
  rw [turnW_snoc, tot_append, tot_one, List.length_append, List.length_cons, ih]
  omega
theorem words_turnW (l : List (List UInt8)) : (∀ x ∈ l, GoodW x) → words (turnW l) = l.reverse := by
  refine snoc_ind (P := fun l => (∀ x ∈ l, GoodW x) → words (turnW l) = l.reverse) (fun _ => rfl) (fun l x ih h => ?_) l
  rw [turnW_snoc, words_sep (by decide), words_word (h x (by simp)), ih (fun y hy => h y (List.mem_append_left _ hy)), List.reverse_append]
  rfl
theorem tokens_turned (t : List UInt8) : sortD (words (turnW (sortD (words t)))) = sortD (words t) := by
  rw [words_turnW _ (fun x hx => words_good t x ((mem_sortD _ _).1 hx))]
  exact sortD_eq (fun z => by rw [List.mem_reverse, mem_sortD])
theorem turned_len (t : List UInt8) : (turnW (sortD (words t))).length ≤ t.length + 1 := by
  rw [turnW_len]
  have h1 := tot_sortD (words t)
  have h2 := wf_tot t []
  simp only [List.length_nil] at h2
  unfold words at h1 ⊢
  omega

/-! ### Other bytes between the words, letters in upper case. -/
def caseB (b c : UInt8) : UInt8 := if isW c then (if 97 ≤ c.toNat ∧ c.toNat ≤ 122 then c - 32 else c) else b
theorem caseB_w (b c : UInt8) (h : isW c = true) : isW (caseB b c) = true ∧ low (caseB b c) = low c := by
  have e : caseB b c = (if 97 ≤ c.toNat ∧ c.toNat ≤ 122 then c - 32 else c) := if_pos h
  rw [e]
  exact u8_all (p := fun c => isW c = true → isW (if 97 ≤ c.toNat ∧ c.toNat ≤ 122 then c - 32 else c) = true ∧ low (if 97 ≤ c.toNat ∧ c.toNat ≤ 122 then c - 32 else c) = low c) (by decide +kernel) c h
theorem caseB_s (b c : UInt8) (h : isW c = false) : caseB b c = b := if_neg (by rw [h]; decide)
theorem wf_case {b : UInt8} (hb : isW b = false) : ∀ t cur, wordsFrom cur (t.map (caseB b)) = wordsFrom cur t
  | [], _ => rfl
  | c :: t, cur => by
    rw [List.map_cons]
    cases hc : isW c
    · rw [caseB_s b c hc, wf_s hb, wf_s hc, wf_case hb t []]
    · have h := caseB_w b c hc
      rw [wf_w h.1, wf_w hc, h.2, wf_case hb t _]
theorem words_case {b : UInt8} (hb : isW b = false) (t : List UInt8) : words (t.map (caseB b)) = words t := wf_case hb t []
theorem foldT_case {b : UInt8} (hb : isW b = false) (t : List UInt8) : foldT (t.map (caseB b)) = foldT t := congrArg foldW (words_case hb t)
end Go.Proofs.YtendkghifcjffaaGreatDoor.L3

/- The reference's small functions: Lower, Increasing, Same, In; an append of texts. -/
namespace Go.Proofs.YtendkghifcjffaaGreatDoor.L3
open Go.RowKit

/-- A slice of texts that the call made. -/
abbrev OwnS (w : World) (base : Nat) (v : Value) (l : List (List UInt8)) : Prop := w.ownsRow base 9 1 v l.length (l.map str)
theorem infoStr : (Tryz.prog.info? 9).map (fun i => (i.zero, i.size, i.bytes)) = some (some (.string ⟨#[]⟩), 1, 16) := by kernel_rfl
theorem below_grown {base : Nat} {w w1 w2 : World} {v : Value} {n : Nat} {xs : List Value} (hb : Below base w w1) (hB : base ≤ w1.heap.size) (ho : w1.ownsRow base 9 1 v n xs) (hg : w1.grownBy w2 v.ownBlock) : Below base w w2 :=
  hb.grown hg hB (fun k e => by
    rcases ho.2 with ⟨rfl, _⟩ | ⟨g, cap, cur, rfl, hbg, _⟩
    · cases e
    · have : g = k := Option.some.inj e
      omega)
theorem add_none (b off n : Nat) : (⟨b, off, none⟩ : Addr).add n = ⟨b, off + n, none⟩ := by
  unfold Addr.add
  split
  · rename_i h
    subst h
    rfl
  · rfl
/-- append(s, x...), where s is of the call's own and x any list of texts. -/
theorem wp_append {w : World} {ops : Array Oper} {rest : List Oper} {o : Oper} {a : Act} {Q : Exit → Act → World → Prop} (hgd : o.guard = none) (s x : Operand)
    (ho : o.op = .call { callee := .builtin .append, args := #[s, x], argTypes := #[22, 22] }) (base : Nat) (v : Value) (l : List (List UInt8)) (hs : a.eval s = v) (hown : OwnS w base v l)
    (u : Value) (m : List (List UInt8)) (hx : a.eval x = u) (hu : Strs w u m) (hlen : l.length + m.length ≤ 1000000) (hbase : base ≤ w.heap.size)
    (h : ∀ v' w', OwnS w' base v' (l ++ m) → w.grownBy w' v.ownBlock → wpList Tryz.prog ops Q rest (a.put o.dst v') w') : wpList Tryz.prog ops Q (o :: rest) a w := by
  obtain ⟨i0, hi, hz0, hz1, hz2⟩ := info_parts infoStr
  obtain ⟨A, cap, rfl, hcap, hn, hc⟩ := hu
  cases A with
  | none =>
    have h0 := hn rfl
    subst h0
    have hm : m = [] := List.length_eq_zero_iff.1 (by omega)
    subst hm
    refine wpList_append_own_none hgd s x 22 ho base 9 i0 1 Tryz.underlying22 hi v l.length _ hs hown hx (h v w ?_ ⟨rfl, rfl, rfl, Nat.le_refl _, fun _ _ _ => rfl⟩)
    rw [List.append_nil]
    exact hown
  | some ad =>
    refine wpList_append_own w hgd s x 22 ho base 9 i0 (.string ⟨#[]⟩) 1 16 Tryz.underlying22 hi hz0 hz1 hz2 rfl (by decide) v l.length _ hs hown ad m.length cap (m.map str) hx (by simp) (fun j u hj => ?_) (fun u hu => ?_) (by unfold maxLen; omega) (by omega) hbase (fun v' w' h1 h2 _ => h v' w' ?_ h2)
    · rw [List.getElem?_map] at hj
      cases hm : m[j]? with
      | none => rw [hm] at hj; cases hj
      | some t =>
        rw [hm] at hj
        cases hj
        obtain ⟨hlt, he⟩ := List.getElem?_eq_some_iff.1 hm
        obtain ⟨b, off, e, h2⟩ := hc j hlt
        cases e
        rw [he] at h2
        rw [add_none]
        exact h2
    · obtain ⟨t, _, rfl⟩ := List.mem_map.1 hu
      rfl
    · unfold OwnS
      rw [List.length_append, List.map_append]
      exact h1

theorem strs_one (w : World) (x : List UInt8) (T : TypeId) : Strs (w.alloc (.cells #[str x] T)) (.slice (some ⟨w.heap.size, 0, none⟩) 1 1) [x] :=
  ⟨_, 1, rfl, Nat.le_refl _, (fun e => by cases e), fun i hi => ⟨_, 0, rfl, by
    obtain rfl : i = 0 := by simpa using hi
    exact cell_box (heap_alloc_new w _)⟩⟩

/-! ### Lower, Same, In, Increasing. -/
/-- A letter in lower case, a digit; 0 for other bytes. -/
def lowR (c : UInt8) : UInt8 := if isW c then low c else 0
theorem lowR_w {c : UInt8} (h : isW c = true) : lowR c = low c := if_pos h
theorem lowR_s {c : UInt8} (h : isW c = false) : lowR c = 0 := if_neg (by rw [h]; decide)
theorem lowR_nat (c : UInt8) : (lowR c).toNat = if 65 ≤ c.toNat ∧ c.toNat ≤ 90 then c.toNat + 32 else if (97 ≤ c.toNat ∧ c.toNat ≤ 122) ∨ (48 ≤ c.toNat ∧ c.toNat ≤ 57) then c.toNat else 0 :=
  u8_all (p := fun c => (lowR c).toNat = if 65 ≤ c.toNat ∧ c.toNat ≤ 90 then c.toNat + 32 else if (97 ≤ c.toNat ∧ c.toNat ≤ 122) ∨ (48 ≤ c.toNat ∧ c.toNat ≤ 57) then c.toNat else 0) (by decide +kernel) c
theorem low_pos {c : UInt8} (h : isW c = true) : 0 < (low c).toNat ∧ (low c).toNat < 128 := u8_all (p := fun c => isW c = true → 0 < (low c).toNat ∧ (low c).toNat < 128) (by decide +kernel) c h

theorem lower_ref (c : UInt8) (w : World) : Calls Tryz.prog 73 #[.int .u8 (c.toNat : Int)] w fun e w' => e = .returned (.int .u8 ((lowR c).toNat : Int)) ∧ w' = w := by
  have hc := c.toNat_lt
  have hr := lowR_nat c
  obtain ⟨r, hR⟩ : ∃ r, (lowR c).toNat = r := ⟨_, rfl⟩
  rw [hR] at hr
  rw [hR]
  clear hR
  obtain ⟨m, hm⟩ : ∃ m, c.toNat = m := ⟨_, rfl⟩
  rw [hm] at hc hr
  rw [hm]
  clear hm
  rcases (show m < 48 ∨ (48 ≤ m ∧ m ≤ 57) ∨ (57 < m ∧ m < 65) ∨ (65 ≤ m ∧ m ≤ 90) ∨ (90 < m ∧ m < 97) ∨ (97 ≤ m ∧ m ≤ 122) ∨ 122 < m by omega) with h | h | h | h | h | h | h
  · have HR := Lib.hid (show r = 0 by rw [hr, if_neg (by omega), if_neg (by omega)])
    clear hr
    go_enter Tryz.func73, Tryz.ntmps73
    go_wp2_with fail
    go_ret
    exact ⟨ret_int (by have := HR.out; omega), rfl⟩
  · have HR := Lib.hid (show r = m by rw [hr, if_neg (by omega), if_pos (by omega)])
    clear hr
    obtain ⟨h1, h2⟩ := h
    go_enter Tryz.func73, Tryz.ntmps73
    go_wp2_with fail
    go_ret
    exact ⟨ret_int (by have := HR.out; omega), rfl⟩
  · have HR := Lib.hid (show r = 0 by rw [hr, if_neg (by omega), if_neg (by omega)])
    clear hr
    obtain ⟨h1, h2⟩ := h
    go_enter Tryz.func73, Tryz.ntmps73
    go_wp2_with fail
    go_ret
    exact ⟨ret_int (by have := HR.out; omega), rfl⟩
  · have HR := Lib.hid (show r = m + 32 by rw [hr, if_pos (by omega)])
    clear hr
    obtain ⟨h1, h2⟩ := h
    go_enter Tryz.func73, Tryz.ntmps73
    go_wp2_with fail
    go_ret
    exact ⟨ret_int (by have := HR.out; omega), rfl⟩
  · have HR := Lib.hid (show r = 0 by rw [hr, if_neg (by omega), if_neg (by omega)])
    clear hr
    obtain ⟨h1, h2⟩ := h
    go_enter Tryz.func73, Tryz.ntmps73
    go_wp2_with fail
    go_ret
    exact ⟨ret_int (by have := HR.out; omega), rfl⟩
  · have HR := Lib.hid (show r = m by rw [hr, if_neg (by omega), if_pos (by omega)])
    clear hr
    obtain ⟨h1, h2⟩ := h
    go_enter Tryz.func73, Tryz.ntmps73
    go_wp2_with fail
    go_ret
    exact ⟨ret_int (by have := HR.out; omega), rfl⟩
  · have HR := Lib.hid (show r = 0 by rw [hr, if_neg (by omega), if_neg (by omega)])
    clear hr
    go_enter Tryz.func73, Tryz.ntmps73
    go_wp2_with fail
    go_ret
    exact ⟨ret_int (by have := HR.out; omega), rfl⟩

/-- A list from place i on. -/
theorem drop_cons {l : List (List UInt8)} {i : Nat} (h : i < l.length) : l.drop i = l[i] :: l.drop (i + 1) := List.drop_eq_getElem_cons h

end Go.Proofs.YtendkghifcjffaaGreatDoor.L3

/- The contract of the reference's Words. -/
namespace Go.Proofs.YtendkghifcjffaaGreatDoor.L3
open Go.RowKit

theorem strs_own {w : World} {base : Nat} {v : Value} {l : List (List UInt8)} (h : OwnS w base v l) : Strs w v l := strs_of_owns h
theorem owns_nil (w : World) (base : Nat) : OwnS w base (.slice none 0 0) [] := ⟨rfl, Or.inl ⟨rfl, rfl⟩⟩
theorem owns_slice {w : World} {base : Nat} {v : Value} {l : List (List UInt8)} (h : OwnS w base v l) : ∃ A cap, v = .slice A l.length cap ∧ l.length ≤ cap := by
  obtain ⟨A, cap, e, hc, _⟩ := strs_of_owns h
  exact ⟨A, cap, e, hc⟩

theorem str_add (a b : List UInt8) : (⟨a.toArray⟩ : ByteArray) ++ ⟨b.toArray⟩ = ⟨(a ++ b).toArray⟩ := by
  apply ByteArray.ext
  simp
theorem encode_low (d : UInt8) (h : d.toNat < 128) : Utf8.encode (d.toNat : Int) = ⟨#[d]⟩ := by
  have hv : Utf8.valid (d.toNat : Int) = true := by simp [Utf8.valid]; omega
  unfold Utf8.encode
  rw [hv]
  simp
  omega
set_option maxRecDepth 100000 in
set_option maxHeartbeats 4000000 in
theorem words_ref (t : List UInt8) (ht : t.length ≤ 1100) (w : World) :
    Calls Tryz.prog 60 #[str t] w (ListPost w (words t)) := by
  go_enter Tryz.func60, Tryz.ntmps60
  go_wp2_with fail
  go_loopw [3, 4, 5] (fun v u i wr => ∃ (pre : List (List UInt8)) (cur : List UInt8) (e : Nat), u = str cur ∧ i = .int .i64 (e : Int) ∧ OwnS wr w.heap.size v pre ∧ words t = pre ++ wordsFrom cur (t.drop e) ∧ e ≤ t.length ∧ pre.length ≤ e ∧ cur.length ≤ e ∧ Below w.heap.size w wr)
    (fun _ _ i _ => t.length + 1 - (intOf i).toNat)
  case atStart => exact ⟨[], [], 0, rfl, by simp, owns_nil _ _, rfl, by omega, by simp, by simp, Below.refl _ _⟩
  case round =>
    obtain ⟨pre, cur, e, rfl, rfl, hown, hwd, hel, hpl, hcl, hb⟩ := hrel
    obtain ⟨A, cap, rfl, hcap⟩ := owns_slice hown
    have HO := Lib.hid hown
    have HW := Lib.hid hwd
    have HB := Lib.hid hb
    clear hown hwd hb
    by_cases hlt : e < t.length
    · have hix : ∀ (h : e < (ByteArray.mk t.toArray).size), (⟨t.toArray⟩ : ByteArray)[e]'h = t[e] := fun _ => rfl
      cases hw : isW t[e]
      · have HC : Hid (lowR t[e] = 0) := Lib.hid (lowR_s hw)
        by_cases hc0 : cur = []
        · subst hc0
          have HN := Lib.hid (show words t = pre ++ wordsFrom [] (t.drop (e + 1)) by rw [HW.out, List.drop_eq_getElem_cons hlt, wf_s hw]; rfl)
          go_wp2_with fail
          refine (lower_ref _ _).mono ?_
          rintro e1 w1 ⟨rfl, rfl⟩
          rw [HC.out]
          go_wp2_with fail
          go_roundw
          case rel => exact ⟨pre, [], e + 1, rfl, by simp, HO.out, HN.out, by omega, by omega, by simp, HB.out⟩
          case measure => simp [intOf]; omega
        · have HN := Lib.hid (show words t = (pre ++ [cur]) ++ wordsFrom [] (t.drop (e + 1)) by rw [HW.out, List.drop_eq_getElem_cons hlt, wf_s hw, if_neg hc0, List.append_assoc])
          have hem : cur.isEmpty = false := by
            cases cur with
            | nil => exact absurd rfl hc0
            | cons x y => rfl
          clear hc0
          go_wp2_with fail
          refine (lower_ref _ _).mono ?_
          rintro e1 w1 ⟨rfl, rfl⟩
          rw [HC.out]
          go_wp2_with (at_builtin; refine wp_append rfl _ _ rfl w.heap.size _ pre rfl (HO.out.alloc _) _ [cur] rfl (strs_one _ cur _) (by simp; omega) (by have := HB.out.size; simp; omega) ?_)
          intro v' w2 hown' hg'
          have hB2 := below_grown (HB.out.alloc HB.out.size _) (by have := HB.out.size; simp; omega) (HO.out.alloc _) hg'
          have HB2 := Lib.hid hB2
          have HO2 := Lib.hid hown'
          clear hB2 hown' hg'
          go_wp2_with fail
          go_roundw
          case rel => exact ⟨pre ++ [cur], [], e + 1, rfl, by simp, HO2.out, HN.out, by omega, by simp; omega, by simp, HB2.out⟩
          case measure => simp [intOf]; omega
      · have HN := Lib.hid (show words t = pre ++ wordsFrom (cur ++ [low t[e]]) (t.drop (e + 1)) by rw [HW.out, List.drop_eq_getElem_cons hlt, wf_w hw])
        have hp := low_pos hw
        have HC : Hid (lowR t[e] = low t[e]) := Lib.hid (lowR_w hw)
        obtain ⟨d, hd⟩ : ∃ d, low t[e] = d := ⟨_, rfl⟩
        rw [hd] at hp HN HC
        clear hd
        have hE := encode_low d hp.2
        have hp0 := hp.1
        have hp1 := hp.2
        clear hp
        obtain ⟨m, hm⟩ : ∃ m, d.toNat = m := ⟨_, rfl⟩
        go_wp2_with fail
        refine (lower_ref _ _).mono ?_
        rintro e1 w1 ⟨rfl, rfl⟩
        rw [HC.out, hm]
        rw [hm] at hE hp0 hp1
        clear hm
        have hne : ((m : Int) != 0) = true := by simp; omega
        go_wp2_with fail
        go_roundw
        case rel => exact ⟨pre, cur ++ [d], e + 1, congrArg Value.string (str_add cur [d]), by simp, HO.out, HN.out, by omega, by omega, by simp; omega, HB.out⟩
        case measure => simp [intOf]; omega
    · have HE : Hid (words t = pre ++ (if cur = [] then [] else [cur])) := Lib.hid (by rw [HW.out, List.drop_eq_nil_of_le (by omega), wf_nil])
      by_cases hc0 : cur = []
      · have HN := Lib.hid (show words t = pre by rw [HE.out, if_pos hc0, List.append_nil])
        subst hc0
        go_wp2_with fail
        go_ret
        exact ⟨_, rfl, by rw [HN.out]; exact strs_own HO.out, HB.out⟩
      · have HN := Lib.hid (show words t = pre ++ [cur] by rw [HE.out, if_neg hc0])
        have hem : cur.isEmpty = false := by
          cases cur with
          | nil => exact absurd rfl hc0
          | cons x y => rfl
        clear hc0
        go_wp2_with (at_builtin; refine wp_append rfl _ _ rfl w.heap.size _ pre rfl (HO.out.alloc _) _ [cur] rfl (strs_one _ cur _) (by simp; omega) (by have := HB.out.size; simp; omega) ?_)
        intro v' w2 hown' hg'
        have hB2 := below_grown (HB.out.alloc HB.out.size _) (by have := HB.out.size; simp; omega) (HO.out.alloc _) hg'
        have HB2 := Lib.hid hB2
        have HO2 := Lib.hid hown'
        clear hB2 hown' hg'
        go_wp2_with fail
        go_ret
        exact ⟨_, rfl, by rw [HN.out]; exact strs_own HO2.out, HB2.out⟩
end Go.Proofs.YtendkghifcjffaaGreatDoor.L3

/- The contracts of the reference's Fold. -/
namespace Go.Proofs.YtendkghifcjffaaGreatDoor.L3
open Go.RowKit

theorem foldW_step {ws : List (List UInt8)} (h : ∀ x ∈ ws, GoodW x) {i : Nat} (hi : i < ws.length) :
    foldW (ws.take (i + 1)) = (if 0 < i then foldW (ws.take i) ++ [32] else foldW (ws.take i)) ++ ws[i] := by
  rw [List.take_succ_eq_append_getElem hi, foldW_snoc]
  by_cases h0 : 0 < i
  · have hne : foldW (ws.take i) ≠ [] := fun e => by
      have := words_foldW (ws.take i) (fun x hx => h x (List.mem_of_mem_take hx))
      rw [e] at this
      have hl := congrArg List.length this
      simp [words, wordsFrom] at hl
      omega
    rw [if_neg hne, if_pos h0, List.append_assoc]
    rfl
  · have : i = 0 := by omega
    subst this
    simp [foldW]
theorem foldW_take_len {ws : List (List UInt8)} (h : ∀ x ∈ ws, x.length ≤ 1100) (hl : ws.length ≤ 1100) (i : Nat) : (foldW (ws.take i)).length ≤ 1300000 := by
  have h1 := foldW_le (L := 1100) (ws.take i) (fun x hx => h x (List.mem_of_mem_take hx))
  have h2 : (ws.take i).length ≤ 1100 := by rw [List.length_take]; omega
  have h3 : (ws.take i).length * (1100 + 1) ≤ 1100 * (1100 + 1) := Nat.mul_le_mul_right _ h2
  omega

set_option maxRecDepth 100000 in
set_option maxHeartbeats 4000000 in
theorem fold_ref (t : List UInt8) (ht : t.length ≤ 1100) (w : World) :
    Calls Tryz.prog 38 #[str t] w fun e w' => e = .returned (str (foldT t)) ∧ Below w.heap.size w w' := by
  have C := Lib.hid (words_ref t ht)
  have HL := Lib.hid (words_len t)
  have HE := Lib.hid (fun x (hx : x ∈ words t) => words_each hx)
  have HG := Lib.hid (words_good t)
  have HT := Lib.hid (show foldT t = foldW (words t) from rfl)
  have HM := Lib.hid ht
  obtain ⟨ws, hws⟩ : ∃ ws, words t = ws := ⟨_, rfl⟩
  rw [hws] at C HL HE HG HT
  clear hws ht
  go_enter Tryz.func38, Tryz.ntmps38
  go_wp2_with fail
  refine (C.out w).mono ?_
  rintro e1 w1 ⟨v, rfl, hs, hb⟩
  have HS := Lib.hid hs
  have HB := Lib.hid hb
  obtain ⟨A, cap, rfl, hcap, _, _⟩ := hs
  clear C hb
  go_wp2_with fail
  go_loopw [4, 5] (fun u i wr => ∃ (k : Nat), u = str (foldW (ws.take k)) ∧ i = .int .i64 (k : Int) ∧ k ≤ ws.length ∧ wr = w1)
    (fun _ i _ => ws.length + 1 - (intOf i).toNat)
  case atStart => exact ⟨0, rfl, by simp, by omega, rfl⟩
  case round =>
    obtain ⟨k, rfl, rfl, hk, rfl⟩ := hrel
    by_cases hlt : k < ws.length
    · obtain ⟨A', cap', e, _, _, hc⟩ := HS.out
      cases e
      obtain ⟨b, off, rfl, c0⟩ := hc k hlt
      clear hc
      have HN := Lib.hid (foldW_step HG.out hlt)
      have hal := foldW_take_len (fun x hx => Nat.le_trans (HE.out x hx) HM.out) (Nat.le_trans HL.out HM.out) k
      have hwk : ws[k].length ≤ 1100 := Nat.le_trans (HE.out _ (List.getElem_mem hlt)) HM.out
      have hln : ws.length ≤ 1100 := Nat.le_trans HL.out HM.out
      obtain ⟨acc, hacc⟩ : ∃ acc, foldW (ws.take k) = acc := ⟨_, rfl⟩
      rw [hacc] at HN hal
      rw [hacc]
      clear hacc
      by_cases h0 : 0 < k
      · have HP : Hid (foldW (ws.take (k + 1)) = (acc ++ [32]) ++ ws[k]) := Lib.hid (by rw [HN.out, if_pos h0])
        go_wp2_with fail
        go_roundw
        case rel => exact ⟨k + 1, by rw [HP.out]; exact congrArg Value.string ((congrArg (· ++ _) (str_add acc [32])).trans (str_add _ _)), by simp, by omega, trivial⟩
        case measure => simp [intOf]; omega
      · have HP : Hid (foldW (ws.take (k + 1)) = acc ++ ws[k]) := Lib.hid (by rw [HN.out, if_neg h0])
        go_wp2_with fail
        go_roundw
        case rel => exact ⟨k + 1, by rw [HP.out]; exact congrArg Value.string (str_add _ _), by simp, by omega, trivial⟩
        case measure => simp [intOf]; omega
    · go_wp2_with fail
      go_ret
      exact ⟨str_ret (by rw [HT.out, List.take_of_length_le (by omega)]), HB.out⟩
end Go.Proofs.YtendkghifcjffaaGreatDoor.L3

/- The contract of the reference's Sorted. -/
namespace Go.Proofs.YtendkghifcjffaaGreatDoor.L3
open Go.RowKit

/-! ### Where an element goes. -/
theorem owns_cases {w : World} {base : Nat} {v : Value} {l : List (List UInt8)} (h : OwnS w base v l) : (v = .slice none 0 0 ∧ l = []) ∨ ∃ g cap, v = .slice (some ⟨g, 0, none⟩) l.length cap ∧ l.length ≤ cap := by
  rcases h.2 with ⟨rfl, h0⟩ | ⟨g, cap, cur, rfl, _, _, hle, _⟩
  · exact .inl ⟨rfl, List.length_eq_zero_iff.1 h0⟩
  · exact .inr ⟨g, cap, rfl, hle⟩
theorem owns_fresh (W : World) : OwnS (W.alloc (.cells #[] 9)) W.heap.size (.slice (some ⟨W.heap.size, 0, none⟩) 0 0) [] :=
  ⟨rfl, .inr ⟨W.heap.size, 0, #[], rfl, Nat.le_refl _, heap_alloc_new _ _, Nat.le_refl _, by simp, rfl, rfl⟩⟩
theorem strs_take {w : World} {A : Option Addr} {cap n : Nat} {l : List (List UInt8)} (h : Strs w (.slice A l.length cap) l) (hn : n ≤ l.length) : Strs w (.slice A n cap) (l.take n) := by
  obtain ⟨A', cap', e, hc, hz, f⟩ := h
  cases e
  refine ⟨A, cap, by rw [List.length_take, Nat.min_eq_left hn], by rw [List.length_take]; omega, hz, fun i hi => ?_⟩
  rw [List.length_take] at hi
  obtain ⟨b, off, h1, h2⟩ := f i (by omega)
  exact ⟨b, off, h1, by rw [List.getElem_take]; exact h2⟩
theorem strs_drop {w : World} {b off cap n cap2 : Nat} {A : Option Addr} {l : List (List UInt8)} (h : Strs w (.slice (some ⟨b, off, none⟩) l.length cap) l) (hn : n ≤ l.length) (hc2 : l.length - n ≤ cap2) (hA : ∀ i, i < l.length - n → A = some ⟨b, off + n, none⟩) (hA0 : A = none → cap2 = 0) : Strs w (.slice A (l.length - n) cap2) (l.drop n) := by
  obtain ⟨A', cap', e, _, _, f⟩ := h
  cases e
  refine ⟨A, cap2, by rw [List.length_drop], by rw [List.length_drop]; exact hc2, hA0, fun i hi => ?_⟩
  rw [List.length_drop] at hi
  obtain ⟨b', off', h1, h2⟩ := f (n + i) (by omega)
  cases h1
  refine ⟨b, off + n, hA i hi, ?_⟩
  rw [Nat.add_assoc, List.getElem_drop]
  exact h2
theorem ins_at (x : List UInt8) : ∀ (k : Nat) (l : List (List UInt8)), (∀ y ∈ l.take k, ltS y x = true) → ins x l = l.take k ++ ins x (l.drop k)
  | 0, l, _ => rfl
  | k + 1, [], _ => rfl
  | k + 1, y :: r, h => by
    have hy := h y (by simp)
    rw [ins, if_pos hy, ins_at x k r (fun z hz => h z (by simp [hz]))]
    rfl
theorem ins_skip {x : List UInt8} {k : Nat} {l : List (List UInt8)} (h : ∀ y ∈ l.take k, ltS y x = true) (hk : k < l.length) (e : l[k] = x) : ins x l = l := by
  rw [ins_at x k l h, List.drop_eq_getElem_cons hk, ins, if_neg (by rw [e, ltS_irrefl]; decide), if_pos e, ← List.drop_eq_getElem_cons hk, List.take_append_drop]
theorem ins_put {x : List UInt8} {k : Nat} {l : List (List UInt8)} (h : ∀ y ∈ l.take k, ltS y x = true) (h2 : ∀ hk : k < l.length, ltS l[k] x = false ∧ l[k] ≠ x) : ins x l = (l.take k ++ [x]) ++ l.drop k := by
  rw [ins_at x k l h, List.append_assoc]
  rcases Nat.lt_or_ge k l.length with hk | hk
  · rw [List.drop_eq_getElem_cons hk, ins, if_neg (by rw [(h2 hk).1]; decide), if_neg (h2 hk).2]
    rfl
  · rw [List.drop_eq_nil_of_le hk]
    rfl
theorem sortD_take {l : List (List UInt8)} {i : Nat} (h : i < l.length) : sortD (l.take (i + 1)) = ins l[i] (sortD (l.take i)) := by
  rw [List.take_succ_eq_append_getElem h, sortD_snoc]
theorem take_lt_step {x : List UInt8} {k : Nat} {l : List (List UInt8)} (h : ∀ y ∈ l.take k, ltS y x = true) (hk : k < l.length) (e : ltS l[k] x = true) : ∀ y ∈ l.take (k + 1), ltS y x = true := fun y hy => by
  rw [List.take_succ_eq_append_getElem hk, List.mem_append, List.mem_singleton] at hy
  rcases hy with hy | rfl
  · exact h y hy
  · exact e

set_option maxRecDepth 100000 in
set_option maxHeartbeats 4000000 in
theorem sorted_ref (l : List (List UInt8)) (v : Value) (w : World) (hl : l.length ≤ 4000) (hs : Strs w v l) :
    Calls Tryz.prog 59 #[v] w (ListPost w (sortD l)) := by
  have HS := Lib.hid hs
  obtain ⟨A, cap, rfl, hcap, _, _⟩ := hs
  go_enter Tryz.func59, Tryz.ntmps59
  go_wp2_with fail
  go_loopw [3, 4] (fun u i wr => ∃ (k : Nat), OwnS wr w.heap.size u (sortD (l.take k)) ∧ i = .int .i64 (k : Int) ∧ k ≤ l.length ∧ Below w.heap.size w wr)
    (fun _ i _ => l.length + 1 - (intOf i).toNat)
  case atStart => exact ⟨0, owns_nil _ _, by simp, by omega, Below.refl _ _⟩
  case round =>
    obtain ⟨k, hown, rfl, hk, hb⟩ := hrel
    have HO := Lib.hid hown
    have HB := Lib.hid hb
    have hcases := owns_cases hown
    clear hown hb
    by_cases hlt : k < l.length
    · obtain ⟨A', cap', e, _, _, hc⟩ := HS.out.below HB.out
      cases e
      obtain ⟨b, off, rfl, c0⟩ := hc k hlt
      clear hc
      have HN := Lib.hid (sortD_take hlt)
      have hol : (sortD (l.take k)).length ≤ 4000 := by have := sortD_len (l.take k); rw [List.length_take] at this; omega
      obtain ⟨o, ho⟩ : ∃ o, sortD (l.take k) = o := ⟨_, rfl⟩
      obtain ⟨x, hx⟩ : ∃ x, l[k] = x := ⟨_, rfl⟩
      rw [hx, ho] at HN
      rw [hx] at c0
      rw [ho] at HO hcases hol
      clear hx ho
      obtain ⟨wo, rfl⟩ : ∃ wo, wo = wr := ⟨_, rfl⟩
      rcases hcases with ⟨rfl, rfl⟩ | ⟨g, cg, rfl, hcg⟩
      · have HI := Lib.hid (show ins x [] = ([] ++ [x]) ++ [] from rfl)
        go_wp2_with fail
        go_loopw [5] (fun j wr => j = .int .i64 0 ∧ Below wo.heap.size wo wr) (fun _ _ => 0)
        case atStart => exact ⟨rfl, Below.refl _ _⟩
        case round =>
          obtain ⟨rfl, hbq⟩ := hrel
          have HBQ := Lib.hid (below_up HB.out hbq HB.out.size)
          have c1 := cellB hbq c0
          clear hbq c0
          go_wp2_with fail
          go_quiet (fail)
          go_wp2_with fail
          go_quiet (fail)
          go_wp2_with (at_builtin; refine wp_append rfl _ _ rfl wr.heap.size _ [] rfl (owns_fresh (wr.drewN _)) _ ([]) rfl (strs_nil _) (by simp <;> omega) (by simp) ?_)
          intro v1 w1 ho1 hg1
          have HB1 := Lib.hid (below_grown (((below_drewN wr.heap.size wr _).alloc (Nat.le_refl _) _)) (by simp) (owns_fresh (wr.drewN _)) hg1)
          have HO1 := Lib.hid ho1
          have c2 := cellB HB1.out c1
          clear ho1 hg1
          go_wp2_with (at_builtin; refine wp_append rfl _ _ rfl wr.heap.size _ _ rfl (HO1.out.alloc _) _ [x] rfl (strs_one _ x _) (by simp <;> omega) (by have := HB1.out.size; simp; omega) ?_)
          intro v2 w2 ho2 hg2
          have HB2 := Lib.hid (below_grown (HB1.out.alloc HB1.out.size _) (by have := HB1.out.size; simp; omega) (HO1.out.alloc _) hg2)
          have HO2 := Lib.hid ho2
          clear ho2 hg2
          go_wp2_with (at_builtin; refine wp_append rfl _ _ rfl wr.heap.size _ _ rfl HO2.out _ ([]) rfl (strs_nil _) (by simp <;> omega) HB2.out.size ?_)
          intro v3 w3 ho3 hg3
          have HB3 := Lib.hid (below_grown HB2.out HB2.out.size HO2.out hg3)
          have HO3 := Lib.hid ho3
          clear ho3 hg3
          go_wp2_with fail
          go_roundw
          case rel => exact ⟨k + 1, by rw [HN.out, HI.out, List.append_assoc]; exact ownsRow_base_a HO3.out HBQ.out.size, by simp, by omega, below_up HBQ.out HB3.out HBQ.out.size⟩
          case measure => simp [intOf]; omega
      · go_wp2_with fail
        go_loopw [5] (fun j wr => ∃ (n : Nat), j = .int .i64 (n : Int) ∧ n ≤ o.length ∧ (∀ y ∈ o.take n, ltS y x = true) ∧ OwnS wr w.heap.size (.slice (some ⟨g, 0, none⟩) o.length cg) o ∧ Below wo.heap.size wo wr) (fun j _ => o.length + 1 - (intOf j).toNat)
        case atStart => exact ⟨0, by simp, by omega, by simp, HO.out, Below.refl _ _⟩
        case round =>
          obtain ⟨n, rfl, hn, hT, hoq, hbq⟩ := hrel
          have HT := Lib.hid hT
          have HBQ := Lib.hid (below_up HB.out hbq HB.out.size)
          have HBR := Lib.hid hbq
          have HOQ := Lib.hid hoq
          have c1 := cellB hbq c0
          clear hT hbq hoq c0
          by_cases hno : n < o.length
          · obtain ⟨A1, cap1, e, _, _, hc⟩ := strs_own HOQ.out
            cases e
            obtain ⟨g', off', e, d0⟩ := hc n hno
            cases e
            clear hc
            rw [Nat.zero_add] at d0
            have d1 : ∀ m, (wr.drewN m).cell? ⟨g, n, none⟩ = some (str o[n]) := fun m => cellB (below_drewN wr.heap.size wr m) d0
            have c3 : ∀ m, (wr.drewN m).cell? ⟨b, off + k, none⟩ = some (str x) := fun m => cellB (below_drewN wr.heap.size wr m) c1
            obtain ⟨c, hcc⟩ : ∃ c, Op.bytesLess o[n] x = c := ⟨_, rfl⟩
            have HC := Lib.hid (show ltS o[n] x = c by rw [← bytesLess_eq, hcc])
            go_wp2_with fail
            go_quiet (fail)
            cases c
            · obtain ⟨d, hd⟩ : ∃ d, (o[n] == x) = d := ⟨_, rfl⟩
              go_wp2_with fail
              go_quiet (fail)
              cases d
              · have HI := Lib.hid (ins_put HT.out (fun _ => ⟨HC.out, fun e => by rw [e] at hd; simp at hd⟩))
                clear hcc hd
                go_wp2_with (at_builtin; refine wp_append rfl _ _ rfl wr.heap.size _ [] rfl (owns_fresh (wr.drewN _)) _ (o.take n) rfl (strs_take ((strs_own HOQ.out).below (((below_drewN wr.heap.size wr _).alloc (Nat.le_refl _) _))) hn) (by simp <;> omega) (by simp) ?_)
                intro v1 w1 ho1 hg1
                have HB1 := Lib.hid (below_grown (((below_drewN wr.heap.size wr _).alloc (Nat.le_refl _) _)) (by simp) (owns_fresh (wr.drewN _)) hg1)
                have HO1 := Lib.hid ho1
                have c2 := cellB HB1.out c1
                clear ho1 hg1
                go_wp2_with (at_builtin; refine wp_append rfl _ _ rfl wr.heap.size _ _ rfl (HO1.out.alloc _) _ [x] rfl (strs_one _ x _) (by simp <;> omega) (by have := HB1.out.size; simp; omega) ?_)
                intro v2 w2 ho2 hg2
                have HB2 := Lib.hid (below_grown (HB1.out.alloc HB1.out.size _) (by have := HB1.out.size; simp; omega) (HO1.out.alloc _) hg2)
                have HO2 := Lib.hid ho2
                clear ho2 hg2
                have HSo := Lib.hid ((strs_own HOQ.out).below HB2.out)
                have hcn : ¬ cg = n := by omega
                go_wp2_with (at_builtin; refine wp_append rfl _ _ rfl wr.heap.size _ _ rfl HO2.out _ (o.drop n) rfl (strs_drop (A := some ⟨g, n, none⟩) HSo.out hn (by omega) (fun i _ => by rw [Nat.zero_add]) (fun e => by cases e)) (by simp <;> omega) HB2.out.size ?_)
                intro v3 w3 ho3 hg3
                have HB3 := Lib.hid (below_grown HB2.out HB2.out.size HO2.out hg3)
                have HO3 := Lib.hid ho3
                clear ho3 hg3
                go_wp2_with fail
                go_roundw
                case rel => exact ⟨k + 1, by rw [HN.out, HI.out, List.append_assoc]; exact ownsRow_base_a HO3.out HBQ.out.size, by simp, by omega, below_up HBQ.out HB3.out HBQ.out.size⟩
                case measure => simp [intOf]; omega
              · have HI := Lib.hid (ins_skip HT.out hno (by simpa using hd))
                clear hcc hd
                go_wp2_with fail
                go_roundw
                case rel => exact ⟨k + 1, by rw [HN.out, HI.out]; exact HOQ.out, by simp, by omega, dN HBQ.out _⟩
                case measure => simp [intOf]; omega
            · go_wp2_with fail
              go_roundw
              case rel => exact ⟨n + 1, by simp, by omega, take_lt_step HT.out hno HC.out, HOQ.out, dN HBR.out _⟩
              case measure => simp [intOf]; omega
          · have HI := Lib.hid (ins_put (x := x) HT.out (fun h => absurd h hno))
            go_wp2_with fail
            go_quiet (fail)
            go_wp2_with fail
            go_quiet (fail)
            go_wp2_with (at_builtin; refine wp_append rfl _ _ rfl wr.heap.size _ [] rfl (owns_fresh (wr.drewN _)) _ (o.take n) rfl (strs_take ((strs_own HOQ.out).below (((below_drewN wr.heap.size wr _).alloc (Nat.le_refl _) _))) hn) (by simp <;> omega) (by simp) ?_)
            intro v1 w1 ho1 hg1
            have HB1 := Lib.hid (below_grown (((below_drewN wr.heap.size wr _).alloc (Nat.le_refl _) _)) (by simp) (owns_fresh (wr.drewN _)) hg1)
            have HO1 := Lib.hid ho1
            have c2 := cellB HB1.out c1
            clear ho1 hg1
            go_wp2_with (at_builtin; refine wp_append rfl _ _ rfl wr.heap.size _ _ rfl (HO1.out.alloc _) _ [x] rfl (strs_one _ x _) (by simp <;> omega) (by have := HB1.out.size; simp; omega) ?_)
            intro v2 w2 ho2 hg2
            have HB2 := Lib.hid (below_grown (HB1.out.alloc HB1.out.size _) (by have := HB1.out.size; simp; omega) (HO1.out.alloc _) hg2)
            have HO2 := Lib.hid ho2
            clear ho2 hg2
            have HSo := Lib.hid ((strs_own HOQ.out).below HB2.out)
            by_cases hcn : cg = n
            · go_wp2_with (at_builtin; refine wp_append rfl _ _ rfl wr.heap.size _ _ rfl HO2.out _ (o.drop n) rfl (strs_drop (A := some ⟨g, 0, none⟩) HSo.out hn (by omega) (fun i h => absurd h (by omega)) (fun e => by cases e)) (by simp <;> omega) HB2.out.size ?_)
              intro v3 w3 ho3 hg3
              have HB3 := Lib.hid (below_grown HB2.out HB2.out.size HO2.out hg3)
              have HO3 := Lib.hid ho3
              clear ho3 hg3
              go_wp2_with fail
              go_roundw
              case rel => exact ⟨k + 1, by rw [HN.out, HI.out, List.append_assoc]; exact ownsRow_base_a HO3.out HBQ.out.size, by simp, by omega, below_up HBQ.out HB3.out HBQ.out.size⟩
              case measure => simp [intOf]; omega
            · go_wp2_with (at_builtin; refine wp_append rfl _ _ rfl wr.heap.size _ _ rfl HO2.out _ (o.drop n) rfl (strs_drop (A := some ⟨g, n, none⟩) HSo.out hn (by omega) (fun i _ => by rw [Nat.zero_add]) (fun e => by cases e)) (by simp <;> omega) HB2.out.size ?_)
              intro v3 w3 ho3 hg3
              have HB3 := Lib.hid (below_grown HB2.out HB2.out.size HO2.out hg3)
              have HO3 := Lib.hid ho3
              clear ho3 hg3
              go_wp2_with fail
              go_roundw
              case rel => exact ⟨k + 1, by rw [HN.out, HI.out, List.append_assoc]; exact ownsRow_base_a HO3.out HBQ.out.size, by simp, by omega, below_up HBQ.out HB3.out HBQ.out.size⟩
              case measure => simp [intOf]; omega
    · have e : l.take k = l := List.take_of_length_le (by omega)
      rw [e] at HO hcases
      rcases hcases with ⟨rfl, h0⟩ | ⟨g, cg, rfl, hcg⟩
      · go_wp2_with fail
        go_ret
        exact ⟨_, rfl, strs_own HO.out, HB.out⟩
      · go_wp2_with fail
        go_ret
        exact ⟨_, rfl, strs_own HO.out, HB.out⟩
end Go.Proofs.YtendkghifcjffaaGreatDoor.L3

/- The contracts of the reference's Tokens and Grams. -/
namespace Go.Proofs.YtendkghifcjffaaGreatDoor.L3
open Go.RowKit

theorem tokens_ref (t : List UInt8) (ht : t.length ≤ 1100) (w : World) :
    Calls Tryz.prog 37 #[str t] w (ListPost w (sortD (words t))) := by
  have C := Lib.hid (words_ref t ht w)
  have HL := Lib.hid (Nat.le_trans (words_len t) ht)
  go_enter Tryz.func37, Tryz.ntmps37
  go_wp2_with fail
  refine C.out.mono ?_
  rintro e1 w1 ⟨v, rfl, hs, hb⟩
  have HB := Lib.hid hb
  have D := Lib.hid (sorted_ref (words t) v w1 (by have := HL.out; omega) hs)
  clear hs hb C
  go_wp2_with fail
  refine D.out.mono ?_
  rintro e2 w2 ⟨u, rfl, hs, hb⟩
  have HS := Lib.hid hs
  have HB2 := Lib.hid (below_up HB.out hb HB.out.size)
  clear hs hb D
  go_wp2_with fail
  go_ret
  exact ⟨_, rfl, HS.out, HB2.out⟩

end Go.Proofs.YtendkghifcjffaaGreatDoor.L3

