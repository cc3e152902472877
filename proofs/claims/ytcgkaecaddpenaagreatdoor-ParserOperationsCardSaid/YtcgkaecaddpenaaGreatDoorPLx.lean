import Derived.Lib.Hide
/- The tokens of a text, in plain words: gaps, names, numbers, texts, symbols; what stands behind a token does not change it. -/
namespace Go.Proofs.YtcgkaecaddpenaaGreatDoor.L7

def Lt (c : UInt8) : Bool := (decide (97 ≤ c.toNat) && decide (c.toNat ≤ 122)) || (decide (65 ≤ c.toNat) && decide (c.toNat ≤ 90))
def Dg (c : UInt8) : Bool := decide (48 ≤ c.toNat) && decide (c.toNat ≤ 57)
def In (c : UInt8) : Bool := Lt c || Dg c || c == 95
/-- How many bytes of gaps a text begins with; whether a comment is open. -/
def gapC : Bool → List UInt8 → Nat
  | _, [] => 0
  | cm, c :: r => if c = 10 then gapC false r + 1 else if c = 35 then gapC true r + 1 else if cm = false ∧ c ≠ 32 ∧ c ≠ 9 then 0 else gapC cm r + 1
abbrev gap (r : List UInt8) : Nat := gapC false r
def syms : List UInt8 := [59, 58, 44, 46, 40, 41, 123, 125, 61, 60, 43, 45, 47, 64]
/-- The length of the symbol that a text begins with. -/
def symN : List UInt8 → Nat
  | [] => 0
  | c :: r => if r.head? = some 61 ∧ (c = 33 ∨ c = 60) then 2 else if c ∈ syms then 1 else 0
/-- The content behind a quote, the bytes that it takes (the last quote with it), the error. -/
def con : List UInt8 → List UInt8 × Nat × Int
  | [] => ([], 0, 7)
  | [c] => if c = 34 then ([], 1, 0) else if c = 10 then ([], 0, 5) else ([], 0, 7)
  | c :: d :: r => if c = 34 then ([], 1, 0) else if c = 10 then ([], 0, 5) else
    if c = 92 then (if d = 34 ∨ d = 92 ∨ d = 110 then ((if d = 110 then 10 else d) :: (con r).1, (con r).2.1 + 2, (con r).2.2) else ([], 0, 5))
    else (c :: (con (d :: r)).1, (con (d :: r)).2.1 + 1, (con (d :: r)).2.2)
def num (l : List UInt8) : Nat := l.foldl (fun v c => 10 * v + (c.toNat - 48)) 0
def bad (e : Int) : (Int × List UInt8 × Int) × Nat × Int := ((0, [], 0), 0, e)
/-- The token that a text begins with: kind, text, value; its length; the error. -/
def tok : List UInt8 → (Int × List UInt8 × Int) × Nat × Int
  | [] => bad 5
  | c :: r =>
    if Lt c = true then (if 24 < ((c :: r).takeWhile In).length then bad 3 else ((1, (c :: r).takeWhile In, 0), ((c :: r).takeWhile In).length, 0))
    else if Dg c = true then (if 10 < ((c :: r).takeWhile Dg).length ∨ (∃ s, ((c :: r).dropWhile Dg).head? = some s ∧ In s = true) then bad 6 else ((2, (c :: r).takeWhile Dg, (num ((c :: r).takeWhile Dg) : Int)), ((c :: r).takeWhile Dg).length, 0))
    else if c = 34 then (if (con r).2.2 ≠ 0 then bad (con r).2.2 else if 200 < (con r).1.length then bad 3 else ((3, (con r).1, 0), (con r).2.1 + 1, 0))
    else if symN (c :: r) = 0 then bad 5 else ((4, (c :: r).take (symN (c :: r)), 0), symN (c :: r), 0)
structure Tk where
  kind : Int
  text : List UInt8
  n : Int
  at_ : Int
deriving DecidableEq
def tkOf (t : Int × List UInt8 × Int) (at_ : Nat) : Tk := ⟨t.1, t.2.1, t.2.2, (at_ : Int)⟩
/-- The tokens up to the first error, the error, its offset. -/
def raw : Nat → List UInt8 → Nat → List Tk × Int × Int
  | 0, _, _ => ([], 0, 0)
  | f + 1, r, p =>
    if r.drop (gap r) = [] then ([], 0, 0)
    else if (tok (r.drop (gap r))).2.2 ≠ 0 then ([], (tok (r.drop (gap r))).2.2, ((p + gap r : Nat) : Int))
    else (tkOf (tok (r.drop (gap r))).1 (p + gap r) :: (raw f ((r.drop (gap r)).drop (tok (r.drop (gap r))).2.1) (p + gap r + (tok (r.drop (gap r))).2.1)).1, (raw f ((r.drop (gap r)).drop (tok (r.drop (gap r))).2.1) (p + gap r + (tok (r.drop (gap r))).2.1)).2)
def lexT (t : List UInt8) : List Tk × Int × Int :=
  if 20000 < t.length then ([], 3, -1) else
  match (raw (t.length + 1) t 0).1[5000]? with
  | some x => ([], 3, x.at_)
  | none => if (raw (t.length + 1) t 0).2.1 ≠ 0 then ([], (raw (t.length + 1) t 0).2) else ((raw (t.length + 1) t 0).1, 0, 0)

/-! ### Gaps. -/
theorem gapC_nl {cm : Bool} {c : UInt8} {r : List UInt8} (h : c = 10) : gapC cm (c :: r) = gapC false r + 1 := by rw [gapC, if_pos h]
theorem gapC_hash {cm : Bool} {c : UInt8} {r : List UInt8} (h : c ≠ 10) (h2 : c = 35) : gapC cm (c :: r) = gapC true r + 1 := by rw [gapC, if_neg h, if_pos h2]
theorem gapC_tok {cm : Bool} {c : UInt8} {r : List UInt8} (h : c ≠ 10) (h2 : c ≠ 35) (h3 : cm = false ∧ c ≠ 32 ∧ c ≠ 9) : gapC cm (c :: r) = 0 := by rw [gapC, if_neg h, if_neg h2, if_pos h3]
theorem gapC_in {cm : Bool} {c : UInt8} {r : List UInt8} (h : c ≠ 10) (h2 : c ≠ 35) (h3 : ¬ (cm = false ∧ c ≠ 32 ∧ c ≠ 9)) : gapC cm (c :: r) = gapC cm r + 1 := by rw [gapC, if_neg h, if_neg h2, if_neg h3]
/-- A byte of gaps, or the end of them. -/
theorem gap_step (cm : Bool) (c : UInt8) : (∀ r, gapC cm (c :: r) = 0) ∨ ∃ cm', ∀ r, gapC cm (c :: r) = gapC cm' r + 1 := by
  by_cases h1 : c = 10
  · exact .inr ⟨false, fun r => gapC_nl h1⟩
  · by_cases h2 : c = 35
    · exact .inr ⟨true, fun r => gapC_hash h1 h2⟩
    · by_cases h3 : cm = false ∧ c ≠ 32 ∧ c ≠ 9
      · exact .inl fun r => gapC_tok h1 h2 h3
      · exact .inr ⟨cm, fun r => gapC_in h1 h2 h3⟩
theorem gapC_le (cm : Bool) (r : List UInt8) : gapC cm r ≤ r.length := by
  induction r generalizing cm with
  | nil => simp [gapC]
  | cons c r ih =>
    rcases gap_step cm c with h | ⟨cm', h⟩
    · rw [h]
      omega
    · rw [h, List.length_cons]
      have := ih cm'
      omega
theorem gap_app_lt (cm : Bool) (a x : List UInt8) (h : gapC cm a < a.length) : gapC cm (a ++ x) = gapC cm a := by
  induction a generalizing cm with
  | nil => simp [gapC] at h
  | cons c r ih =>
    rw [List.cons_append]
    rcases gap_step cm c with e | ⟨cm', e⟩
    · rw [e, e]
    · rw [e, List.length_cons] at h
      rw [e, e, ih cm' (by omega)]
/-- All of it gaps, whatever is open before. -/
def AllGap (x : List UInt8) : Prop := ∀ cm, gapC cm x = x.length
theorem gap_app_all (cm : Bool) (a x : List UInt8) (n : Nat) (h : gapC cm a = a.length) (hx : ∀ cm, gapC cm x = n) : gapC cm (a ++ x) = a.length + n := by
  induction a generalizing cm with
  | nil => simpa using hx cm
  | cons c r ih =>
    rw [List.cons_append]
    rcases gap_step cm c with e | ⟨cm', e⟩
    · rw [e] at h
      simp at h
    · rw [e, List.length_cons] at h
      rw [e, ih cm' (by omega), List.length_cons]
      omega
theorem gap_nl (b : List UInt8) (cm : Bool) : gapC cm (10 :: b) = gap b + 1 := gapC_nl rfl
theorem gap_take (cm : Bool) (r : List UInt8) : gapC cm (r.take (gapC cm r)) = gapC cm r := by
  induction r generalizing cm with
  | nil => simp [gapC]
  | cons c r ih =>
    rcases gap_step cm c with e | ⟨cm', e⟩
    · rw [e]
      simp [gapC]
    · rw [e, List.take_succ_cons, e, ih]
/-- Behind its gaps a text is at its end or begins with a byte that is none. -/
theorem gap_drop (r : List UInt8) (c : UInt8) (x : List UInt8) (h : r.drop (gap r) = c :: x) : c ≠ 10 ∧ c ≠ 35 ∧ c ≠ 32 ∧ c ≠ 9 := by
  have key : ∀ (cm : Bool) (r : List UInt8), r.drop (gapC cm r) = c :: x → c ≠ 10 ∧ c ≠ 35 ∧ c ≠ 32 ∧ c ≠ 9 := by
    intro cm r
    induction r generalizing cm with
    | nil => intro h; simp at h
    | cons d r ih =>
      intro h
      by_cases h1 : d = 10
      · rw [gapC_nl h1] at h
        exact ih false h
      · by_cases h2 : d = 35
        · rw [gapC_hash h1 h2] at h
          exact ih true h
        · by_cases h3 : cm = false ∧ d ≠ 32 ∧ d ≠ 9
          · rw [gapC_tok h1 h2 h3] at h
            simp at h
            obtain ⟨rfl, _⟩ := h
            exact ⟨h1, h2, h3.2⟩
          · rw [gapC_in h1 h2 h3] at h
            exact ih cm h
  exact key false r h
theorem gap_none {c : UInt8} {r : List UInt8} (h : c ≠ 10 ∧ c ≠ 35 ∧ c ≠ 32 ∧ c ≠ 9) : gap (c :: r) = 0 := gapC_tok h.1 h.2.1 ⟨rfl, h.2.2⟩
end Go.Proofs.YtcgkaecaddpenaaGreatDoor.L7

/- What stands behind a token does not change it. -/
namespace Go.Proofs.YtcgkaecaddpenaaGreatDoor.L7

theorem take_tw (p : UInt8 → Bool) (l : List UInt8) : l.take (l.takeWhile p).length = l.takeWhile p := by
  have h := List.takeWhile_append_dropWhile (p := p) (l := l)
  have : (l.takeWhile p ++ l.dropWhile p).take (l.takeWhile p).length = l.takeWhile p := List.take_left
  rwa [h] at this
theorem drop_tw (p : UInt8 → Bool) (l : List UInt8) : l.drop (l.takeWhile p).length = l.dropWhile p := by
  have h := List.takeWhile_append_dropWhile (p := p) (l := l)
  have : (l.takeWhile p ++ l.dropWhile p).drop (l.takeWhile p).length = l.dropWhile p := List.drop_left
  rwa [h] at this
theorem head_dw (p : UInt8 → Bool) (l : List UInt8) (s : UInt8) (h : (l.dropWhile p).head? = some s) : p s = false := by
  induction l with
  | nil => simp at h
  | cons c r ih =>
    by_cases hc : p c = true
    · rw [List.dropWhile_cons_of_pos hc] at h
      exact ih h
    · rw [List.dropWhile_cons_of_neg hc] at h
      simp at h
      subst h
      simpa using hc
theorem mem_tw (p : UInt8 → Bool) (l : List UInt8) : ∀ a ∈ l.takeWhile p, p a = true := by
  induction l with
  | nil => simp
  | cons c r ih =>
    by_cases hc : p c = true
    · rw [List.takeWhile_cons_of_pos hc]
      intro a ha
      rcases List.mem_cons.1 ha with rfl | ha
      · exact hc
      · exact ih a ha
    · rw [List.takeWhile_cons_of_neg hc]
      simp
/-- What begins with no such byte adds nothing. -/
theorem tw_app (p : UInt8 → Bool) (w y : List UInt8) (hw : ∀ a ∈ w, p a = true) (hy : ∀ s, y.head? = some s → p s = false) : (w ++ y).takeWhile p = w ∧ (w ++ y).dropWhile p = y := by
  have h1 : y.takeWhile p = [] ∧ y.dropWhile p = y := by
    cases y with
    | nil => simp
    | cons s y =>
      have := hy s rfl
      rw [List.takeWhile_cons_of_neg (by simp [this]), List.dropWhile_cons_of_neg (by simp [this])]
      exact ⟨rfl, rfl⟩
  induction w with
  | nil => simpa using h1
  | cons c w ih =>
    have hc := hw c List.mem_cons_self
    have := ih (fun a ha => hw a (List.mem_cons_of_mem _ ha))
    rw [List.cons_append, List.takeWhile_cons_of_pos hc, List.dropWhile_cons_of_pos hc, this.1, this.2]
    exact ⟨rfl, rfl⟩

theorem lt_in {c : UInt8} (h : Lt c = true) : In c = true := by unfold In; rw [h]; rfl
theorem dg_in {c : UInt8} (h : In c = false) : Dg c = false := by
  unfold In at h
  cases hd : Dg c with
  | false => rfl
  | true => rw [hd] at h; simp at h

/-! ### The content of a text. -/
theorem con_end (r : List UInt8) : con (34 :: r) = ([], 1, 0) := by
  cases r with
  | nil => rw [con, if_pos rfl]
  | cons d r => rw [con, if_pos rfl]
theorem con_esc {d : UInt8} {r : List UInt8} (h : d = 34 ∨ d = 92 ∨ d = 110) : con (92 :: d :: r) = ((if d = 110 then 10 else d) :: (con r).1, (con r).2.1 + 2, (con r).2.2) := by
  rw [con, if_neg (by decide), if_neg (by decide), if_pos rfl, if_pos h]
theorem con_plain {c : UInt8} {r : List UInt8} (h1 : c ≠ 34) (h2 : c ≠ 10) (h3 : c ≠ 92) (hr : r ≠ []) : con (c :: r) = (c :: (con r).1, (con r).2.1 + 1, (con r).2.2) := by
  cases r with
  | nil => exact absurd rfl hr
  | cons d r => rw [con, if_neg h1, if_neg h2, if_neg h3]
/-- How a content that ends begins. -/
theorem con_cases {l s : List UInt8} {n : Nat} (h : con l = (s, n, 0)) :
    (∃ r, l = 34 :: r ∧ s = [] ∧ n = 1) ∨ (∃ d r s' n', l = 92 :: d :: r ∧ (d = 34 ∨ d = 92 ∨ d = 110) ∧ con r = (s', n', 0) ∧ s = (if d = 110 then 10 else d) :: s' ∧ n = n' + 2) ∨
    (∃ c r s' n', l = c :: r ∧ c ≠ 34 ∧ c ≠ 10 ∧ c ≠ 92 ∧ con r = (s', n', 0) ∧ s = c :: s' ∧ n = n' + 1) := by
  match l with
  | [] => rw [con] at h; simp at h
  | [c] =>
    rw [con] at h
    by_cases h1 : c = 34
    · subst h1
      rw [if_pos rfl] at h
      simp only [Prod.mk.injEq] at h
      exact .inl ⟨[], rfl, h.1.symm, h.2.1.symm⟩
    · rw [if_neg h1] at h
      split at h <;> simp at h
  | c :: d :: r =>
    by_cases h1 : c = 34
    · subst h1
      rw [con_end] at h
      simp only [Prod.mk.injEq] at h
      exact .inl ⟨d :: r, rfl, h.1.symm, h.2.1.symm⟩
    · by_cases h2 : c = 10
      · rw [con, if_neg h1, if_pos h2] at h
        simp at h
      · by_cases h3 : c = 92
        · subst h3
          by_cases h4 : d = 34 ∨ d = 92 ∨ d = 110
          · rw [con_esc h4] at h
            simp only [Prod.mk.injEq] at h
            refine .inr (.inl ⟨d, r, (con r).1, (con r).2.1, rfl, h4, ?_, h.1.symm, h.2.1.symm⟩)
            rw [← h.2.2]
          · rw [con, if_neg h1, if_neg h2, if_pos rfl, if_neg h4] at h
            simp at h
        · rw [con_plain h1 h2 h3 (by simp)] at h
          simp only [Prod.mk.injEq] at h
          refine .inr (.inr ⟨c, d :: r, (con (d :: r)).1, (con (d :: r)).2.1, rfl, h1, h2, h3, ?_, h.1.symm, h.2.1.symm⟩)
          rw [← h.2.2]
theorem con_ne {l s : List UInt8} {n : Nat} (h : con l = (s, n, 0)) : l ≠ [] := by rintro rfl; rw [con] at h; simp at h
theorem con_ext : ∀ (m : Nat) (l s : List UInt8) (n : Nat), l.length ≤ m → con l = (s, n, 0) → 1 ≤ n ∧ n ≤ l.length ∧ ∀ y, con (l.take n ++ y) = (s, n, 0)
  | 0, l, s, n, hm, h => by
    have : l = [] := List.length_eq_zero_iff.1 (by omega)
    subst this
    rw [con] at h
    simp at h
  | m + 1, l, s, n, hm, h => by
    rcases con_cases h with ⟨r, rfl, rfl, rfl⟩ | ⟨d, r, s', n', rfl, hd, hr, rfl, rfl⟩ | ⟨c, r, s', n', rfl, h1, h2, h3, hr, rfl, rfl⟩
    · exact ⟨by omega, by simp, fun y => by simp [con_end]⟩
    · obtain ⟨a, b, k⟩ := con_ext m r s' n' (by simp at hm; omega) hr
      refine ⟨by omega, by simp; omega, fun y => ?_⟩
      rw [List.take_succ_cons, List.take_succ_cons, List.cons_append, List.cons_append, con_esc hd, k y]
    · obtain ⟨a, b, k⟩ := con_ext m r s' n' (by simp at hm; omega) hr
      refine ⟨by omega, by simp; omega, fun y => ?_⟩
      have hne := con_ne (k y)
      rw [List.take_succ_cons, List.cons_append, con_plain h1 h2 h3 hne, k y]

/-! ### A token. -/
/-- What may stand behind a token of length n at the beginning of r: nothing, a byte that continues no token, or what stands there. -/
def Fol (r : List UInt8) (n : Nat) (y : List UInt8) : Prop := ∀ s, y.head? = some s → (In s = false ∧ s ≠ 61) ∨ (r.drop n).head? = some s
theorem Fol.nil (r : List UInt8) (n : Nat) : Fol r n [] := fun s h => by simp at h
theorem Fol.good {r : List UInt8} {n : Nat} {s : UInt8} {y : List UInt8} (h1 : In s = false) (h2 : s ≠ 61) : Fol r n (s :: y) := fun t h => by
  simp at h
  subst h
  exact .inl ⟨h1, h2⟩
theorem tok_name {c : UInt8} {r : List UInt8} (h : Lt c = true) : tok (c :: r) = if 24 < ((c :: r).takeWhile In).length then bad 3 else ((1, (c :: r).takeWhile In, 0), ((c :: r).takeWhile In).length, 0) := by rw [tok, if_pos h]
theorem tok_num {c : UInt8} {r : List UInt8} (h : Lt c ≠ true) (h2 : Dg c = true) : tok (c :: r) = if 10 < ((c :: r).takeWhile Dg).length ∨ (∃ s, ((c :: r).dropWhile Dg).head? = some s ∧ In s = true) then bad 6 else ((2, (c :: r).takeWhile Dg, (num ((c :: r).takeWhile Dg) : Int)), ((c :: r).takeWhile Dg).length, 0) := by
  rw [tok, if_neg h, if_pos h2]
theorem not_lt34 : Lt 34 ≠ true := by decide
theorem not_dg34 : Dg 34 ≠ true := by decide
theorem tok_text (r : List UInt8) : tok (34 :: r) = if (con r).2.2 ≠ 0 then bad (con r).2.2 else if 200 < (con r).1.length then bad 3 else ((3, (con r).1, 0), (con r).2.1 + 1, 0) := by
  rw [tok, if_neg not_lt34, if_neg not_dg34, if_pos rfl]
theorem tok_sym {c : UInt8} {r : List UInt8} (h : Lt c ≠ true) (h2 : Dg c ≠ true) (h3 : c ≠ 34) : tok (c :: r) = if symN (c :: r) = 0 then bad 5 else ((4, (c :: r).take (symN (c :: r)), 0), symN (c :: r), 0) := by
  rw [tok, if_neg h, if_neg h2, if_neg h3]
theorem bad_ne {e : Int} {t : Int × List UInt8 × Int} {n : Nat} (he : e ≠ 0) : bad e ≠ (t, n, 0) := by
  unfold bad
  intro h
  simp only [Prod.mk.injEq] at h
  exact he h.2.2
theorem symN_cons (c : UInt8) (r : List UInt8) : symN (c :: r) = if r.head? = some 61 ∧ (c = 33 ∨ c = 60) then 2 else if c ∈ syms then 1 else 0 := rfl
theorem symN_cases (c : UInt8) (r : List UInt8) : (symN (c :: r) = 2 ∧ ∃ r', r = 61 :: r' ∧ (c = 33 ∨ c = 60)) ∨ (symN (c :: r) = 1 ∧ c ∈ syms ∧ ¬ (r.head? = some 61 ∧ (c = 33 ∨ c = 60))) ∨ symN (c :: r) = 0 := by
  by_cases h : r.head? = some 61 ∧ (c = 33 ∨ c = 60)
  · refine .inl ⟨by rw [symN_cons, if_pos h], ?_⟩
    cases r with
    | nil => simp at h
    | cons d r =>
      simp at h
      exact ⟨r, by rw [h.1], h.2⟩
  · by_cases h2 : c ∈ syms
    · exact .inr (.inl ⟨by rw [symN_cons, if_neg h, if_pos h2], h2, h⟩)
    · exact .inr (.inr (by rw [symN_cons, if_neg h, if_neg h2]))
theorem tok_ext {r : List UInt8} {t : Int × List UInt8 × Int} {n : Nat} (h : tok r = (t, n, 0)) : 1 ≤ n ∧ n ≤ r.length ∧ ∀ y, Fol r n y → tok (r.take n ++ y) = (t, n, 0) := by
  match r with
  | [] => rw [tok] at h; exact absurd h (bad_ne (by decide))
  | c :: r =>
    by_cases h1 : Lt c = true
    · rw [tok_name h1] at h
      split at h
      · exact absurd h (bad_ne (by decide))
      · rename_i hlen
        simp only [Prod.mk.injEq] at h
        obtain ⟨rfl, rfl, _⟩ := h
        have e0 : (c :: r).takeWhile In = c :: r.takeWhile In := List.takeWhile_cons_of_pos (lt_in h1)
        refine ⟨by rw [e0]; simp, (List.takeWhile_sublist _).length_le, fun y hy => ?_⟩
        rw [take_tw]
        have h2 := (tw_app In ((c :: r).takeWhile In) y (mem_tw _ _) (fun s hs => by
          rcases hy s hs with h | h
          · exact h.1
          · rw [drop_tw] at h
            exact head_dw _ _ _ h)).1
        obtain ⟨w, hw⟩ : ∃ w, (c :: r).takeWhile In = w := ⟨_, rfl⟩
        rw [hw] at h2 hlen ⊢
        rw [hw] at e0
        rw [e0] at h2 hlen ⊢
        rw [List.cons_append] at h2 ⊢
        rw [tok_name h1, h2, if_neg hlen]
    · by_cases h2 : Dg c = true
      · rw [tok_num h1 h2] at h
        split at h
        · exact absurd h (bad_ne (by decide))
        · rename_i hlen
          simp only [Prod.mk.injEq] at h
          obtain ⟨rfl, rfl, _⟩ := h
          have e0 : (c :: r).takeWhile Dg = c :: r.takeWhile Dg := List.takeWhile_cons_of_pos h2
          refine ⟨by rw [e0]; simp, (List.takeWhile_sublist _).length_le, fun y hy => ?_⟩
          have hin : ∀ s, y.head? = some s → In s = false := fun s hs => by
            rcases hy s hs with h | h
            · exact h.1
            · rw [drop_tw] at h
              cases hi : In s with
              | false => rfl
              | true => exact absurd (.inr ⟨s, h, hi⟩) hlen
          rw [take_tw]
          have h3 := tw_app Dg ((c :: r).takeWhile Dg) y (mem_tw _ _) (fun s hs => dg_in (hin s hs))
          have hl2 : ¬ 10 < ((c :: r).takeWhile Dg).length := fun q => hlen (.inl q)
          obtain ⟨w, hw⟩ : ∃ w, (c :: r).takeWhile Dg = w := ⟨_, rfl⟩
          rw [hw] at h3 hl2 ⊢
          rw [hw] at e0
          rw [e0] at h3 hl2 ⊢
          rw [List.cons_append] at h3 ⊢
          rw [tok_num h1 h2, h3.1, h3.2, if_neg]
          rintro (q | ⟨s, q1, q2⟩)
          · exact hl2 q
          · rw [hin s q1] at q2
            simp at q2
      · by_cases h3 : c = 34
        · subst h3
          rw [tok_text] at h
          split at h
          · rename_i he
            exact absurd h (bad_ne he)
          · rename_i he
            split at h
            · exact absurd h (bad_ne (by decide))
            · rename_i hlen
              simp only [Prod.mk.injEq] at h
              obtain ⟨rfl, rfl, _⟩ := h
              have hc : con r = ((con r).1, (con r).2.1, 0) := by
                have : (con r).2.2 = 0 := by simpa using he
                rw [← this]
              obtain ⟨a, b, k⟩ := con_ext r.length r _ _ (Nat.le_refl _) hc
              refine ⟨by omega, by simp; omega, fun y _ => ?_⟩
              rw [List.take_succ_cons, List.cons_append, tok_text, k y]
              simp only
              rw [if_neg (by simp), if_neg hlen]
        · rw [tok_sym h1 h2 h3] at h
          split at h
          · exact absurd h (bad_ne (by decide))
          · rename_i hs
            simp only [Prod.mk.injEq] at h
            obtain ⟨rfl, rfl, _⟩ := h
            rcases symN_cases c r with ⟨e, r', rfl, hc⟩ | ⟨e, hm, hn⟩ | e
            · rw [e]
              refine ⟨by omega, by simp, fun y _ => ?_⟩
              have e2 : symN (c :: 61 :: y) = 2 := by rw [symN_cons, if_pos ⟨rfl, hc⟩]
              show tok (c :: 61 :: y) = _
              rw [tok_sym h1 h2 h3, e2, if_neg (by omega)]
              rfl
            · rw [e]
              refine ⟨by omega, by simp, fun y hy => ?_⟩
              have e2 : symN (c :: y) = 1 := by
                rw [symN_cons, if_neg, if_pos hm]
                rintro ⟨q1, q2⟩
                rcases hy 61 q1 with h | h
                · exact h.2 rfl
                · exact hn ⟨h, q2⟩
              show tok (c :: y) = _
              rw [tok_sym h1 h2 h3, e2, if_neg (by omega)]
              rfl
            · exact absurd e hs
end Go.Proofs.YtcgkaecaddpenaaGreatDoor.L7

/- The tokens of a text, one behind the other: texts that are put together, taken apart. -/
namespace Go.Proofs.YtcgkaecaddpenaaGreatDoor.L7

theorem raw_fuel : ∀ (m f f' : Nat) (r : List UInt8) (p : Nat), r.length ≤ m → r.length < f → r.length < f' → raw f r p = raw f' r p
  | m, 0, _, r, p, _, h, _ => absurd h (by omega)
  | m, _, 0, r, p, _, _, h => absurd h (by omega)
  | m, f + 1, f' + 1, r, p, hm, h1, h2 => by
    by_cases e1 : r.drop (gap r) = []
    · rw [raw, raw, if_pos e1, if_pos e1]
    · by_cases e2 : (tok (r.drop (gap r))).2.2 ≠ 0
      · rw [raw, raw, if_neg e1, if_neg e1, if_pos e2, if_pos e2]
      · rw [raw, raw, if_neg e1, if_neg e1, if_neg e2, if_neg e2]
        have e3 : tok (r.drop (gap r)) = ((tok (r.drop (gap r))).1, (tok (r.drop (gap r))).2.1, 0) := by
          have : (tok (r.drop (gap r))).2.2 = 0 := by simpa using e2
          rw [← this]
        obtain ⟨hn, hl, _⟩ := tok_ext e3
        rw [List.length_drop] at hl
        have hlen : ((r.drop (gap r)).drop (tok (r.drop (gap r))).2.1).length < r.length := by
          rw [List.length_drop, List.length_drop]
          omega
        match m with
        | 0 => omega
        | m + 1 => rw [raw_fuel m f f' _ _ (by omega) (by omega) (by omega)]
/-- The tokens of a text that stands at an offset. -/
def lx (r : List UInt8) (p : Nat) : List Tk × Int × Int := raw (r.length + 1) r p
theorem lx_nil {r : List UInt8} {p : Nat} (h : gap r = r.length) : lx r p = ([], 0, 0) := by
  rw [lx, raw, if_pos (by rw [h, List.drop_length])]
theorem lx_bad {r : List UInt8} {p : Nat} (h : gap r < r.length) (he : (tok (r.drop (gap r))).2.2 ≠ 0) : lx r p = ([], (tok (r.drop (gap r))).2.2, ((p + gap r : Nat) : Int)) := by
  rw [lx, raw, if_neg (by rw [List.drop_eq_nil_iff]; omega), if_pos he]
theorem lx_tok {r : List UInt8} {p : Nat} {t : Int × List UInt8 × Int} {n : Nat} (h : gap r < r.length) (ht : tok (r.drop (gap r)) = (t, n, 0)) :
    lx r p = (tkOf t (p + gap r) :: (lx (r.drop (gap r + n)) (p + gap r + n)).1, (lx (r.drop (gap r + n)) (p + gap r + n)).2) := by
  obtain ⟨hn, hl, _⟩ := tok_ext ht
  rw [List.length_drop] at hl
  rw [lx, raw, if_neg (by rw [List.drop_eq_nil_iff]; omega), if_neg (by rw [ht]; simp), ht]
  simp only [List.drop_drop]
  rw [raw_fuel r.length r.length ((r.drop (gap r + n)).length + 1) _ _ (by rw [List.length_drop]; omega) (by rw [List.length_drop]; omega) (by omega)]
  rfl
/-- A text is all gaps, or begins, behind its gaps, with something that is no token, or with a token. -/
theorem lx_cases (r : List UInt8) : gap r = r.length ∨ (gap r < r.length ∧ (tok (r.drop (gap r))).2.2 ≠ 0) ∨ (gap r < r.length ∧ ∃ t n, tok (r.drop (gap r)) = (t, n, 0)) := by
  have h := gapC_le false r
  by_cases h1 : gap r = r.length
  · exact .inl h1
  · by_cases h2 : (tok (r.drop (gap r))).2.2 ≠ 0
    · exact .inr (.inl ⟨by unfold gap at *; omega, h2⟩)
    · refine .inr (.inr ⟨by unfold gap at *; omega, (tok (r.drop (gap r))).1, (tok (r.drop (gap r))).2.1, ?_⟩)
      have : (tok (r.drop (gap r))).2.2 = 0 := by simpa using h2
      rw [← this]
theorem gap_of_drop (r : List UInt8) : gap (r.drop (gap r)) = 0 := by
  cases h : r.drop (gap r) with
  | nil => simp [gapC]
  | cons c x => exact gap_none (gap_drop r c x h)
theorem lx_gap (r : List UInt8) (p : Nat) : lx r p = lx (r.drop (gap r)) (p + gap r) := by
  have h0 := gap_of_drop r
  have hl := gapC_le false r
  rcases lx_cases r with h | ⟨h, he⟩ | ⟨h, t, n, ht⟩
  · rw [lx_nil h, lx_nil (by rw [h0, List.length_drop]; unfold gap at *; omega)]
  · rw [lx_bad h he, lx_bad (r := r.drop (gap r)) (by rw [h0, List.length_drop]; unfold gap at *; omega) (by rw [h0]; exact he), h0]
    rfl
  · rw [lx_tok h ht, lx_tok (r := r.drop (gap r)) (t := t) (n := n) (by rw [h0, List.length_drop]; unfold gap at *; omega) (by rw [h0]; exact ht), h0]
    simp only [List.drop_drop, Nat.zero_add, Nat.add_zero]
/-! ### Texts, one behind the other. -/
def Good (x : List UInt8) : Prop := ∀ s, x.head? = some s → In s = false ∧ s ≠ 61
theorem fol_app {r x : List UInt8} {n : Nat} (hx : Good x) : Fol r n (r.drop n ++ x) := fun s hs => by
  cases h : r.drop n with
  | nil =>
    rw [h] at hs
    exact .inl (hx s hs)
  | cons d y =>
    rw [h] at hs
    exact .inr hs
theorem tok_app {r x : List UInt8} {t : Int × List UInt8 × Int} {n : Nat} (h : tok r = (t, n, 0)) (hx : Good x) : tok (r ++ x) = (t, n, 0) := by
  have h1 := (tok_ext h).2.2 _ (fol_app (r := r) (n := n) hx)
  rwa [← List.append_assoc, List.take_append_drop] at h1
theorem lx_app : ∀ (m : Nat) (r x : List UInt8) (p : Nat) (ts : List Tk), r.length ≤ m → lx r p = (ts, 0, 0) → Good x → (∃ n, ∀ cm, gapC cm x = n) →
    lx (r ++ x) p = (ts ++ (lx x (p + r.length)).1, (lx x (p + r.length)).2)
  | m, r, x, p, ts, hm, h, hx, ⟨k, hk⟩ => by
    rcases lx_cases r with h1 | ⟨h1, he⟩ | ⟨h1, t, n, ht⟩
    · rw [lx_nil h1] at h
      simp only [Prod.mk.injEq] at h
      obtain ⟨rfl, _⟩ := h
      have e := gap_app_all false r x k h1 hk
      rw [lx_gap (r ++ x) p, lx_gap x (p + r.length), show gap (r ++ x) = r.length + k from e, show gap x = k from hk false, List.drop_append, ← Nat.add_assoc]
      rw [List.drop_eq_nil_of_le (by omega), Nat.add_sub_cancel_left]
      simp
    · rw [lx_bad h1 he] at h
      simp only [Prod.mk.injEq] at h
      exact absurd h.2.1 he
    · obtain ⟨hn, hl, _⟩ := tok_ext ht
      rw [List.length_drop] at hl
      rw [lx_tok h1 ht] at h
      have e := gap_app_lt false r x h1
      have e2 : (r ++ x).drop (gap r) = r.drop (gap r) ++ x := by rw [List.drop_append_of_le_length (by omega)]
      have ht2 : tok ((r ++ x).drop (gap (r ++ x))) = (t, n, 0) := by
        rw [show gap (r ++ x) = gap r from e, e2]
        exact tok_app ht hx
      obtain ⟨us, hus⟩ : ∃ us, (lx (r.drop (gap r + n)) (p + gap r + n)).1 = us := ⟨_, rfl⟩
      rw [hus] at h
      simp only [Prod.mk.injEq] at h
      obtain ⟨rfl, h2⟩ := h
      have h3 : lx (r.drop (gap r + n)) (p + gap r + n) = (us, 0, 0) := Prod.ext hus h2
      have hlen : (r.drop (gap r + n)).length < r.length := by rw [List.length_drop]; omega
      rw [lx_tok (by rw [show gap (r ++ x) = gap r from e, List.length_append]; omega) ht2, show gap (r ++ x) = gap r from e]
      match m with
      | 0 => omega
      | m + 1 =>
        have ih := lx_app m _ x _ _ (by omega) h3 hx ⟨k, hk⟩
        rw [show (r ++ x).drop (gap r + n) = r.drop (gap r + n) ++ x from by rw [List.drop_append_of_le_length (by omega)], ih, List.length_drop,
          show p + gap r + n + (r.length - (gap r + n)) = p + r.length from by omega]
        rfl
end Go.Proofs.YtcgkaecaddpenaaGreatDoor.L7

/- The laws of tokens in plain words: shifted texts, texts with an error, beginnings, ends of tokens, tokens that are written again. -/
namespace Go.Proofs.YtcgkaecaddpenaaGreatDoor.L7

/-- A token that stands further on. -/
def sh (q : Nat) (t : Tk) : Tk := { t with at_ := t.at_ + (q : Int) }
theorem lx_shift : ∀ (m : Nat) (r : List UInt8) (p q : Nat), r.length ≤ m → lx r (p + q) = ((lx r p).1.map (sh q), (lx r p).2.1, if (lx r p).2.1 = 0 then 0 else (lx r p).2.2 + (q : Int))
  | m, r, p, q, hm => by
    rcases lx_cases r with h | ⟨h, he⟩ | ⟨h, t, n, ht⟩
    · rw [lx_nil h, lx_nil h]
      simp
    · rw [lx_bad h he, lx_bad h he]
      simp only [List.map_nil, if_neg he]
      rw [show ((p + q + gap r : Nat) : Int) = ((p + gap r : Nat) : Int) + (q : Int) by omega]
    · obtain ⟨hn, hl, _⟩ := tok_ext ht
      rw [List.length_drop] at hl
      rw [lx_tok h ht, lx_tok h ht]
      have hlen : (r.drop (gap r + n)).length < r.length := by rw [List.length_drop]; omega
      match m with
      | 0 => omega
      | m + 1 =>
        have ih := lx_shift m (r.drop (gap r + n)) (p + gap r + n) q (by omega)
        rw [show p + q + gap r + n = p + gap r + n + q by omega, ih]
        have e : tkOf t (p + q + gap r) = sh q (tkOf t (p + gap r)) := by
          unfold tkOf sh
          simp only [Tk.mk.injEq, true_and]
          omega
        rw [e]
        rfl
/-- Each token takes a byte. -/
theorem lx_count : ∀ (m : Nat) (r : List UInt8) (p : Nat), r.length ≤ m → (lx r p).1.length ≤ r.length
  | m, r, p, hm => by
    rcases lx_cases r with h | ⟨h, he⟩ | ⟨h, t, n, ht⟩
    · rw [lx_nil h]; simp
    · rw [lx_bad h he]; simp
    · obtain ⟨hn, hl, _⟩ := tok_ext ht
      rw [List.length_drop] at hl
      rw [lx_tok h ht]
      have hlen : (r.drop (gap r + n)).length < r.length := by rw [List.length_drop]; omega
      match m with
      | 0 => omega
      | m + 1 =>
        have ih := lx_count m (r.drop (gap r + n)) (p + gap r + n) (by omega)
        rw [List.length_cons]
        omega
theorem lexT_short {t : List UInt8} (h : t.length ≤ 5000) : lexT t = if (lx t 0).2.1 ≠ 0 then ([], (lx t 0).2) else ((lx t 0).1, 0, 0) := by
  have hc := lx_count t.length t 0 (Nat.le_refl _)
  unfold lexT
  rw [if_neg (by omega)]
  have e : (raw (t.length + 1) t 0).1[5000]? = none := List.getElem?_eq_none (by unfold lx at hc; omega)
  rw [e]
  rfl
/-- With no error the offset is 0. -/
theorem lx_zero : ∀ (m : Nat) (r : List UInt8) (p : Nat), r.length ≤ m → (lx r p).2.1 = 0 → (lx r p).2.2 = 0
  | m, r, p, hm, h0 => by
    rcases lx_cases r with h | ⟨h, he⟩ | ⟨h, t, n, ht⟩
    · rw [lx_nil h]
    · rw [lx_bad h he] at h0
      exact absurd h0 he
    · obtain ⟨hn, hl, _⟩ := tok_ext ht
      rw [List.length_drop] at hl
      rw [lx_tok h ht] at h0 ⊢
      have hlen : (r.drop (gap r + n)).length < r.length := by rw [List.length_drop]; omega
      match m with
      | 0 => omega
      | m + 1 => exact lx_zero m _ _ (by omega) h0
theorem lx_ok {r : List UInt8} {p : Nat} (h : (lx r p).2.1 = 0) : lx r p = ((lx r p).1, 0, 0) := Prod.ext rfl (Prod.ext h (lx_zero r.length r p (Nat.le_refl _) h))

/-! ### An error stays an error before a line feed. -/
theorem tw_nl (p : UInt8 → Bool) (hp : p 10 = false) (l b : List UInt8) : (l ++ 10 :: b).takeWhile p = l.takeWhile p ∧ (l ++ 10 :: b).dropWhile p = l.dropWhile p ++ 10 :: b := by
  induction l with
  | nil => simp [hp]
  | cons c r ih =>
    rw [List.cons_append]
    by_cases hc : p c = true
    · rw [List.takeWhile_cons_of_pos hc, List.takeWhile_cons_of_pos hc, List.dropWhile_cons_of_pos hc, List.dropWhile_cons_of_pos hc, ih.1, ih.2]
      exact ⟨rfl, rfl⟩
    · rw [List.takeWhile_cons_of_neg hc, List.takeWhile_cons_of_neg hc, List.dropWhile_cons_of_neg hc, List.dropWhile_cons_of_neg hc]
      exact ⟨rfl, rfl⟩
theorem con_nl_bad : ∀ (m : Nat) (l b : List UInt8), l.length ≤ m → (con l).2.2 ≠ 0 → (con (l ++ 10 :: b)).2.2 ≠ 0
  | m, l, b, hm, h => by
    match l with
    | [] =>
      cases b with
      | nil => decide
      | cons d b =>
        rw [List.nil_append, con, if_neg (by decide), if_pos rfl]
        simp
    | c :: r =>
      by_cases h1 : c = 34
      · subst h1
        rw [con_end] at h
        simp at h
      · by_cases h2 : c = 10
        · subst h2
          rw [List.cons_append]
          cases hr : r ++ 10 :: b with
          | nil => simp at hr
          | cons d x =>
            rw [con, if_neg h1, if_pos rfl]
            simp
        · by_cases h3 : c = 92
          · subst h3
            match r with
            | [] =>
              show (con (92 :: 10 :: b)).2.2 ≠ 0
              rw [con, if_neg (by decide), if_neg (by decide), if_pos rfl, if_neg (by decide)]
              simp
            | d :: r =>
              rw [List.cons_append, List.cons_append]
              by_cases h4 : d = 34 ∨ d = 92 ∨ d = 110
              · rw [con_esc h4] at h ⊢
                match m with
                | 0 => simp at hm
                | m + 1 => exact con_nl_bad m r b (by simp at hm; omega) h
              · rw [con, if_neg (by decide), if_neg (by decide), if_pos rfl, if_neg h4]
                simp
          · rw [List.cons_append, con_plain h1 h2 h3 (by simp)]
            match m with
            | 0 => simp at hm
            | m + 1 =>
              refine con_nl_bad m r b (by simp at hm; omega) ?_
              by_cases hr : r = []
              · subst hr
                rw [con]
                simp
              · rw [con_plain h1 h2 h3 hr] at h
                exact h
theorem in10 : In 10 = false := by decide
theorem dg10 : Dg 10 = false := by decide
theorem bad_snd (e : Int) : (bad e).2.2 = e := rfl
theorem tok_nl_bad {r : List UInt8} (b : List UInt8) (hr : r ≠ []) (h : (tok r).2.2 ≠ 0) : (tok (r ++ 10 :: b)).2.2 ≠ 0 := by
  match r with
  | [] => exact absurd rfl hr
  | c :: r =>
    have a1 := tw_nl In in10 (c :: r) b
    have a2 := tw_nl Dg dg10 (c :: r) b
    rw [List.cons_append] at a1 a2 ⊢
    by_cases h1 : Lt c = true
    · rw [tok_name h1] at h ⊢
      rw [a1.1]
      split at h
      · rename_i q
        rw [if_pos q, bad_snd]
        decide
      · simp at h
    · by_cases h2 : Dg c = true
      · rw [tok_num h1 h2] at h ⊢
        rw [a2.1, a2.2]
        split at h
        · rename_i q
          rw [if_pos, bad_snd]
          · decide
          · rcases q with q | ⟨s, q1, q2⟩
            · exact .inl q
            · refine .inr ⟨s, ?_, q2⟩
              cases hd : (c :: r).dropWhile Dg with
              | nil => rw [hd] at q1; simp at q1
              | cons d y =>
                rw [hd] at q1
                exact q1
        · simp at h
      · by_cases h3 : c = 34
        · subst h3
          rw [tok_text] at h ⊢
          by_cases he : (con r).2.2 = 0
          · rw [if_neg (by simpa using he)] at h
            have hc : con r = ((con r).1, (con r).2.1, 0) := by rw [← he]
            have k := (con_ext r.length r _ _ (Nat.le_refl _) hc).2.2 (r.drop (con r).2.1 ++ 10 :: b)
            rw [← List.append_assoc, List.take_append_drop] at k
            split at h
            · rename_i q
              rw [k]
              simp only
              rw [if_neg (by simp), if_pos q, bad_snd]
              decide
            · simp at h
          · have := con_nl_bad r.length r b (Nat.le_refl _) he
            rw [if_pos this, bad_snd]
            exact this
        · rw [tok_sym h1 h2 h3] at h ⊢
          split at h
          · rename_i q
            have e : symN (c :: (r ++ 10 :: b)) = 0 := by
              rw [symN_cons] at q ⊢
              split at q
              · simp at q
              · rename_i q1
                split at q
                · simp at q
                · rename_i q2
                  rw [if_neg, if_neg q2]
                  rintro ⟨e1, e2⟩
                  cases r with
                  | nil => simp at e1
                  | cons d r => exact q1 ⟨e1, e2⟩
            rw [if_pos e, bad_snd]
            decide
          · simp at h
theorem lx_nl_bad : ∀ (m : Nat) (r b : List UInt8) (p : Nat), r.length ≤ m → (lx r p).2.1 ≠ 0 → (lx (r ++ 10 :: b) p).2.1 ≠ 0
  | m, r, b, p, hm, h => by
    rcases lx_cases r with h1 | ⟨h1, he⟩ | ⟨h1, t, n, ht⟩
    · rw [lx_nil h1] at h
      exact absurd rfl h
    · have e := gap_app_lt false r (10 :: b) h1
      have e2 : (r ++ 10 :: b).drop (gap r) = r.drop (gap r) ++ 10 :: b := by rw [List.drop_append_of_le_length (by omega)]
      have h3 := tok_nl_bad b (by rw [ne_eq, List.drop_eq_nil_iff]; omega) he
      rw [lx_bad (by rw [show gap (r ++ 10 :: b) = gap r from e, List.length_append]; omega) (by rw [show gap (r ++ 10 :: b) = gap r from e, e2]; exact h3), show gap (r ++ 10 :: b) = gap r from e, e2]
      exact h3
    · obtain ⟨hn, hl, _⟩ := tok_ext ht
      rw [List.length_drop] at hl
      have e := gap_app_lt false r (10 :: b) h1
      have e2 : (r ++ 10 :: b).drop (gap r) = r.drop (gap r) ++ 10 :: b := by rw [List.drop_append_of_le_length (by omega)]
      have ht2 : tok ((r ++ 10 :: b).drop (gap (r ++ 10 :: b))) = (t, n, 0) := by
        rw [show gap (r ++ 10 :: b) = gap r from e, e2]
        exact tok_app ht (fun s hs => by simp at hs; subst hs; decide)
      rw [lx_tok h1 ht] at h
      rw [lx_tok (by rw [show gap (r ++ 10 :: b) = gap r from e, List.length_append]; omega) ht2, show gap (r ++ 10 :: b) = gap r from e,
        show (r ++ 10 :: b).drop (gap r + n) = r.drop (gap r + n) ++ 10 :: b from by rw [List.drop_append_of_le_length (by omega)]]
      have hlen : (r.drop (gap r + n)).length < r.length := by rw [List.length_drop]; omega
      match m with
      | 0 => omega
      | m + 1 => exact lx_nl_bad m _ b _ (by omega) h
end Go.Proofs.YtcgkaecaddpenaaGreatDoor.L7

/- The laws of tokens in plain words, second part: beginnings, ends of tokens, tokens that are written again, places. -/
namespace Go.Proofs.YtcgkaecaddpenaaGreatDoor.L7

theorem gap_app_back (cm : Bool) (a x : List UInt8) (h : gapC cm (a ++ x) < a.length) : gapC cm a = gapC cm (a ++ x) := by
  induction a generalizing cm with
  | nil => simp at h
  | cons c r ih =>
    rw [List.cons_append] at h ⊢
    rcases gap_step cm c with e | ⟨cm', e⟩
    · rw [e, e]
    · rw [e, List.length_cons] at h
      rw [e, e, ih cm' (by omega)]
/-- What stands before a place behind the gaps has the same gaps. -/
theorem gap_of_take {r : List UInt8} {k : Nat} (h : gap r < k) (hk : k ≤ r.length) : gap (r.take k) = gap r := by
  have e : r = r.take k ++ r.drop k := (List.take_append_drop k r).symm
  have h1 : gapC false (r.take k ++ r.drop k) < (r.take k).length := by rw [← e, List.length_take, Nat.min_eq_left hk]; exact h
  have := gap_app_back false _ _ h1
  rw [← e] at this
  exact this
theorem lx_begin : ∀ (m : Nat) (r : List UInt8) (p : Nat), r.length ≤ m → (lx r p).2.1 ≠ 0 →
    ∃ k, k < r.length ∧ (lx r p).2.2 = ((p + k : Nat) : Int) ∧ (lx (r.take k) p).2.1 = 0 ∧ ∀ q, lx (r.drop k) q = ([], (lx r p).2.1, (q : Int))
  | m, r, p, hm, h => by
    rcases lx_cases r with h1 | ⟨h1, he⟩ | ⟨h1, t, n, ht⟩
    · rw [lx_nil h1] at h
      exact absurd rfl h
    · have h0 := gap_of_drop r
      refine ⟨gap r, h1, by rw [lx_bad h1 he], ?_, fun q => ?_⟩
      · rw [lx_nil (by rw [show gap (r.take (gap r)) = gap r from gap_take false r, List.length_take]; omega)]
      · rw [lx_bad h1 he, lx_bad (r := r.drop (gap r)) (by rw [h0, List.length_drop]; omega) (by rw [h0]; exact he), h0]
        rfl
    · obtain ⟨hn, hl, hx⟩ := tok_ext ht
      rw [List.length_drop] at hl
      rw [lx_tok h1 ht] at h ⊢
      have hlen : (r.drop (gap r + n)).length < r.length := by rw [List.length_drop]; omega
      match m with
      | 0 => omega
      | m + 1 =>
        obtain ⟨k, k1, k2, k3, k4⟩ := lx_begin m _ _ (by omega) h
        rw [List.length_drop] at k1
        have hg : gap (r.take (gap r + n + k)) = gap r := gap_of_take (by omega) (by omega)
        have hd : (r.take (gap r + n + k)).drop (gap r) = (r.drop (gap r)).take n ++ (r.drop (gap r + n)).take k := by
          rw [List.drop_take, show gap r + n + k - gap r = n + k by omega, List.take_add, List.drop_drop]
        have ht2 : tok ((r.take (gap r + n + k)).drop (gap (r.take (gap r + n + k)))) = (t, n, 0) := by
          rw [hg, hd]
          refine hx _ (fun s hs => .inr ?_)
          rw [List.drop_drop]
          rw [List.head?_take] at hs
          split at hs
          · simp at hs
          · exact hs
        refine ⟨gap r + n + k, by omega, ?_, ?_, fun q => ?_⟩
        · rw [k2]
          simp only [Nat.add_assoc]
        · rw [lx_tok (by rw [hg, List.length_take]; omega) ht2, hg]
          have : (r.take (gap r + n + k)).drop (gap r + n) = (r.drop (gap r + n)).take k := by rw [List.drop_take]; congr 1; omega
          rw [this]
          exact k3
        · rw [← k4 q, List.drop_drop]
/-- What a token is: a text, or what stands there. -/
theorem tok_shape {r : List UInt8} {t : Int × List UInt8 × Int} {n : Nat} (h : tok r = (t, n, 0)) :
    (t.1 = 3 ∧ t.2.2 = 0 ∧ t.2.1.length ≤ 200 ∧ ∃ s, r = 34 :: s ∧ 1 ≤ n ∧ con s = (t.2.1, n - 1, 0)) ∨ (t.1 ≠ 3 ∧ t.2.1 = r.take n) := by
  match r with
  | [] => rw [tok] at h; exact absurd h (bad_ne (by decide))
  | c :: r =>
    by_cases h1 : Lt c = true
    · rw [tok_name h1] at h
      split at h
      · exact absurd h (bad_ne (by decide))
      · simp only [Prod.mk.injEq] at h
        obtain ⟨rfl, rfl, _⟩ := h
        exact .inr ⟨by simp, (take_tw In (c :: r)).symm⟩
    · by_cases h2 : Dg c = true
      · rw [tok_num h1 h2] at h
        split at h
        · exact absurd h (bad_ne (by decide))
        · simp only [Prod.mk.injEq] at h
          obtain ⟨rfl, rfl, _⟩ := h
          exact .inr ⟨by simp, (take_tw Dg (c :: r)).symm⟩
      · by_cases h3 : c = 34
        · subst h3
          rw [tok_text] at h
          split at h
          · rename_i he
            exact absurd h (bad_ne he)
          · rename_i he
            split at h
            · exact absurd h (bad_ne (by decide))
            · rename_i hlen
              simp only [Prod.mk.injEq] at h
              obtain ⟨rfl, rfl, _⟩ := h
              refine .inl ⟨rfl, rfl, Nat.le_of_not_lt hlen, r, rfl, by omega, ?_⟩
              have : (con r).2.2 = 0 := by simpa using he
              rw [Nat.add_sub_cancel, ← this]
        · rw [tok_sym h1 h2 h3] at h
          split at h
          · exact absurd h (bad_ne (by decide))
          · simp only [Prod.mk.injEq] at h
            obtain ⟨rfl, rfl, _⟩ := h
            exact .inr ⟨by simp, rfl⟩
/-- No token begins with a gap. -/
theorem tok_head {c : UInt8} {r : List UInt8} {t : Int × List UInt8 × Int} {n : Nat} (h : tok (c :: r) = (t, n, 0)) : c ≠ 10 ∧ c ≠ 35 ∧ c ≠ 32 ∧ c ≠ 9 := by
  have key : ∀ d : UInt8, Lt d ≠ true → Dg d ≠ true → d ≠ 34 → d ∉ syms → d ≠ 33 → d ≠ 60 → c ≠ d := by
    intro d a b e f g k q
    subst q
    rw [tok_sym a b e] at h
    have : symN (c :: r) = 0 := by
      rw [symN_cons, if_neg, if_neg f]
      rintro ⟨_, x | x⟩
      · exact g x
      · exact k x
    rw [if_pos this] at h
    exact absurd h (bad_ne (by decide))
  exact ⟨key 10 (by decide) (by decide) (by decide) (by decide) (by decide) (by decide), key 35 (by decide) (by decide) (by decide) (by decide) (by decide) (by decide), key 32 (by decide) (by decide) (by decide) (by decide) (by decide) (by decide), key 9 (by decide) (by decide) (by decide) (by decide) (by decide) (by decide)⟩
theorem tok_gap {r x : List UInt8} {t : Int × List UInt8 × Int} {n : Nat} (h : tok r = (t, n, 0)) : gap (r ++ x) = 0 ∧ gap r = 0 := by
  match r with
  | [] => rw [tok] at h; exact absurd h (bad_ne (by decide))
  | c :: r => exact ⟨gap_none (tok_head h), gap_none (tok_head h)⟩
/-- A token, and what follows it. -/
theorem lx_one {w x : List UInt8} {t : Int × List UInt8 × Int} {p : Nat} (h : tok (w ++ x) = (t, w.length, 0)) : lx (w ++ x) p = (tkOf t p :: (lx x (p + w.length)).1, (lx x (p + w.length)).2) := by
  have h0 := (tok_gap (x := []) h).2
  obtain ⟨h1, h2, _⟩ := tok_ext h
  rw [lx_tok (t := t) (n := w.length) (by rw [h0]; omega) (by rw [h0]; exact h), h0, Nat.zero_add, List.drop_left]
  rfl
/-! ### The end of a token that is no text. -/
theorem lx_split : ∀ (m : Nat) (r : List UInt8) (p : Nat) (ts : List Tk), r.length ≤ m → lx r p = (ts, 0, 0) → ∀ i (hi : i < ts.length), ts[i].kind ≠ 3 →
    ∃ k, k ≤ r.length ∧ ts[i].at_ + (ts[i].text.length : Int) = ((p + k : Nat) : Int) ∧ (∀ x, Good x → lx (r.take k ++ x) p = (ts.take (i + 1) ++ (lx x (p + k)).1, (lx x (p + k)).2)) ∧ lx (r.drop k) (p + k) = (ts.drop (i + 1), 0, 0)
  | m, r, p, ts, hm, h, i, hi, h3 => by
    rcases lx_cases r with h1 | ⟨h1, he⟩ | ⟨h1, t, n, ht⟩
    · rw [lx_nil h1] at h
      simp only [Prod.mk.injEq] at h
      obtain ⟨rfl, _⟩ := h
      simp at hi
    · rw [lx_bad h1 he] at h
      simp only [Prod.mk.injEq] at h
      exact absurd h.2.1 he
    · obtain ⟨hn, hl, hx⟩ := tok_ext ht
      rw [List.length_drop] at hl
      rw [lx_tok h1 ht] at h
      obtain ⟨us, hus⟩ : ∃ us, (lx (r.drop (gap r + n)) (p + gap r + n)).1 = us := ⟨_, rfl⟩
      rw [hus] at h
      simp only [Prod.mk.injEq] at h
      obtain ⟨rfl, h2⟩ := h
      have h4 : lx (r.drop (gap r + n)) (p + gap r + n) = (us, 0, 0) := Prod.ext hus h2
      have hlen : (r.drop (gap r + n)).length < r.length := by rw [List.length_drop]; omega
      -- what is put behind a part that ends at a token's end
      have front : ∀ (k : Nat), gap r + n + k ≤ r.length → ∀ x, (k = 0 → Good x) → lx (r.take (gap r + n + k) ++ x) p = (tkOf t (p + gap r) :: (lx ((r.drop (gap r + n)).take k ++ x) (p + gap r + n)).1, (lx ((r.drop (gap r + n)).take k ++ x) (p + gap r + n)).2) := by
        intro k hk x hg
        have e : r.take (gap r + n + k) = r.take (gap r + n) ++ (r.drop (gap r + n)).take k := List.take_add
        have hg1 : gap (r.take (gap r + n + k)) = gap r := gap_of_take (by omega) hk
        have hg2 : gap (r.take (gap r + n + k) ++ x) = gap r := by
          have := gap_app_lt false (r.take (gap r + n + k)) x (by rw [show gapC false _ = gap r from hg1, List.length_take]; omega)
          rw [show gap (r.take (gap r + n + k) ++ x) = gapC false (r.take (gap r + n + k)) from this]
          exact hg1
        have hd : (r.take (gap r + n + k) ++ x).drop (gap r) = (r.drop (gap r)).take n ++ ((r.drop (gap r + n)).take k ++ x) := by
          rw [List.drop_append_of_le_length (by rw [List.length_take]; omega), List.drop_take, show gap r + n + k - gap r = n + k by omega, List.take_add, List.drop_drop, List.append_assoc]
        have hd2 : (r.take (gap r + n + k) ++ x).drop (gap r + n) = (r.drop (gap r + n)).take k ++ x := by
          rw [List.drop_append_of_le_length (by rw [List.length_take]; omega), List.drop_take, show gap r + n + k - (gap r + n) = k by omega]
        have ht2 : tok ((r.take (gap r + n + k) ++ x).drop (gap (r.take (gap r + n + k) ++ x))) = (t, n, 0) := by
          rw [hg2, hd]
          refine hx _ (fun s hs => ?_)
          cases hc : (r.drop (gap r + n)).take k with
          | nil =>
            rw [hc] at hs
            have : k = 0 := by
              have := congrArg List.length hc
              rw [List.length_take, List.length_drop] at this
              simp at this
              omega
            exact .inl (hg this s hs)
          | cons d y =>
            rw [hc] at hs
            refine .inr ?_
            rw [List.drop_drop]
            have h5 : ((r.drop (gap r + n)).take k).head? = some s := by rw [hc]; exact hs
            rw [List.head?_take] at h5
            split at h5
            · simp at h5
            · exact h5
        rw [lx_tok (by rw [hg2, List.length_append, List.length_take]; omega) ht2, hg2, hd2]
      match i with
      | 0 =>
        have hs := (tok_shape ht).resolve_left (fun q => h3 q.1)
        refine ⟨gap r + n, by omega, ?_, fun x hx2 => ?_, ?_⟩
        · show (((p + gap r : Nat) : Int)) + (t.2.1.length : Int) = _
          rw [hs.2, List.length_take, List.length_drop]
          omega
        · have := front 0 (by omega) x (fun _ => hx2)
          simp only [Nat.add_zero, List.take_zero, List.nil_append] at this
          rw [this, ← Nat.add_assoc]
          rfl
        · rw [← Nat.add_assoc, h4]
          rfl
      | i + 1 =>
        match m with
        | 0 => omega
        | m + 1 =>
          have hi2 : i < us.length := by simpa using hi
          obtain ⟨k, k1, k2, k3, k4⟩ := lx_split m _ _ us (by omega) h4 i hi2 h3
          rw [List.length_drop] at k1
          refine ⟨gap r + n + k, by omega, ?_, fun x hx2 => ?_, ?_⟩
          · show us[i].at_ + (us[i].text.length : Int) = _
            rw [k2]
            simp only [Nat.add_assoc]
          · rw [front k (by omega) x (fun _ => hx2), k3 x hx2]
            simp only [Nat.add_assoc]
            rfl
          · rw [show p + (gap r + n + k) = p + gap r + n + k by omega, ← List.drop_drop, k4]
            rfl
end Go.Proofs.YtcgkaecaddpenaaGreatDoor.L7

/- The laws of tokens in plain words, third part: tokens that are written again, further gaps, two texts, places. -/
namespace Go.Proofs.YtcgkaecaddpenaaGreatDoor.L7

/-- A token without its offset. -/
def bare (t : Tk) : Tk := { t with at_ := 0 }
theorem bare_of (t : Int × List UInt8 × Int) (p q : Nat) : bare (tkOf t p) = bare (tkOf t q) := rfl
theorem bare_sh (q : Nat) (l : List Tk) : (l.map (sh q)).map bare = l.map bare := by
  rw [List.map_map]
  rfl
theorem lx_bare (r : List UInt8) (p q : Nat) : (lx r p).1.map bare = (lx r q).1.map bare ∧ (lx r p).2.1 = (lx r q).2.1 := by
  have h1 := lx_shift r.length r 0 p (Nat.le_refl _)
  have h2 := lx_shift r.length r 0 q (Nat.le_refl _)
  rw [Nat.zero_add] at h1 h2
  rw [h1, h2]
  simp only [bare_sh]
  exact ⟨trivial, trivial⟩

/-! ### Written again. -/
def esc7 (c : UInt8) : List UInt8 := if c = 34 ∨ c = 92 then [92, c] else if c = 10 then [92, 110] else [c]
def quo7 (s : List UInt8) : List UInt8 := 34 :: (s.flatMap esc7 ++ [34])
theorem con_quo (s z : List UInt8) : con (s.flatMap esc7 ++ 34 :: z) = (s, (s.flatMap esc7).length + 1, 0) := by
  induction s with
  | nil => exact con_end z
  | cons c s ih =>
    have hne : s.flatMap esc7 ++ 34 :: z ≠ [] := by simp
    rw [List.flatMap_cons, List.append_assoc]
    by_cases h1 : c = 34 ∨ c = 92
    · have e : esc7 c = [92, c] := if_pos h1
      have h110 : c ≠ 110 := by rintro rfl; revert h1; decide
      rw [e]
      show con (92 :: c :: (s.flatMap esc7 ++ 34 :: z)) = _
      rw [con_esc (by rcases h1 with h | h <;> simp [h]), ih, if_neg h110]
      simp
    · by_cases h2 : c = 10
      · have e : esc7 c = [92, 110] := by unfold esc7; rw [if_neg h1, if_pos h2]
        rw [e]
        show con (92 :: 110 :: (s.flatMap esc7 ++ 34 :: z)) = _
        rw [con_esc (by simp), ih, if_pos rfl, h2]
        simp
      · have e : esc7 c = [c] := by unfold esc7; rw [if_neg h1, if_neg h2]
        rw [e]
        show con (c :: (s.flatMap esc7 ++ 34 :: z)) = _
        rw [con_plain (fun q => h1 (.inl q)) h2 (fun q => h1 (.inr q)) hne, ih]
        simp
theorem tok_quo (s z : List UInt8) (h : s.length ≤ 200) : tok (quo7 s ++ z) = ((3, s, 0), (quo7 s).length, 0) := by
  have e : quo7 s ++ z = 34 :: (s.flatMap esc7 ++ 34 :: z) := by simp [quo7]
  rw [e, tok_text, con_quo]
  simp only
  rw [if_neg (by simp), if_neg (by omega)]
  simp [quo7]
/-- A token as it is written. -/
def wr7 (t : Tk) : List UInt8 := if t.kind = 3 then quo7 t.text else t.text
theorem good32 (x : List UInt8) : Good (32 :: x) := fun s h => by
  simp at h
  subst h
  decide
theorem tok_wr {r x : List UInt8} {t : Int × List UInt8 × Int} {n p : Nat} (h : tok r = (t, n, 0)) : tok (wr7 (tkOf t p) ++ 32 :: x) = (t, (wr7 (tkOf t p)).length, 0) := by
  obtain ⟨h1, h2, h3⟩ := tok_ext h
  rcases tok_shape h with ⟨a, b, c, _⟩ | ⟨a, b⟩
  · have e : wr7 (tkOf t p) = quo7 t.2.1 := if_pos a
    rw [e, tok_quo _ _ c]
    obtain ⟨k, tx, n⟩ := t
    simp only at a b
    subst a b
    rfl
  · have e : wr7 (tkOf t p) = t.2.1 := if_neg a
    rw [e, b, h3 _ (fun s hs => .inl (good32 x s hs)), List.length_take, Nat.min_eq_left h2]
theorem lx_blank (r : List UInt8) (p : Nat) : lx (32 :: r) p = lx r (p + 1) := by
  have e : gap (32 :: r) = gap r + 1 := gapC_in (by decide) (by decide) (by simp)
  rw [lx_gap (32 :: r) p, lx_gap r (p + 1), e, List.drop_succ_cons]
  congr 1
  omega
def wrAll (ts : List Tk) : List UInt8 := ts.flatMap fun t => wr7 t ++ [32]
theorem again_math : ∀ (m : Nat) (r : List UInt8) (p : Nat) (ts : List Tk), r.length ≤ m → lx r p = (ts, 0, 0) → ∀ q, ∃ us, lx (wrAll ts) q = (us, 0, 0) ∧ us.map bare = ts.map bare
  | m, r, p, ts, hm, h, q => by
    rcases lx_cases r with h1 | ⟨h1, he⟩ | ⟨h1, t, n, ht⟩
    · rw [lx_nil h1] at h
      simp only [Prod.mk.injEq] at h
      obtain ⟨rfl, _⟩ := h
      exact ⟨[], lx_nil rfl, rfl⟩
    · rw [lx_bad h1 he] at h
      simp only [Prod.mk.injEq] at h
      exact absurd h.2.1 he
    · obtain ⟨hn, hl, hx⟩ := tok_ext ht
      rw [List.length_drop] at hl
      rw [lx_tok h1 ht] at h
      obtain ⟨us, hus⟩ : ∃ us, (lx (r.drop (gap r + n)) (p + gap r + n)).1 = us := ⟨_, rfl⟩
      rw [hus] at h
      simp only [Prod.mk.injEq] at h
      obtain ⟨rfl, h2⟩ := h
      have h4 : lx (r.drop (gap r + n)) (p + gap r + n) = (us, 0, 0) := Prod.ext hus h2
      have hlen : (r.drop (gap r + n)).length < r.length := by rw [List.length_drop]; omega
      match m with
      | 0 => omega
      | m + 1 =>
        obtain ⟨vs, hv, hb⟩ := again_math m _ _ us (by omega) h4 (q + (wr7 (tkOf t (p + gap r))).length + 1)
        have e : wrAll (tkOf t (p + gap r) :: us) = wr7 (tkOf t (p + gap r)) ++ 32 :: wrAll us := by
          unfold wrAll
          rw [List.flatMap_cons, List.append_assoc]
          rfl
        refine ⟨tkOf t q :: vs, ?_, ?_⟩
        · rw [e, lx_one (tok_wr ht), lx_blank, hv]
        · rw [List.map_cons, List.map_cons, hb]
          rfl
theorem wr_len : ∀ (m : Nat) (r : List UInt8) (p : Nat) (ts : List Tk), r.length ≤ m → lx r p = (ts, 0, 0) → (∀ t ∈ ts, t.text.length ≤ r.length ∧ (t.kind = 3 → t.text.length ≤ 200))
  | m, r, p, ts, hm, h => by
    rcases lx_cases r with h1 | ⟨h1, he⟩ | ⟨h1, t, n, ht⟩
    · rw [lx_nil h1] at h
      simp only [Prod.mk.injEq] at h
      obtain ⟨rfl, _⟩ := h
      simp
    · rw [lx_bad h1 he] at h
      simp only [Prod.mk.injEq] at h
      exact absurd h.2.1 he
    · obtain ⟨hn, hl, hx⟩ := tok_ext ht
      rw [List.length_drop] at hl
      rw [lx_tok h1 ht] at h
      obtain ⟨us, hus⟩ : ∃ us, (lx (r.drop (gap r + n)) (p + gap r + n)).1 = us := ⟨_, rfl⟩
      rw [hus] at h
      simp only [Prod.mk.injEq] at h
      obtain ⟨rfl, h2⟩ := h
      have h4 : lx (r.drop (gap r + n)) (p + gap r + n) = (us, 0, 0) := Prod.ext hus h2
      have hlen : (r.drop (gap r + n)).length < r.length := by rw [List.length_drop]; omega
      match m with
      | 0 => omega
      | m + 1 =>
        have ih := wr_len m _ _ us (by omega) h4
        intro x hx
        rcases List.mem_cons.1 hx with rfl | hx
        · have key : ∀ (l s : List UInt8) (k : Nat), con l = (s, k, 0) → s.length ≤ l.length := by
            intro l s k hc
            have : ∀ (m : Nat) (l s : List UInt8) (k : Nat), l.length ≤ m → con l = (s, k, 0) → s.length ≤ l.length := by
              intro m
              induction m with
              | zero =>
                intro l s k hl hc
                have : l = [] := List.length_eq_zero_iff.1 (by omega)
                subst this
                rw [con] at hc
                simp at hc
              | succ m ihm =>
                intro l s k hl hc
                rcases con_cases hc with ⟨r, rfl, rfl, rfl⟩ | ⟨d, r, s', n', rfl, hd, hr, rfl, rfl⟩ | ⟨c, r, s', n', rfl, h1, h2, h3, hr, rfl, rfl⟩
                · simp
                · have := ihm r s' n' (by simp at hl; omega) hr
                  simp
                  omega
                · have := ihm r s' n' (by simp at hl; omega) hr
                  simp
                  omega
            exact this l.length l s k (Nat.le_refl _) hc
          rcases tok_shape ht with ⟨a, b, c, s, e, _, hc⟩ | ⟨a, b⟩
          · refine ⟨?_, fun _ => c⟩
            have h5 := key _ _ _ hc
            have h6 := congrArg List.length e
            rw [List.length_drop] at h6
            simp at h6
            show t.2.1.length ≤ r.length
            omega
          · refine ⟨?_, fun q => absurd q a⟩
            show t.2.1.length ≤ r.length
            rw [b, List.length_take, List.length_drop]
            omega
        · have := ih x hx
          exact ⟨by omega, this.2⟩

/-! ### Further gaps. -/
theorem lx_line {G : List UInt8} (hG : gap G = G.length) (v : List UInt8) (p : Nat) : lx (G ++ 10 :: v) p = lx v (p + G.length + 1) := by
  have e := gap_app_all false G (10 :: v) (gap v + 1) hG (gap_nl v)
  rw [lx_gap (G ++ 10 :: v) p, lx_gap v (p + G.length + 1), show gap (G ++ 10 :: v) = G.length + (gap v + 1) from e, List.drop_append, List.drop_eq_nil_of_le (by omega), Nat.add_sub_cancel_left, List.nil_append, List.drop_succ_cons]
  congr 1
  omega
theorem tail_gap {G : List UInt8} (hG : gap G = G.length) (cm : Bool) : gapC cm (32 :: 10 :: G) = G.length + 2 := by
  have h : ¬ (cm = false ∧ (32 : UInt8) ≠ 32 ∧ (32 : UInt8) ≠ 9) := by simp
  rw [gapC_in (by decide) (by decide) h, gapC_nl rfl, show gapC false G = G.length from hG]
/-- A text with gaps before it, behind one of its tokens, and behind it. -/
theorem gaps_math {text G : List UInt8} {ts : List Tk} (h : lx text 0 = (ts, 0, 0)) (hG : gap G = G.length) (k : Nat) (hk : k = 0 ∨ ∃ i, ∃ hi : i < ts.length, ts[i].kind ≠ 3 ∧ ts[i].at_ + (ts[i].text.length : Int) = (k : Int)) :
    k ≤ text.length ∧ ∃ us, lx (G ++ 10 :: (text.take k ++ 32 :: (G ++ 10 :: (text.drop k ++ 32 :: 10 :: G)))) 0 = (us, 0, 0) ∧ us.map bare = ts.map bare := by
  have tail : ∀ (v : List UInt8) (p : Nat) (vs : List Tk), lx v p = (vs, 0, 0) → lx (v ++ 32 :: 10 :: G) p = (vs, 0, 0) := fun v p vs hv => by
    rw [lx_app v.length v (32 :: 10 :: G) p vs (Nat.le_refl _) hv (good32 _) ⟨_, tail_gap hG⟩, lx_nil (by rw [gap, tail_gap hG]; simp)]
    simp
  have move : ∀ (v : List UInt8) (p q : Nat) (vs : List Tk), lx v p = (vs, 0, 0) → ∃ ws, lx v q = (ws, 0, 0) ∧ ws.map bare = vs.map bare := fun v p q vs hv => by
    obtain ⟨h1, h2⟩ := lx_bare v q p
    rw [hv] at h1 h2
    exact ⟨_, lx_ok h2, h1⟩
  rcases hk with rfl | ⟨i, hi, h3, hki⟩
  · refine ⟨by omega, ?_⟩
    obtain ⟨ws, hw, hb⟩ := move text 0 (0 + G.length + 1 + 1 + G.length + 1) ts h
    refine ⟨ws, ?_, hb⟩
    rw [lx_line hG, List.take_zero, List.nil_append, lx_blank, lx_line hG, List.drop_zero]
    exact tail _ _ _ hw
  · obtain ⟨k', k1, k2, k3, k4⟩ := lx_split text.length text 0 ts (Nat.le_refl _) h i hi h3
    have : k' = k := by rw [hki] at k2; omega
    subst this
    refine ⟨k1, ?_⟩
    obtain ⟨ws, hw, hb⟩ := move (text.drop k') (0 + k') (0 + k' + 1 + G.length + 1) _ k4
    have e := k3 (32 :: (G ++ 10 :: (text.drop k' ++ 32 :: 10 :: G))) (good32 _)
    rw [lx_blank, lx_line hG, tail _ _ _ hw] at e
    obtain ⟨us, hu, hb2⟩ := move _ 0 (0 + G.length + 1) _ e
    refine ⟨us, by rw [lx_line hG]; exact hu, ?_⟩
    rw [hb2, List.map_append, hb, ← List.map_append, List.take_append_drop]

/-! ### Two texts, with a line feed between them. -/
theorem parts_math (one two : List UInt8) : (lx one 0).2.1 = 0 →
    lx (one ++ 10 :: two) 0 = ((lx one 0).1 ++ (lx two (one.length + 1)).1, (lx two (one.length + 1)).2) := fun h => by
  rw [lx_app one.length one (10 :: two) 0 _ (Nat.le_refl _) (lx_ok h) (fun s hs => by simp at hs; subst hs; decide) ⟨_, gap_nl two⟩]
  have e := lx_line (G := []) rfl two (0 + one.length)
  rw [List.nil_append] at e
  rw [e, Nat.zero_add]
  rfl

/-! ### Places. -/
def Pl (text : List UInt8) : Nat → List Tk → Prop
  | e, [] => gap (text.drop e) = (text.drop e).length ∧ e ≤ text.length
  | e, t :: ts => ∃ k n : Nat, t.at_ = (k : Int) ∧ e ≤ k ∧ k < text.length ∧ gap ((text.drop e).take (k - e)) = k - e ∧ tok (text.drop k) = ((t.kind, t.text, t.n), n, 0) ∧ Pl text (k + n) ts
theorem places_math (text : List UInt8) : ∀ (ts : List Tk) (e : Nat), e ≤ text.length → lx (text.drop e) e = (ts, 0, 0) → Pl text e ts := by
  intro ts
  induction ts with
  | nil =>
    intro e he h
    refine ⟨?_, he⟩
    rcases lx_cases (text.drop e) with h1 | ⟨h1, h2⟩ | ⟨h1, t, n, ht⟩
    · exact h1
    · rw [lx_bad h1 h2] at h
      simp only [Prod.mk.injEq] at h
      exact absurd h.2.1 h2
    · rw [lx_tok h1 ht] at h
      simp at h
  | cons t ts ih =>
    intro e he h
    rcases lx_cases (text.drop e) with h1 | ⟨h1, h2⟩ | ⟨h1, u, n, ht⟩
    · rw [lx_nil h1] at h
      simp at h
    · rw [lx_bad h1 h2] at h
      simp at h
    · obtain ⟨hn, hl, _⟩ := tok_ext ht
      rw [List.length_drop] at hl
      rw [lx_tok h1 ht] at h
      rw [List.length_drop] at h1 hl
      simp only [Prod.mk.injEq, List.cons.injEq] at h
      obtain ⟨⟨rfl, h3⟩, h4⟩ := h
      refine ⟨e + gap (text.drop e), n, rfl, by omega, by omega, ?_, ?_, ?_⟩
      · rw [Nat.add_sub_cancel_left]
        exact gap_take false _
      · rw [← List.drop_drop]
        exact ht
      · refine ih _ (by omega) ?_
        have q : e + (gap (text.drop e) + n) = e + gap (text.drop e) + n := by omega
        rw [List.drop_drop, q] at h3 h4
        exact Prod.ext h3 h4
end Go.Proofs.YtcgkaecaddpenaaGreatDoor.L7

/- Where tokens stand. -/
namespace Go.Proofs.YtcgkaecaddpenaaGreatDoor.L7

theorem lx_at : ∀ (m : Nat) (r : List UInt8) (p : Nat), r.length ≤ m → ∀ t ∈ (lx r p).1, (p : Int) ≤ t.at_ ∧ t.at_ ≤ ((p + r.length : Nat) : Int)
  | m, r, p, hm => by
    rcases lx_cases r with h | ⟨h, he⟩ | ⟨h, t, n, ht⟩
    · rw [lx_nil h]; simp
    · rw [lx_bad h he]; simp
    · obtain ⟨hn, hl, _⟩ := tok_ext ht
      rw [List.length_drop] at hl
      rw [lx_tok h ht]
      have hlen : (r.drop (gap r + n)).length < r.length := by rw [List.length_drop]; omega
      match m with
      | 0 => omega
      | m + 1 =>
        intro u hu
        rcases List.mem_cons.1 hu with rfl | hu
        · show (p : Int) ≤ ((p + gap r : Nat) : Int) ∧ ((p + gap r : Nat) : Int) ≤ _
          omega
        · have ih := lx_at m (r.drop (gap r + n)) (p + gap r + n) (by omega) u hu
          rw [List.length_drop] at ih
          omega
/-- What is written of a content is as long as what stood there. -/
theorem con_len : ∀ (m : Nat) (l s : List UInt8) (n : Nat), l.length ≤ m → con l = (s, n, 0) → (s.flatMap esc7).length + 1 = n
  | 0, l, s, n, hm, h => by
    have : l = [] := List.length_eq_zero_iff.1 (by omega)
    subst this
    rw [con] at h
    simp at h
  | m + 1, l, s, n, hm, h => by
    rcases con_cases h with ⟨r, rfl, rfl, rfl⟩ | ⟨d, r, s', n', rfl, hd, hr, rfl, rfl⟩ | ⟨c, r, s', n', rfl, h1, h2, h3, hr, rfl, rfl⟩
    · simp
    · have ih := con_len m r s' n' (by simp at hm; omega) hr
      rw [List.flatMap_cons, List.length_append]
      have : (esc7 (if d = 110 then 10 else d)).length = 2 := by
        rcases hd with rfl | rfl | rfl <;> rfl
      omega
    · have ih := con_len m r s' n' (by simp at hm; omega) hr
      rw [List.flatMap_cons, List.length_append]
      have : (esc7 c).length = 1 := by
        unfold esc7
        rw [if_neg (fun q => q.elim h1 h3), if_neg h2]
        rfl
      omega
theorem wr7_len {r : List UInt8} {t : Int × List UInt8 × Int} {n p : Nat} (h : tok r = (t, n, 0)) : (wr7 (tkOf t p)).length ≤ n := by
  have he := tok_ext h
  rcases tok_shape h with ⟨h1, _, _, s, _, h4, h5⟩ | ⟨h1, h2⟩
  · unfold wr7
    rw [if_pos (show (tkOf t p).kind = 3 from h1)]
    have := con_len s.length s _ _ (Nat.le_refl _) h5
    show (34 :: (t.2.1.flatMap esc7 ++ [34])).length ≤ n
    rw [List.length_cons, List.length_append, List.length_singleton]
    omega
  · unfold wr7
    rw [if_neg (show ¬ (tkOf t p).kind = 3 from h1)]
    show t.2.1.length ≤ n
    rw [h2, List.length_take]
    omega
theorem wr_total : ∀ (m : Nat) (r : List UInt8) (p : Nat) (ts : List Tk), r.length ≤ m → lx r p = (ts, 0, 0) → (wrAll ts).length ≤ 2 * r.length
  | m, r, p, ts, hm, h => by
    rcases lx_cases r with h1 | ⟨h1, h2⟩ | ⟨h1, t, n, ht⟩
    · rw [lx_nil h1] at h
      simp only [Prod.mk.injEq] at h
      obtain ⟨rfl, _⟩ := h
      simp [wrAll]
    · rw [lx_bad h1 h2] at h
      simp only [Prod.mk.injEq] at h
      exact absurd h.2.1 h2
    · obtain ⟨hn, hl, _⟩ := tok_ext ht
      rw [List.length_drop] at hl
      rw [lx_tok h1 ht] at h
      obtain ⟨us, hus⟩ : ∃ us, (lx (r.drop (gap r + n)) (p + gap r + n)).1 = us := ⟨_, rfl⟩
      rw [hus] at h
      simp only [Prod.mk.injEq] at h
      obtain ⟨rfl, h2⟩ := h
      have hlen : (r.drop (gap r + n)).length < r.length := by rw [List.length_drop]; omega
      have hw := wr7_len (p := p + gap r) ht
      match m with
      | 0 => omega
      | m + 1 =>
        have ih := wr_total m _ _ us (by omega) (Prod.ext hus h2)
        rw [List.length_drop] at ih
        show ((tkOf t (p + gap r) :: us).flatMap fun t => wr7 t ++ [32]).length ≤ _
        rw [List.flatMap_cons, List.length_append, List.length_append, List.length_singleton]
        have e : (us.flatMap fun t => wr7 t ++ [32]).length = (wrAll us).length := rfl
        rw [e]
        omega
theorem wrAll_take (ts : List Tk) (i : Nat) (hi : i < ts.length) : wrAll (ts.take (i + 1)) = wrAll (ts.take i) ++ (wr7 ts[i] ++ [32]) := by
  unfold wrAll
  rw [List.take_succ_eq_append_getElem hi, List.flatMap_append]
  simp
theorem wrAll_le (ts : List Tk) (i : Nat) : (wrAll (ts.take i)).length ≤ (wrAll ts).length := by
  have h : wrAll ts = wrAll (ts.take i) ++ wrAll (ts.drop i) := by
    unfold wrAll
    rw [← List.flatMap_append, List.take_append_drop]
  rw [h, List.length_append]
  omega
end Go.Proofs.YtcgkaecaddpenaaGreatDoor.L7

/- The loop over the tokens, in plain words. -/
namespace Go.Proofs.YtcgkaecaddpenaaGreatDoor.L7

theorem lexT_lx (t : List UInt8) : lexT t = if 20000 < t.length then ([], 3, -1) else
  match (lx t 0).1[5000]? with
  | some x => ([], 3, x.at_)
  | none => if (lx t 0).2.1 ≠ 0 then ([], (lx t 0).2) else ((lx t 0).1, 0, 0) := rfl
theorem lexT_long {t : List UInt8} (h : 20000 < t.length) : lexT t = ([], 3, -1) := by rw [lexT_lx, if_pos h]
/-- What has been read: acc, up to offset p, where a token begins or the text ends. -/
structure RI (t : List UInt8) (acc : List Tk) (p : Nat) : Prop where
  le : p ≤ t.length
  g0 : gap (t.drop p) = 0
  few : acc.length ≤ 5000
  eq : lx t 0 = (acc ++ (lx (t.drop p) p).1, (lx (t.drop p) p).2)
  short : t.length ≤ 20000
theorem ri_start (t : List UInt8) (h : t.length ≤ 20000) : RI t [] (gap t) :=
  ⟨gapC_le _ _, gap_of_drop t, by simp, by rw [lx_gap t 0, Nat.zero_add]; rfl, h⟩
theorem ri_end {t : List UInt8} {acc : List Tk} {p : Nat} (h : RI t acc p) (hp : p = t.length) : lexT t = (acc, 0, 0) := by
  have e := h.eq
  rw [hp, List.drop_length, lx_nil (r := []) rfl, List.append_nil] at e
  rw [lexT_lx, if_neg (by have := h.short; omega), e]
  simp only
  rw [List.getElem?_eq_none h.few]
  simp
theorem ri_err {t : List UInt8} {acc : List Tk} {p : Nat} {e : Int} (h : RI t acc p) (hp : p < t.length) (he : (tok (t.drop p)).2.2 = e) (h0 : e ≠ 0) : lexT t = ([], e, (p : Int)) := by
  have e1 := h.eq
  have e2 : lx (t.drop p) p = ([], e, (p : Int)) := by
    rw [lx_bad (by rw [h.g0, List.length_drop]; omega) (by rw [h.g0]; rw [List.drop_zero, he]; exact h0), h.g0, List.drop_zero, he]
    rfl
  rw [e2, List.append_nil] at e1
  rw [lexT_lx, if_neg (by have := h.short; omega), e1]
  simp only
  rw [List.getElem?_eq_none h.few]
  simp [h0]
theorem ri_tok {t : List UInt8} {acc : List Tk} {p n : Nat} {x : Int × List UInt8 × Int} (h : RI t acc p) (hp : p < t.length) (ht : tok (t.drop p) = (x, n, 0)) :
    lx t 0 = (acc ++ tkOf x p :: (lx (t.drop (p + n)) (p + n)).1, (lx (t.drop (p + n)) (p + n)).2) := by
  have e1 := h.eq
  have e2 := lx_tok (r := t.drop p) (p := p) (t := x) (n := n) (by rw [h.g0, List.length_drop]; omega) (by rw [h.g0, List.drop_zero]; exact ht)
  rw [h.g0, List.drop_drop, Nat.zero_add, Nat.add_zero] at e2
  rw [e1, e2]
theorem ri_limit {t : List UInt8} {acc : List Tk} {p n : Nat} {x : Int × List UInt8 × Int} (h : RI t acc p) (hp : p < t.length) (ht : tok (t.drop p) = (x, n, 0)) (hl : acc.length = 5000) : lexT t = ([], 3, (p : Int)) := by
  rw [lexT_lx, if_neg (by have := h.short; omega), ri_tok h hp ht]
  simp only
  rw [List.getElem?_append_right (by omega), hl]
  rfl
theorem ri_step {t : List UInt8} {acc : List Tk} {p n : Nat} {x : Int × List UInt8 × Int} (h : RI t acc p) (hp : p < t.length) (ht : tok (t.drop p) = (x, n, 0)) (hl : acc.length ≠ 5000) :
    1 ≤ n ∧ p + n ≤ t.length ∧ RI t (acc ++ [tkOf x p]) (p + n + gap (t.drop (p + n))) := by
  obtain ⟨hn, hle, _⟩ := tok_ext ht
  rw [List.length_drop] at hle
  have hg := gapC_le false (t.drop (p + n))
  rw [List.length_drop] at hg
  refine ⟨hn, by omega, ⟨by unfold gap; omega, ?_, by have := h.few; rw [List.length_append]; simp; omega, ?_, h.short⟩⟩
  · rw [← List.drop_drop]
    exact gap_of_drop _
  · rw [ri_tok h hp ht, lx_gap (t.drop (p + n)) (p + n), List.drop_drop, List.append_assoc]
    rfl
end Go.Proofs.YtcgkaecaddpenaaGreatDoor.L7

