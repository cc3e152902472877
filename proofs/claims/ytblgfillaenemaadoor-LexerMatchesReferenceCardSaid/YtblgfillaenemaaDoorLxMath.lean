/- The tokens of a text, in plain words: gaps, names, numbers, texts, symbols; what stands behind a token does not change it. -/
import Derived.Lib.Hide
namespace Go.Proofs.YtblgfillaenemaaDoor.L7

def Lt (c : UInt8) : Bool := (decide (97 ≤ c.toNat) && decide (c.toNat ≤ 122)) || (decide (65 ≤ c.toNat) && decide (c.toNat ≤ 90))
def Dg (c : UInt8) : Bool := decide (48 ≤ c.toNat) && decide (c.toNat ≤ 57)
def In (c : UInt8) : Bool := Lt c || Dg c || c == 95
/-- How many bytes of gaps a text begins with; whether a comment is open. -/
def gapC : Bool → List UInt8 → Nat
  | _, [] => 0
  | cm, c :: r => if c = 10 then gapC false r + 1 else if c = 35 then gapC true r + 1 else if cm = false ∧ c ≠ 32 ∧ c ≠ 9 then 0 else gapC cm r + 1
abbrev gap (r : List UInt8) : Nat := gapC false r
def syms : List UInt8 := [59, 58, 44, 46, 40, 41, 123, 125, 61, 60, 43, 45, 47, 64]
/-- The length of the symbol that a text begins with. -/
def symN : List UInt8 → Nat
  | [] => 0
  | c :: r => if r.head? = some 61 ∧ (c = 33 ∨ c = 60) then 2 else if c ∈ syms then 1 else 0
/-- The content behind a quote, the bytes that it takes (the last quote with it), the error. -/
def con : List UInt8 → List UInt8 × Nat × Int
  | [] => ([], 0, 7)
  | [c] => if c = 34 then ([], 1, 0) else if c = 10 then ([], 0, 5) else ([], 0, 7)
  | c :: d :: r => if c = 34 then ([], 1, 0) else if c = 10 then ([], 0, 5) else
    if c = 92 then (if d = 34 ∨ d = 92 ∨ d = 110 then ((if d = 110 then 10 else d) :: (con r).1, (con r).2.1 + 2, (con r).2.2) else ([], 0, 5))
    else (c :: (con (d :: r)).1, (con (d :: r)).2.1 + 1, (con (d :: r)).2.2)
def num (l : List UInt8) : Nat := l.foldl (fun v c => 10 * v + (c.toNat - 48)) 0
def bad (e : Int) : (Int × List UInt8 × Int) × Nat × Int := ((0, [], 0), 0, e)
/-- The token that a text begins with: kind, text, value; its length; the error. -/
def tok : List UInt8 → (Int × List UInt8 × Int) × Nat × Int
  | [] => bad 5
  | c :: r =>
    if Lt c = true then (if 24 < ((c :: r).takeWhile In).length then bad 3 else ((1, (c :: r).takeWhile In, 0), ((c :: r).takeWhile In).length, 0))
    else if Dg c = true then (if 10 < ((c :: r).takeWhile Dg).length ∨ (∃ s, ((c :: r).dropWhile Dg).head? = some s ∧ In s = true) then bad 6 else ((2, (c :: r).takeWhile Dg, (num ((c :: r).takeWhile Dg) : Int)), ((c :: r).takeWhile Dg).length, 0))
    else if c = 34 then (if (con r).2.2 ≠ 0 then bad (con r).2.2 else if 200 < (con r).1.length then bad 3 else ((3, (con r).1, 0), (con r).2.1 + 1, 0))
    else if symN (c :: r) = 0 then bad 5 else ((4, (c :: r).take (symN (c :: r)), 0), symN (c :: r), 0)
structure Tk where
  kind : Int
  text : List UInt8
  n : Int
  at_ : Int
deriving DecidableEq
def tkOf (t : Int × List UInt8 × Int) (at_ : Nat) : Tk := ⟨t.1, t.2.1, t.2.2, (at_ : Int)⟩
/-- The tokens up to the first error, the error, its offset. -/
def raw : Nat → List UInt8 → Nat → List Tk × Int × Int
  | 0, _, _ => ([], 0, 0)
  | f + 1, r, p =>
    if r.drop (gap r) = [] then ([], 0, 0)
    else if (tok (r.drop (gap r))).2.2 ≠ 0 then ([], (tok (r.drop (gap r))).2.2, ((p + gap r : Nat) : Int))
    else (tkOf (tok (r.drop (gap r))).1 (p + gap r) :: (raw f ((r.drop (gap r)).drop (tok (r.drop (gap r))).2.1) (p + gap r + (tok (r.drop (gap r))).2.1)).1, (raw f ((r.drop (gap r)).drop (tok (r.drop (gap r))).2.1) (p + gap r + (tok (r.drop (gap r))).2.1)).2)
def lexT (t : List UInt8) : List Tk × Int × Int :=
  if 20000 < t.length then ([], 3, -1) else
  match (raw (t.length + 1) t 0).1[5000]? with
  | some x => ([], 3, x.at_)
  | none => if (raw (t.length + 1) t 0).2.1 ≠ 0 then ([], (raw (t.length + 1) t 0).2) else ((raw (t.length + 1) t 0).1, 0, 0)

/-! ### Gaps. -/
theorem gapC_nl {cm : Bool} {c : UInt8} {r : List UInt8} (h : c = 10) : gapC cm (c :: r) = gapC false r + 1 := by rw [gapC, if_pos h]
theorem gapC_hash {cm : Bool} {c : UInt8} {r : List UInt8} (h : c ≠ 10) (h2 : c = 35) : gapC cm (c :: r) = gapC true r + 1 := by rw [gapC, if_neg h, if_pos h2]
theorem gapC_tok {cm : Bool} {c : UInt8} {r : List UInt8} (h : c ≠ 10) (h2 : c ≠ 35) (h3 : cm = false ∧ c ≠ 32 ∧ c ≠ 9) : gapC cm (c :: r) = 0 := by rw [gapC, if_neg h, if_neg h2, if_pos h3]
theorem gapC_in {cm : Bool} {c : UInt8} {r : List UInt8} (h : c ≠ 10) (h2 : c ≠ 35) (h3 : ¬ (cm = false ∧ c ≠ 32 ∧ c ≠ 9)) : gapC cm (c :: r) = gapC cm r + 1 := by rw [gapC, if_neg h, if_neg h2, if_neg h3]
/-- A byte of gaps, or the end of them. -/
theorem gap_step (cm : Bool) (c : UInt8) : (∀ r, gapC cm (c :: r) = 0) ∨ ∃ cm', ∀ r, gapC cm (c :: r) = gapC cm' r + 1 := by
  by_cases h1 : c = 10
  · exact .inr ⟨false, fun r => gapC_nl h1⟩
  · by_cases h2 : c = 35
    · exact .inr ⟨true, fun r => gapC_hash h1 h2⟩
    · by_cases h3 : cm = false ∧ c ≠ 32 ∧ c ≠ 9
      · exact .inl fun r => gapC_tok h1 h2 h3
      · exact .inr ⟨cm, fun r => gapC_in h1 h2 h3⟩
theorem gapC_le (cm : Bool) (r : List UInt8) : gapC cm r ≤ r.length := by
  induction r generalizing cm with
  | nil => simp [gapC]
  | cons c r ih =>
    rcases gap_step cm c with h | ⟨cm', h⟩
    · rw [h]
      omega
    · rw [h, List.length_cons]
      have := ih cm'
      omega
theorem gap_app_lt (cm : Bool) (a x : List UInt8) (h : gapC cm a < a.length) : gapC cm (a ++ x) = gapC cm a := by
  induction a generalizing cm with
  | nil => simp [gapC] at h
  | cons c r ih =>
    rw [List.cons_append]
    rcases gap_step cm c with e | ⟨cm', e⟩
    · rw [e, e]
    · rw [e, List.length_cons] at h
      rw [e, e, ih cm' (by omega)]
/-- All of it gaps, whatever is open before. -/
def AllGap (x : List UInt8) : Prop := ∀ cm, gapC cm x = x.length
theorem gap_app_all (cm : Bool) (a x : List UInt8) (n : Nat) (h : gapC cm a = a.length) (hx : ∀ cm, gapC cm x = n) : gapC cm (a ++ x) = a.length + n := by
  induction a generalizing cm with
  | nil => simpa using hx cm
  | cons c r ih =>
    rw [List.cons_append]
    rcases gap_step cm c with e | ⟨cm', e⟩
    · rw [e] at h
      simp at h
    · rw [e, List.length_cons] at h
      rw [e, ih cm' (by omega), List.length_cons]
      omega
theorem gap_nl (b : List UInt8) (cm : Bool) : gapC cm (10 :: b) = gap b + 1 := gapC_nl rfl
theorem gap_take (cm : Bool) (r : List UInt8) : gapC cm (r.take (gapC cm r)) = gapC cm r := by
  induction r generalizing cm with
  | nil => simp [gapC]
  | cons c r ih =>
    rcases gap_step cm c with e | ⟨cm', e⟩
    · rw [e]
      simp [gapC]
    · rw [e, List.take_succ_cons, e, ih]
/-- Behind its gaps a text is at its end or begins with a byte that is none. -/
theorem gap_drop (r : List UInt8) (c : UInt8) (x : List UInt8) (h : r.drop (gap r) = c :: x) : c ≠ 10 ∧ c ≠ 35 ∧ c ≠ 32 ∧ c ≠ 9 := by
  have key : ∀ (cm : Bool) (r : List UInt8), r.drop (gapC cm r) = c :: x → c ≠ 10 ∧ c ≠ 35 ∧ c ≠ 32 ∧ c ≠ 9 := by
    intro cm r
    induction r generalizing cm with
    | nil => intro h; simp at h
    | cons d r ih =>
      intro h
      by_cases h1 : d = 10
      · rw [gapC_nl h1] at h
        exact ih false h
      · by_cases h2 : d = 35
        · rw [gapC_hash h1 h2] at h
          exact ih true h
        · by_cases h3 : cm = false ∧ d ≠ 32 ∧ d ≠ 9
          · rw [gapC_tok h1 h2 h3] at h
            simp at h
            obtain ⟨rfl, _⟩ := h
            exact ⟨h1, h2, h3.2⟩
          · rw [gapC_in h1 h2 h3] at h
            exact ih cm h
  exact key false r h
theorem gap_none {c : UInt8} {r : List UInt8} (h : c ≠ 10 ∧ c ≠ 35 ∧ c ≠ 32 ∧ c ≠ 9) : gap (c :: r) = 0 := gapC_tok h.1 h.2.1 ⟨rfl, h.2.2⟩
end Go.Proofs.YtblgfillaenemaaDoor.L7
