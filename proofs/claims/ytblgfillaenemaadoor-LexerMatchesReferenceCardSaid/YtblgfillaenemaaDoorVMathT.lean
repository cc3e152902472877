/- The plain mathematics of texts of values: Text, Parse, and what they make of each other. -/
import Derived.Test.YtblgfillaenemaaDoorVMath
import Derived.Lib.ItoaLen
import Derived.Lib.AtoiAll
import Derived.Lib.Strings
import Derived.Lib.Small
namespace Go.Proofs.YtblgfillaenemaaDoor.L2
/-- A decimal digit. -/
def IsDig (c : UInt8) : Prop := 48 ≤ c.toNat ∧ c.toNat ≤ 57

theorem ofNat_dig {k : Nat} (h : k < 10) : (UInt8.ofNat (48 + k)).toNat = 48 + k := by
  rw [UInt8.toNat_ofNat']; omega

theorem dec_digs (u : Nat) : ∀ c ∈ Lib.decDigits u, IsDig c := by
  induction u using Nat.strongRecOn with
  | _ u ih =>
    intro c hc
    rw [Lib.decDigits] at hc
    split at hc
    · simp only [List.mem_singleton] at hc
      subst hc
      unfold IsDig; rw [ofNat_dig (by omega)]; omega
    · rw [List.mem_append] at hc
      rcases hc with hc | hc
      · exact ih (u / 10) (by omega) c hc
      · simp only [List.mem_singleton] at hc
        subst hc
        unfold IsDig; rw [ofNat_dig (by omega)]; omega

theorem dec_ne (u : Nat) : Lib.decDigits u ≠ [] := by
  rw [Lib.decDigits]
  split <;> simp

/-- A parse goes on where the first part ended. -/
theorem parse_append : ∀ (l r : List UInt8) (acc v : Nat), Lib.parseUint10 acc l = .ok v → Lib.parseUint10 acc (l ++ r) = Lib.parseUint10 v r
  | [], r, acc, v, h => by
    simp only [Lib.parseUint10] at h
    injection h with h
    subst h; rfl
  | c :: l, r, acc, v, h => by
    rw [List.cons_append]
    simp only [Lib.parseUint10] at h ⊢
    split at h
    · rename_i hc
      rw [if_pos hc]
      split at h
      · cases h
      · rename_i h1
        rw [if_neg h1]
        split at h
        · cases h
        · rename_i h2
          rw [if_neg h2]
          exact parse_append l r _ v h
    · cases h

theorem parse_dec (u : Nat) (hu : u < 1000000000000000000) : Lib.parseUint10 0 (Lib.decDigits u) = .ok u := by
  induction u using Nat.strongRecOn with
  | _ u ih =>
    rw [Lib.decDigits]
    split
    · rename_i h
      simp only [Lib.parseUint10, ofNat_dig h]
      rw [if_pos (by omega), if_neg (by omega), if_neg (by omega)]
      simp
    · rename_i h
      rw [parse_append _ _ _ _ (ih (u / 10) (by omega) (by omega))]
      simp only [Lib.parseUint10, ofNat_dig (show u % 10 < 10 by omega)]
      rw [if_pos (by omega), if_neg (by omega), if_neg (by omega)]
      congr 1
      omega

theorem itoa_neg {n : Int} (h : n < 0) : Lib.itoa n = 45 :: Lib.decDigits n.natAbs := by unfold Lib.itoa; rw [if_pos h]
theorem itoa_pos {n : Int} (h : 0 ≤ n) : Lib.itoa n = Lib.decDigits n.natAbs := by
  unfold Lib.itoa; rw [if_neg (by omega)]; congr 1; omega

theorem atoi_itoa (n : Int) (h0 : -1000000000 ≤ n) (h1 : n ≤ 1000000000) : Lib.atoiAll (Lib.itoa n) = .ok n := by
  unfold Lib.itoa
  split
  · rename_i hn
    unfold Lib.atoiAll
    simp only []
    rw [if_pos (Or.inr (by decide))]
    unfold Lib.parseMag
    rw [if_neg (dec_ne _), parse_dec _ (by omega)]
    simp only []
    rw [if_neg (by simp), if_neg (by omega), if_pos (by decide)]
    congr 1
    omega
  · rename_i hn
    have hd := dec_digs n.toNat
    have hne := dec_ne n.toNat
    have hp := parse_dec n.toNat (by omega)
    generalize hl : Lib.decDigits n.toNat = l at *
    cases l with
    | nil => exact absurd rfl hne
    | cons c r =>
      have hc := hd c (by simp)
      unfold IsDig at hc
      unfold Lib.atoiAll
      simp only []
      rw [if_neg (by omega)]
      unfold Lib.parseMag
      rw [if_neg (by simp), hp]
      simp only []
      rw [if_neg (by omega), if_neg (by omega), if_neg (by omega)]
      congr 1
      omega

/-- How the text of a number begins. -/
theorem itoa_head (n : Int) : ∃ c r, Lib.itoa n = c :: r ∧ (c = 45 ∨ IsDig c) := by
  by_cases h : n < 0
  · exact ⟨45, _, itoa_neg h, Or.inl rfl⟩
  · rw [itoa_pos (by omega)]
    have hd := dec_digs n.natAbs
    have hne := dec_ne n.natAbs
    generalize Lib.decDigits n.natAbs = l at *
    cases l with
    | nil => exact absurd rfl hne
    | cons c r => exact ⟨c, r, rfl, Or.inr (hd c (by simp))⟩

/-- The text of a value; empty if it is not valid. -/
def txt (k n : Int) (t : List UInt8) : List UInt8 :=
  if vldB k n t then
    (if k = 1 then quo t else if k = 2 then Lib.itoa n else if k = 3 then 64 :: Lib.itoa n else if k = 4 then (if n = 1 then [116, 114, 117, 101] else [102, 97, 108, 115, 101]) else [110, 117, 108, 108])
  else []
theorem txt_bad {k n : Int} {t : List UInt8} (h : vldB k n t = false) : txt k n t = [] := by unfold txt; rw [h, if_neg (by decide)]
theorem txt_text {n : Int} {t : List UInt8} (h : vldB 1 n t = true) : txt 1 n t = quo t := by unfold txt; rw [h, if_pos rfl, if_pos rfl]
theorem txt_num {n : Int} {t : List UInt8} (h : vldB 2 n t = true) : txt 2 n t = Lib.itoa n := by unfold txt; rw [h, if_pos rfl, if_neg (by decide), if_pos rfl]
theorem txt_day {n : Int} {t : List UInt8} (h : vldB 3 n t = true) : txt 3 n t = 64 :: Lib.itoa n := by unfold txt; rw [h, if_pos rfl, if_neg (by decide), if_neg (by decide), if_pos rfl]
theorem txt_flag {n : Int} {t : List UInt8} (h : vldB 4 n t = true) : txt 4 n t = if n = 1 then [116, 114, 117, 101] else [102, 97, 108, 115, 101] := by unfold txt; rw [h, if_pos rfl, if_neg (by decide), if_neg (by decide), if_neg (by decide), if_pos rfl]
theorem txt_null {n : Int} {t : List UInt8} (h : vldB 0 n t = true) : txt 0 n t = [110, 117, 108, 108] := by unfold txt; rw [h, if_pos rfl, if_neg (by decide), if_neg (by decide), if_neg (by decide), if_neg (by decide)]

theorem vld_cases {k n : Int} {t : List UInt8} (h : vldB k n t = true) : k = 0 ∨ k = 1 ∨ k = 2 ∨ k = 3 ∨ k = 4 := by
  have := vldB_true h; unfold Vld at this; omega
theorem vld_bound {k n : Int} {t : List UInt8} (h : vldB k n t = true) : -1000000000 ≤ n ∧ n ≤ 1000000000 := by
  have := vldB_true h; unfold Vld at this; omega
theorem vld_len {k n : Int} {t : List UInt8} (h : vldB k n t = true) : t.length ≤ 200 := by
  have := vldB_true h
  unfold Vld at this
  rcases this with h | h | h | h | h
  · rw [h.2.2]; simp
  · exact h.2.2
  · rw [h.2.2.2]; simp
  · rw [h.2.2.2]; simp
  · rw [h.2.2.2]; simp
theorem txt_len (k n : Int) (t : List UInt8) : (txt k n t).length ≤ 402 := by
  cases hv : vldB k n t
  · rw [txt_bad hv]; simp
  · have hl := vld_len hv
    have hn := vld_bound hv
    have hi := Lib.itoa_length_le n (by omega) (by omega)
    rcases vld_cases hv with rfl | rfl | rfl | rfl | rfl
    · rw [txt_null hv]; simp
    · rw [txt_text hv]; have := quo_len t; omega
    · rw [txt_num hv]; omega
    · rw [txt_day hv]; simp; omega
    · rw [txt_flag hv]; split <;> simp
theorem txt_ne {k n : Int} {t : List UInt8} (hv : vldB k n t = true) : txt k n t ≠ [] := by
  obtain ⟨c, r, hc, _⟩ := itoa_head n
  rcases vld_cases hv with rfl | rfl | rfl | rfl | rfl
  · rw [txt_null hv]; simp
  · rw [txt_text hv]; simp [quo]
  · rw [txt_num hv, hc]; simp
  · rw [txt_day hv]; simp
  · rw [txt_flag hv]; split <;> simp

/-- The text that quote wrote, read back byte by byte. -/
def unq : List UInt8 → List UInt8
  | [] => []
  | [c] => [c]
  | c :: d :: r => if c.toNat = 92 then (if d.toNat = 110 then 10 else d) :: unq r else c :: unq (d :: r)

theorem unq_plain {c : UInt8} (h : c.toNat ≠ 92) (r : List UInt8) : unq (c :: r) = c :: unq r := by
  cases r with
  | nil => rfl
  | cons d r => rw [unq, if_neg h]
theorem unq_esc (d : UInt8) (r : List UInt8) : unq (92 :: d :: r) = (if d.toNat = 110 then 10 else d) :: unq r := by
  rw [unq, if_pos (by decide)]
theorem unq_flat : ∀ t : List UInt8, unq (t.flatMap esc) = t
  | [] => rfl
  | c :: t => by
    have ih := unq_flat t
    rw [List.flatMap_cons]
    by_cases h : c.toNat = 34 ∨ c.toNat = 92
    · have e : esc c = [92, c] := by unfold esc; rw [if_pos h]
      rw [e, List.cons_append, List.cons_append, List.nil_append, unq_esc, if_neg (by omega), ih]
    · by_cases h10 : c.toNat = 10
      · have e : esc c = [92, 110] := by unfold esc; rw [if_neg h, if_pos h10]
        rw [e, List.cons_append, List.cons_append, List.nil_append, unq_esc, if_pos (by decide), ih]
        congr 1
        exact (UInt8.toNat_inj.1 (by rw [h10]; rfl)).symm
      · have e : esc c = [c] := by unfold esc; rw [if_neg h, if_neg h10]
        rw [e, List.cons_append, List.nil_append, unq_plain (by omega), ih]

theorem trim_quo (t : List UInt8) : Lib.trimSuffix (t.flatMap esc ++ [34]) [34] = t.flatMap esc := by
  unfold Lib.trimSuffix
  have h : Lib.hasSuffix (t.flatMap esc ++ [34]) [34] = true := by
    unfold Lib.hasSuffix
    rw [List.isSuffixOf_iff_suffix]
    exact ⟨_, rfl⟩
  rw [h, if_pos rfl]
  simp

/-- The number or day whose digits are d, if l is its text. -/
def parseN (k : Int) (d l : List UInt8) : Int × Int × List UInt8 × Int :=
  match Lib.atoiAll d with
  | .ok n => if txt k n [] = l then (k, n, [], 0) else (0, 0, [], 4)
  | _ => (0, 0, [], 4)
theorem parseN_ok {k : Int} {d l : List UInt8} {n : Int} (h : Lib.atoiAll d = .ok n) : parseN k d l = if txt k n [] = l then (k, n, [], 0) else (0, 0, [], 4) := by
  unfold parseN; rw [h]
theorem parseN_cases (k : Int) (d l : List UInt8) : parseN k d l = (0, 0, [], 4) ∨ ∃ n, parseN k d l = (k, n, [], 0) ∧ txt k n [] = l := by
  rcases hx : Lib.atoiAll d with n | _ | _
  · rw [parseN_ok hx]
    by_cases b : txt k n [] = l
    · rw [if_pos b]; exact Or.inr ⟨n, rfl, b⟩
    · rw [if_neg b]; exact Or.inl rfl
  · left; unfold parseN; rw [hx]
  · left; unfold parseN; rw [hx]

/-- What Parse returns: the value that has the text; if there is one, all that is known of a guess decides. -/
def parse (l : List UInt8) : Int × Int × List UInt8 × Int :=
  if vldB 0 0 [] = true ∧ l = [110, 117, 108, 108] then (0, 0, [], 0)
  else if l = [116, 114, 117, 101] then (4, 1, [], 0)
  else if l = [102, 97, 108, 115, 101] then (4, 0, [], 0)
  else match l with
    | [] => (0, 0, [], 4)
    | c :: r =>
      if c.toNat = 34 then (if txt 1 0 (unq (Lib.trimSuffix r [34])) = l then (1, 0, unq (Lib.trimSuffix r [34]), 0) else (0, 0, [], 4))
      else if c.toNat = 64 then parseN 3 r l
      else parseN 2 l l

theorem vld_nil {k n : Int} {t : List UInt8} (h : vldB k n t = true) (hk : k ≠ 1) : t = [] := by
  have := vldB_true h; unfold Vld at this
  rcases this with h | h | h | h | h
  · exact h.2.2
  · exact absurd h.1 hk
  · exact h.2.2.2
  · exact h.2.2.2
  · exact h.2.2.2
theorem vld_zero {n : Int} {t : List UInt8} (h : vldB 1 n t = true) : n = 0 := by
  have := vldB_true h; unfold Vld at this; omega
theorem vld_zero0 {n : Int} {t : List UInt8} (h : vldB 0 n t = true) : n = 0 := by
  have := vldB_true h; unfold Vld at this; omega
theorem vld_flag {n : Int} {t : List UInt8} (h : vldB 4 n t = true) : n = 0 ∨ n = 1 := by
  have := vldB_true h; unfold Vld at this; omega

/-- Parse undoes Text. -/
theorem parse_txt {k n : Int} {t : List UInt8} (hv : vldB k n t = true) : parse (txt k n t) = (k, n, t, 0) := by
  have hb := vld_bound hv
  have ha := atoi_itoa n hb.1 hb.2
  obtain ⟨c, r, hc, hd⟩ := itoa_head n
  rcases vld_cases hv with rfl | rfl | rfl | rfl | rfl
  · obtain rfl := vld_zero0 hv
    obtain rfl := vld_nil hv (by decide)
    rw [txt_null hv]; decide +kernel
  · obtain rfl := vld_zero hv
    have ht := txt_text hv
    have e : txt 1 0 t = 34 :: (t.flatMap esc ++ [34]) := ht
    rw [e]
    unfold parse
    rw [if_neg (by simp), if_neg (by simp), if_neg (by simp)]
    simp only []
    rw [if_pos (by decide), trim_quo, unq_flat, if_pos e]
  · obtain rfl := vld_nil hv (by decide)
    have ht := txt_num hv
    have hne : c.toNat ≠ 34 ∧ c.toNat ≠ 64 ∧ c.toNat ≠ 110 ∧ c.toNat ≠ 116 ∧ c.toNat ≠ 102 := by
      rcases hd with rfl | hd
      · decide
      · unfold IsDig at hd; omega
    have hx : ∀ (x : UInt8) (y : List UInt8), c.toNat ≠ x.toNat → ¬ (c :: r = x :: y) := fun x y h e => h (by injection e with e _; rw [e])
    rw [ht, hc]
    unfold parse
    rw [if_neg (fun h => hx 110 _ hne.2.2.1 h.2), if_neg (hx 116 _ hne.2.2.2.1), if_neg (hx 102 _ hne.2.2.2.2)]
    simp only []
    rw [if_neg hne.1, if_neg hne.2.1, ← hc, parseN_ok ha, if_pos ht]
  · obtain rfl := vld_nil hv (by decide)
    have ht := txt_day hv
    rw [ht]
    unfold parse
    rw [if_neg (by simp), if_neg (by simp), if_neg (by simp)]
    simp only []
    rw [if_neg (by decide), if_pos (by decide), parseN_ok ha, if_pos ht]
  · obtain rfl := vld_nil hv (by decide)
    rw [txt_flag hv]
    rcases vld_flag hv with rfl | rfl
    · rw [if_neg (by decide)]; decide +kernel
    · rw [if_pos rfl]; decide +kernel

/-- What Parse accepts is the text of its result; what it does not is none's. -/
theorem parse_cases (l : List UInt8) : (parse l = (0, 0, [], 4) ∧ ∀ k n t, vldB k n t = true → txt k n t ≠ l) ∨ ∃ k n t, parse l = (k, n, t, 0) ∧ vldB k n t = true ∧ txt k n t = l := by
  have no : parse l = (0, 0, [], 4) → (parse l = (0, 0, [], 4) ∧ ∀ k n t, vldB k n t = true → txt k n t ≠ l) := fun h => ⟨h, fun k n t hv e => by
    rw [← e, parse_txt hv] at h
    simp at h⟩
  have yes : ∀ k n t, txt k n t = l → l ≠ [] → vldB k n t = true := fun k n t h hl => by
    cases hv : vldB k n t
    · rw [txt_bad hv] at h; exact absurd h.symm hl
    · rfl
  by_cases h0 : l = []
  · subst h0; exact Or.inl (no (by decide +kernel))
  by_cases h1 : l = [110, 117, 108, 108]
  · subst h1; exact Or.inr ⟨0, 0, [], by decide +kernel, by decide +kernel, by decide +kernel⟩
  by_cases h2 : l = [116, 114, 117, 101]
  · subst h2; exact Or.inr ⟨4, 1, [], by decide +kernel, by decide +kernel, by decide +kernel⟩
  by_cases h3 : l = [102, 97, 108, 115, 101]
  · subst h3; exact Or.inr ⟨4, 0, [], by decide +kernel, by decide +kernel, by decide +kernel⟩
  cases l with
  | nil => exact absurd rfl h0
  | cons c r =>
    have e : parse (c :: r) = (if c.toNat = 34 then (if txt 1 0 (unq (Lib.trimSuffix r [34])) = c :: r then (1, 0, unq (Lib.trimSuffix r [34]), 0) else (0, 0, [], 4))
      else if c.toNat = 64 then parseN 3 r (c :: r)
      else parseN 2 (c :: r) (c :: r)) := by
      unfold parse
      rw [if_neg (fun h => h1 h.2), if_neg h2, if_neg h3]
    by_cases a : c.toNat = 34
    · rw [if_pos a] at e
      by_cases b : txt 1 0 (unq (Lib.trimSuffix r [34])) = c :: r
      · rw [if_pos b] at e; exact Or.inr ⟨_, _, _, e, yes _ _ _ b h0, b⟩
      · rw [if_neg b] at e; exact Or.inl (no e)
    · rw [if_neg a] at e
      by_cases a2 : c.toNat = 64
      · rw [if_pos a2] at e
        rcases parseN_cases 3 r (c :: r) with b | ⟨n, b1, b2⟩
        · rw [b] at e; exact Or.inl (no e)
        · rw [b1] at e; exact Or.inr ⟨_, _, _, e, yes _ _ _ b2 h0, b2⟩
      · rw [if_neg a2] at e
        rcases parseN_cases 2 (c :: r) (c :: r) with b | ⟨n, b1, b2⟩
        · rw [b] at e; exact Or.inl (no e)
        · rw [b1] at e; exact Or.inr ⟨_, _, _, e, yes _ _ _ b2 h0, b2⟩

/-- A guess that is right where there is a value to be guessed: it decides. -/
def Guess (l : List UInt8) (K N : Int) (T : List UInt8) : Prop := ∀ k n t, vldB k n t = true → txt k n t = l → K = k ∧ N = n ∧ T = t
theorem parse_yes {l : List UInt8} {K N : Int} {T : List UInt8} (hv : vldB K N T = true) (h : txt K N T = l) : parse l = (K, N, T, 0) := by rw [← h]; exact parse_txt hv
theorem parse_no {l : List UInt8} {K N : Int} {T : List UInt8} (hg : Guess l K N T) (h : vldB K N T = false ∨ txt K N T ≠ l) : parse l = (0, 0, [], 4) := by
  rcases parse_cases l with ⟨e, _⟩ | ⟨k, n, t, _, hv, e⟩
  · exact e
  · obtain ⟨rfl, rfl, rfl⟩ := hg k n t hv e
    rcases h with h | h
    · rw [hv] at h; cases h
    · exact absurd e h
theorem txt_inj {k n : Int} {t : List UInt8} {k2 n2 : Int} {t2 : List UInt8} (h1 : vldB k n t = true) (h2 : vldB k2 n2 t2 = true) (h : txt k n t = txt k2 n2 t2) : k = k2 ∧ n = n2 ∧ t = t2 := by
  have a := parse_txt h1
  rw [h, parse_txt h2] at a
  simp at a
  exact ⟨a.1.symm, a.2.1.symm, a.2.2.symm⟩

/-- How the texts of the kinds begin. -/
theorem guess_text {r : List UInt8} {k n : Int} {t : List UInt8} (hv : vldB k n t = true) (h : txt k n t = 34 :: r) : k = 1 ∧ n = 0 ∧ r = t.flatMap esc ++ [34] := by
  have p := parse_txt hv
  obtain ⟨c, q, hc, hd⟩ := itoa_head n
  rcases vld_cases hv with rfl | rfl | rfl | rfl | rfl
  · rw [txt_null hv] at h; simp at h
  · rw [txt_text hv] at h
    refine ⟨rfl, vld_zero hv, ?_⟩
    unfold quo at h
    injection h with _ h
    exact h.symm
  · rw [txt_num hv, hc] at h
    injection h with h _
    subst h
    rcases hd with hd | hd
    · exact absurd hd (by decide)
    · unfold IsDig at hd; exact absurd hd (by decide)
  · rw [txt_day hv] at h; simp at h
  · rw [txt_flag hv] at h; split at h <;> simp at h
theorem guess_day {r : List UInt8} {k n : Int} {t : List UInt8} (hv : vldB k n t = true) (h : txt k n t = 64 :: r) : k = 3 ∧ Lib.itoa n = r ∧ t = [] := by
  obtain ⟨c, q, hc, hd⟩ := itoa_head n
  rcases vld_cases hv with rfl | rfl | rfl | rfl | rfl
  · rw [txt_null hv] at h; simp at h
  · rw [txt_text hv] at h; unfold quo at h; simp at h
  · rw [txt_num hv, hc] at h
    injection h with h _
    subst h
    rcases hd with hd | hd
    · exact absurd hd (by decide)
    · unfold IsDig at hd; exact absurd hd (by decide)
  · rw [txt_day hv] at h
    injection h with _ h
    exact ⟨rfl, h, vld_nil hv (by decide)⟩
  · rw [txt_flag hv] at h; split at h <;> simp at h
theorem guess_num {l : List UInt8} {k n : Int} {t : List UInt8} (hv : vldB k n t = true) (h : txt k n t = l) (h1 : l ≠ [110, 117, 108, 108]) (h2 : l ≠ [116, 114, 117, 101]) (h3 : l ≠ [102, 97, 108, 115, 101]) (h4 : ∀ r, l ≠ 34 :: r) (h5 : ∀ r, l ≠ 64 :: r) : k = 2 ∧ Lib.itoa n = l ∧ t = [] := by
  rcases vld_cases hv with rfl | rfl | rfl | rfl | rfl
  · rw [txt_null hv] at h; exact absurd h.symm h1
  · rw [txt_text hv] at h; exact absurd h.symm (h4 _)
  · rw [txt_num hv] at h; exact ⟨rfl, h, vld_nil hv (by decide)⟩
  · rw [txt_day hv] at h; exact absurd h.symm (h5 _)
  · rw [txt_flag hv] at h
    split at h
    · exact absurd h.symm h2
    · exact absurd h.symm h3
end Go.Proofs.YtblgfillaenemaaDoor.L2
