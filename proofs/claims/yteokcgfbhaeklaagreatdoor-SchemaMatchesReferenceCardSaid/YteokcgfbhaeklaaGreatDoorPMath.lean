/- The plain mathematics of values: no program is imported. -/
import Derived.Lib.ItoaLen
import Derived.Lib.Hide
import Derived.Lib.AtoiAll
import Derived.Lib.Strings
import Derived.Lib.Small
namespace Go.Proofs.YteokcgfbhaeklaaGreatDoor.L2
/-- A value is valid. -/
def Vld (k n : Int) (t : List UInt8) : Prop :=
  (k = 0 ∧ n = 0 ∧ t = []) ∨ (k = 1 ∧ n = 0 ∧ t.length ≤ 200) ∨ (k = 2 ∧ -1000000000 ≤ n ∧ n ≤ 1000000000 ∧ t = []) ∨ (k = 3 ∧ 0 ≤ n ∧ n ≤ 73048 ∧ t = []) ∨ (k = 4 ∧ 0 ≤ n ∧ n ≤ 1 ∧ t = [])
instance (k n : Int) (t : List UInt8) : Decidable (Vld k n t) := by unfold Vld; infer_instance
def vldB (k n : Int) (t : List UInt8) : Bool := decide (Vld k n t)
theorem vldB_true {k n : Int} {t : List UInt8} (h : vldB k n t = true) : Vld k n t := of_decide_eq_true h
theorem vldB_mk {k n : Int} {t : List UInt8} (h : Vld k n t) : vldB k n t = true := decide_eq_true h
theorem vldB_false {k n : Int} {t : List UInt8} (h : ¬ Vld k n t) : vldB k n t = false := decide_eq_false h
theorem vldB_iff {k n : Int} {t : List UInt8} {b : Bool} (h : b = true ↔ Vld k n t) : b = vldB k n t := by
  rw [Bool.eq_iff_iff, h]; exact ⟨vldB_mk, vldB_true⟩

/-- The three-way comparison of numbers. -/
def cmpI (x y : Int) : Int := if x < y then -1 else if y < x then 1 else 0
theorem cmpI_lt {x y : Int} (h : x < y) : cmpI x y = -1 := if_pos h
theorem cmpI_gt {x y : Int} (h : y < x) : cmpI x y = 1 := by unfold cmpI; rw [if_neg (by omega), if_pos h]
theorem cmpI_self (x : Int) : cmpI x x = 0 := by unfold cmpI; rw [if_neg (by omega), if_neg (by omega)]
theorem cmpI_cases (x y : Int) : (x < y ∧ cmpI x y = -1) ∨ (y < x ∧ cmpI x y = 1) ∨ (x = y ∧ cmpI x y = 0) := by
  unfold cmpI; split
  · exact Or.inl ⟨by omega, rfl⟩
  · split
    · exact Or.inr (Or.inl ⟨by omega, rfl⟩)
    · exact Or.inr (Or.inr ⟨by omega, rfl⟩)

/-- The order of texts by their bytes. -/
def ltS : List UInt8 → List UInt8 → Bool
  | _, [] => false
  | [], _ :: _ => true
  | a :: x, b :: y => decide (a.toNat < b.toNat) || (decide (a.toNat = b.toNat) && ltS x y)
theorem ltS_irrefl : ∀ x, ltS x x = false
  | [] => rfl
  | a :: x => by simp [ltS, ltS_irrefl x]
theorem ltS_asymm : ∀ x y, ltS x y = true → ltS y x = false
  | [], [], h => by simp [ltS] at h
  | [], _ :: _, _ => rfl
  | _ :: _, [], h => by simp [ltS] at h
  | a :: x, b :: y, h => by
    simp only [ltS, Bool.or_eq_true, Bool.and_eq_true, decide_eq_true_eq] at h
    rcases h with h | ⟨h, h2⟩
    · simp [ltS]; omega
    · simp [ltS, h, ltS_asymm x y h2]
theorem ltS_total : ∀ x y, x ≠ y → ltS x y = true ∨ ltS y x = true
  | [], [], h => absurd rfl h
  | [], _ :: _, _ => Or.inl rfl
  | _ :: _, [], _ => Or.inr rfl
  | a :: x, b :: y, h => by
    rcases Nat.lt_trichotomy a.toNat b.toNat with h1 | h1 | h1
    · exact Or.inl (by simp [ltS, h1])
    · have hxy : x ≠ y := fun e => h (by rw [e, UInt8.toNat_inj.1 h1])
      rcases ltS_total x y hxy with h2 | h2
      · exact Or.inl (by simp [ltS, h1, h2])
      · exact Or.inr (by simp [ltS, h1, h2])
    · exact Or.inr (by simp [ltS, h1])
theorem ltS_trans : ∀ x y z, ltS x y = true → ltS y z = true → ltS x z = true
  | _, [], _, h, _ => by unfold ltS at h; cases h
  | _, _ :: _, [], _, h => by unfold ltS at h; cases h
  | [], _ :: _, _ :: _, _, _ => rfl
  | a :: x, b :: y, c :: z, h, k => by
    simp only [ltS, Bool.or_eq_true, Bool.and_eq_true, decide_eq_true_eq] at h k ⊢
    rcases h with h | ⟨h, h2⟩ <;> rcases k with k | ⟨k, k2⟩
    · exact Or.inl (by omega)
    · exact Or.inl (by omega)
    · exact Or.inl (by omega)
    · exact Or.inr ⟨by omega, ltS_trans x y z h2 k2⟩
/-- The three-way comparison of texts. -/
def cmpS (x y : List UInt8) : Int := if ltS x y then -1 else if ltS y x then 1 else 0
theorem cmpS_self (x : List UInt8) : cmpS x x = 0 := by unfold cmpS; rw [ltS_irrefl]; rfl
theorem cmpS_cases (x y : List UInt8) : (ltS x y = true ∧ ltS y x = false ∧ cmpS x y = -1) ∨ (ltS y x = true ∧ ltS x y = false ∧ cmpS x y = 1) ∨ (x = y ∧ cmpS x y = 0) := by
  by_cases e : x = y
  · subst e; exact Or.inr (Or.inr ⟨rfl, cmpS_self x⟩)
  · rcases ltS_total x y e with h | h
    · exact Or.inl ⟨h, ltS_asymm _ _ h, by unfold cmpS; rw [h]; rfl⟩
    · have h2 := ltS_asymm _ _ h
      exact Or.inr (Or.inl ⟨h, h2, by unfold cmpS; rw [h, h2]; rfl⟩)

/-- The first of two comparisons that tells a difference. -/
def or2 (x y : Int) : Int := if x = 0 then y else x
theorem or2_zero (y : Int) : or2 0 y = y := rfl
theorem or2_ne {x : Int} (h : x ≠ 0) (y : Int) : or2 x y = x := if_neg h

/-- The order of values. -/
def cmpV (k n : Int) (t : List UInt8) (k2 n2 : Int) (t2 : List UInt8) : Int := or2 (cmpI k k2) (or2 (cmpI n n2) (cmpS t t2))

theorem cmpV_self (k n : Int) (t : List UInt8) : cmpV k n t k n t = 0 := by
  unfold cmpV; rw [cmpI_self, cmpI_self, cmpS_self]; rfl
theorem cmpV_range (k n : Int) (t : List UInt8) (k2 n2 : Int) (t2 : List UInt8) : cmpV k n t k2 n2 t2 = -1 ∨ cmpV k n t k2 n2 t2 = 0 ∨ cmpV k n t k2 n2 t2 = 1 := by
  unfold cmpV or2
  rcases cmpI_cases k k2 with ⟨_, h⟩ | ⟨_, h⟩ | ⟨_, h⟩ <;> rcases cmpI_cases n n2 with ⟨_, g⟩ | ⟨_, g⟩ | ⟨_, g⟩ <;> rcases cmpS_cases t t2 with ⟨_, _, f⟩ | ⟨_, _, f⟩ | ⟨_, f⟩ <;> rw [h, g, f] <;> decide
theorem cmpV_neg (k n : Int) (t : List UInt8) (k2 n2 : Int) (t2 : List UInt8) : cmpV k2 n2 t2 k n t = -cmpV k n t k2 n2 t2 := by
  have hI : ∀ x y : Int, cmpI y x = -cmpI x y := by
    intro x y; unfold cmpI; split <;> split <;> first | omega | (split <;> omega) | rfl
  have hS : ∀ x y, cmpS y x = -cmpS x y := by
    intro x y
    rcases cmpS_cases x y with ⟨h1, h2, h3⟩ | ⟨h1, h2, h3⟩ | ⟨rfl, h3⟩
    · rw [h3]; unfold cmpS; rw [h1, h2]; rfl
    · rw [h3]; unfold cmpS; rw [h1]; rfl
    · rw [h3]; rfl
  have hO : ∀ x y : Int, or2 (-x) (-y) = -or2 x y := by
    intro x y; unfold or2; split <;> split <;> omega
  unfold cmpV
  rw [hI k k2, hI n n2, hS t t2, hO, hO]
theorem cmpV_zero {k n : Int} {t : List UInt8} {k2 n2 : Int} {t2 : List UInt8} (h : cmpV k n t k2 n2 t2 = 0) : k = k2 ∧ n = n2 ∧ t = t2 := by
  unfold cmpV or2 at h
  rcases cmpI_cases k k2 with ⟨_, e⟩ | ⟨_, e⟩ | ⟨e1, e⟩
  · rw [e, if_neg (by decide)] at h; cases h
  · rw [e, if_neg (by decide)] at h; cases h
  · rw [e, if_pos rfl] at h
    rcases cmpI_cases n n2 with ⟨_, e⟩ | ⟨_, e⟩ | ⟨e2, e⟩
    · rw [e, if_neg (by decide)] at h; cases h
    · rw [e, if_neg (by decide)] at h; cases h
    · rw [e, if_pos rfl] at h
      rcases cmpS_cases t t2 with ⟨_, _, e⟩ | ⟨_, _, e⟩ | ⟨e3, e⟩
      · rw [e] at h; cases h
      · rw [e] at h; cases h
      · exact ⟨e1, e2, e3⟩
/-- Strictly before. -/
def ltV (k n : Int) (t : List UInt8) (k2 n2 : Int) (t2 : List UInt8) : Prop := k < k2 ∨ (k = k2 ∧ (n < n2 ∨ (n = n2 ∧ ltS t t2 = true)))
theorem cmpV_lt {k n : Int} {t : List UInt8} {k2 n2 : Int} {t2 : List UInt8} : cmpV k n t k2 n2 t2 = -1 ↔ ltV k n t k2 n2 t2 := by
  unfold cmpV or2 ltV
  rcases cmpI_cases k k2 with ⟨a, e⟩ | ⟨a, e⟩ | ⟨a, e⟩
  · rw [e, if_neg (by decide)]; exact ⟨fun _ => Or.inl a, fun _ => rfl⟩
  · rw [e, if_neg (by decide)]; exact ⟨(fun h => by cases h), (fun h => by omega)⟩
  · rw [e, if_pos rfl]
    rcases cmpI_cases n n2 with ⟨b, e⟩ | ⟨b, e⟩ | ⟨b, e⟩
    · rw [e, if_neg (by decide)]; exact ⟨fun _ => Or.inr ⟨a, Or.inl b⟩, fun _ => rfl⟩
    · rw [e, if_neg (by decide)]; exact ⟨(fun h => by cases h), (fun h => by omega)⟩
    · rw [e, if_pos rfl]
      rcases cmpS_cases t t2 with ⟨c, _, e⟩ | ⟨_, c, e⟩ | ⟨c, e⟩
      · rw [e]; exact ⟨fun _ => Or.inr ⟨a, Or.inr ⟨b, c⟩⟩, fun _ => rfl⟩
      · rw [e, c]; exact ⟨(fun h => by cases h), (fun h => by rcases h with h | ⟨_, h | ⟨_, h⟩⟩ <;> first | omega | cases h)⟩
      · subst c; rw [e, ltS_irrefl]; exact ⟨(fun h => by cases h), (fun h => by rcases h with h | ⟨_, h | ⟨_, h⟩⟩ <;> first | omega | cases h)⟩
theorem ltV_trans {k n : Int} {t : List UInt8} {k2 n2 : Int} {t2 : List UInt8} {k3 n3 : Int} {t3 : List UInt8} (h : ltV k n t k2 n2 t2) (g : ltV k2 n2 t2 k3 n3 t3) : ltV k n t k3 n3 t3 := by
  unfold ltV at *
  rcases h with h | ⟨h, h1 | ⟨h1, h2⟩⟩ <;> rcases g with g | ⟨g, g1 | ⟨g1, g2⟩⟩
  · exact Or.inl (by omega)
  · exact Or.inl (by omega)
  · exact Or.inl (by omega)
  · exact Or.inl (by omega)
  · exact Or.inr ⟨by omega, Or.inl (by omega)⟩
  · exact Or.inr ⟨by omega, Or.inl (by omega)⟩
  · exact Or.inl (by omega)
  · exact Or.inr ⟨by omega, Or.inl (by omega)⟩
  · exact Or.inr ⟨by omega, Or.inr ⟨by omega, ltS_trans _ _ _ h2 g2⟩⟩
theorem cmpV_trans {k n : Int} {t : List UInt8} {k2 n2 : Int} {t2 : List UInt8} {k3 n3 : Int} {t3 : List UInt8} (h : cmpV k n t k2 n2 t2 ≤ 0) (g : cmpV k2 n2 t2 k3 n3 t3 ≤ 0) : cmpV k n t k3 n3 t3 ≤ 0 := by
  rcases cmpV_range k n t k2 n2 t2 with e | e | e
  · rcases cmpV_range k2 n2 t2 k3 n3 t3 with f | f | f
    · have := cmpV_lt.2 (ltV_trans (cmpV_lt.1 e) (cmpV_lt.1 f)); omega
    · obtain ⟨rfl, rfl, rfl⟩ := cmpV_zero f; omega
    · omega
  · obtain ⟨rfl, rfl, rfl⟩ := cmpV_zero e; exact g
  · omega
/-- How a byte is written between quotes. -/
def esc (c : UInt8) : List UInt8 := if c.toNat = 34 ∨ c.toNat = 92 then [92, c] else if c.toNat = 10 then [92, 110] else [c]
/-- The text of a text. -/
def quo (t : List UInt8) : List UInt8 := 34 :: (t.flatMap esc ++ [34])
/-- What stands after k bytes. -/
def qk (l : List UInt8) (k : Nat) : List UInt8 := 34 :: (l.take k).flatMap esc
theorem qk_succ (l : List UInt8) (k : Nat) (hk : k < l.length) : qk l (k + 1) = qk l k ++ esc l[k] := by
  unfold qk
  rw [List.take_succ_eq_append_getElem hk, List.flatMap_append]
  simp
theorem qk_end (l : List UInt8) : quo l = qk l l.length ++ [34] := by unfold quo qk; rw [List.take_length]; rfl
theorem esc_len (c : UInt8) : (esc c).length ≤ 2 := by unfold esc; split; simp; split <;> simp
theorem flat_len : ∀ l : List UInt8, (l.flatMap esc).length ≤ 2 * l.length
  | [] => by simp
  | c :: l => by rw [List.flatMap_cons, List.length_append, List.length_cons]; have := flat_len l; have := esc_len c; omega
theorem qk_len (l : List UInt8) (k : Nat) : (qk l k).length ≤ 1 + 2 * l.length := by
  unfold qk
  rw [List.length_cons]
  have := flat_len (l.take k)
  have := List.length_take_le k l
  have : (l.take k).length ≤ l.length := by rw [List.length_take]; omega
  omega
theorem quo_len (l : List UInt8) : (quo l).length ≤ 2 + 2 * l.length := by
  rw [qk_end, List.length_append]; have := qk_len l l.length; simp; omega
end Go.Proofs.YteokcgfbhaeklaaGreatDoor.L2

/- The plain mathematics of texts of values: Text, Parse, and what they make of each other. -/
namespace Go.Proofs.YteokcgfbhaeklaaGreatDoor.L2
/-- A decimal digit. -/
def IsDig (c : UInt8) : Prop := 48 ≤ c.toNat ∧ c.toNat ≤ 57

theorem ofNat_dig {k : Nat} (h : k < 10) : (UInt8.ofNat (48 + k)).toNat = 48 + k := by
  rw [UInt8.toNat_ofNat']; omega

theorem dec_digs (u : Nat) : ∀ c ∈ Lib.decDigits u, IsDig c := by
  induction u using Nat.strongRecOn with
  | _ u ih =>
    intro c hc
    rw [Lib.decDigits] at hc
    split at hc
    · simp only [List.mem_singleton] at hc
      subst hc
      unfold IsDig; rw [ofNat_dig (by omega)]; omega
    · rw [List.mem_append] at hc
      rcases hc with hc | hc
      · exact ih (u / 10) (by omega) c hc
      · simp only [List.mem_singleton] at hc
        subst hc
        unfold IsDig; rw [ofNat_dig (by omega)]; omega

theorem dec_ne (u : Nat) : Lib.decDigits u ≠ [] := by
  rw [Lib.decDigits]
  split <;> simp

/-- A parse goes on where the first part ended. -/
theorem parse_append : ∀ (l r : List UInt8) (acc v : Nat), Lib.parseUint10 acc l = .ok v → Lib.parseUint10 acc (l ++ r) = Lib.parseUint10 v r
  | [], r, acc, v, h => by
    simp only [Lib.parseUint10] at h
    injection h with h
    subst h; rfl
  | c :: l, r, acc, v, h => by
    rw [List.cons_append]
    simp only [Lib.parseUint10] at h ⊢
    split at h
    · rename_i hc
      rw [if_pos hc]
      split at h
      · cases h
      · rename_i h1
        rw [if_neg h1]
        split at h
        · cases h
        · rename_i h2
          rw [if_neg h2]
          exact parse_append l r _ v h
    · cases h

theorem parse_dec (u : Nat) (hu : u < 1000000000000000000) : Lib.parseUint10 0 (Lib.decDigits u) = .ok u := by
  induction u using Nat.strongRecOn with
  | _ u ih =>
    rw [Lib.decDigits]
    split
    · rename_i h
      simp only [Lib.parseUint10, ofNat_dig h]
      rw [if_pos (by omega), if_neg (by omega), if_neg (by omega)]
      simp
    · rename_i h
      rw [parse_append _ _ _ _ (ih (u / 10) (by omega) (by omega))]
      simp only [Lib.parseUint10, ofNat_dig (show u % 10 < 10 by omega)]
      rw [if_pos (by omega), if_neg (by omega), if_neg (by omega)]
      congr 1
      omega

theorem itoa_neg {n : Int} (h : n < 0) : Lib.itoa n = 45 :: Lib.decDigits n.natAbs := by unfold Lib.itoa; rw [if_pos h]
theorem itoa_pos {n : Int} (h : 0 ≤ n) : Lib.itoa n = Lib.decDigits n.natAbs := by
  unfold Lib.itoa; rw [if_neg (by omega)]; congr 1; omega

theorem atoi_itoa (n : Int) (h0 : -1000000000 ≤ n) (h1 : n ≤ 1000000000) : Lib.atoiAll (Lib.itoa n) = .ok n := by
  unfold Lib.itoa
  split
  · rename_i hn
    unfold Lib.atoiAll
    simp only []
    rw [if_pos (Or.inr (by decide))]
    unfold Lib.parseMag
    rw [if_neg (dec_ne _), parse_dec _ (by omega)]
    simp only []
    rw [if_neg (by simp), if_neg (by omega), if_pos (by decide)]
    congr 1
    omega
  · rename_i hn
    have hd := dec_digs n.toNat
    have hne := dec_ne n.toNat
    have hp := parse_dec n.toNat (by omega)
    generalize hl : Lib.decDigits n.toNat = l at *
    cases l with
    | nil => exact absurd rfl hne
    | cons c r =>
      have hc := hd c (by simp)
      unfold IsDig at hc
      unfold Lib.atoiAll
      simp only []
      rw [if_neg (by omega)]
      unfold Lib.parseMag
      rw [if_neg (by simp), hp]
      simp only []
      rw [if_neg (by omega), if_neg (by omega), if_neg (by omega)]
      congr 1
      omega

/-- How the text of a number begins. -/
theorem itoa_head (n : Int) : ∃ c r, Lib.itoa n = c :: r ∧ (c = 45 ∨ IsDig c) := by
  by_cases h : n < 0
  · exact ⟨45, _, itoa_neg h, Or.inl rfl⟩
  · rw [itoa_pos (by omega)]
    have hd := dec_digs n.natAbs
    have hne := dec_ne n.natAbs
    generalize Lib.decDigits n.natAbs = l at *
    cases l with
    | nil => exact absurd rfl hne
    | cons c r => exact ⟨c, r, rfl, Or.inr (hd c (by simp))⟩

/-- The text of a value; empty if it is not valid. -/
def txt (k n : Int) (t : List UInt8) : List UInt8 :=
  if vldB k n t then
    (if k = 1 then quo t else if k = 2 then Lib.itoa n else if k = 3 then 64 :: Lib.itoa n else if k = 4 then (if n = 1 then [116, 114, 117, 101] else [102, 97, 108, 115, 101]) else [110, 117, 108, 108])
  else []
theorem txt_bad {k n : Int} {t : List UInt8} (h : vldB k n t = false) : txt k n t = [] := by unfold txt; rw [h, if_neg (by decide)]
theorem txt_text {n : Int} {t : List UInt8} (h : vldB 1 n t = true) : txt 1 n t = quo t := by unfold txt; rw [h, if_pos rfl, if_pos rfl]
theorem txt_num {n : Int} {t : List UInt8} (h : vldB 2 n t = true) : txt 2 n t = Lib.itoa n := by unfold txt; rw [h, if_pos rfl, if_neg (by decide), if_pos rfl]
theorem txt_day {n : Int} {t : List UInt8} (h : vldB 3 n t = true) : txt 3 n t = 64 :: Lib.itoa n := by unfold txt; rw [h, if_pos rfl, if_neg (by decide), if_neg (by decide), if_pos rfl]
theorem txt_flag {n : Int} {t : List UInt8} (h : vldB 4 n t = true) : txt 4 n t = if n = 1 then [116, 114, 117, 101] else [102, 97, 108, 115, 101] := by unfold txt; rw [h, if_pos rfl, if_neg (by decide), if_neg (by decide), if_neg (by decide), if_pos rfl]
theorem txt_null {n : Int} {t : List UInt8} (h : vldB 0 n t = true) : txt 0 n t = [110, 117, 108, 108] := by unfold txt; rw [h, if_pos rfl, if_neg (by decide), if_neg (by decide), if_neg (by decide), if_neg (by decide)]

theorem vld_cases {k n : Int} {t : List UInt8} (h : vldB k n t = true) : k = 0 ∨ k = 1 ∨ k = 2 ∨ k = 3 ∨ k = 4 := by
  have := vldB_true h; unfold Vld at this; omega
theorem vld_bound {k n : Int} {t : List UInt8} (h : vldB k n t = true) : -1000000000 ≤ n ∧ n ≤ 1000000000 := by
  have := vldB_true h; unfold Vld at this; omega
theorem vld_len {k n : Int} {t : List UInt8} (h : vldB k n t = true) : t.length ≤ 200 := by
  have := vldB_true h
  unfold Vld at this
  rcases this with h | h | h | h | h
  · rw [h.2.2]; simp
  · exact h.2.2
  · rw [h.2.2.2]; simp
  · rw [h.2.2.2]; simp
  · rw [h.2.2.2]; simp
theorem txt_len (k n : Int) (t : List UInt8) : (txt k n t).length ≤ 402 := by
  cases hv : vldB k n t
  · rw [txt_bad hv]; simp
  · have hl := vld_len hv
    have hn := vld_bound hv
    have hi := Lib.itoa_length_le n (by omega) (by omega)
    rcases vld_cases hv with rfl | rfl | rfl | rfl | rfl
    · rw [txt_null hv]; simp
    · rw [txt_text hv]; have := quo_len t; omega
    · rw [txt_num hv]; omega
    · rw [txt_day hv]; simp; omega
    · rw [txt_flag hv]; split <;> simp
theorem txt_ne {k n : Int} {t : List UInt8} (hv : vldB k n t = true) : txt k n t ≠ [] := by
  obtain ⟨c, r, hc, _⟩ := itoa_head n
  rcases vld_cases hv with rfl | rfl | rfl | rfl | rfl
  · rw [txt_null hv]; simp
  · rw [txt_text hv]; simp [quo]
  · rw [txt_num hv, hc]; simp
  · rw [txt_day hv]; simp
  · rw [txt_flag hv]; split <;> simp

/-- The text that quote wrote, read back byte by byte. -/
def unq : List UInt8 → List UInt8
  | [] => []
  | [c] => [c]
  | c :: d :: r => if c.toNat = 92 then (if d.toNat = 110 then 10 else d) :: unq r else c :: unq (d :: r)

theorem unq_plain {c : UInt8} (h : c.toNat ≠ 92) (r : List UInt8) : unq (c :: r) = c :: unq r := by
  cases r with
  | nil => rfl
  | cons d r => rw [unq, if_neg h]
theorem unq_esc (d : UInt8) (r : List UInt8) : unq (92 :: d :: r) = (if d.toNat = 110 then 10 else d) :: unq r := by
  rw [unq, if_pos (by decide)]
theorem unq_flat : ∀ t : List UInt8, unq (t.flatMap esc) = t
  | [] => rfl
  | c :: t => by
    have ih := unq_flat t
    rw [List.flatMap_cons]
    by_cases h : c.toNat = 34 ∨ c.toNat = 92
    · have e : esc c = [92, c] := by unfold esc; rw [if_pos h]
      rw [e, List.cons_append, List.cons_append, List.nil_append, unq_esc, if_neg (by omega), ih]
    · by_cases h10 : c.toNat = 10
      · have e : esc c = [92, 110] := by unfold esc; rw [if_neg h, if_pos h10]
        rw [e, List.cons_append, List.cons_append, List.nil_append, unq_esc, if_pos (by decide), ih]
        congr 1
        exact (UInt8.toNat_inj.1 (by rw [h10]; rfl)).symm
      · have e : esc c = [c] := by unfold esc; rw [if_neg h, if_neg h10]
        rw [e, List.cons_append, List.nil_append, unq_plain (by omega), ih]

theorem trim_quo (t : List UInt8) : Lib.trimSuffix (t.flatMap esc ++ [34]) [34] = t.flatMap esc := by
  unfold Lib.trimSuffix
  have h : Lib.hasSuffix (t.flatMap esc ++ [34]) [34] = true := by
    unfold Lib.hasSuffix
    rw [List.isSuffixOf_iff_suffix]
    exact ⟨_, rfl⟩
  rw [h, if_pos rfl]
  simp

/-- The number or day whose digits are d, if l is its text. -/
def parseN (k : Int) (d l : List UInt8) : Int × Int × List UInt8 × Int :=
  match Lib.atoiAll d with
  | .ok n => if txt k n [] = l then (k, n, [], 0) else (0, 0, [], 4)
  | _ => (0, 0, [], 4)
theorem parseN_ok {k : Int} {d l : List UInt8} {n : Int} (h : Lib.atoiAll d = .ok n) : parseN k d l = if txt k n [] = l then (k, n, [], 0) else (0, 0, [], 4) := by
  unfold parseN; rw [h]
theorem parseN_cases (k : Int) (d l : List UInt8) : parseN k d l = (0, 0, [], 4) ∨ ∃ n, parseN k d l = (k, n, [], 0) ∧ txt k n [] = l := by
  rcases hx : Lib.atoiAll d with n | _ | _
  · rw [parseN_ok hx]
    by_cases b : txt k n [] = l
    · rw [if_pos b]; exact Or.inr ⟨n, rfl, b⟩
    · rw [if_neg b]; exact Or.inl rfl
  · left; unfold parseN; rw [hx]
  · left; unfold parseN; rw [hx]

/-- What Parse returns: the value that has the text; if there is one, all that is known of a guess decides. -/
def parse (l : List UInt8) : Int × Int × List UInt8 × Int :=
  if vldB 0 0 [] = true ∧ l = [110, 117, 108, 108] then (0, 0, [], 0)
  else if l = [116, 114, 117, 101] then (4, 1, [], 0)
  else if l = [102, 97, 108, 115, 101] then (4, 0, [], 0)
  else match l with
    | [] => (0, 0, [], 4)
    | c :: r =>
      if c.toNat = 34 then (if txt 1 0 (unq (Lib.trimSuffix r [34])) = l then (1, 0, unq (Lib.trimSuffix r [34]), 0) else (0, 0, [], 4))
      else if c.toNat = 64 then parseN 3 r l
      else parseN 2 l l

theorem vld_nil {k n : Int} {t : List UInt8} (h : vldB k n t = true) (hk : k ≠ 1) : t = [] := by
  have := vldB_true h; unfold Vld at this
  rcases this with h | h | h | h | h
  · exact h.2.2
  · exact absurd h.1 hk
  · exact h.2.2.2
  · exact h.2.2.2
  · exact h.2.2.2
theorem vld_zero {n : Int} {t : List UInt8} (h : vldB 1 n t = true) : n = 0 := by
  have := vldB_true h; unfold Vld at this; omega
theorem vld_zero0 {n : Int} {t : List UInt8} (h : vldB 0 n t = true) : n = 0 := by
  have := vldB_true h; unfold Vld at this; omega
theorem vld_flag {n : Int} {t : List UInt8} (h : vldB 4 n t = true) : n = 0 ∨ n = 1 := by
  have := vldB_true h; unfold Vld at this; omega

/-- Parse undoes Text. -/
theorem parse_txt {k n : Int} {t : List UInt8} (hv : vldB k n t = true) : parse (txt k n t) = (k, n, t, 0) := by
  have hb := vld_bound hv
  have ha := atoi_itoa n hb.1 hb.2
  obtain ⟨c, r, hc, hd⟩ := itoa_head n
  rcases vld_cases hv with rfl | rfl | rfl | rfl | rfl
  · obtain rfl := vld_zero0 hv
    obtain rfl := vld_nil hv (by decide)
    rw [txt_null hv]; decide +kernel
  · obtain rfl := vld_zero hv
    have ht := txt_text hv
    have e : txt 1 0 t = 34 :: (t.flatMap esc ++ [34]) := ht
    rw [e]
    unfold parse
    rw [if_neg (by simp), if_neg (by simp), if_neg (by simp)]
    simp only []
    rw [if_pos (by decide), trim_quo, unq_flat, if_pos e]
  · obtain rfl := vld_nil hv (by decide)
    have ht := txt_num hv
    have hne : c.toNat ≠ 34 ∧ c.toNat ≠ 64 ∧ c.toNat ≠ 110 ∧ c.toNat ≠ 116 ∧ c.toNat ≠ 102 := by
      rcases hd with rfl | hd
      · decide
      · unfold IsDig at hd; omega
    have hx : ∀ (x : UInt8) (y : List UInt8), c.toNat ≠ x.toNat → ¬ (c :: r = x :: y) := fun x y h e => h (by injection e with e _; rw [e])
    rw [ht, hc]
    unfold parse
    rw [if_neg (fun h => hx 110 _ hne.2.2.1 h.2), if_neg (hx 116 _ hne.2.2.2.1), if_neg (hx 102 _ hne.2.2.2.2)]
    simp only []
    rw [if_neg hne.1, if_neg hne.2.1, ← hc, parseN_ok ha, if_pos ht]
  · obtain rfl := vld_nil hv (by decide)
    have ht := txt_day hv
    rw [ht]
    unfold parse
    rw [if_neg (by simp), if_neg (by simp), if_neg (by simp)]
    simp only []
    rw [if_neg (by decide), if_pos (by decide), parseN_ok ha, if_pos ht]
  · obtain rfl := vld_nil hv (by decide)
    rw [txt_flag hv]
    rcases vld_flag hv with rfl | rfl
    · rw [if_neg (by decide)]; decide +kernel
    · rw [if_pos rfl]; decide +kernel

/-- What Parse accepts is the text of its result; what it does not is none's. -/
theorem parse_cases (l : List UInt8) : (parse l = (0, 0, [], 4) ∧ ∀ k n t, vldB k n t = true → txt k n t ≠ l) ∨ ∃ k n t, parse l = (k, n, t, 0) ∧ vldB k n t = true ∧ txt k n t = l := by
  have no : parse l = (0, 0, [], 4) → (parse l = (0, 0, [], 4) ∧ ∀ k n t, vldB k n t = true → txt k n t ≠ l) := fun h => ⟨h, fun k n t hv e => by
    rw [← e, parse_txt hv] at h
    simp at h⟩
  have yes : ∀ k n t, txt k n t = l → l ≠ [] → vldB k n t = true := fun k n t h hl => by
    cases hv : vldB k n t
    · rw [txt_bad hv] at h; exact absurd h.symm hl
    · rfl
  by_cases h0 : l = []
  · subst h0; exact Or.inl (no (by decide +kernel))
  by_cases h1 : l = [110, 117, 108, 108]
  · subst h1; exact Or.inr ⟨0, 0, [], by decide +kernel, by decide +kernel, by decide +kernel⟩
  by_cases h2 : l = [116, 114, 117, 101]
  · subst h2; exact Or.inr ⟨4, 1, [], by decide +kernel, by decide +kernel, by decide +kernel⟩
  by_cases h3 : l = [102, 97, 108, 115, 101]
  · subst h3; exact Or.inr ⟨4, 0, [], by decide +kernel, by decide +kernel, by decide +kernel⟩
  cases l with
  | nil => exact absurd rfl h0
  | cons c r =>
    have e : parse (c :: r) = (if c.toNat = 34 then (if txt 1 0 (unq (Lib.trimSuffix r [34])) = c :: r then (1, 0, unq (Lib.trimSuffix r [34]), 0) else (0, 0, [], 4))
      else if c.toNat = 64 then parseN 3 r (c :: r)
      else parseN 2 (c :: r) (c :: r)) := by
      unfold parse
      rw [if_neg (fun h => h1 h.2), if_neg h2, if_neg h3]
    by_cases a : c.toNat = 34
    · rw [if_pos a] at e
      by_cases b : txt 1 0 (unq (Lib.trimSuffix r [34])) = c :: r
      · rw [if_pos b] at e; exact Or.inr ⟨_, _, _, e, yes _ _ _ b h0, b⟩
      · rw [if_neg b] at e; exact Or.inl (no e)
    · rw [if_neg a] at e
      by_cases a2 : c.toNat = 64
      · rw [if_pos a2] at e
        rcases parseN_cases 3 r (c :: r) with b | ⟨n, b1, b2⟩
        · rw [b] at e; exact Or.inl (no e)
        · rw [b1] at e; exact Or.inr ⟨_, _, _, e, yes _ _ _ b2 h0, b2⟩
      · rw [if_neg a2] at e
        rcases parseN_cases 2 (c :: r) (c :: r) with b | ⟨n, b1, b2⟩
        · rw [b] at e; exact Or.inl (no e)
        · rw [b1] at e; exact Or.inr ⟨_, _, _, e, yes _ _ _ b2 h0, b2⟩

/-- A guess that is right where there is a value to be guessed: it decides. -/
def Guess (l : List UInt8) (K N : Int) (T : List UInt8) : Prop := ∀ k n t, vldB k n t = true → txt k n t = l → K = k ∧ N = n ∧ T = t
theorem parse_yes {l : List UInt8} {K N : Int} {T : List UInt8} (hv : vldB K N T = true) (h : txt K N T = l) : parse l = (K, N, T, 0) := by rw [← h]; exact parse_txt hv
theorem parse_no {l : List UInt8} {K N : Int} {T : List UInt8} (hg : Guess l K N T) (h : vldB K N T = false ∨ txt K N T ≠ l) : parse l = (0, 0, [], 4) := by
  rcases parse_cases l with ⟨e, _⟩ | ⟨k, n, t, _, hv, e⟩
  · exact e
  · obtain ⟨rfl, rfl, rfl⟩ := hg k n t hv e
    rcases h with h | h
    · rw [hv] at h; cases h
    · exact absurd e h
theorem txt_inj {k n : Int} {t : List UInt8} {k2 n2 : Int} {t2 : List UInt8} (h1 : vldB k n t = true) (h2 : vldB k2 n2 t2 = true) (h : txt k n t = txt k2 n2 t2) : k = k2 ∧ n = n2 ∧ t = t2 := by
  have a := parse_txt h1
  rw [h, parse_txt h2] at a
  simp at a
  exact ⟨a.1.symm, a.2.1.symm, a.2.2.symm⟩

/-- How the texts of the kinds begin. -/
theorem guess_text {r : List UInt8} {k n : Int} {t : List UInt8} (hv : vldB k n t = true) (h : txt k n t = 34 :: r) : k = 1 ∧ n = 0 ∧ r = t.flatMap esc ++ [34] := by
  have p := parse_txt hv
  obtain ⟨c, q, hc, hd⟩ := itoa_head n
  rcases vld_cases hv with rfl | rfl | rfl | rfl | rfl
  · rw [txt_null hv] at h; simp at h
  · rw [txt_text hv] at h
    refine ⟨rfl, vld_zero hv, ?_⟩
    unfold quo at h
    injection h with _ h
    exact h.symm
  · rw [txt_num hv, hc] at h
    injection h with h _
    subst h
    rcases hd with hd | hd
    · exact absurd hd (by decide)
    · unfold IsDig at hd; exact absurd hd (by decide)
  · rw [txt_day hv] at h; simp at h
  · rw [txt_flag hv] at h; split at h <;> simp at h
theorem guess_day {r : List UInt8} {k n : Int} {t : List UInt8} (hv : vldB k n t = true) (h : txt k n t = 64 :: r) : k = 3 ∧ Lib.itoa n = r ∧ t = [] := by
  obtain ⟨c, q, hc, hd⟩ := itoa_head n
  rcases vld_cases hv with rfl | rfl | rfl | rfl | rfl
  · rw [txt_null hv] at h; simp at h
  · rw [txt_text hv] at h; unfold quo at h; simp at h
  · rw [txt_num hv, hc] at h
    injection h with h _
    subst h
    rcases hd with hd | hd
    · exact absurd hd (by decide)
    · unfold IsDig at hd; exact absurd hd (by decide)
  · rw [txt_day hv] at h
    injection h with _ h
    exact ⟨rfl, h, vld_nil hv (by decide)⟩
  · rw [txt_flag hv] at h; split at h <;> simp at h
theorem guess_num {l : List UInt8} {k n : Int} {t : List UInt8} (hv : vldB k n t = true) (h : txt k n t = l) (h1 : l ≠ [110, 117, 108, 108]) (h2 : l ≠ [116, 114, 117, 101]) (h3 : l ≠ [102, 97, 108, 115, 101]) (h4 : ∀ r, l ≠ 34 :: r) (h5 : ∀ r, l ≠ 64 :: r) : k = 2 ∧ Lib.itoa n = l ∧ t = [] := by
  rcases vld_cases hv with rfl | rfl | rfl | rfl | rfl
  · rw [txt_null hv] at h; exact absurd h.symm h1
  · rw [txt_text hv] at h; exact absurd h.symm (h4 _)
  · rw [txt_num hv] at h; exact ⟨rfl, h, vld_nil hv (by decide)⟩
  · rw [txt_day hv] at h; exact absurd h.symm (h5 _)
  · rw [txt_flag hv] at h
    split at h
    · exact absurd h.symm h2
    · exact absurd h.symm h3
end Go.Proofs.YteokcgfbhaeklaaGreatDoor.L2

/- The plain words of Cast: no program is imported. -/
namespace Go.Proofs.YteokcgfbhaeklaaGreatDoor.L2

/-- What castText returns. -/
def castT (l : List UInt8) (kind : Int) : Int × Int × List UInt8 × Int :=
  if (parse l).2.2.2 = 0 ∧ (parse l).1 = kind then parse l else (0, 0, [], 15)
/-- What castNumber returns. -/
def castN (n kind : Int) : Int × Int × List UInt8 × Int := if vldB kind n [] = true then (kind, n, [], 0) else (0, 0, [], 15)
/-- What Cast returns. -/
def cast (k n : Int) (t : List UInt8) (kind : Int) : Int × Int × List UInt8 × Int :=
  if vldB k n t = false ∨ kind < 1 ∨ 4 < kind then (0, 0, [], 1)
  else if k = 0 ∨ k = kind then (k, n, t, 0)
  else if kind = 1 then (1, 0, txt k n t, 0)
  else if k = 1 then castT t kind
  else if k = 4 ∨ kind = 4 then (0, 0, [], 10)
  else castN n kind
end Go.Proofs.YteokcgfbhaeklaaGreatDoor.L2

/- The plain mathematics of schemas: what is valid, what a change makes of a schema and of a row. No program is imported. -/
namespace Go.Proofs.YteokcgfbhaeklaaGreatDoor

abbrev Txt := List UInt8
/-- A value's three fields. -/
abbrev T3 := Int × Int × List UInt8
structure AttrT where
  name : Txt
  kind : Int
  was : List Txt
  dft : T3
structure TabT where
  name : Txt
  attrs : List AttrT
  key : List Int
structure ChgT where
  kind : Int
  table : Txt
  attr : Txt
  name : Txt
  to : Int
  dft : T3
theorem AttrT.ext' {a b : AttrT} (h1 : a.name = b.name) (h2 : a.kind = b.kind) (h3 : a.was = b.was) (h4 : a.dft = b.dft) : a = b := by
  cases a; cases b; simp_all
theorem TabT.ext' {a b : TabT} (h1 : a.name = b.name) (h2 : a.attrs = b.attrs) (h3 : a.key = b.key) : a = b := by
  cases a; cases b; simp_all
instance : DecidableEq AttrT := fun a b => decidable_of_iff (a.name = b.name ∧ a.kind = b.kind ∧ a.was = b.was ∧ a.dft = b.dft) ⟨fun h => AttrT.ext' h.1 h.2.1 h.2.2.1 h.2.2.2, fun h => by subst h; exact ⟨rfl, rfl, rfl, rfl⟩⟩
instance : DecidableEq TabT := fun a b => decidable_of_iff (a.name = b.name ∧ a.attrs = b.attrs ∧ a.key = b.key) ⟨fun h => TabT.ext' h.1 h.2.1 h.2.2, fun h => by subst h; exact ⟨rfl, rfl, rfl⟩⟩

/-! ### Names. -/
def Let (c : UInt8) : Prop := (97 ≤ c.toNat ∧ c.toNat ≤ 122) ∨ (65 ≤ c.toNat ∧ c.toNat ≤ 90)
def Oth (c : UInt8) : Prop := Let c ∨ (48 ≤ c.toNat ∧ c.toNat ≤ 57) ∨ c.toNat = 95
instance (c : UInt8) : Decidable (Let c) := by unfold Let; infer_instance
instance (c : UInt8) : Decidable (Oth c) := by unfold Oth; infer_instance
def letB (c : UInt8) : Bool := decide (Let c)
def othB (c : UInt8) : Bool := decide (Oth c)
def nameB (t : Txt) : Bool := decide (1 ≤ t.length ∧ t.length ≤ 24) && (letB (t.getD 0 0) && t.all othB)

/-! ### Values. -/
def vB (v : T3) : Bool := L2.vldB v.1 v.2.1 v.2.2
def fitB (v : T3) (k : Int) : Bool := vB v && (decide (v.1 = 0) || decide (v.1 = k))
def typedB (k : Int) (v : T3) : Bool := decide (1 ≤ k ∧ k ≤ 4) && fitB v k

/-! ### Tables and schemas. -/
def namesT (l : List AttrT) : List Txt := l.flatMap fun a => a.name :: a.was
def namesB (l : List Txt) : Bool := l.all nameB && decide l.Nodup
def Key (l : List Int) (n : Nat) : Prop := l ≠ [] ∧ (∀ x ∈ l, 0 ≤ x ∧ x < (n : Int)) ∧ l.Pairwise (· < ·)
instance (l : List Int) (n : Nat) : Decidable (Key l n) := by unfold Key; infer_instance
def keyB (l : List Int) (n : Nat) : Bool := decide (Key l n)
def tabB (t : TabT) : Bool :=
  decide (1 ≤ t.attrs.length ∧ t.attrs.length ≤ 12) && (t.attrs.all (fun a => typedB a.kind a.dft) && (namesB (namesT t.attrs) && keyB t.key t.attrs.length))
def validB (s : List TabT) : Bool := decide (s.length ≤ 20) && (s.all tabB && namesB (s.map TabT.name))

/-- The index of the first element that p holds of, or -1. -/
def idx {α : Type} (p : α → Bool) : List α → Int
  | [] => -1
  | a :: l => if p a then 0 else if idx p l < 0 then -1 else idx p l + 1
theorem idx_range {α : Type} (p : α → Bool) : ∀ l : List α, -1 ≤ idx p l ∧ idx p l < l.length
  | [] => by simp [idx]
  | a :: l => by
    have := idx_range p l
    unfold idx
    split
    · rw [List.length_cons]; omega
    · rw [List.length_cons]; split <;> omega
theorem idx_none {α : Type} {p : α → Bool} : ∀ {l : List α}, idx p l < 0 → ∀ a ∈ l, p a = false
  | [], _, a, h => by cases h
  | b :: l, h0, a, h => by
    unfold idx at h0
    split at h0
    · omega
    · rename_i hb
      split at h0
      · rename_i hl
        rcases List.mem_cons.1 h with rfl | h
        · simpa using hb
        · exact idx_none hl a h
      · omega
theorem idx_neg {α : Type} {p : α → Bool} : ∀ {l : List α}, (∀ a ∈ l, p a = false) → idx p l = -1
  | [], _ => rfl
  | b :: l, h => by
    have h1 := idx_neg (l := l) (fun a ha => h a (List.mem_cons_of_mem _ ha))
    unfold idx
    rw [h b (List.mem_cons_self ..), h1]
    rfl
/-- The first element at which p holds. -/
theorem idx_eq {α : Type} {p : α → Bool} : ∀ {l : List α} {k : Nat} (h : k < l.length), p l[k] = true → (∀ j (hj : j < k), p (l[j]'(by omega)) = false) → idx p l = k
  | [], k, h, _, _ => by simp at h
  | b :: l, 0, h, h1, _ => by
    unfold idx
    simp only [List.getElem_cons_zero] at h1
    rw [h1]
    rfl
  | b :: l, k + 1, h, h1, h2 => by
    have h0 := h2 0 (by omega)
    simp only [List.getElem_cons_zero] at h0
    have ih := idx_eq (l := l) (k := k) (by simpa using h) (by simpa using h1) (fun j hj => by have := h2 (j + 1) (by omega); simpa using this)
    unfold idx
    rw [h0, ih]
    simp
    omega
theorem idx_spec {α : Type} {p : α → Bool} : ∀ {l : List α}, 0 ≤ idx p l → ∃ (k : Nat) (h : k < l.length), idx p l = k ∧ p l[k] = true ∧ ∀ j (hj : j < k), p (l[j]'(by omega)) = false
  | [], h => by simp [idx] at h
  | b :: l, h => by
    by_cases hb : p b = true
    · exact ⟨0, by simp, by unfold idx; rw [hb]; rfl, by simpa using hb, fun j hj => by omega⟩
    · have hb' : p b = false := by simpa using hb
      by_cases hl : idx p l < 0
      · unfold idx at h
        rw [hb', if_pos hl] at h
        simp at h
      · obtain ⟨k, hk, e, h1, h2⟩ := idx_spec (p := p) (l := l) (by omega)
        refine ⟨k + 1, by simp; omega, ?_, by simpa using h1, fun j hj => ?_⟩
        · unfold idx
          rw [hb', if_neg hl, e]
          simp
        · match j with
          | 0 => simpa using hb'
          | j + 1 => simpa using h2 j (by omega)

def findT (s : List TabT) (n : Txt) : Int := idx (fun t => decide (t.name = n)) s
def colN (l : List AttrT) (n : Txt) : Int := idx (fun a => decide (a.name = n)) l
def colW (l : List AttrT) (n : Txt) : Int := idx (fun a => decide (n ∈ a.was)) l
def colT (l : List AttrT) (n : Txt) : Int := if colN l n < 0 then colW l n else colN l n
theorem colT_range (l : List AttrT) (n : Txt) : -1 ≤ colT l n ∧ colT l n < l.length := by
  unfold colT
  split
  · exact idx_range _ _
  · exact idx_range _ _
theorem findT_range (s : List TabT) (n : Txt) : -1 ≤ findT s n ∧ findT s n < s.length := idx_range _ _

/-- Whether a row fits a table, from the k-th value on. -/
def fitsB (l : List AttrT) (row : List T3) : Bool := decide (row.length = l.length) && (row.zip l).all fun x => fitB x.1 x.2.kind

/-! ### Changes. -/
def z3 : T3 := (0, 0, [])
def formedB (c : ChgT) : Bool :=
  if c.kind = 1 then decide (c.attr = []) else
  if c.kind = 2 then decide (c.name = [] ∧ c.to = 0 ∧ c.dft = z3) else
  if c.kind = 3 then decide (c.to = 0 ∧ c.dft = z3) else
  if c.kind = 4 then decide (c.name = []) else false
/-- Why an attribute cannot be changed, or 0. -/
def refT (t : TabT) (col : Int) (c : ChgT) : Int :=
  if c.kind = 1 then (if nameB c.name = false ∨ typedB c.to c.dft = false then 1 else if 0 ≤ colT t.attrs c.name then 9 else if 12 ≤ t.attrs.length then 3 else 0) else
  if c.kind = 2 then (if col ∈ t.key then 1 else 0) else
  if c.kind = 3 then (if nameB c.name = false then 1 else if 0 ≤ colT t.attrs c.name then 9 else 0) else
  (if typedB c.to c.dft = false ∨ (t.attrs[col.toNat]?).map AttrT.kind = some c.to then 1 else 0)
/-- The error of a change, its table, and its attribute. -/
def locT (s : List TabT) (c : ChgT) : Int × Int × Int :=
  if validB s = false ∨ formedB c = false then (1, 0, 0) else
  if findT s c.table < 0 then (11, 0, 0) else
  match s[(findT s c.table).toNat]? with
  | none => (11, 0, 0)
  | some t => if colT t.attrs c.attr < 0 ∧ c.kind ≠ 1 then (11, 0, 0) else (refT t (colT t.attrs c.attr) c, findT s c.table, colT t.attrs c.attr)
def newA (c : ChgT) : AttrT := ⟨c.name, c.to, [], c.dft⟩
def lower (col : Int) (x : Int) : Int := if col < x then x - 1 else x
/-- What a change makes of a table. -/
def altT (t : TabT) (col : Nat) (c : ChgT) : TabT :=
  if c.kind = 1 then { t with attrs := t.attrs ++ [newA c] } else
  if c.kind = 2 then { t with attrs := t.attrs.eraseIdx col, key := t.key.map (lower col) } else
  if c.kind = 3 then { t with attrs := t.attrs.modify col fun a => { a with name := c.name, was := a.was ++ [a.name] } } else
  { t with attrs := t.attrs.modify col fun a => { a with kind := c.to, dft := c.dft } }
def applyT (s : List TabT) (c : ChgT) : List TabT × Int :=
  if (locT s c).1 ≠ 0 then ([], (locT s c).1) else (s.modify (locT s c).2.1.toNat fun t => altT t (locT s c).2.2.toNat c, 0)
/-- What cast makes of a value. -/
def castV (v : T3) (k : Int) : T3 × Int := ((L2.cast v.1 v.2.1 v.2.2 k).1, (L2.cast v.1 v.2.1 v.2.2 k).2.1, (L2.cast v.1 v.2.1 v.2.2 k).2.2.1, (L2.cast v.1 v.2.1 v.2.2 k).2.2.2) |> fun x => ((x.1, x.2.1, x.2.2.1), x.2.2.2)
/-- What a change makes of a row of its table. -/
def rowT (row : List T3) (col : Nat) (c : ChgT) : List T3 × Int :=
  if c.kind = 1 then (row ++ [c.dft], 0) else
  if c.kind = 2 then (row.eraseIdx col, 0) else
  if c.kind = 3 then (row, 0) else
  if (castV (row.getD col z3) c.to).2 ≠ 0 then ([], 15) else (row.set col (castV (row.getD col z3) c.to).1, 0)
def convT (s : List TabT) (c : ChgT) (n : Int) (row : List T3) : List T3 × Int :=
  if (locT s c).1 ≠ 0 then ([], (locT s c).1) else
  match s[n.toNat]? with
  | none => ([], 1)
  | some t => if n < 0 ∨ fitsB t.attrs row = false then ([], 1) else if n ≠ (locT s c).2.1 then (row, 0) else rowT row (locT s c).2.2.toNat c

/-! ### Sizes. -/
def Mid (s : List TabT) : Prop := s.length ≤ 24 ∧ ∀ t ∈ s, t.attrs.length ≤ 24 ∧ t.key.length ≤ 24 ∧ ∀ a ∈ t.attrs, a.was.length ≤ 24
end Go.Proofs.YteokcgfbhaeklaaGreatDoor

/- The plain mathematics of the laws: what a change keeps. No program is imported. -/
namespace Go.Proofs.YteokcgfbhaeklaaGreatDoor

/-! ### Names of attributes. -/
/-- All names of an attribute. -/
def namesA (a : AttrT) : List Txt := a.name :: a.was
theorem namesT_eq (l : List AttrT) : namesT l = l.flatMap namesA := rfl
theorem namesT_append (l m : List AttrT) : namesT (l ++ m) = namesT l ++ namesT m := by simp [namesT]
theorem mem_namesT {l : List AttrT} {n : Txt} : n ∈ namesT l ↔ ∃ a ∈ l, n ∈ namesA a := by simp [namesT, namesA]
theorem mem_namesT_get {l : List AttrT} {n : Txt} {k : Nat} (hk : k < l.length) (h : n ∈ namesA l[k]) : n ∈ namesT l := mem_namesT.2 ⟨_, List.getElem_mem hk, h⟩

theorem colT_neg {l : List AttrT} {n : Txt} : colT l n < 0 ↔ n ∉ namesT l := by
  constructor
  · intro h hn
    obtain ⟨a, ha, hn⟩ := mem_namesT.1 hn
    unfold colT at h
    split at h
    · rename_i h1
      have h2 := idx_none h1 a ha
      have h3 := idx_none h a ha
      simp only [decide_eq_false_iff_not] at h2 h3
      rcases List.mem_cons.1 hn with e | e
      · exact h2 e.symm
      · exact h3 e
    · omega
  · intro h
    have h1 : colN l n = -1 := idx_neg fun a ha => by
      simp only [decide_eq_false_iff_not]
      intro e
      exact h (mem_namesT.2 ⟨a, ha, by simp [namesA, e]⟩)
    have h2 : colW l n = -1 := idx_neg fun a ha => by
      simp only [decide_eq_false_iff_not]
      intro e
      exact h (mem_namesT.2 ⟨a, ha, by simp [namesA, e]⟩)
    unfold colT
    rw [h1, h2]
    decide

theorem colT_pos {l : List AttrT} {n : Txt} (h : 0 ≤ colT l n) : ∃ (k : Nat) (hk : k < l.length), colT l n = k ∧ n ∈ namesA l[k] := by
  unfold colT at h ⊢
  split at h
  · rename_i h1
    rw [if_pos h1]
    obtain ⟨k, hk, e, hp, _⟩ := idx_spec h
    exact ⟨k, hk, e, by simp only [decide_eq_true_eq] at hp; simp [namesA, hp]⟩
  · rename_i h1
    rw [if_neg h1]
    obtain ⟨k, hk, e, hp, _⟩ := idx_spec h
    exact ⟨k, hk, e, by simp only [decide_eq_true_eq] at hp; simp [namesA, hp]⟩

/-- A name is that of one attribute. -/
theorem names_uniq : ∀ {l : List AttrT}, (namesT l).Nodup → ∀ {n : Txt} {i j : Nat} (hi : i < l.length) (hj : j < l.length), n ∈ namesA l[i] → n ∈ namesA l[j] → i = j
  | [], _, _, i, j, hi, _, _, _ => by simp at hi
  | a :: l, h, n, i, j, hi, hj, h1, h2 => by
    rw [namesT_eq, List.flatMap_cons, List.nodup_append] at h
    obtain ⟨_, h4, h5⟩ := h
    match i, j with
    | 0, 0 => rfl
    | 0, j + 1 =>
      exfalso
      exact h5 n (by simpa using h1) n (mem_namesT_get (by simpa using hj) (by simpa using h2)) rfl
    | i + 1, 0 =>
      exfalso
      exact h5 n (by simpa using h2) n (mem_namesT_get (by simpa using hi) (by simpa using h1)) rfl
    | i + 1, j + 1 =>
      have := names_uniq (l := l) h4 (n := n) (i := i) (j := j) (by simpa using hi) (by simpa using hj) (by simpa using h1) (by simpa using h2)
      omega

theorem colT_eq {l : List AttrT} (h : (namesT l).Nodup) {n : Txt} {k : Nat} (hk : k < l.length) (hn : n ∈ namesA l[k]) : colT l n = k := by
  have h0 : 0 ≤ colT l n := by
    refine Int.not_lt.1 fun hneg => ?_
    exact colT_neg.1 hneg (mem_namesT_get hk hn)
  obtain ⟨j, hj, e, hn2⟩ := colT_pos h0
  rw [e, names_uniq h hj hk hn2 hn]

/-! ### What a change is told. -/
theorem findT_pos {s : List TabT} {n : Txt} (h : 0 ≤ findT s n) : ∃ (k : Nat) (hk : k < s.length), findT s n = k ∧ s[k].name = n := by
  obtain ⟨k, hk, e, hp, _⟩ := idx_spec h
  exact ⟨k, hk, e, by simpa using hp⟩

structure LocOk (s : List TabT) (c : ChgT) (k : Nat) (t : TabT) : Prop where
  valid : validB s = true
  formed : formedB c = true
  lt : k < s.length
  tab : s[k]? = some t
  find : findT s c.table = k
  name : t.name = c.table
  col : 0 ≤ colT t.attrs c.attr ∨ c.kind = 1
  ref : refT t (colT t.attrs c.attr) c = 0
  loc : locT s c = (0, (k : Int), colT t.attrs c.attr)

theorem loc_ok {s : List TabT} {c : ChgT} (h : (locT s c).1 = 0) : ∃ k t, LocOk s c k t := by
  unfold locT at h
  split at h
  · simp at h
  · rename_i h1
    split at h
    · simp at h
    · rename_i h2
      obtain ⟨k, hk, e, hn⟩ := findT_pos (Int.not_lt.1 h2)
      have hs : s[k]? = some s[k] := List.getElem?_eq_getElem hk
      have hs2 : s[(findT s c.table).toNat]? = some s[k] := by rw [e]; simp
      rw [hs2] at h
      simp only at h
      split at h
      · simp at h
      · rename_i h3
        have hv : validB s = true ∧ formedB c = true := by
          constructor
          · cases hb : validB s <;> simp_all
          · cases hb : formedB c <;> simp_all
        refine ⟨k, s[k], hv.1, hv.2, hk, hs, e, hn, by omega, h, ?_⟩
        unfold locT
        rw [if_neg h1, if_neg h2, hs2]
        simp only
        rw [if_neg h3]
        simp only at h
        rw [h, e]

theorem app_ok {s : List TabT} {c : ChgT} {k : Nat} {t : TabT} (h : LocOk s c k t) : applyT s c = (s.modify k fun t => altT t (colT t.attrs c.attr).toNat c, 0) := by
  unfold applyT
  rw [h.loc]
  simp only [ne_eq, not_true_eq_false, if_false]
  congr 1
  apply List.ext_getElem?
  intro j
  simp only [List.getElem?_modify]
  by_cases hj : k = j
  · subst hj
    simp [h.tab]
  · simp [hj]

/-! ### A change keeps a table valid. -/
structure TabOk (t : TabT) : Prop where
  len : 1 ≤ t.attrs.length ∧ t.attrs.length ≤ 12
  typed : ∀ a ∈ t.attrs, typedB a.kind a.dft = true
  names : ∀ n ∈ namesT t.attrs, nameB n = true
  nodup : (namesT t.attrs).Nodup
  key : Key t.key t.attrs.length
theorem tabB_iff {t : TabT} : tabB t = true ↔ TabOk t := by
  unfold tabB namesB keyB
  simp only [Bool.and_eq_true, decide_eq_true_eq, List.all_eq_true]
  exact ⟨fun h => ⟨h.1, h.2.1, h.2.2.1.1, h.2.2.1.2, h.2.2.2⟩, fun h => ⟨h.1, h.2, ⟨h.3, h.4⟩, h.5⟩⟩

theorem formed_kind {c : ChgT} (h : formedB c = true) : c.kind = 1 ∨ c.kind = 2 ∨ c.kind = 3 ∨ c.kind = 4 := by
  unfold formedB at h
  split at h
  · exact .inl ‹_›
  · split at h
    · exact .inr (.inl ‹_›)
    · split at h
      · exact .inr (.inr (.inl ‹_›))
      · split at h
        · exact .inr (.inr (.inr ‹_›))
        · cases h
theorem Key.mono {l : List Int} {n m : Nat} (h : Key l n) (hm : n ≤ m) : Key l m := ⟨h.1, fun x hx => by have := h.2.1 x hx; omega, h.2.2⟩

theorem alt1 {t : TabT} {c : ChgT} {col : Int} (ht : TabOk t) (hk : c.kind = 1) (hr : refT t col c = 0) : TabOk (altT t col.toNat c) ∧ altT t col.toNat c = { t with attrs := t.attrs ++ [newA c] } ∧ c.name ∉ namesT t.attrs ∧ nameB c.name = true ∧ typedB c.to c.dft = true := by
  have he : altT t col.toNat c = { t with attrs := t.attrs ++ [newA c] } := by unfold altT; rw [if_pos hk]
  unfold refT at hr
  rw [if_pos hk] at hr
  split at hr
  · simp at hr
  · rename_i h1
    split at hr
    · simp at hr
    · rename_i h2
      split at hr
      · simp at hr
      · rename_i h3
        have hn : nameB c.name = true := by cases hb : nameB c.name <;> simp_all
        have hd : typedB c.to c.dft = true := by cases hb : typedB c.to c.dft <;> simp_all
        have hf : c.name ∉ namesT t.attrs := colT_neg.1 (by omega)
        have hnn : namesT (t.attrs ++ [newA c]) = namesT t.attrs ++ [c.name] := by simp [namesT, newA]
        refine ⟨?_, he, hf, hn, hd⟩
        rw [he]
        refine ⟨by simp; omega, ?_, ?_, ?_, ?_⟩
        · intro a ha
          rcases List.mem_append.1 ha with ha | ha
          · exact ht.typed a ha
          · rw [List.mem_singleton.1 ha]; exact hd
        · intro n hx
          simp only [hnn] at hx
          rcases List.mem_append.1 hx with hx | hx
          · exact ht.names n hx
          · rw [List.mem_singleton.1 hx]; exact hn
        · simp only [hnn]
          rw [List.nodup_append]
          exact ⟨ht.nodup, by simp, fun a ha b hb e => hf (by rw [← List.mem_singleton.1 hb, ← e]; exact ha)⟩
        · exact ht.key.mono (by simp)

theorem alt2 {t : TabT} {c : ChgT} {k : Nat} (ht : TabOk t) (hk : c.kind = 2) (hlt : k < t.attrs.length) (hr : refT t k c = 0) : TabOk (altT t k c) ∧ altT t k c = { t with attrs := t.attrs.eraseIdx k, key := t.key.map (lower k) } ∧ (k : Int) ∉ t.key := by
  have he : altT t k c = { t with attrs := t.attrs.eraseIdx k, key := t.key.map (lower k) } := by
    unfold altT
    rw [if_neg (by omega), if_pos hk]
  unfold refT at hr
  rw [if_neg (by omega), if_pos hk] at hr
  split at hr
  · simp at hr
  · rename_i h1
    refine ⟨?_, he, h1⟩
    rw [he]
    have hl : (t.attrs.eraseIdx k).length = t.attrs.length - 1 := List.length_eraseIdx_of_lt hlt
    have hsub : (t.attrs.eraseIdx k).Sublist t.attrs := List.eraseIdx_sublist t.attrs k
    have hns : (namesT (t.attrs.eraseIdx k)).Sublist (namesT t.attrs) := by
      have h3 : t.attrs = t.attrs.take k ++ t.attrs[k] :: t.attrs.drop (k + 1) := by simp
      have h4 : t.attrs.eraseIdx k = t.attrs.take k ++ t.attrs.drop (k + 1) := List.eraseIdx_eq_take_drop_succ ..
      rw [h4, namesT_append]
      rw [show namesT t.attrs = namesT (t.attrs.take k) ++ (namesA t.attrs[k] ++ namesT (t.attrs.drop (k + 1))) from by
        conv => lhs; rw [h3]
        rw [namesT_append]
        rfl]
      exact (List.Sublist.refl _).append (List.sublist_append_right ..)
    have hx : ∀ x ∈ t.key, 0 ≤ x ∧ x < (t.attrs.length : Int) ∧ x ≠ k := fun x hx => ⟨(ht.key.2.1 x hx).1, (ht.key.2.1 x hx).2, fun e => h1 (e ▸ hx)⟩
    refine ⟨?_, fun a ha => ht.typed a (hsub.subset ha), fun n hn => ht.names n (hns.subset hn), hns.nodup ht.nodup, ?_⟩
    · have h2 := ht.key.1
      have h5 := ht.len
      obtain ⟨x, hx2⟩ := List.exists_mem_of_ne_nil _ h2
      have := hx x hx2
      simp only [hl]
      omega
    · refine ⟨by simpa using ht.key.1, ?_, ?_⟩
      · intro y hy
        obtain ⟨x, hx2, rfl⟩ := List.mem_map.1 hy
        have := hx x hx2
        simp only [hl, lower]
        split <;> omega
      · rw [List.pairwise_map]
        refine (List.pairwise_iff_forall_sublist.2 ?_)
        intro a b hab
        have h6 := List.pairwise_iff_forall_sublist.1 ht.key.2.2 hab
        have h7 := hx a (hab.subset (by simp))
        have h8 := hx b (hab.subset (by simp))
        unfold lower
        split <;> split <;> omega

theorem namesT_set (l : List AttrT) {k : Nat} (hk : k < l.length) (f : AttrT → AttrT) : namesT (l.modify k f) = namesT (l.take k) ++ (namesA (f l[k]) ++ namesT (l.drop (k + 1))) := by
  rw [List.modify_eq_take_cons_drop hk, namesT_append]
  rfl
theorem namesT_at (l : List AttrT) {k : Nat} (hk : k < l.length) : namesT l = namesT (l.take k) ++ (namesA l[k] ++ namesT (l.drop (k + 1))) := by
  have h3 : l = l.take k ++ l[k] :: l.drop (k + 1) := by simp
  conv => lhs; rw [h3]
  rw [namesT_append]
  rfl
def renA (c : ChgT) (a : AttrT) : AttrT := { a with name := c.name, was := a.was ++ [a.name] }
def casA (c : ChgT) (a : AttrT) : AttrT := { a with kind := c.to, dft := c.dft }
theorem mem_modify {α : Type} {l : List α} {k : Nat} (hk : k < l.length) {f : α → α} {a : α} (h : a ∈ l.modify k f) : a ∈ l ∨ a = f l[k] := by
  obtain ⟨j, hj, rfl⟩ := List.getElem_of_mem h
  rw [List.getElem_modify]
  split
  · rename_i e
    subst e
    exact .inr rfl
  · exact .inl (List.getElem_mem _)

theorem alt3 {t : TabT} {c : ChgT} {k : Nat} (ht : TabOk t) (hk : c.kind = 3) (hlt : k < t.attrs.length) (hr : refT t k c = 0) : TabOk (altT t k c) ∧ altT t k c = { t with attrs := t.attrs.modify k (renA c) } ∧ c.name ∉ namesT t.attrs := by
  have he : altT t k c = { t with attrs := t.attrs.modify k (renA c) } := by
    unfold altT
    rw [if_neg (by omega), if_neg (by omega), if_pos hk]
    rfl
  unfold refT at hr
  rw [if_neg (by omega), if_neg (by omega), if_pos hk] at hr
  split at hr
  · simp at hr
  · rename_i h1
    split at hr
    · simp at hr
    · rename_i h2
      have hn : nameB c.name = true := by cases hb : nameB c.name <;> simp_all
      have hf : c.name ∉ namesT t.attrs := colT_neg.1 (by omega)
      refine ⟨?_, he, hf⟩
      rw [he]
      have hp : (namesT (t.attrs.modify k (renA c))).Perm (c.name :: namesT t.attrs) := by
        rw [namesT_set _ hlt, namesT_at _ hlt]
        have h3 : (namesA (renA c t.attrs[k])).Perm (c.name :: namesA t.attrs[k]) := by
          simp only [namesA, renA]
          exact (List.perm_append_singleton ..).cons _
        have h4 := (h3.append_right (namesT (t.attrs.drop (k + 1)))).append_left (namesT (t.attrs.take k))
        exact h4.trans (by simp)
      refine ⟨by simpa using ht.len, ?_, ?_, ?_, ?_⟩
      · intro a ha
        rcases mem_modify hlt ha with ha | rfl
        · exact ht.typed a ha
        · exact ht.typed t.attrs[k] (List.getElem_mem hlt)
      · intro n hx
        rcases List.mem_cons.1 (hp.subset hx) with e | e
        · rw [e]; exact hn
        · exact ht.names n e
      · exact hp.nodup_iff.2 (List.nodup_cons.2 ⟨hf, ht.nodup⟩)
      · simpa using ht.key

theorem alt4 {t : TabT} {c : ChgT} {k : Nat} (ht : TabOk t) (hk : c.kind = 4) (hlt : k < t.attrs.length) (hr : refT t k c = 0) : TabOk (altT t k c) ∧ altT t k c = { t with attrs := t.attrs.modify k (casA c) } ∧ t.attrs[k].kind ≠ c.to := by
  have he : altT t k c = { t with attrs := t.attrs.modify k (casA c) } := by
    unfold altT
    rw [if_neg (by omega), if_neg (by omega), if_neg (by omega)]
    rfl
  unfold refT at hr
  rw [if_neg (by omega), if_neg (by omega), if_neg (by omega)] at hr
  split at hr
  · simp at hr
  · rename_i h1
    have hd : typedB c.to c.dft = true := by cases hb : typedB c.to c.dft <;> simp_all
    have hkk : t.attrs[k].kind ≠ c.to := fun e => h1 (.inr (by simp [List.getElem?_eq_getElem hlt, e]))
    refine ⟨?_, he, hkk⟩
    rw [he]
    have hnn : namesT (t.attrs.modify k (casA c)) = namesT t.attrs := by
      rw [namesT_set _ hlt, namesT_at _ hlt]
      rfl
    refine ⟨by simpa using ht.len, ?_, ?_, ?_, ?_⟩
    · intro a ha
      rcases mem_modify hlt ha with ha | rfl
      · exact ht.typed a ha
      · exact hd
    · simp only [hnn]; exact ht.names
    · simp only [hnn]; exact ht.nodup
    · simpa using ht.key

/-! ### A change of a schema. -/
/-- What a change that can be applied makes of its table. -/
def Alt1 (t : TabT) (c : ChgT) (u : TabT) : Prop := c.kind = 1 ∧ u = { t with attrs := t.attrs ++ [newA c] } ∧ c.name ∉ namesT t.attrs ∧ nameB c.name = true ∧ typedB c.to c.dft = true
def Alt2 (t : TabT) (c : ChgT) (u : TabT) : Prop := c.kind = 2 ∧ ∃ k, k < t.attrs.length ∧ colT t.attrs c.attr = (k : Int) ∧ u = { t with attrs := t.attrs.eraseIdx k, key := t.key.map (lower k) } ∧ (k : Int) ∉ t.key
def Alt3 (t : TabT) (c : ChgT) (u : TabT) : Prop := c.kind = 3 ∧ ∃ k, k < t.attrs.length ∧ colT t.attrs c.attr = (k : Int) ∧ u = { t with attrs := t.attrs.modify k (renA c) } ∧ c.name ∉ namesT t.attrs
def Alt4 (t : TabT) (c : ChgT) (u : TabT) : Prop := c.kind = 4 ∧ ∃ (k : Nat) (hk : k < t.attrs.length), colT t.attrs c.attr = (k : Int) ∧ u = { t with attrs := t.attrs.modify k (casA c) } ∧ t.attrs[k].kind ≠ c.to
structure Alt (s : List TabT) (c : ChgT) (k : Nat) (t u : TabT) : Prop where
  loc : LocOk s c k t
  t_ok : TabOk t
  u_ok : TabOk u
  name : u.name = t.name
  eq : u = altT t (colT t.attrs c.attr).toNat c
  kinds : Alt1 t c u ∨ Alt2 t c u ∨ Alt3 t c u ∨ Alt4 t c u
  app : applyT s c = (s.set k u, 0)

theorem validB_iff {s : List TabT} : validB s = true ↔ s.length ≤ 20 ∧ (∀ t ∈ s, TabOk t) ∧ namesB (s.map TabT.name) = true := by
  unfold validB
  simp only [Bool.and_eq_true, decide_eq_true_eq, List.all_eq_true]
  exact ⟨fun h => ⟨h.1, fun t ht => tabB_iff.1 (h.2.1 t ht), h.2.2⟩, fun h => ⟨h.1, fun t ht => tabB_iff.2 (h.2.1 t ht), h.2.2⟩⟩
theorem LocOk.mem {s : List TabT} {c : ChgT} {k : Nat} {t : TabT} (h : LocOk s c k t) : t ∈ s := List.mem_of_getElem? h.tab
theorem LocOk.get {s : List TabT} {c : ChgT} {k : Nat} {t : TabT} (h : LocOk s c k t) : s[k]'h.lt = t := by
  have := h.tab
  rw [List.getElem?_eq_getElem h.lt] at this
  exact Option.some.inj this

theorem alt_ok {s : List TabT} {c : ChgT} {k : Nat} {t : TabT} (h : LocOk s c k t) : ∃ u, Alt s c k t u := by
  have ht : TabOk t := (validB_iff.1 h.valid).2.1 t h.mem
  have happ := app_ok h
  have hset : (s.modify k fun t => altT t (colT t.attrs c.attr).toNat c) = s.set k (altT t (colT t.attrs c.attr).toNat c) := by
    apply List.ext_getElem?
    intro j
    rw [List.getElem?_modify, List.getElem?_set]
    by_cases hj : k = j
    · subst hj
      rw [h.tab]
      simp [h.lt]
    · simp [hj]
  rw [hset] at happ
  have hr := h.ref
  rcases formed_kind h.formed with hk | hk | hk | hk
  · obtain ⟨h1, h2, h3, h4, h5⟩ := alt1 ht hk hr
    exact ⟨_, h, ht, h1, by rw [h2], rfl, .inl ⟨hk, h2, h3, h4, h5⟩, happ⟩
  all_goals
    obtain ⟨j, hj, e, _⟩ := colT_pos (show 0 ≤ colT t.attrs c.attr from h.col.resolve_right (by omega))
    rw [e] at hr happ
  · obtain ⟨h1, h2, h3⟩ := alt2 ht hk hj hr
    have e2 : (colT t.attrs c.attr).toNat = j := by omega
    exact ⟨altT t j c, h, ht, h1, by rw [h2], by rw [e2], .inr (.inl ⟨hk, j, hj, e, h2, h3⟩), by simpa using happ⟩
  · obtain ⟨h1, h2, h3⟩ := alt3 ht hk hj hr
    have e2 : (colT t.attrs c.attr).toNat = j := by omega
    exact ⟨altT t j c, h, ht, h1, by rw [h2], by rw [e2], .inr (.inr (.inl ⟨hk, j, hj, e, h2, h3⟩)), by simpa using happ⟩
  · obtain ⟨h1, h2, h3⟩ := alt4 ht hk hj hr
    have e2 : (colT t.attrs c.attr).toNat = j := by omega
    exact ⟨altT t j c, h, ht, h1, by rw [h2], by rw [e2], .inr (.inr (.inr ⟨hk, j, hj, e, h2, h3⟩)), by simpa using happ⟩

theorem apply_no {s : List TabT} {c : ChgT} (h : (applyT s c).2 ≠ 0) : (applyT s c).1 = [] := by
  unfold applyT at h ⊢
  split
  · rfl
  · rename_i h1
    rw [if_neg h1] at h
    exact absurd rfl h
theorem apply_loc {s : List TabT} {c : ChgT} (h : (applyT s c).2 = 0) : (locT s c).1 = 0 := by
  unfold applyT at h
  split at h
  · exact h
  · rename_i h1
    exact Decidable.not_not.1 h1
theorem apply_alt {s : List TabT} {c : ChgT} (h : (applyT s c).2 = 0) : ∃ k t u, Alt s c k t u := by
  obtain ⟨k, t, h1⟩ := loc_ok (apply_loc h)
  obtain ⟨u, h2⟩ := alt_ok h1
  exact ⟨k, t, u, h2⟩

theorem map_set_same {s : List TabT} {k : Nat} {u t : TabT} (h : s[k]? = some t) (hn : u.name = t.name) : (s.set k u).map TabT.name = s.map TabT.name := by
  apply List.ext_getElem?
  intro j
  rw [List.getElem?_map, List.getElem?_map, List.getElem?_set]
  split
  · rename_i e
    subst e
    split
    · rw [h]; simp [hn]
    · rename_i hlt
      rw [List.getElem?_eq_none (by omega)] at h
      cases h
  · rfl

theorem Alt.valid {s : List TabT} {c : ChgT} {k : Nat} {t u : TabT} (h : Alt s c k t u) : validB (s.set k u) = true := by
  have hv := validB_iff.1 h.loc.valid
  refine validB_iff.2 ⟨by simpa using hv.1, ?_, ?_⟩
  · intro x hx
    rcases List.mem_or_eq_of_mem_set hx with hx | rfl
    · exact hv.2.1 x hx
    · exact h.u_ok
  · rw [map_set_same h.loc.tab h.name]
    exact hv.2.2

/-- No change leaves its table as it was. -/
theorem Alt.ne {s : List TabT} {c : ChgT} {k : Nat} {t u : TabT} (h : Alt s c k t u) : t ≠ u := by
  intro e
  rcases h.kinds with ⟨_, h1, _⟩ | ⟨_, j, hj, _, h1, _⟩ | ⟨_, j, hj, _, h1, h2⟩ | ⟨_, j, hj, _, h1, h2⟩
  · have h3 := congrArg (fun x => x.attrs.length) (e.trans h1)
    simp at h3
  · have h3 := congrArg (fun x => x.attrs.length) (e.trans h1)
    simp only [List.length_eraseIdx_of_lt hj] at h3
    omega
  · have h3 := congrArg (fun x => x.attrs[j]?) (e.trans h1)
    simp only [List.getElem?_modify, List.getElem?_eq_getElem hj, if_true] at h3
    have h4 := congrArg AttrT.name (Option.some.inj h3)
    simp only [renA] at h4
    exact h2 (by rw [← h4]; exact mem_namesT_get hj (by simp [namesA]))
  · have h3 := congrArg (fun x => x.attrs[j]?) (e.trans h1)
    simp only [List.getElem?_modify, List.getElem?_eq_getElem hj, if_true] at h3
    have h4 := congrArg AttrT.kind (Option.some.inj h3)
    simp only [casA] at h4
    exact h2 h4

/-- P6.2 in plain words. -/
theorem changes_math {s : List TabT} {c : ChgT} {k : Nat} {t u : TabT} (h : Alt s c k t u) (i : Nat) (hi : i < s.length) :
    ∃ h2 : i < (s.set k u).length, s[i].name = (s.set k u)[i].name ∧ (s[i].name = c.table ∨ s[i] = (s.set k u)[i]) := by
  refine ⟨by simpa using hi, ?_⟩
  rw [List.getElem_set]
  split
  · rename_i e
    subst e
    rw [h.loc.get, h.name]
    exact ⟨rfl, .inl h.loc.name⟩
  · exact ⟨rfl, .inr rfl⟩

/-! ### Where an attribute goes. -/
def movT (l : List AttrT) (c : ChgT) (i : Int) : Int :=
  if c.kind ≠ 2 then i else if i = colT l c.attr then -1 else if colT l c.attr < i then i - 1 else i
theorem movT_same {l : List AttrT} {c : ChgT} {i : Int} (h : c.kind ≠ 2) : movT l c i = i := by unfold movT; rw [if_pos h]
theorem movT_two {l : List AttrT} {c : ChgT} {k : Nat} {i : Int} (h : c.kind = 2) (hc : colT l c.attr = (k : Int)) : movT l c i = if i = k then -1 else lower k i := by
  unfold movT
  rw [if_neg (by omega), hc]
  rfl

/-- The attribute that stays: where it is, and that it keeps its names. -/
theorem mov_names {s : List TabT} {c : ChgT} {k : Nat} {t u : TabT} (h : Alt s c k t u) {i : Nat} (hi : i < t.attrs.length) (hm : 0 ≤ movT t.attrs c i) :
    ∃ (j : Nat) (hj : j < u.attrs.length), movT t.attrs c i = j ∧ ∀ n ∈ namesA t.attrs[i], n ∈ namesA u.attrs[j] := by
  rcases h.kinds with ⟨hk, h1, _⟩ | ⟨hk, p, hp, hc, h1, _⟩ | ⟨hk, p, hp, hc, h1, _⟩ | ⟨hk, p, hp, hc, h1, _⟩
  · rw [movT_same (by omega), h1]
    exact ⟨i, by simp; omega, rfl, fun n hn => by simpa [List.getElem_append_left hi] using hn⟩
  · rw [movT_two hk hc] at hm ⊢
    rw [h1]
    unfold lower at hm ⊢
    have hl : (t.attrs.eraseIdx p).length = t.attrs.length - 1 := List.length_eraseIdx_of_lt hp
    split at hm
    · omega
    · rename_i hne
      rw [if_neg hne]
      by_cases hlt : (p : Int) < i
      · rw [if_pos hlt]
        refine ⟨i - 1, by simp only [hl]; omega, by omega, fun n hn => ?_⟩
        rw [List.getElem_eraseIdx, dif_neg (by omega)]
        have e : i - 1 + 1 = i := by omega
        simpa [e] using hn
      · rw [if_neg hlt]
        refine ⟨i, by simp only [hl]; omega, rfl, fun n hn => ?_⟩
        rw [List.getElem_eraseIdx, dif_pos (by omega)]
        exact hn
  · rw [movT_same (by omega), h1]
    refine ⟨i, by simpa using hi, rfl, fun n hn => ?_⟩
    simp only [List.getElem_modify]
    split
    · rcases List.mem_cons.1 hn with e | e
      · simp [namesA, renA, e]
      · simp [namesA, renA, e]
    · exact hn
  · rw [movT_same (by omega), h1]
    refine ⟨i, by simpa using hi, rfl, fun n hn => ?_⟩
    simp only [List.getElem_modify]
    split
    · exact hn
    · exact hn

/-- P6.3 in plain words. -/
theorem names_math {s : List TabT} {c : ChgT} {k : Nat} {t u : TabT} (h : Alt s c k t u) {i : Nat} (hi : i < t.attrs.length) (hm : 0 ≤ movT t.attrs c i) {n : Txt} (hn : n ∈ namesA t.attrs[i]) :
    colT u.attrs n = movT t.attrs c i := by
  obtain ⟨j, hj, e, h1⟩ := mov_names h hi hm
  rw [e]
  exact colT_eq h.u_ok.nodup hj (h1 n hn)
theorem names_add {s : List TabT} {c : ChgT} {k : Nat} {t u : TabT} (h : Alt s c k t u) (hk : c.kind = 1) : colT u.attrs c.name = t.attrs.length := by
  rcases h.kinds with ⟨_, h1, _⟩ | ⟨h2, _⟩ | ⟨h2, _⟩ | ⟨h2, _⟩
  · refine colT_eq h.u_ok.nodup (k := t.attrs.length) (by rw [h1]; simp) ?_
    simp [h1, namesA, newA]
  all_goals omega
theorem names_ren {s : List TabT} {c : ChgT} {k : Nat} {t u : TabT} (h : Alt s c k t u) (hk : c.kind = 3) : colT u.attrs c.name = colT t.attrs c.attr := by
  rcases h.kinds with ⟨h2, _⟩ | ⟨h2, _⟩ | ⟨_, p, hp, hc, h1, _⟩ | ⟨h2, _⟩
  · omega
  · omega
  · rw [hc]
    refine colT_eq h.u_ok.nodup (k := p) (by rw [h1]; simpa using hp) ?_
    simp [h1, namesA, renA]
  · omega
/-- P6.7 in plain words. -/
theorem names_key {s : List TabT} {c : ChgT} {k : Nat} {t u : TabT} (h : Alt s c k t u) : u.key = t.key.map (movT t.attrs c) := by
  rcases h.kinds with ⟨hk, h1, _⟩ | ⟨hk, p, hp, hc, h1, h3⟩ | ⟨hk, p, hp, hc, h1, _⟩ | ⟨hk, p, hp, hc, h1, _⟩
  · rw [h1, show movT t.attrs c = id from funext fun i => movT_same (by omega)]
    simp
  · rw [h1]
    refine List.map_congr_left fun x hx => ?_
    rw [movT_two hk hc, if_neg (fun e : x = (p : Int) => h3 (e ▸ hx))]
  · rw [h1, show movT t.attrs c = id from funext fun i => movT_same (by omega)]
    simp
  · rw [h1, show movT t.attrs c = id from funext fun i => movT_same (by omega)]
    simp

/-! ### Sizes of what comes out. -/
def Siz (n : Nat) (s : List TabT) : Prop := s.length ≤ 24 ∧ ∀ x ∈ s, x.attrs.length ≤ 20 ∧ x.key.length ≤ 20 ∧ ∀ a ∈ x.attrs, a.was.length ≤ n
theorem Siz.mid {n : Nat} {s : List TabT} (h : Siz n s) (hn : n ≤ 24) : Mid s := ⟨h.1, fun x hx => by
  obtain ⟨h1, h2, h3⟩ := h.2 x hx
  exact ⟨by omega, by omega, fun a ha => by have := h3 a ha; omega⟩⟩
theorem Alt.siz {s : List TabT} {c : ChgT} {k : Nat} {t u : TabT} {n : Nat} (h : Alt s c k t u) (hs : Siz n s) : Siz (n + 1) (s.set k u) := by
  refine ⟨by simpa using hs.1, fun x hx => ?_⟩
  rcases List.mem_or_eq_of_mem_set hx with hx | rfl
  · obtain ⟨h1, h2, h3⟩ := hs.2 x hx
    exact ⟨h1, h2, fun a ha => by have := h3 a ha; omega⟩
  · obtain ⟨h1, h2, h3⟩ := hs.2 t h.loc.mem
    have hkey : x.key.length = t.key.length := by rw [names_key h]; simp
    refine ⟨by have := h.u_ok.len; omega, by omega, fun a ha => ?_⟩
    rcases h.kinds with ⟨hk, e, _⟩ | ⟨hk, p, hp, hc, e, _⟩ | ⟨hk, p, hp, hc, e, _⟩ | ⟨hk, p, hp, hc, e, _⟩
    · rw [e] at ha
      rcases List.mem_append.1 ha with ha | ha
      · have := h3 a ha; omega
      · rw [List.mem_singleton.1 ha]; simp [newA]
    · rw [e] at ha
      have := h3 a ((List.eraseIdx_sublist t.attrs p).subset ha); omega
    · rw [e] at ha
      rcases mem_modify hp ha with ha | rfl
      · have := h3 a ha; omega
      · have := h3 _ (List.getElem_mem hp)
        simp only [renA, List.length_append, List.length_singleton]
        omega
    · rw [e] at ha
      rcases mem_modify hp ha with ha | rfl
      · have := h3 a ha; omega
      · have := h3 _ (List.getElem_mem hp)
        simp only [casA]
        omega

/-! ### A changed schema finds its tables where they were. -/
theorem idx_map {α β : Type} (f : α → β) (p : β → Bool) : ∀ l : List α, idx (fun a => p (f a)) l = idx p (l.map f)
  | [] => rfl
  | a :: l => by
    simp only [List.map_cons, idx]
    rw [idx_map f p l]
theorem findT_names {s a : List TabT} (h : s.map TabT.name = a.map TabT.name) (n : Txt) : findT s n = findT a n := by
  unfold findT
  rw [idx_map TabT.name (fun x => decide (x = n)) s, idx_map TabT.name (fun x => decide (x = n)) a, h]
theorem Alt.find {s : List TabT} {c : ChgT} {k : Nat} {t u : TabT} (h : Alt s c k t u) (n : Txt) : findT (s.set k u) n = findT s n :=
  findT_names (map_set_same h.loc.tab h.name) n
theorem Alt.at {s : List TabT} {c : ChgT} {k : Nat} {t u : TabT} (h : Alt s c k t u) : (s.set k u)[k]? = some u := by
  simp [h.loc.lt]

/-- A change is told of what it may be told of. -/
theorem loc_mk {s : List TabT} {c : ChgT} {k : Nat} {t : TabT} (hv : validB s = true) (hf : formedB c = true) (hfind : findT s c.table = k) (ht : s[k]? = some t)
    (hcol : 0 ≤ colT t.attrs c.attr ∨ c.kind = 1) (hr : refT t (colT t.attrs c.attr) c = 0) : LocOk s c k t := by
  obtain ⟨k2, hk2, e, hn⟩ := findT_pos (s := s) (n := c.table) (by omega)
  have e2 : k2 = k := by omega
  subst e2
  have hg : s[k2] = t := by
    rw [List.getElem?_eq_getElem hk2] at ht
    exact Option.some.inj ht
  refine ⟨hv, hf, hk2, ht, hfind, hg ▸ hn, hcol, hr, ?_⟩
  unfold locT
  rw [if_neg (by simp [hv, hf]), if_neg (by omega), hfind, Int.toNat_natCast, ht]
  simp only
  rw [if_neg (by omega), hr]

/-! ### P6.5: what is added and dropped again. -/
def dropC (c : ChgT) : ChgT := ⟨2, c.table, c.name, [], 0, z3⟩
theorem add_form {s : List TabT} {c : ChgT} {k : Nat} {t u : TabT} (h : Alt s c k t u) (hk : c.kind = 1) : u = { t with attrs := t.attrs ++ [newA c] } ∧ typedB c.to c.dft = true := by
  rcases h.kinds with ⟨_, h1, _, _, h2⟩ | ⟨h2, _⟩ | ⟨h2, _⟩ | ⟨h2, _⟩
  · exact ⟨h1, h2⟩
  all_goals omega
theorem back_loc {s : List TabT} {c : ChgT} {k : Nat} {t u : TabT} (h : Alt s c k t u) (hk : c.kind = 1) : LocOk (s.set k u) (dropC c) k u ∧ colT u.attrs c.name = (t.attrs.length : Int) ∧ altT u t.attrs.length (dropC c) = t := by
  have hc := names_add h hk
  have hu := (add_form h hk).1
  have hlt : ∀ x ∈ t.key, x < (t.attrs.length : Int) := fun x hx => (h.t_ok.key.2.1 x hx).2
  refine ⟨?_, hc, ?_⟩
  · refine loc_mk h.valid (by simp [formedB, dropC]) ?_ h.at (.inl ?_) ?_
    · rw [h.find]; exact h.loc.find
    · show 0 ≤ colT u.attrs c.name
      omega
    · show refT u (colT u.attrs c.name) (dropC c) = 0
      unfold refT
      rw [if_neg (by simp [dropC]), if_pos (by simp [dropC]), hc]
      rw [if_neg ?_]
      intro hx
      rw [hu] at hx
      have := hlt _ hx
      omega
  · unfold altT
    rw [if_neg (by simp [dropC]), if_pos (by simp [dropC]), hu]
    apply TabT.ext'
    · rfl
    · simp [List.eraseIdx_append_of_length_le]
    · show t.key.map (lower t.attrs.length) = t.key
      rw [List.map_congr_left (g := id) (fun x hx => by
        have := hlt x hx
        unfold lower
        rw [if_neg (by omega)]
        rfl)]
      simp
theorem back_apply {s : List TabT} {c : ChgT} {k : Nat} {t u : TabT} (h : Alt s c k t u) (hk : c.kind = 1) : applyT (s.set k u) (dropC c) = (s, 0) := by
  obtain ⟨h1, h2, h3⟩ := back_loc h hk
  obtain ⟨u2, h4⟩ := alt_ok h1
  have e : u2 = t := by
    rw [h4.eq]
    show altT u (colT u.attrs c.name).toNat (dropC c) = t
    rw [h2, Int.toNat_natCast, h3]
  rw [h4.app, e, List.set_set]
  congr 1
  apply List.ext_getElem?
  intro j
  rw [List.getElem?_set]
  split
  · rename_i e2
    subst e2
    rw [h.loc.tab]
    simp [h.loc.lt]
  · rfl
end Go.Proofs.YteokcgfbhaeklaaGreatDoor

/- The fixed examples: what the functions answer. No program is imported. -/
namespace Go.Proofs.YteokcgfbhaeklaaGreatDoor
def xt : Txt := [116]
def xname : Txt := [110, 97, 109, 101]
def xage : Txt := [97, 103, 101]
def xyears : Txt := [121, 101, 97, 114, 115]
def xborn : Txt := [98, 111, 114, 110]
def xann : Txt := [97, 110, 110]
def smA1 : AttrT := ⟨xname, 1, [], z3⟩
def smA2 : AttrT := ⟨xage, 2, [xyears], z3⟩
def smTab : TabT := ⟨xt, [smA1, smA2], [0]⟩
def sampleT : List TabT := [smTab]
def rowS : List T3 := [(1, 0, xann), (2, 7, [])]
def hdA : ChgT := ⟨1, xt, [], xborn, 3, z3⟩
def hdB : ChgT := ⟨4, xt, xage, [], 1, z3⟩
def hdG : ChgT := ⟨2, xt, xname, [], 0, z3⟩
def hdH : ChgT := ⟨3, xt, xage, xyears, 0, z3⟩
def hdI : ChgT := ⟨4, xt, xname, [], 2, z3⟩
def hdD : ChgT := ⟨2, xt, xyears, [], 0, z3⟩
theorem hd_a : applyT sampleT hdA = ([⟨xt, [smA1, smA2, ⟨xborn, 3, [], z3⟩], [0]⟩], 0) := by decide +kernel
theorem hd_b : convT sampleT hdB 0 rowS = ([(1, 0, xann), (1, 0, [55])], 0) := by decide +kernel
theorem hd_g : applyT sampleT hdG = ([], 1) := by decide +kernel
theorem hd_h : applyT sampleT hdH = ([], 9) := by decide +kernel
theorem hd_i : convT sampleT hdI 0 rowS = ([], 15) := by decide +kernel
theorem hd_d : applyT sampleT hdD = ([⟨xt, [smA1], [0]⟩], 0) := by decide +kernel
theorem hd_v : validB sampleT = true := by decide +kernel
theorem hd_f : fitsB smTab.attrs rowS = true := by decide +kernel
theorem hd_c : colT smTab.attrs xyears = 1 := by decide +kernel
theorem hd_m : Mid sampleT := by
  refine ⟨by decide, fun t ht => ?_⟩
  rw [List.mem_singleton.1 ht]
  refine ⟨by decide, by decide, fun a ha => ?_⟩
  simp only [smTab, List.mem_cons, List.not_mem_nil, or_false] at ha
  rcases ha with rfl | rfl
  · decide
  · decide
end Go.Proofs.YteokcgfbhaeklaaGreatDoor

/- The plain mathematics of the laws: what a change makes of rows. No program is imported. -/
namespace Go.Proofs.YteokcgfbhaeklaaGreatDoor

namespace L2
theorem castT_fit (l : List UInt8) (kind : Int) (h : (castT l kind).2.2.2 = 0) : vldB (castT l kind).1 (castT l kind).2.1 (castT l kind).2.2.1 = true ∧ (castT l kind).1 = kind := by
  unfold castT at h ⊢
  split at h
  · rename_i h1
    rw [if_pos h1]
    rcases parse_cases l with ⟨e, _⟩ | ⟨k, n, t, e, hv, _⟩
    · rw [e] at h1; exact absurd h1.1 (by decide)
    · rw [e] at h1 ⊢
      exact ⟨hv, h1.2⟩
  · exact absurd h (by decide)
/-- A value that is cast fits the kind. -/
theorem cast_fit (k n : Int) (t : List UInt8) (kind : Int) (h : (cast k n t kind).2.2.2 = 0) :
    vldB (cast k n t kind).1 (cast k n t kind).2.1 (cast k n t kind).2.2.1 = true ∧ ((cast k n t kind).1 = 0 ∨ (cast k n t kind).1 = kind) := by
  unfold cast at h ⊢
  split at h
  · exact absurd h (by decide)
  · rename_i h1
    rw [if_neg h1]
    have hv : vldB k n t = true := by cases hb : vldB k n t <;> simp_all
    split at h
    · rename_i h2
      rw [if_pos h2]
      exact ⟨hv, h2⟩
    · rename_i h2
      rw [if_neg h2]
      split at h
      · rename_i h3
        rw [if_pos h3]
        refine ⟨vldB_mk (Or.inr (Or.inl ⟨rfl, rfl, ?_⟩)), .inr h3.symm⟩
        have hb := vld_bound hv
        have hi := Lib.itoa_length_le n (by omega) (by omega)
        show (txt k n t).length ≤ 200
        rcases vld_cases hv with rfl | rfl | rfl | rfl | rfl
        · rw [txt_null hv]; simp
        · exact absurd (Or.inr h3.symm) h2
        · rw [txt_num hv]; omega
        · rw [txt_day hv]; simp; omega
        · rw [txt_flag hv]; split <;> simp
      · rename_i h3
        rw [if_neg h3]
        split at h
        · rename_i h4
          rw [if_pos h4]
          exact ⟨(castT_fit t kind h).1, .inr (castT_fit t kind h).2⟩
        · rename_i h4
          rw [if_neg h4]
          split at h
          · exact absurd h (by decide)
          · rename_i h5
            rw [if_neg h5]
            unfold castN at h ⊢
            split at h
            · rename_i h6
              rw [if_pos h6]
              exact ⟨h6, .inr rfl⟩
            · exact absurd h (by decide)
end L2

theorem castV_fit {v : T3} {k : Int} (h : (castV v k).2 = 0) : fitB (castV v k).1 k = true := by
  have := L2.cast_fit v.1 v.2.1 v.2.2 k h
  unfold fitB vB
  simp only [Bool.and_eq_true, Bool.or_eq_true, decide_eq_true_eq]
  exact this

theorem fitsB_iff {l : List AttrT} {row : List T3} : fitsB l row = true ↔ row.length = l.length ∧ ∀ i (h1 : i < row.length) (h2 : i < l.length), fitB row[i] l[i].kind = true := by
  unfold fitsB
  simp only [Bool.and_eq_true, decide_eq_true_eq, List.all_eq_true]
  constructor
  · rintro ⟨h1, h2⟩
    refine ⟨h1, fun i h3 h4 => ?_⟩
    exact h2 (row[i], l[i]) (by
      have : (row.zip l)[i]'(by simp; omega) = (row[i], l[i]) := by simp
      rw [← this]
      exact List.getElem_mem _)
  · rintro ⟨h1, h2⟩
    refine ⟨h1, fun x hx => ?_⟩
    obtain ⟨i, hi, rfl⟩ := List.getElem_of_mem hx
    simp only [List.length_zip] at hi
    simp only [List.getElem_zip]
    exact h2 i (by omega) (by omega)
theorem typed_fit {k : Int} {v : T3} (h : typedB k v = true) : fitB v k = true := by
  unfold typedB at h
  simp only [Bool.and_eq_true] at h
  exact h.2

theorem conv_at {s : List TabT} {c : ChgT} {k : Nat} {t : TabT} (h : LocOk s c k t) {n : Nat} (hn : n < s.length) (row : List T3) :
    convT s c n row = if fitsB s[n].attrs row = false then ([], 1) else if n ≠ k then (row, 0) else rowT row (colT t.attrs c.attr).toNat c := by
  unfold convT
  rw [h.loc]
  simp only [ne_eq, not_true_eq_false, if_false, Int.toNat_natCast, List.getElem?_eq_getElem hn]
  by_cases hf : fitsB s[n].attrs row = false
  · rw [if_pos hf, if_pos (.inr hf)]
  · rw [if_neg hf, if_neg (fun x => x.elim (by omega) hf)]
    by_cases e : n = k
    · subst e
      simp
    · rw [if_pos e, if_pos (by omega)]
theorem conv_off {s : List TabT} {c : ChgT} (h : (locT s c).1 ≠ 0) (n : Int) (row : List T3) : convT s c n row = ([], (locT s c).1) := by
  unfold convT
  rw [if_pos h]
theorem app_err (s : List TabT) (c : ChgT) : (applyT s c).2 = (locT s c).1 := by
  unfold applyT
  split
  · rfl
  · rename_i h
    exact (Decidable.not_not.1 h).symm

/-- P6.4: what does not fit, or is not applied. -/
theorem rows_no {s : List TabT} {c : ChgT} {n : Nat} (hn : n < s.length) {row : List T3} (h : (applyT s c).2 ≠ 0 ∨ fitsB s[n].attrs row = false) :
    (convT s c n row).2 ≠ 0 ∧ (convT s c n row).1 = [] ∧ ((applyT s c).2 = 0 ∨ (applyT s c).2 = (convT s c n row).2) := by
  by_cases h1 : (locT s c).1 = 0
  · have h2 : (applyT s c).2 = 0 := (app_err s c).trans h1
    obtain ⟨k, t, h3⟩ := loc_ok h1
    rw [conv_at h3 hn, if_pos (h.resolve_left (by omega))]
    exact ⟨by decide, rfl, .inl h2⟩
  · rw [conv_off h1]
    exact ⟨h1, rfl, .inr (app_err s c)⟩

/-- Names are those of one table. -/
theorem tab_uniq {s : List TabT} (h : validB s = true) {i j : Nat} (hi : i < s.length) (hj : j < s.length) (e : s[i].name = s[j].name) : i = j := by
  have h1 := (validB_iff.1 h).2.2
  unfold namesB at h1
  simp only [Bool.and_eq_true, decide_eq_true_eq] at h1
  have h2 := h1.2
  exact (List.getElem_inj (i := i) (j := j) (h₀ := by simpa using hi) (h₁ := by simpa using hj) h2).1 (by simpa using e)
theorem LocOk.name_iff {s : List TabT} {c : ChgT} {k : Nat} {t : TabT} (h : LocOk s c k t) {n : Nat} (hn : n < s.length) : s[n].name = c.table ↔ n = k := by
  constructor
  · intro e
    exact tab_uniq h.valid hn h.lt (by rw [e, h.get, h.name])
  · rintro rfl
    rw [h.get, h.name]

/-- P6.4: a cast that is not possible. -/
theorem rows_cast {s : List TabT} {c : ChgT} {k : Nat} {t u : TabT} (h : Alt s c k t u) {n : Nat} (hn : n < s.length) {row : List T3} (hf : fitsB s[n].attrs row = true) (he : (convT s c n row).2 ≠ 0) :
    (convT s c n row).2 = 15 ∧ c.kind = 4 ∧ n = k ∧ ∃ p : Nat, colT t.attrs c.attr = p ∧ p < row.length ∧ (castV (row.getD p z3) c.to).2 ≠ 0 := by
  rw [conv_at h.loc hn, if_neg (by simp [hf])] at he ⊢
  by_cases e : n = k
  · subst e
    rw [if_neg (by omega)] at he ⊢
    have hl := (fitsB_iff.1 hf).1
    rw [h.loc.get] at hl
    rcases h.kinds with ⟨hk, _⟩ | ⟨hk, _⟩ | ⟨hk, _⟩ | ⟨hk, p, hp, hc, _⟩
    · unfold rowT at he; rw [if_pos hk] at he; exact absurd rfl he
    · unfold rowT at he; rw [if_neg (by omega), if_pos hk] at he; exact absurd rfl he
    · unfold rowT at he; rw [if_neg (by omega), if_neg (by omega), if_pos hk] at he; exact absurd rfl he
    · unfold rowT at he ⊢
      rw [if_neg (by omega), if_neg (by omega), if_neg (by omega), hc, Int.toNat_natCast] at he ⊢
      split at he
      · rename_i h2
        rw [if_pos h2]
        exact ⟨rfl, hk, rfl, p, rfl, by omega, h2⟩
      · exact absurd rfl he
  · rw [if_pos e] at he
    exact absurd rfl he

theorem set_at {s : List TabT} {k n : Nat} {u : TabT} (hn : n < s.length) (e : n ≠ k) : (s.set k u)[n]? = some s[n] := by
  rw [List.getElem?_set, if_neg (by omega), List.getElem?_eq_getElem hn]

/-- P6.4: a row that is converted: it fits, and what does not change is where it belongs. -/
theorem rowT_ok {s : List TabT} {c : ChgT} {k : Nat} {t u : TabT} (h : Alt s c k t u) {row : List T3} (hf : fitsB t.attrs row = true) (he : (rowT row (colT t.attrs c.attr).toNat c).2 = 0) :
    fitsB u.attrs (rowT row (colT t.attrs c.attr).toNat c).1 = true ∧ ∀ i (hi : i < row.length), 0 ≤ movT t.attrs c i →
      ∃ j : Nat, movT t.attrs c i = j ∧ ∃ hj : j < (rowT row (colT t.attrs c.attr).toNat c).1.length, ((rowT row (colT t.attrs c.attr).toNat c).1[j] = row[i] ∨ (c.kind = 4 ∧ (i : Int) = colT t.attrs c.attr)) := by
  obtain ⟨hl, hv⟩ := fitsB_iff.1 hf
  rcases h.kinds with ⟨hk, hu, _, _, hd⟩ | ⟨hk, p, hp, hc, hu, _⟩ | ⟨hk, p, hp, hc, hu, _⟩ | ⟨hk, p, hp, hc, hu, _⟩
  · have hr : rowT row (colT t.attrs c.attr).toNat c = (row ++ [c.dft], 0) := by unfold rowT; rw [if_pos hk]
    rw [hr, hu]
    constructor
    · refine fitsB_iff.2 ⟨by simp [hl], fun i h1 h2 => ?_⟩
      simp only [List.length_append, List.length_singleton] at h1 h2
      by_cases e : i < row.length
      · simp only [List.getElem_append_left e, List.getElem_append_left (show i < t.attrs.length by omega)]
        exact hv i e (by omega)
      · have e1 : i = row.length := by omega
        subst e1
        have e2 : (row ++ [c.dft])[row.length]'(by simp) = c.dft := by simp
        have e3 : (t.attrs ++ [newA c])[row.length]'(by simp; omega) = newA c := by simp [hl]
        show fitB ((row ++ [c.dft])[row.length]'(by simp)) ((t.attrs ++ [newA c])[row.length]'(by simp; omega)).kind = true
        rw [e2, e3]
        exact typed_fit hd
    · intro i hi _
      rw [movT_same (by omega)]
      exact ⟨i, rfl, by simp; omega, .inl (List.getElem_append_left hi)⟩
  · have hr : rowT row (colT t.attrs c.attr).toNat c = (row.eraseIdx p, 0) := by unfold rowT; rw [if_neg (by omega), if_pos hk, hc, Int.toNat_natCast]
    rw [hr, hu]
    have l1 : (row.eraseIdx p).length = row.length - 1 := List.length_eraseIdx_of_lt (by omega)
    have l2 : (t.attrs.eraseIdx p).length = t.attrs.length - 1 := List.length_eraseIdx_of_lt hp
    constructor
    · refine fitsB_iff.2 ⟨by simp only [l1, l2]; omega, fun i h1 h2 => ?_⟩
      simp only [l1, l2] at h1 h2
      simp only [List.getElem_eraseIdx]
      by_cases e : i < p
      · simp only [dif_pos e]; exact hv i (by omega) (by omega)
      · simp only [dif_neg e]; exact hv (i + 1) (by omega) (by omega)
    · intro i hi hm
      rw [movT_two hk hc] at hm ⊢
      unfold lower at hm ⊢
      split at hm
      · omega
      · rename_i hne
        rw [if_neg hne]
        by_cases hlt : (p : Int) < i
        · rw [if_pos hlt]
          refine ⟨i - 1, by omega, by simp only [l1]; omega, .inl ?_⟩
          simp only [List.getElem_eraseIdx, dif_neg (show ¬ i - 1 < p by omega)]
          have e : i - 1 + 1 = i := by omega
          simp only [e]
        · rw [if_neg hlt]
          refine ⟨i, rfl, by simp only [l1]; omega, .inl ?_⟩
          simp only [List.getElem_eraseIdx, dif_pos (show i < p by omega)]
  · have hr : rowT row (colT t.attrs c.attr).toNat c = (row, 0) := by unfold rowT; rw [if_neg (by omega), if_neg (by omega), if_pos hk]
    rw [hr, hu]
    constructor
    · refine fitsB_iff.2 ⟨by simpa using hl, fun i h1 h2 => ?_⟩
      simp only [List.length_modify] at h2
      simp only [List.getElem_modify]
      split
      · exact hv i h1 h2
      · exact hv i h1 h2
    · intro i hi _
      rw [movT_same (by omega)]
      exact ⟨i, rfl, hi, .inl rfl⟩
  · have hr : (castV (row.getD p z3) c.to).2 = 0 ∧ rowT row (colT t.attrs c.attr).toNat c = (row.set p (castV (row.getD p z3) c.to).1, 0) := by
      unfold rowT at he ⊢
      rw [if_neg (by omega), if_neg (by omega), if_neg (by omega), hc, Int.toNat_natCast] at he ⊢
      split at he
      · exact absurd he (by decide)
      · rename_i h2
        rw [if_neg h2]
        exact ⟨Decidable.not_not.1 h2, rfl⟩
    rw [hr.2, hu]
    constructor
    · refine fitsB_iff.2 ⟨by simpa using hl, fun i h1 h2 => ?_⟩
      simp only [List.length_modify] at h2
      simp only [List.length_set] at h1
      simp only [List.getElem_modify, List.getElem_set]
      split
      · exact castV_fit hr.1
      · exact hv i h1 h2
    · intro i hi _
      rw [movT_same (by omega)]
      refine ⟨i, rfl, by simpa using hi, ?_⟩
      by_cases e : p = i
      · subst e
        exact .inr ⟨hk, hc.symm⟩
      · exact .inl (List.getElem_set_ne e _)

/-- A row of a table that is added to and dropped from again. -/
theorem back_rows {s : List TabT} {c : ChgT} {k : Nat} {t u : TabT} (h : Alt s c k t u) (hk : c.kind = 1) {n : Nat} (hn : n < s.length) {row : List T3} (he : (convT s c n row).2 = 0) :
    convT (s.set k u) (dropC c) n (convT s c n row).1 = (row, 0) := by
  obtain ⟨h1, h2, _⟩ := back_loc h hk
  have hn2 : n < (s.set k u).length := by simpa using hn
  rw [conv_at h.loc hn] at he ⊢
  by_cases hf : fitsB s[n].attrs row = false
  · rw [if_pos hf] at he
    exact absurd he (by decide)
  · have hf' : fitsB s[n].attrs row = true := by simpa using hf
    rw [if_neg hf] at he ⊢
    rw [conv_at h1 hn2]
    by_cases e : n = k
    · subst e
      rw [if_neg (show ¬ (n ≠ n) by omega)] at he ⊢
      rw [h.loc.get] at hf'
      have h3 := (rowT_ok h hf' he).1
      have hr : rowT row (colT t.attrs c.attr).toNat c = (row ++ [c.dft], 0) := by unfold rowT; rw [if_pos hk]
      rw [hr] at h3 ⊢
      have hg : (s.set n u)[n] = u := by simp
      rw [hg, if_neg (by simp [h3]), if_neg (show ¬ (n ≠ n) by omega)]
      show rowT (row ++ [c.dft]) (colT u.attrs c.name).toNat (dropC c) = (row, 0)
      rw [h2, Int.toNat_natCast]
      unfold rowT
      rw [if_neg (by simp [dropC]), if_pos (by simp [dropC]), ← (fitsB_iff.1 hf').1]
      simp [List.eraseIdx_append_of_length_le]
    · rw [if_pos e]
      have hg : (s.set k u)[n] = s[n] := List.getElem_set_ne (by omega) _
      rw [hg, if_neg hf, if_pos e]

/-! ### P6.6: two changes of different tables. -/
theorem tabs_loc {s : List TabT} {c d : ChgT} {k j : Nat} {t u t2 : TabT} (h : Alt s c k t u) (h2 : LocOk s d j t2) (hne : c.table ≠ d.table) : k ≠ j ∧ LocOk (s.set k u) d j t2 := by
  have hkj : k ≠ j := by
    rintro rfl
    have e1 := h.loc.tab
    rw [h2.tab] at e1
    have e2 := Option.some.inj e1
    exact hne (by rw [← h.loc.name, ← h2.name, e2])
  refine ⟨hkj, loc_mk h.valid h2.formed (by rw [h.find]; exact h2.find) ?_ h2.col h2.ref⟩
  rw [List.getElem?_set, if_neg hkj]
  exact h2.tab
theorem tabs_alt {s : List TabT} {c d : ChgT} {k j : Nat} {t u t2 u2 : TabT} (h : Alt s c k t u) (h2 : Alt s d j t2 u2) (hne : c.table ≠ d.table) : Alt (s.set k u) d j t2 u2 := by
  obtain ⟨v, hv⟩ := alt_ok (tabs_loc h h2.loc hne).2
  have e : v = u2 := by rw [hv.eq, h2.eq]
  exact e ▸ hv
theorem tabs_apply {s : List TabT} {c d : ChgT} {k j : Nat} {t u t2 u2 : TabT} (h : Alt s c k t u) (h2 : Alt s d j t2 u2) (hne : c.table ≠ d.table) :
    ∃ x, applyT (s.set k u) d = (x, 0) ∧ applyT (s.set j u2) c = (x, 0) := by
  refine ⟨(s.set k u).set j u2, (tabs_alt h h2 hne).app, ?_⟩
  rw [(tabs_alt h2 h (fun e => hne e.symm)).app, List.set_comm _ _ (tabs_loc h h2.loc hne).1]
theorem conv_fits {s : List TabT} {c : ChgT} {k : Nat} {t : TabT} (h : LocOk s c k t) {n : Nat} (hn : n < s.length) {row : List T3} (he : (convT s c n row).2 = 0) : fitsB s[n].attrs row = true := by
  rw [conv_at h hn] at he
  by_cases hf : fitsB s[n].attrs row = false
  · rw [if_pos hf] at he
    exact absurd he (by decide)
  · simpa using hf
/-- A row of a table that the second change is not of. -/
theorem tabs_one {s : List TabT} {c d : ChgT} {k j : Nat} {t u t2 u2 : TabT} (h : Alt s c k t u) (h2 : Alt s d j t2 u2) (hne : c.table ≠ d.table) {n : Nat} (hn : n < s.length) (hj : n ≠ j) {row : List T3}
    (he : (convT s c n row).2 = 0) : convT (s.set k u) d n (convT s c n row).1 = ((convT s c n row).1, 0) ∧ convT s d n row = (row, 0) ∧ convT (s.set j u2) c n row = ((convT s c n row).1, 0) := by
  have hf := conv_fits h.loc hn he
  have h3 := tabs_alt h h2 hne
  have h4 := tabs_alt h2 h (fun e => hne e.symm)
  have g1 : (s.set j u2)[n]'(by simpa using hn) = s[n] := List.getElem_set_ne (by omega) _
  have e1 : convT (s.set j u2) c n row = convT s c n row := by
    rw [conv_at h4.loc (by simpa using hn), conv_at h.loc hn, g1]
  refine ⟨?_, ?_, ?_⟩
  · rw [conv_at h3.loc (by simpa using hn), if_pos hj]
    have hfit : fitsB ((s.set k u)[n]'(by simpa using hn)).attrs (convT s c n row).1 = true := by
      rw [conv_at h.loc hn] at he ⊢
      rw [if_neg (by simp [hf])] at he ⊢
      by_cases e : n = k
      · subst e
        rw [if_neg (show ¬ (n ≠ n) by omega)] at he ⊢
        rw [h.loc.get] at hf
        have hg : (s.set n u)[n]'(by simpa using hn) = u := by simp
        rw [hg]
        exact (rowT_ok h hf he).1
      · rw [if_pos e]
        have hg : (s.set k u)[n]'(by simpa using hn) = s[n] := List.getElem_set_ne (by omega) _
        rw [hg]
        exact hf
    rw [if_neg (by simp [hfit])]
  · rw [conv_at h2.loc hn, if_neg (by simp [hf]), if_pos hj]
  · rw [e1]
    exact Prod.ext rfl he
/-- Both orders convert a row alike. -/
theorem tabs_rows {s : List TabT} {c d : ChgT} {k j : Nat} {t u t2 u2 : TabT} (h : Alt s c k t u) (h2 : Alt s d j t2 u2) (hne : c.table ≠ d.table) {n : Nat} (hn : n < s.length) {row : List T3}
    (he : (convT s c n row).2 = 0) (he2 : (convT s d n row).2 = 0) :
    ∃ x, convT (s.set k u) d n (convT s c n row).1 = (x, 0) ∧ convT (s.set j u2) c n (convT s d n row).1 = (x, 0) := by
  by_cases hj : n = j
  · have hk : n ≠ k := fun e => (tabs_loc h h2.loc hne).1 (by omega)
    obtain ⟨h3, h4, h5⟩ := tabs_one h2 h (fun e => hne e.symm) hn hk he2
    exact ⟨(convT s d n row).1, by rw [h4]; exact h5, h3⟩
  · obtain ⟨h3, h4, h5⟩ := tabs_one h h2 hne hn hj he
    exact ⟨(convT s c n row).1, h3, by rw [h4]; exact h5⟩
end Go.Proofs.YteokcgfbhaeklaaGreatDoor

/- The plain mathematics of the reference's guesses. -/
namespace Go.Proofs.YteokcgfbhaeklaaGreatDoor.L2
/-- What the reference reads between quotes: it leaves the last byte out. -/
def runq : List UInt8 → List UInt8
  | [] => []
  | [_] => []
  | c :: d :: r => if c.toNat = 92 then (if d.toNat = 110 then 10 else d) :: runq r else c :: runq (d :: r)
theorem runq_short (l : List UInt8) (h : l.length ≤ 1) : runq l = [] := by
  cases l with
  | nil => rfl
  | cons c r => cases r with
    | nil => rfl
    | cons d r => simp at h
theorem runq_esc (d : UInt8) (r : List UInt8) : runq (92 :: d :: r) = (if d.toNat = 110 then 10 else d) :: runq r := by
  rw [runq, if_pos (by decide)]
theorem runq_plain {c : UInt8} (h : c.toNat ≠ 92) (r : List UInt8) (hr : r ≠ []) : runq (c :: r) = c :: runq r := by
  cases r with
  | nil => exact absurd rfl hr
  | cons d r => rw [runq, if_neg h]
theorem runq_flat : ∀ t : List UInt8, runq (t.flatMap esc ++ [34]) = t
  | [] => rfl
  | c :: t => by
    have ih := runq_flat t
    have hne : t.flatMap esc ++ [34] ≠ [] := by simp
    rw [List.flatMap_cons, List.append_assoc]
    by_cases h : c.toNat = 34 ∨ c.toNat = 92
    · have e : esc c = [92, c] := by unfold esc; rw [if_pos h]
      rw [e, List.cons_append, List.cons_append, List.nil_append, runq_esc, if_neg (by omega), ih]
    · by_cases h10 : c.toNat = 10
      · have e : esc c = [92, 110] := by unfold esc; rw [if_neg h, if_pos h10]
        rw [e, List.cons_append, List.cons_append, List.nil_append, runq_esc, if_pos (by decide), ih]
        congr 1
        exact (UInt8.toNat_inj.1 (by rw [h10]; rfl)).symm
      · have e : esc c = [c] := by unfold esc; rw [if_neg h, if_neg h10]
        rw [e, List.cons_append, List.nil_append, runq_plain (by omega) _ hne, ih]

/-- One digit more, in 64 bits. -/
def numS (v : Nat) (c : UInt8) : Nat := if 48 ≤ c.toNat ∧ c.toNat ≤ 57 then (v * 10 + (c.toNat - 48)) % 18446744073709551616 else v
def numM (v : Nat) : List UInt8 → Nat
  | [] => v
  | c :: r => numM (numS v c) r
theorem numM_app (a b : List UInt8) : ∀ v, numM v (a ++ b) = numM (numM v a) b := by
  induction a with
  | nil => intro v; rfl
  | cons c a ih => intro v; exact ih _
theorem numM_dec (u : Nat) (hu : u ≤ 1000000000000) : numM 0 (Lib.decDigits u) = u := by
  induction u using Nat.strongRecOn with
  | _ u ih =>
    rw [Lib.decDigits]
    split
    · rename_i h
      show numS 0 _ = u
      unfold numS
      rw [ofNat_dig h, if_pos (by omega)]
      omega
    · rename_i h
      rw [numM_app, ih (u / 10) (by omega) (by omega)]
      show numS _ _ = u
      unfold numS
      rw [ofNat_dig (by omega), if_pos (by omega)]
      omega
theorem dec_short (k : Nat) : ∀ u, u < 10 ^ (k + 1) → (Lib.decDigits u).length ≤ k + 1 := by
  induction k with
  | zero => intro u h; rw [Lib.decDigits, dif_pos (by simpa using h)]; simp
  | succ k ih =>
    intro u h
    rw [Lib.decDigits]
    split
    · simp
    · rw [List.length_append, List.length_singleton]
      have := ih (u / 10) (by rw [Nat.pow_succ] at h; omega)
      omega
/-- What the reference's Number makes of the text of a number. -/
theorem num_neg {n : Int} {l : List UInt8} (h0 : -1000000000 ≤ n) (h : Lib.itoa n = l) (hn : n < 0) : (numM 0 (l.take 20) : Int) = -n ∧ ∃ r, l = 45 :: r := by
  rw [itoa_neg hn] at h
  have hl := dec_short 9 n.natAbs (by omega)
  refine ⟨?_, _, h.symm⟩
  rw [← h, List.take_of_length_le (by simp; omega)]
  have e : numM 0 (45 :: Lib.decDigits n.natAbs) = numM 0 (Lib.decDigits n.natAbs) := rfl
  rw [e, numM_dec _ (by omega)]
  omega
theorem num_pos {n : Int} {l : List UInt8} (h1 : n ≤ 1000000000) (h : Lib.itoa n = l) (hn : 0 ≤ n) : (numM 0 (l.take 20) : Int) = n ∧ ∃ c r, l = c :: r ∧ c.toNat ≠ 45 := by
  rw [itoa_pos hn] at h
  have hl := dec_short 9 n.natAbs (by omega)
  have hd := dec_digs n.natAbs
  have hne := dec_ne n.natAbs
  refine ⟨?_, ?_⟩
  · rw [← h, List.take_of_length_le (by omega), numM_dec _ (by omega)]
    omega
  · rw [h] at hd hne
    cases l with
    | nil => exact absurd rfl hne
    | cons c r =>
      have := hd c (by simp)
      unfold IsDig at this
      exact ⟨c, r, rfl, by omega⟩
end Go.Proofs.YteokcgfbhaeklaaGreatDoor.L2

