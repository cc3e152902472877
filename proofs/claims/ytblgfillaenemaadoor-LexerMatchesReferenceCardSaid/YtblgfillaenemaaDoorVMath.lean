/- The plain mathematics of values: no program is imported. -/
import Derived.Lib.ItoaLen
import Derived.Lib.Hide
namespace Go.Proofs.YtblgfillaenemaaDoor.L2
/-- A value is valid. -/
def Vld (k n : Int) (t : List UInt8) : Prop :=
  (k = 0 ∧ n = 0 ∧ t = []) ∨ (k = 1 ∧ n = 0 ∧ t.length ≤ 200) ∨ (k = 2 ∧ -1000000000 ≤ n ∧ n ≤ 1000000000 ∧ t = []) ∨ (k = 3 ∧ 0 ≤ n ∧ n ≤ 73048 ∧ t = []) ∨ (k = 4 ∧ 0 ≤ n ∧ n ≤ 1 ∧ t = [])
instance (k n : Int) (t : List UInt8) : Decidable (Vld k n t) := by unfold Vld; infer_instance
def vldB (k n : Int) (t : List UInt8) : Bool := decide (Vld k n t)
theorem vldB_true {k n : Int} {t : List UInt8} (h : vldB k n t = true) : Vld k n t := of_decide_eq_true h
theorem vldB_mk {k n : Int} {t : List UInt8} (h : Vld k n t) : vldB k n t = true := decide_eq_true h
theorem vldB_false {k n : Int} {t : List UInt8} (h : ¬ Vld k n t) : vldB k n t = false := decide_eq_false h
theorem vldB_iff {k n : Int} {t : List UInt8} {b : Bool} (h : b = true ↔ Vld k n t) : b = vldB k n t := by
  rw [Bool.eq_iff_iff, h]; exact ⟨vldB_mk, vldB_true⟩

/-- The three-way comparison of numbers. -/
def cmpI (x y : Int) : Int := if x < y then -1 else if y < x then 1 else 0
theorem cmpI_lt {x y : Int} (h : x < y) : cmpI x y = -1 := if_pos h
theorem cmpI_gt {x y : Int} (h : y < x) : cmpI x y = 1 := by unfold cmpI; rw [if_neg (by omega), if_pos h]
theorem cmpI_self (x : Int) : cmpI x x = 0 := by unfold cmpI; rw [if_neg (by omega), if_neg (by omega)]
theorem cmpI_cases (x y : Int) : (x < y ∧ cmpI x y = -1) ∨ (y < x ∧ cmpI x y = 1) ∨ (x = y ∧ cmpI x y = 0) := by
  unfold cmpI; split
  · exact Or.inl ⟨by omega, rfl⟩
  · split
    · exact Or.inr (Or.inl ⟨by omega, rfl⟩)
    · exact Or.inr (Or.inr ⟨by omega, rfl⟩)

/-- The order of texts by their bytes. -/
def ltS : List UInt8 → List UInt8 → Bool
  | _, [] => false
  | [], _ :: _ => true
  | a :: x, b :: y => decide (a.toNat < b.toNat) || (decide (a.toNat = b.toNat) && ltS x y)
theorem ltS_irrefl : ∀ x, ltS x x = false
  | [] => rfl
  | a :: x => by simp [ltS, ltS_irrefl x]
theorem ltS_asymm : ∀ x y, ltS x y = true → ltS y x = false
  | [], [], h => by simp [ltS] at h
  | [], _ :: _, _ => rfl
  | _ :: _, [], h => by simp [ltS] at h
  | a :: x, b :: y, h => by
    simp only [ltS, Bool.or_eq_true, Bool.and_eq_true, decide_eq_true_eq] at h
    rcases h with h | ⟨h, h2⟩
    · simp [ltS]; omega
    · simp [ltS, h, ltS_asymm x y h2]
theorem ltS_total : ∀ x y, x ≠ y → ltS x y = true ∨ ltS y x = true
  | [], [], h => absurd rfl h
  | [], _ :: _, _ => Or.inl rfl
  | _ :: _, [], _ => Or.inr rfl
  | a :: x, b :: y, h => by
    rcases Nat.lt_trichotomy a.toNat b.toNat with h1 | h1 | h1
    · exact Or.inl (by simp [ltS, h1])
    · have hxy : x ≠ y := fun e => h (by rw [e, UInt8.toNat_inj.1 h1])
      rcases ltS_total x y hxy with h2 | h2
      · exact Or.inl (by simp [ltS, h1, h2])
      · exact Or.inr (by simp [ltS, h1, h2])
    · exact Or.inr (by simp [ltS, h1])
theorem ltS_trans : ∀ x y z, ltS x y = true → ltS y z = true → ltS x z = true
  | _, [], _, h, _ => by unfold ltS at h; cases h
  | _, _ :: _, [], _, h => by unfold ltS at h; cases h
  | [], _ :: _, _ :: _, _, _ => rfl
  | a :: x, b :: y, c :: z, h, k => by
    simp only [ltS, Bool.or_eq_true, Bool.and_eq_true, decide_eq_true_eq] at h k ⊢
    rcases h with h | ⟨h, h2⟩ <;> rcases k with k | ⟨k, k2⟩
    · exact Or.inl (by omega)
    · exact Or.inl (by omega)
    · exact Or.inl (by omega)
    · exact Or.inr ⟨by omega, ltS_trans x y z h2 k2⟩
/-- The three-way comparison of texts. -/
def cmpS (x y : List UInt8) : Int := if ltS x y then -1 else if ltS y x then 1 else 0
theorem cmpS_self (x : List UInt8) : cmpS x x = 0 := by unfold cmpS; rw [ltS_irrefl]; rfl
theorem cmpS_cases (x y : List UInt8) : (ltS x y = true ∧ ltS y x = false ∧ cmpS x y = -1) ∨ (ltS y x = true ∧ ltS x y = false ∧ cmpS x y = 1) ∨ (x = y ∧ cmpS x y = 0) := by
  by_cases e : x = y
  · subst e; exact Or.inr (Or.inr ⟨rfl, cmpS_self x⟩)
  · rcases ltS_total x y e with h | h
    · exact Or.inl ⟨h, ltS_asymm _ _ h, by unfold cmpS; rw [h]; rfl⟩
    · have h2 := ltS_asymm _ _ h
      exact Or.inr (Or.inl ⟨h, h2, by unfold cmpS; rw [h, h2]; rfl⟩)

/-- The first of two comparisons that tells a difference. -/
def or2 (x y : Int) : Int := if x = 0 then y else x
theorem or2_zero (y : Int) : or2 0 y = y := rfl
theorem or2_ne {x : Int} (h : x ≠ 0) (y : Int) : or2 x y = x := if_neg h

/-- The order of values. -/
def cmpV (k n : Int) (t : List UInt8) (k2 n2 : Int) (t2 : List UInt8) : Int := or2 (cmpI k k2) (or2 (cmpI n n2) (cmpS t t2))

theorem cmpV_self (k n : Int) (t : List UInt8) : cmpV k n t k n t = 0 := by
  unfold cmpV; rw [cmpI_self, cmpI_self, cmpS_self]; rfl
theorem cmpV_range (k n : Int) (t : List UInt8) (k2 n2 : Int) (t2 : List UInt8) : cmpV k n t k2 n2 t2 = -1 ∨ cmpV k n t k2 n2 t2 = 0 ∨ cmpV k n t k2 n2 t2 = 1 := by
  unfold cmpV or2
  rcases cmpI_cases k k2 with ⟨_, h⟩ | ⟨_, h⟩ | ⟨_, h⟩ <;> rcases cmpI_cases n n2 with ⟨_, g⟩ | ⟨_, g⟩ | ⟨_, g⟩ <;> rcases cmpS_cases t t2 with ⟨_, _, f⟩ | ⟨_, _, f⟩ | ⟨_, f⟩ <;> rw [h, g, f] <;> decide
theorem cmpV_neg (k n : Int) (t : List UInt8) (k2 n2 : Int) (t2 : List UInt8) : cmpV k2 n2 t2 k n t = -cmpV k n t k2 n2 t2 := by
  have hI : ∀ x y : Int, cmpI y x = -cmpI x y := by
    intro x y; unfold cmpI; split <;> split <;> first | omega | (split <;> omega) | rfl
  have hS : ∀ x y, cmpS y x = -cmpS x y := by
    intro x y
    rcases cmpS_cases x y with ⟨h1, h2, h3⟩ | ⟨h1, h2, h3⟩ | ⟨rfl, h3⟩
    · rw [h3]; unfold cmpS; rw [h1, h2]; rfl
    · rw [h3]; unfold cmpS; rw [h1]; rfl
    · rw [h3]; rfl
  have hO : ∀ x y : Int, or2 (-x) (-y) = -or2 x y := by
    intro x y; unfold or2; split <;> split <;> omega
  unfold cmpV
  rw [hI k k2, hI n n2, hS t t2, hO, hO]
theorem cmpV_zero {k n : Int} {t : List UInt8} {k2 n2 : Int} {t2 : List UInt8} (h : cmpV k n t k2 n2 t2 = 0) : k = k2 ∧ n = n2 ∧ t = t2 := by
  unfold cmpV or2 at h
  rcases cmpI_cases k k2 with ⟨_, e⟩ | ⟨_, e⟩ | ⟨e1, e⟩
  · rw [e, if_neg (by decide)] at h; cases h
  · rw [e, if_neg (by decide)] at h; cases h
  · rw [e, if_pos rfl] at h
    rcases cmpI_cases n n2 with ⟨_, e⟩ | ⟨_, e⟩ | ⟨e2, e⟩
    · rw [e, if_neg (by decide)] at h; cases h
    · rw [e, if_neg (by decide)] at h; cases h
    · rw [e, if_pos rfl] at h
      rcases cmpS_cases t t2 with ⟨_, _, e⟩ | ⟨_, _, e⟩ | ⟨e3, e⟩
      · rw [e] at h; cases h
      · rw [e] at h; cases h
      · exact ⟨e1, e2, e3⟩
/-- Strictly before. -/
def ltV (k n : Int) (t : List UInt8) (k2 n2 : Int) (t2 : List UInt8) : Prop := k < k2 ∨ (k = k2 ∧ (n < n2 ∨ (n = n2 ∧ ltS t t2 = true)))
theorem cmpV_lt {k n : Int} {t : List UInt8} {k2 n2 : Int} {t2 : List UInt8} : cmpV k n t k2 n2 t2 = -1 ↔ ltV k n t k2 n2 t2 := by
  unfold cmpV or2 ltV
  rcases cmpI_cases k k2 with ⟨a, e⟩ | ⟨a, e⟩ | ⟨a, e⟩
  · rw [e, if_neg (by decide)]; exact ⟨fun _ => Or.inl a, fun _ => rfl⟩
  · rw [e, if_neg (by decide)]; exact ⟨(fun h => by cases h), (fun h => by omega)⟩
  · rw [e, if_pos rfl]
    rcases cmpI_cases n n2 with ⟨b, e⟩ | ⟨b, e⟩ | ⟨b, e⟩
    · rw [e, if_neg (by decide)]; exact ⟨fun _ => Or.inr ⟨a, Or.inl b⟩, fun _ => rfl⟩
    · rw [e, if_neg (by decide)]; exact ⟨(fun h => by cases h), (fun h => by omega)⟩
    · rw [e, if_pos rfl]
      rcases cmpS_cases t t2 with ⟨c, _, e⟩ | ⟨_, c, e⟩ | ⟨c, e⟩
      · rw [e]; exact ⟨fun _ => Or.inr ⟨a, Or.inr ⟨b, c⟩⟩, fun _ => rfl⟩
      · rw [e, c]; exact ⟨(fun h => by cases h), (fun h => by rcases h with h | ⟨_, h | ⟨_, h⟩⟩ <;> first | omega | cases h)⟩
      · subst c; rw [e, ltS_irrefl]; exact ⟨(fun h => by cases h), (fun h => by rcases h with h | ⟨_, h | ⟨_, h⟩⟩ <;> first | omega | cases h)⟩
theorem ltV_trans {k n : Int} {t : List UInt8} {k2 n2 : Int} {t2 : List UInt8} {k3 n3 : Int} {t3 : List UInt8} (h : ltV k n t k2 n2 t2) (g : ltV k2 n2 t2 k3 n3 t3) : ltV k n t k3 n3 t3 := by
  unfold ltV at *
  rcases h with h | ⟨h, h1 | ⟨h1, h2⟩⟩ <;> rcases g with g | ⟨g, g1 | ⟨g1, g2⟩⟩
  · exact Or.inl (by omega)
  · exact Or.inl (by omega)
  · exact Or.inl (by omega)
  · exact Or.inl (by omega)
  · exact Or.inr ⟨by omega, Or.inl (by omega)⟩
  · exact Or.inr ⟨by omega, Or.inl (by omega)⟩
  · exact Or.inl (by omega)
  · exact Or.inr ⟨by omega, Or.inl (by omega)⟩
  · exact Or.inr ⟨by omega, Or.inr ⟨by omega, ltS_trans _ _ _ h2 g2⟩⟩
theorem cmpV_trans {k n : Int} {t : List UInt8} {k2 n2 : Int} {t2 : List UInt8} {k3 n3 : Int} {t3 : List UInt8} (h : cmpV k n t k2 n2 t2 ≤ 0) (g : cmpV k2 n2 t2 k3 n3 t3 ≤ 0) : cmpV k n t k3 n3 t3 ≤ 0 := by
  rcases cmpV_range k n t k2 n2 t2 with e | e | e
  · rcases cmpV_range k2 n2 t2 k3 n3 t3 with f | f | f
    · have := cmpV_lt.2 (ltV_trans (cmpV_lt.1 e) (cmpV_lt.1 f)); omega
    · obtain ⟨rfl, rfl, rfl⟩ := cmpV_zero f; omega
    · omega
  · obtain ⟨rfl, rfl, rfl⟩ := cmpV_zero e; exact g
  · omega
/-- How a byte is written between quotes. -/
def esc (c : UInt8) : List UInt8 := if c.toNat = 34 ∨ c.toNat = 92 then [92, c] else if c.toNat = 10 then [92, 110] else [c]
/-- The text of a text. -/
def quo (t : List UInt8) : List UInt8 := 34 :: (t.flatMap esc ++ [34])
/-- What stands after k bytes. -/
def qk (l : List UInt8) (k : Nat) : List UInt8 := 34 :: (l.take k).flatMap esc
theorem qk_succ (l : List UInt8) (k : Nat) (hk : k < l.length) : qk l (k + 1) = qk l k ++ esc l[k] := by
  unfold qk
  rw [List.take_succ_eq_append_getElem hk, List.flatMap_append]
  simp
theorem qk_end (l : List UInt8) : quo l = qk l l.length ++ [34] := by unfold quo qk; rw [List.take_length]; rfl
theorem esc_len (c : UInt8) : (esc c).length ≤ 2 := by unfold esc; split; simp; split <;> simp
theorem flat_len : ∀ l : List UInt8, (l.flatMap esc).length ≤ 2 * l.length
  | [] => by simp
  | c :: l => by rw [List.flatMap_cons, List.length_append, List.length_cons]; have := flat_len l; have := esc_len c; omega
theorem qk_len (l : List UInt8) (k : Nat) : (qk l k).length ≤ 1 + 2 * l.length := by
  unfold qk
  rw [List.length_cons]
  have := flat_len (l.take k)
  have := List.length_take_le k l
  have : (l.take k).length ≤ l.length := by rw [List.length_take]; omega
  omega
theorem quo_len (l : List UInt8) : (quo l).length ≤ 2 + 2 * l.length := by
  rw [qk_end, List.length_append]; have := qk_len l l.length; simp; omega
end Go.Proofs.YtblgfillaenemaaDoor.L2
