/- The plain mathematics of ratios: no program is imported. -/
namespace Go.Proofs.YtoifcfocffcmcaaDoor.L1
/-- A ratio is valid: in lowest terms and within the limits. -/
def Vld (n d : Int) : Prop := 1 ≤ d ∧ d ≤ 1000000000 ∧ -1000000000 ≤ n ∧ n ≤ 1000000000 ∧ Nat.gcd n.natAbs d.natAbs = 1
instance (n d : Int) : Decidable (Vld n d) := by unfold Vld; infer_instance
def vldB (n d : Int) : Bool := decide (Vld n d)
theorem vldB_true {n d : Int} (h : vldB n d = true) : Vld n d := of_decide_eq_true h
theorem vldB_mk {n d : Int} (h : Vld n d) : vldB n d = true := decide_eq_true h
theorem vldB_false {n d : Int} (h : ¬ Vld n d) : vldB n d = false := decide_eq_false h

/-- What Make returns: numerator, denominator, error. -/
def mk (n d : Int) : Int × Int × Int :=
  if d = 0 then (0, 0, 1)
  else if n.natAbs / Nat.gcd n.natAbs d.natAbs ≤ 1000000000 ∧ d.natAbs / Nat.gcd n.natAbs d.natAbs ≤ 1000000000 then
    (if (n < 0) ↔ (d < 0) then ((n.natAbs / Nat.gcd n.natAbs d.natAbs : Nat) : Int) else -((n.natAbs / Nat.gcd n.natAbs d.natAbs : Nat) : Int), ((d.natAbs / Nat.gcd n.natAbs d.natAbs : Nat) : Int), 0)
  else (0, 0, 2)
def mkN (n d : Int) : Int := (mk n d).1
def mkD (n d : Int) : Int := (mk n d).2.1
def mkE (n d : Int) : Int := (mk n d).2.2

/-- What the operations return: numerator, denominator, error. -/
def opr (c : Bool) (x y : Int) : Int × Int × Int := if c then mk x y else (0, 0, 1)

theorem mk_zero (n : Int) : mk n 0 = (0, 0, 1) := by unfold mk; rw [if_pos rfl]

/-- Uniqueness: the one valid ratio that stands for the quotient is what Make returns. -/
theorem mk_uniq {n d a b : Int} (hd : d ≠ 0) (hv : Vld a b) (he : a * d = n * b) : mk n d = (a, b, 0) := by
  obtain ⟨b1, b2, a1, a2, hg⟩ := hv
  have hb : (b.natAbs : Int) = b := by omega
  have e1 : a.natAbs * d.natAbs = n.natAbs * b.natAbs := by rw [← Int.natAbs_mul, ← Int.natAbs_mul, he]
  have hdv : b.natAbs ∣ d.natAbs := by
    have h1 : b.natAbs ∣ a.natAbs * d.natAbs := ⟨n.natAbs, by rw [e1, Nat.mul_comm]⟩
    exact Nat.Coprime.dvd_of_dvd_mul_left (Nat.Coprime.symm hg) h1
  obtain ⟨k, hk⟩ := hdv
  have hk0 : 0 < k := by
    rcases Nat.eq_zero_or_pos k with h | h
    · subst h; omega
    · exact h
  have hn : n.natAbs = a.natAbs * k := by
    have hb0 : 0 < b.natAbs := by omega
    apply Nat.eq_of_mul_eq_mul_right hb0
    rw [← e1, hk, Nat.mul_assoc, Nat.mul_comm k]
  have hgcd : Nat.gcd n.natAbs d.natAbs = k := by
    rw [hn, hk, Nat.gcd_mul_right, hg, Nat.one_mul]
  have hp : n.natAbs / Nat.gcd n.natAbs d.natAbs = a.natAbs := by rw [hgcd, hn]; exact Nat.mul_div_cancel _ hk0
  have hq : d.natAbs / Nat.gcd n.natAbs d.natAbs = b.natAbs := by rw [hgcd, hk]; exact Nat.mul_div_cancel _ hk0
  unfold mk
  rw [if_neg hd, hp, hq, if_pos (by omega), hb]
  have hs : (if (n < 0) ↔ (d < 0) then ((a.natAbs : Nat) : Int) else -((a.natAbs : Nat) : Int)) = a := by
    rcases Int.lt_trichotomy a 0 with ha | ha | ha
    · -- a is negative: n and d have different signs
      have hne : ¬ ((n < 0) ↔ (d < 0)) := by
        intro h
        by_cases hd' : d < 0
        · have hn' := h.2 hd'
          have x1 : 0 < a * d := Int.mul_pos_of_neg_of_neg ha hd'
          have x2 : n * b < 0 := Int.mul_neg_of_neg_of_pos hn' (by omega)
          omega
        · have hn' : 0 ≤ n := by
            rcases Int.lt_or_le n 0 with h1 | h1
            · exact absurd (h.1 h1) hd'
            · exact h1
          have x1 : a * d < 0 := Int.mul_neg_of_neg_of_pos ha (by omega)
          have x2 : 0 ≤ n * b := Int.mul_nonneg hn' (by omega)
          omega
      rw [if_neg hne]; omega
    · subst ha
      simp
    · have hyes : (n < 0) ↔ (d < 0) := by
        constructor
        · intro h
          have x2 : n * b < 0 := Int.mul_neg_of_neg_of_pos h (by omega)
          rcases Int.lt_or_le d 0 with h1 | h1
          · exact h1
          · have : 0 ≤ a * d := Int.mul_nonneg (by omega) h1
            omega
        · intro h
          have x1 : a * d < 0 := Int.mul_neg_of_pos_of_neg ha h
          rcases Int.lt_or_le n 0 with h1 | h1
          · exact h1
          · have : 0 ≤ n * b := Int.mul_nonneg h1 (by omega)
            omega
      rw [if_pos hyes]; omega
  rw [hs]

/-- Existence: unless it is out of range, Make returns a valid ratio that stands for the quotient. -/
theorem mk_spec (n d : Int) (hd : d ≠ 0) : mk n d = (0, 0, 2) ∨ ∃ a b, mk n d = (a, b, 0) ∧ Vld a b ∧ a * d = n * b := by
  by_cases h : n.natAbs / Nat.gcd n.natAbs d.natAbs ≤ 1000000000 ∧ d.natAbs / Nat.gcd n.natAbs d.natAbs ≤ 1000000000
  · right
    have hg : 0 < Nat.gcd n.natAbs d.natAbs := Nat.gcd_pos_of_pos_right _ (by omega)
    generalize hgg : Nat.gcd n.natAbs d.natAbs = g at *
    have d1 : n.natAbs / g * g = n.natAbs := Nat.div_mul_cancel (hgg ▸ Nat.gcd_dvd_left _ _)
    have d2 : d.natAbs / g * g = d.natAbs := Nat.div_mul_cancel (hgg ▸ Nat.gcd_dvd_right _ _)
    have hc : Nat.gcd (n.natAbs / g) (d.natAbs / g) = 1 := by
      have := Nat.gcd_mul_right (n.natAbs / g) g (d.natAbs / g)
      rw [d1, d2, hgg] at this
      have h1 : 1 * g = Nat.gcd (n.natAbs / g) (d.natAbs / g) * g := by omega
      exact (Nat.eq_of_mul_eq_mul_right hg h1).symm
    generalize n.natAbs / g = p at *
    generalize d.natAbs / g = q at *
    have hq : 0 < q := by
      rcases Nat.eq_zero_or_pos q with h0 | h0
      · subst h0; simp at d2; omega
      · exact h0
    have e : mk n d = (if (n < 0) ↔ (d < 0) then ((p : Nat) : Int) else -((p : Nat) : Int), (q : Int), 0) := by
      unfold mk
      rw [if_neg hd, hgg]
      rw [show n.natAbs / g = p from Nat.div_eq_of_eq_mul_left hg d1.symm, show d.natAbs / g = q from Nat.div_eq_of_eq_mul_left hg d2.symm, if_pos h]
    refine ⟨_, _, e, ⟨by omega, by omega, ?_, ?_, ?_⟩, ?_⟩
    · split <;> omega
    · split <;> omega
    · rw [show (if (n < 0) ↔ (d < 0) then ((p : Nat) : Int) else -((p : Nat) : Int)).natAbs = p by split <;> omega]
      simpa using hc
    · have x1 : (n.natAbs : Int) = p * g := by rw [← d1]; simp
      have x2 : (d.natAbs : Int) = q * g := by rw [← d2]; simp
      have key : (p : Int) * (q * g) = (p * g) * q := by
        rw [Int.mul_assoc, Int.mul_comm (g : Int) q]
      by_cases sn : n < 0 <;> by_cases sd : d < 0
      · rw [if_pos (by omega), show n = -(p * g : Int) by omega, show d = -(q * g : Int) by omega, Int.mul_neg, Int.neg_mul, key]
      · rw [if_neg (by omega), show n = -(p * g : Int) by omega, show d = (q * g : Int) by omega, Int.neg_mul, Int.neg_mul, key]
      · rw [if_neg (by omega), show n = (p * g : Int) by omega, show d = -(q * g : Int) by omega, Int.mul_neg, Int.neg_mul, Int.neg_neg, key]
      · rw [if_pos (by omega), show n = (p * g : Int) by omega, show d = (q * g : Int) by omega, key]
  · left
    unfold mk
    rw [if_neg hd, if_neg h]

/-- Make depends on the quotient alone. -/
theorem mk_congr {n d m e : Int} (hd : d ≠ 0) (he : e ≠ 0) (h : n * e = m * d) : mk n d = mk m e := by
  have one : ∀ {n d m e a b : Int}, d ≠ 0 → e ≠ 0 → n * e = m * d → Vld a b → a * d = n * b → mk m e = (a, b, 0) := by
    intro n d m e a b hd he h hv hab
    apply mk_uniq he hv
    apply Int.eq_of_mul_eq_mul_right hd
    calc a * e * d = a * d * e := Int.mul_right_comm _ _ _
      _ = n * b * e := by rw [hab]
      _ = n * e * b := Int.mul_right_comm _ _ _
      _ = m * d * b := by rw [h]
      _ = m * b * d := Int.mul_right_comm _ _ _
  rcases mk_spec n d hd with h1 | ⟨a, b, h1, hv, hab⟩
  · rcases mk_spec m e he with h2 | ⟨a, b, h2, hv, hab⟩
    · rw [h1, h2]
    · rw [h2, one he hd h.symm hv hab]
  · rw [h1, one hd he h hv hab]
end Go.Proofs.YtoifcfocffcmcaaDoor.L1
