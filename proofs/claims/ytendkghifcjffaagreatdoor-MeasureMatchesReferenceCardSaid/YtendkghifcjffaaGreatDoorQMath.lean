/- Shares of a whole as ratios: bounds, comparison; the triangle inequality of what sets have in common. -/
import Derived.Test.YtendkghifcjffaaGreatDoorRMath
import Derived.Test.YtendkghifcjffaaGreatDoorPMath
namespace Go.Proofs.YtendkghifcjffaaGreatDoor
open L1

/-- A part of a whole as a ratio. -/
def shr (p q : Int) : Int × Int := if (mk p q).2.2 = 0 then ((mk p q).1, (mk p q).2.1) else (0, 1)

theorem mk_in {p q : Int} (h0 : 0 ≤ p) (h1 : p ≤ 1000000000) (h2 : 0 < q) (h3 : q ≤ 1000000000) : ∃ a b, mk p q = (a, b, 0) ∧ Vld a b ∧ a * q = p * b ∧ 0 ≤ a ∧ b ≤ q := by
  rcases mk_spec p q (by omega) with h | ⟨a, b, h, hv, he⟩
  · exfalso
    have e : (mk p q).2.2 = 2 := by rw [h]
    unfold mk at e
    have l1 : p.natAbs / Nat.gcd p.natAbs q.natAbs ≤ 1000000000 := Nat.le_trans (Nat.div_le_self _ _) (by omega)
    have l2 : q.natAbs / Nat.gcd p.natAbs q.natAbs ≤ 1000000000 := Nat.le_trans (Nat.div_le_self _ _) (by omega)
    rw [if_neg (by omega), if_pos ⟨l1, l2⟩] at e
    cases e
  · refine ⟨a, b, h, hv, he, ?_, ?_⟩
    · obtain ⟨b1, _⟩ := hv
      rcases Int.lt_or_le a 0 with g | g
      · have := Int.mul_neg_of_neg_of_pos g h2
        have := Int.mul_nonneg h0 (show 0 ≤ b by omega)
        omega
      · exact g
    · obtain ⟨b1, _, _, _, hg⟩ := hv
      have e1 : a.natAbs * q.natAbs = p.natAbs * b.natAbs := by rw [← Int.natAbs_mul, ← Int.natAbs_mul, he]
      have hdv : b.natAbs ∣ q.natAbs := by
        have h1 : b.natAbs ∣ a.natAbs * q.natAbs := ⟨p.natAbs, by rw [e1, Nat.mul_comm]⟩
        exact Nat.Coprime.dvd_of_dvd_mul_left (Nat.Coprime.symm hg) h1
      have := Nat.le_of_dvd (by omega) hdv
      omega

theorem shr_in {p q : Int} (h0 : 0 ≤ p) (h1 : p ≤ q) (h2 : 0 < q) (h3 : q ≤ 1000000000) : ∃ a b, shr p q = (a, b) ∧ mk p q = (a, b, 0) ∧ Vld a b ∧ a * q = p * b ∧ 0 ≤ a ∧ a ≤ b ∧ b ≤ q := by
  obtain ⟨a, b, h, hv, he, ha, hb⟩ := mk_in h0 (by omega) h2 h3
  refine ⟨a, b, by unfold shr; rw [h]; rfl, h, hv, he, ha, ?_, hb⟩
  have hb0 : 0 ≤ b := by obtain ⟨b1, _⟩ := hv; omega
  have : p * b ≤ q * b := Int.mul_le_mul_of_nonneg_right h1 hb0
  rw [← he, Int.mul_comm q b] at this
  exact Int.le_of_mul_le_mul_right this h2
theorem vld_one : Vld 1 1 := by decide
theorem vld_nil : Vld 0 1 := by decide
theorem shr_mk {p q a b : Int} (h : mk p q = (a, b, 0)) : shr p q = (a, b) := by unfold shr; rw [h]; rfl
theorem shr_one {q : Int} (h : q ≠ 0) : shr q q = (1, 1) := shr_mk (mk_uniq h vld_one (by omega))
theorem shr_nil {q : Int} (h : q ≠ 0) : shr 0 q = (0, 1) := shr_mk (mk_uniq h vld_nil (by omega))
theorem shr_is_one {p q : Int} (h0 : 0 ≤ p) (h1 : p ≤ q) (h2 : 0 < q) (h3 : q ≤ 1000000000) : shr p q = (1, 1) ↔ p = q := by
  constructor
  · intro h
    obtain ⟨a, b, e, _, _, he, _⟩ := shr_in h0 h1 h2 h3
    rw [h] at e
    cases e
    omega
  · rintro rfl
    exact shr_one (by omega)
theorem shr_is_nil {p q : Int} (h0 : 0 ≤ p) (h1 : p ≤ q) (h2 : 0 < q) (h3 : q ≤ 1000000000) : shr p q = (0, 1) ↔ p = 0 := by
  constructor
  · intro h
    obtain ⟨a, b, e, _, _, he, _⟩ := shr_in h0 h1 h2 h3
    rw [h] at e
    cases e
    omega
  · rintro rfl
    exact shr_nil (by omega)
/-- A ratio that is valid and from 0 to 1. -/
def UnitR (r : Int × Int) : Prop := Vld r.1 r.2 ∧ 0 ≤ r.1 ∧ r.1 ≤ r.2
theorem unit_shr {p q : Int} (h0 : 0 ≤ p) (h1 : p ≤ q) (h2 : 0 < q) (h3 : q ≤ 1000000000) : UnitR (shr p q) := by
  obtain ⟨a, b, e, _, hv, _, ha, hb, _⟩ := shr_in h0 h1 h2 h3
  rw [e]
  exact ⟨hv, ha, hb⟩
theorem unit_one : UnitR (1, 1) := ⟨vld_one, by decide, by decide⟩
theorem unit_nil : UnitR (0, 1) := ⟨vld_nil, by decide, by decide⟩

/-- Ratios compare as the quotients that they stand for. -/
theorem frac_le {p q p' q' a b a' b' : Int} (hq : 0 < q) (hq' : 0 < q') (hb : 0 < b) (hb' : 0 < b') (h : a * q = p * b) (h' : a' * q' = p' * b') (hle : p' * q ≤ p * q') : a' * b ≤ a * b' := by
  have hqq : 0 < q * q' := Int.mul_pos hq hq'
  have hbb : 0 ≤ b * b' := Int.mul_nonneg (by omega) (by omega)
  refine Int.le_of_mul_le_mul_right (a := q * q') ?_ hqq
  have e1 : a' * b * (q * q') = (p' * q) * (b * b') := by
    calc a' * b * (q * q') = (a' * q') * (b * q) := by ac_rfl
      _ = (p' * b') * (b * q) := by rw [h']
      _ = (p' * q) * (b * b') := by ac_rfl
  have e2 : a * b' * (q * q') = (p * q') * (b * b') := by
    calc a * b' * (q * q') = (a * q) * (b' * q') := by ac_rfl
      _ = (p * b) * (b' * q') := by rw [h]
      _ = (p * q') * (b * b') := by ac_rfl
  rw [e1, e2]
  exact Int.mul_le_mul_of_nonneg_right hle hbb

/-! ### Near. -/
def gap (a b : Int) : Int := max a b - min a b
def okTol (t : Int) : Bool := decide (0 ≤ t) && decide (t ≤ 999999999)
def nearT (a b t : Int) : Int × Int := if okTol t = true then shr (t + 1 - min (gap a b) (t + 1)) (t + 1) else (0, 1)
theorem gap_nonneg (a b : Int) : 0 ≤ gap a b := by unfold gap; omega
theorem gap_sym (a b : Int) : gap a b = gap b a := by unfold gap; omega
theorem gap_self (a : Int) : gap a a = 0 := by unfold gap; omega
theorem okTol_iff {t : Int} : okTol t = true ↔ 0 ≤ t ∧ t ≤ 999999999 := by unfold okTol; simp
theorem near_sym (a b t : Int) : nearT a b t = nearT b a t := by unfold nearT; rw [gap_sym]
theorem near_unit (a b t : Int) : UnitR (nearT a b t) := by
  unfold nearT
  by_cases h : okTol t = true
  · rw [if_pos h]
    obtain ⟨h1, h2⟩ := okTol_iff.1 h
    have := gap_nonneg a b
    exact unit_shr (by omega) (by omega) (by omega) (by omega)
  · rw [if_neg h]; exact unit_nil
theorem near_self (a t : Int) : nearT a a t = (1, 1) ↔ okTol t = true := by
  unfold nearT
  by_cases h : okTol t = true
  · rw [if_pos h]
    obtain ⟨h1, h2⟩ := okTol_iff.1 h
    have := gap_self a
    rw [gap_self, show t + 1 - min 0 (t + 1) = t + 1 by omega]
    exact ⟨fun _ => h, fun _ => shr_one (by omega)⟩
  · rw [if_neg h]
    exact ⟨fun e => (by cases e), fun e => absurd e h⟩
theorem near_zero (a b t : Int) (h : okTol t = true) : nearT a b t = (0, 1) ↔ t < gap a b := by
  unfold nearT
  obtain ⟨h1, h2⟩ := okTol_iff.1 h
  have := gap_nonneg a b
  rw [if_pos h, shr_is_nil (by omega) (by omega) (by omega) (by omega)]
  omega
/-- The comparison's sign, of two ratios. -/
def cmpS (x y : Int) : Int := if x < y then -1 else if y < x then 1 else 0
theorem cmpS_ge {x y : Int} (h : y ≤ x) : ¬ cmpS x y < 0 := by unfold cmpS; rw [if_neg (by omega)]; split <;> omega
theorem near_le {a b c d t u : Int} (ht : okTol t = true) (hu : okTol u = true) (htu : t ≤ u) (h : gap a b ≤ gap c d) : (nearT c d t).1 * (nearT a b u).2 ≤ (nearT a b u).1 * (nearT c d t).2 := by
  obtain ⟨h1, h2⟩ := okTol_iff.1 ht
  obtain ⟨h3, h4⟩ := okTol_iff.1 hu
  have g1 := gap_nonneg a b
  have g2 := gap_nonneg c d
  unfold nearT
  rw [if_pos ht, if_pos hu]
  obtain ⟨x, y, e, _, hv, he, _, _, _⟩ := shr_in (p := u + 1 - min (gap a b) (u + 1)) (q := u + 1) (by omega) (by omega) (by omega) (by omega)
  obtain ⟨x', y', e', _, hv', he', _, _, _⟩ := shr_in (p := t + 1 - min (gap c d) (t + 1)) (q := t + 1) (by omega) (by omega) (by omega) (by omega)
  rw [e, e']
  obtain ⟨y1, _⟩ := hv
  obtain ⟨y1', _⟩ := hv'
  refine frac_le (p := u + 1 - min (gap a b) (u + 1)) (q := u + 1) (p' := t + 1 - min (gap c d) (t + 1)) (q' := t + 1) (by omega) (by omega) (by omega) (by omega) he he' ?_
  rcases Int.lt_or_le (t + 1) (gap c d) with k | k
  · rw [show min (gap c d) (t + 1) = t + 1 by omega, show t + 1 - (t + 1) = 0 by omega, Int.zero_mul]
    exact Int.mul_nonneg (by omega) (by omega)
  · rw [show min (gap c d) (t + 1) = gap c d by omega, show min (gap a b) (u + 1) = gap a b by omega, Int.sub_mul, Int.sub_mul, Int.mul_comm (t + 1) (u + 1)]
    have k1 : gap a b * (t + 1) ≤ gap c d * (t + 1) := Int.mul_le_mul_of_nonneg_right h (by omega)
    have k2 : gap c d * (t + 1) ≤ gap c d * (u + 1) := Int.mul_le_mul_of_nonneg_left (by omega) g2
    omega

/-! ### Jaccard. -/
def jacT (a b : List (List UInt8)) : Int × Int := if uni a b = 0 then (1, 1) else shr (both a b) (uni a b)
theorem jac_sym (a b : List (List UInt8)) : jacT a b = jacT b a := by unfold jacT; rw [uni_sym, both_sym]
theorem jac_self (a : List (List UInt8)) : jacT a a = (1, 1) := by
  unfold jacT
  by_cases h : uni a a = 0
  · rw [if_pos h]
  · rw [if_neg h, both_self, uni_self]
    rw [uni_self] at h
    exact shr_one (by omega)
theorem uni_le (a b : List (List UInt8)) : uni a b ≤ a.length + b.length := by
  have h1 := uni_eq a b
  have h2 := dd_len a
  have h3 := dd_len b
  omega
theorem jac_unit (a b : List (List UInt8)) (h : a.length + b.length ≤ 10000) : UnitR (jacT a b) := by
  unfold jacT
  have h1 := uni_le a b
  have h2 := both_uni a b
  split
  · exact unit_one
  · exact unit_shr (by omega) (by omega) (by omega) (by omega)
theorem jac_one (a b : List (List UInt8)) (h : a.length + b.length ≤ 10000) : jacT a b = (1, 1) ↔ (∀ z ∈ a, z ∈ b) ∧ (∀ z ∈ b, z ∈ a) := by
  have h1 := uni_le a b
  have h2 := both_uni a b
  rw [← both_full]
  unfold jacT
  by_cases e : uni a b = 0
  · rw [if_pos e]
    exact ⟨fun _ => by omega, fun _ => rfl⟩
  · rw [if_neg e, shr_is_one (by omega) (by omega) (by omega) (by omega)]
    omega
theorem jac_zero (a b : List (List UInt8)) (h : a.length + b.length ≤ 10000) : jacT a b = (0, 1) ↔ (∀ z ∈ a, z ∉ b) ∧ (0 < a.length ∨ 0 < b.length) := by
  have h1 := uni_le a b
  have h2 := both_uni a b
  rw [← both_zero]
  unfold jacT
  by_cases e : uni a b = 0
  · rw [if_pos e]
    have := (uni_zero a b).1 e
    rw [this.1, this.2]
    exact ⟨fun k => (by cases k), fun k => by simp at k⟩
  · rw [if_neg e, shr_is_nil (by omega) (by omega) (by omega) (by omega)]
    have : a.length + b.length ≠ 0 := fun k => e ((uni_zero a b).2 ⟨List.length_eq_zero_iff.1 (by omega), List.length_eq_zero_iff.1 (by omega)⟩)
    omega
/-- A share that is made greater by what lies outside. -/
theorem jac_up (a b : List (List UInt8)) (h : a.length + b.length ≤ 10000) (N r : Nat) (hN : uni a b + r = N) : (jacT a b).1 * (N : Int) ≤ ((both a b : Int) + r) * (jacT a b).2 := by
  have h1 := uni_le a b
  have h2 := both_uni a b
  unfold jacT
  by_cases e : uni a b = 0
  · rw [if_pos e]
    show (1 : Int) * N ≤ _ * 1
    omega
  · rw [if_neg e]
    obtain ⟨x, y, k, _, _, he, hx, hxy, _⟩ := shr_in (p := (both a b : Int)) (q := (uni a b : Int)) (by omega) (by omega) (by omega) (by omega)
    rw [k]
    show x * (N : Int) ≤ ((both a b : Int) + r) * y
    rw [← hN, Int.natCast_add, Int.mul_add, he, Int.add_mul]
    have : x * (r : Int) ≤ y * (r : Int) := Int.mul_le_mul_of_nonneg_right hxy (by omega)
    rw [Int.mul_comm y] at this
    omega
theorem jac_down (a b : List (List UInt8)) (h : a.length + b.length ≤ 10000) (N : Nat) (hN : uni a b ≤ N) : (both a b : Int) * (jacT a b).2 ≤ (jacT a b).1 * (N : Int) := by
  have h1 := uni_le a b
  have h2 := both_uni a b
  unfold jacT
  by_cases e : uni a b = 0
  · rw [if_pos e]
    show _ * (1 : Int) ≤ 1 * (N : Int)
    omega
  · rw [if_neg e]
    obtain ⟨x, y, k, _, _, he, hx, hxy, _⟩ := shr_in (p := (both a b : Int)) (q := (uni a b : Int)) (by omega) (by omega) (by omega) (by omega)
    rw [k]
    show (both a b : Int) * y ≤ x * (N : Int)
    rw [← he]
    exact Int.mul_le_mul_of_nonneg_left (by omega) hx
/-- 1 minus Jaccard obeys the triangle inequality. -/
theorem jac_tri (a b c : List (List UInt8)) (h1 : a.length + b.length ≤ 10000) (h2 : a.length + c.length ≤ 10000) (h3 : c.length + b.length ≤ 10000) :
    ((jacT a c).1 * (jacT c b).2 + (jacT c b).1 * (jacT a c).2) * (jacT a b).2 ≤ ((jacT a b).2 + (jacT a b).1) * ((jacT a c).2 * (jacT c b).2) := by
  obtain ⟨N, e1, e2, e3, e4, e5⟩ := regions a b c
  have u1 := jac_up a c h2 N _ e1
  have u2 := jac_up c b h3 N _ e2
  have d1 := jac_down a b h1 N e5
  obtain ⟨v1, x1, y1⟩ := jac_unit a b h1
  obtain ⟨v2, x2, y2⟩ := jac_unit a c h2
  obtain ⟨v3, x3, y3⟩ := jac_unit c b h3
  have p1 : 0 < (jacT a b).2 := by obtain ⟨k, _⟩ := v1; omega
  have p2 : 0 < (jacT a c).2 := by obtain ⟨k, _⟩ := v2; omega
  have p3 : 0 < (jacT c b).2 := by obtain ⟨k, _⟩ := v3; omega
  by_cases hN : N = 0
  · have g1 : jacT a b = (1, 1) := by unfold jacT; rw [if_pos (by omega)]
    have g2 : jacT a c = (1, 1) := by unfold jacT; rw [if_pos (by omega)]
    have g3 : jacT c b = (1, 1) := by unfold jacT; rw [if_pos (by omega)]
    rw [g1, g2, g3]
    decide
  · generalize (jacT a b).1 = an at *
    generalize (jacT a b).2 = ad at *
    generalize (jacT a c).1 = bn at *
    generalize (jacT a c).2 = bd at *
    generalize (jacT c b).1 = cn at *
    generalize (jacT c b).2 = cd at *
    generalize hB : (both a c : Int) + (rest3 a c b : Int) = B at *
    generalize hC : (both c b : Int) + (rest3 c b a : Int) = C at *
    generalize hA : (both a b : Int) = A at *
    have e4' : B + C ≤ (N : Int) + A := by omega
    refine Int.le_of_mul_le_mul_right (a := (N : Int)) ?_ (by omega)
    have f1 : bn * N * (cd * ad) ≤ B * bd * (cd * ad) := Int.mul_le_mul_of_nonneg_right u1 (Int.mul_nonneg (by omega) (by omega))
    have f2 : cn * N * (bd * ad) ≤ C * cd * (bd * ad) := Int.mul_le_mul_of_nonneg_right u2 (Int.mul_nonneg (by omega) (by omega))
    have f3 : (B + C) * (bd * cd * ad) ≤ (N + A) * (bd * cd * ad) := Int.mul_le_mul_of_nonneg_right e4' (Int.mul_nonneg (Int.mul_nonneg (by omega) (by omega)) (by omega))
    have f4 : A * ad * (bd * cd) ≤ an * N * (bd * cd) := Int.mul_le_mul_of_nonneg_right d1 (Int.mul_nonneg (by omega) (by omega))
    have q1 : (bn * cd + cn * bd) * ad * N = bn * N * (cd * ad) + cn * N * (bd * ad) := by
      rw [Int.add_mul, Int.add_mul]; congr 1 <;> ac_rfl
    have q2 : B * bd * (cd * ad) + C * cd * (bd * ad) = (B + C) * (bd * cd * ad) := by
      rw [Int.add_mul]; congr 1 <;> ac_rfl
    have q3 : (N + A) * (bd * cd * ad) = N * (bd * cd * ad) + A * ad * (bd * cd) := by
      rw [Int.add_mul]; congr 1; ac_rfl
    have q4 : (ad + an) * (bd * cd) * N = N * (bd * cd * ad) + an * N * (bd * cd) := by
      rw [Int.add_mul, Int.add_mul]; congr 1 <;> ac_rfl
    omega
end Go.Proofs.YtendkghifcjffaaGreatDoor
