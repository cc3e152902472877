/- The reference's Mul, Add, Sub, Div as wholes. -/
import Derived.Test.YtpmggfmhkjafkaaDoorRefOps
namespace Go.Proofs.YtpmggfmhkjafkaaDoor
open Go.RowKit

theorem refadd_any (an ad bn bd : Int) (w : World) :
    Calls Tryd.prog 16 #[.agg #[.int .i64 an, .int .i64 ad], .agg #[.int .i64 bn, .int .i64 bd]] w (RatioPost w (opr (vldB an ad && vldB bn bd) (an * bd + bn * ad) (ad * bd))) := by
  unfold opr
  cases h : (vldB an ad && vldB bn bd)
  · rw [if_neg (by decide)]; exact refadd_bad an ad bn bd w h
  · rw [if_pos rfl]; exact refadd_ok an ad bn bd w (Bool.and_eq_true_iff.1 h).1 (Bool.and_eq_true_iff.1 h).2

theorem refsub_any (an ad bn bd : Int) (w : World) :
    Calls Tryd.prog 18 #[.agg #[.int .i64 an, .int .i64 ad], .agg #[.int .i64 bn, .int .i64 bd]] w (RatioPost w (opr (vldB an ad && vldB bn bd) (an * bd - bn * ad) (ad * bd))) := by
  unfold opr
  cases h : (vldB an ad && vldB bn bd)
  · rw [if_neg (by decide)]; exact refsub_bad an ad bn bd w h
  · rw [if_pos rfl]; exact refsub_ok an ad bn bd w (Bool.and_eq_true_iff.1 h).1 (Bool.and_eq_true_iff.1 h).2

theorem refdiv_any (an ad bn bd : Int) (w : World) :
    Calls Tryd.prog 22 #[.agg #[.int .i64 an, .int .i64 ad], .agg #[.int .i64 bn, .int .i64 bd]] w (RatioPost w (opr (vldB an ad && vldB bn bd) (an * bd) (ad * bn))) := by
  unfold opr
  cases h : (vldB an ad && vldB bn bd)
  · rw [if_neg (by decide)]; exact refdiv_bad an ad bn bd w h
  · rw [if_pos rfl]; exact refdiv_ok an ad bn bd w (Bool.and_eq_true_iff.1 h).1 (Bool.and_eq_true_iff.1 h).2

theorem rof_null (a b : Bool) (y : Nat) : rof a 0 y = rof b 0 y := by
  unfold rof
  rw [Nat.zero_div]
  cases a <;> cases b <;> simp

/-- Cross reduction: the product of the reduced parts stands for the product. -/
theorem mul_parts {an ad bn bd : Int} (va : Vld an ad) (vb : Vld bn bd) (g h p q u v : Nat) (hg : Nat.gcd an.natAbs bd.natAbs = g) (hh : Nat.gcd bn.natAbs ad.natAbs = h)
    (hp : an.natAbs / g = p) (hq : bn.natAbs / h = q) (hu : ad.natAbs / h = u) (hv : bd.natAbs / g = v) :
    rof (decide (an < 0) != decide (bn < 0)) (p * q) (u * v) = mk (an * bn) (ad * bd) := by
  obtain ⟨i1, i2, i3, i4⟩ := vld_ints va
  obtain ⟨j1, j2, j3, j4⟩ := vld_ints vb
  have g0 : 0 < g := by rw [← hg]; exact Nat.gcd_pos_of_pos_right _ (by omega)
  have h0 : 0 < h := by rw [← hh]; exact Nat.gcd_pos_of_pos_right _ (by omega)
  have ea : an.natAbs = g * p := by rw [← hp]; exact (Nat.mul_div_cancel' (hg ▸ Nat.gcd_dvd_left _ _)).symm
  have eb : bn.natAbs = h * q := by rw [← hq]; exact (Nat.mul_div_cancel' (hh ▸ Nat.gcd_dvd_left _ _)).symm
  have ec : ad.natAbs = h * u := by rw [← hu]; exact (Nat.mul_div_cancel' (hh ▸ Nat.gcd_dvd_right _ _)).symm
  have ed : bd.natAbs = g * v := by rw [← hv]; exact (Nat.mul_div_cancel' (hg ▸ Nat.gcd_dvd_right _ _)).symm
  have k0 : 0 < g * h := Nat.mul_pos g0 h0
  rw [← rof_scale _ (g * h) _ _ k0, show g * h * (p * q) = an.natAbs * bn.natAbs by rw [ea, eb]; simp only [Nat.mul_comm, Nat.mul_left_comm],
    show g * h * (u * v) = ad.natAbs * bd.natAbs by rw [ec, ed]; simp only [Nat.mul_comm, Nat.mul_left_comm], ← rof_mk, Int.natAbs_mul, Int.natAbs_mul]
  have hd : decide (ad * bd < 0) = false := by rw [neg_mul_pos (by omega)]; simp; omega
  rw [hd]
  by_cases a0 : an = 0
  · rw [a0, show (0 : Int).natAbs * bn.natAbs = 0 by simp]; exact rof_null _ _ _
  by_cases b0 : bn = 0
  · rw [b0, show an.natAbs * (0 : Int).natAbs = 0 by simp]; exact rof_null _ _ _
  congr 1
  rcases Int.lt_or_le an 0 with a | a
  · rcases Int.lt_or_le bn 0 with b | b
    · have := Int.mul_pos_of_neg_of_neg a b
      rw [decide_eq_true a, decide_eq_true b, decide_eq_false (show ¬ an * bn < 0 by omega)]; rfl
    · have := Int.mul_neg_of_neg_of_pos a (show 0 < bn by omega)
      rw [decide_eq_true a, decide_eq_false (show ¬ bn < 0 by omega), decide_eq_true this]
  · rcases Int.lt_or_le bn 0 with b | b
    · have := Int.mul_neg_of_pos_of_neg (show 0 < an by omega) b
      rw [decide_eq_false (show ¬ an < 0 by omega), decide_eq_true b, decide_eq_true this]; rfl
    · have := Int.mul_nonneg a b
      rw [decide_eq_false (show ¬ an < 0 by omega), decide_eq_false (show ¬ bn < 0 by omega), decide_eq_false (show ¬ an * bn < 0 by omega)]

/-- The reduced parts have no common divisor. -/
theorem parts_coprime {an ad bn bd : Int} (va : Vld an ad) (vb : Vld bn bd) (g h p q u v : Nat) (hg : Nat.gcd an.natAbs bd.natAbs = g) (hh : Nat.gcd bn.natAbs ad.natAbs = h)
    (hp : an.natAbs / g = p) (hq : bn.natAbs / h = q) (hu : ad.natAbs / h = u) (hv : bd.natAbs / g = v) : Nat.gcd (p * q) (u * v) = 1 := by
  obtain ⟨i1, i2, i3, i4, ca⟩ := va
  obtain ⟨j1, j2, j3, j4, cb⟩ := vb
  have g0 : 0 < g := by rw [← hg]; exact Nat.gcd_pos_of_pos_right _ (by omega)
  have h0 : 0 < h := by rw [← hh]; exact Nat.gcd_pos_of_pos_right _ (by omega)
  have pv : Nat.Coprime p v := by rw [← hp, ← hv, ← hg]; exact Nat.coprime_div_gcd_div_gcd (by rw [hg]; exact g0)
  have qu : Nat.Coprime q u := by rw [← hq, ← hu, ← hh]; exact Nat.coprime_div_gcd_div_gcd (by rw [hh]; exact h0)
  have dp : p ∣ an.natAbs := by rw [← hp]; exact Nat.div_dvd_of_dvd (hg ▸ Nat.gcd_dvd_left _ _)
  have dq : q ∣ bn.natAbs := by rw [← hq]; exact Nat.div_dvd_of_dvd (hh ▸ Nat.gcd_dvd_left _ _)
  have du : u ∣ ad.natAbs := by rw [← hu]; exact Nat.div_dvd_of_dvd (hh ▸ Nat.gcd_dvd_right _ _)
  have dv : v ∣ bd.natAbs := by rw [← hv]; exact Nat.div_dvd_of_dvd (hg ▸ Nat.gcd_dvd_right _ _)
  have pu : Nat.Coprime p u := Nat.Coprime.coprime_dvd_left dp (Nat.Coprime.coprime_dvd_right du ca)
  have qv : Nat.Coprime q v := Nat.Coprime.coprime_dvd_left dq (Nat.Coprime.coprime_dvd_right dv cb)
  exact Nat.Coprime.mul_left (Nat.Coprime.mul_right pu pv) (Nat.Coprime.mul_right qu qv)

theorem rof_big (neg : Bool) (x y : Nat) (hy : y ≠ 0) (hc : Nat.gcd x y = 1) (hx : 1000000000 < x) : rof neg x y = (0, 0, 2) := by
  unfold rof
  rw [if_neg hy, hc, Nat.div_one, if_neg (by omega)]

theorem refmul_any (an ad bn bd : Int) (w : World) :
    Calls Tryd.prog 20 #[.agg #[.int .i64 an, .int .i64 ad], .agg #[.int .i64 bn, .int .i64 bd]] w (RatioPost w (opr (vldB an ad && vldB bn bd) (an * bn) (ad * bd))) := by
  unfold opr
  cases hv : (vldB an ad && vldB bn bd)
  · rw [if_neg (by decide)]; exact refmul_bad an ad bn bd w hv
  rw [if_pos rfl]
  have ha := (Bool.and_eq_true_iff.1 hv).1
  have hb := (Bool.and_eq_true_iff.1 hv).2
  have va := vldB_true ha
  have vb := vldB_true hb
  obtain ⟨i1, i2, i3, i4⟩ := vld_ints va
  obtain ⟨j1, j2, j3, j4⟩ := vld_ints vb
  obtain ⟨g, hg⟩ : ∃ g, Nat.gcd an.natAbs bd.natAbs = g := ⟨_, rfl⟩
  obtain ⟨h, hh⟩ : ∃ h, Nat.gcd bn.natAbs ad.natAbs = h := ⟨_, rfl⟩
  obtain ⟨p, hp⟩ : ∃ p, an.natAbs / g = p := ⟨_, rfl⟩
  obtain ⟨q, hq⟩ : ∃ q, bn.natAbs / h = q := ⟨_, rfl⟩
  obtain ⟨u, hu⟩ : ∃ u, ad.natAbs / h = u := ⟨_, rfl⟩
  obtain ⟨v, hv⟩ : ∃ v, bd.natAbs / g = v := ⟨_, rfl⟩
  have g0 : 0 < g := by rw [← hg]; exact Nat.gcd_pos_of_pos_right _ (by omega)
  have h0 : 0 < h := by rw [← hh]; exact Nat.gcd_pos_of_pos_right _ (by omega)
  have gm : g ≤ 1000000000 := by rw [← hg]; exact Nat.le_trans (Nat.gcd_le_right _ (by omega)) (by omega)
  have hm : h ≤ 1000000000 := by rw [← hh]; exact Nat.le_trans (Nat.gcd_le_right _ (by omega)) (by omega)
  have pm : p ≤ 1000000000 := by rw [← hp]; exact Nat.le_trans (Nat.div_le_self _ _) (by omega)
  have qm : q ≤ 1000000000 := by rw [← hq]; exact Nat.le_trans (Nat.div_le_self _ _) (by omega)
  have um : u ≤ 1000000000 := by rw [← hu]; exact Nat.le_trans (Nat.div_le_self _ _) (by omega)
  have vm : v ≤ 1000000000 := by rw [← hv]; exact Nat.le_trans (Nat.div_le_self _ _) (by omega)
  have hp' : (an.natAbs : Int) / (g : Int) = (p : Int) := by rw [← Int.natCast_ediv, hp]
  have hq' : (bn.natAbs : Int) / (h : Int) = (q : Int) := by rw [← Int.natCast_ediv, hq]
  have hu' : (ad.natAbs : Int) / (h : Int) = (u : Int) := by rw [← Int.natCast_ediv, hu]
  have hv' : (bd.natAbs : Int) / (g : Int) = (v : Int) := by rw [← Int.natCast_ediv, hv]
  have M := mul_parts va vb g h p q u v hg hh hp hq hu hv
  have R : rof (decide (an < 0) != decide (bn < 0)) ((p : Int) * (q : Int)).toNat ((u : Int) * (v : Int)).toNat = mk (an * bn) (ad * bd) := by rw [toNat_mul', toNat_mul', M]
  by_cases p0 : 0 < p
  · by_cases hc : 1000000000 / p < q
    · have hx : 1000000000 < p * q := by
        have := (Nat.div_lt_iff_lt_mul p0).1 hc
        rw [Nat.mul_comm] at this
        exact this
      have u0 : u * v ≠ 0 := by
        intro e
        have d1 : ad.natAbs = h * u := by rw [← hu]; exact (Nat.mul_div_cancel' (hh ▸ Nat.gcd_dvd_right _ _)).symm
        have d2 : bd.natAbs = g * v := by rw [← hv]; exact (Nat.mul_div_cancel' (hg ▸ Nat.gcd_dvd_right _ _)).symm
        rcases Nat.mul_eq_zero.1 e with e | e
        · rw [e] at d1; omega
        · rw [e] at d2; omega
      rw [← M, rof_big _ _ _ u0 (parts_coprime va vb g h p q u v hg hh hp hq hu hv) hx]
      exact refmul_big an ad bn bd w ha hb g h p q u v hg hh g0 h0 gm hm hp' hq' hu' hv' pm qm um vm p0 (1000000000 / p) (by rw [Int.natCast_ediv]; rfl) hc
    · exact refmul_fit an ad bn bd w ha hb g h p q u v hg hh g0 h0 gm hm hp' hq' hu' hv' pm qm um vm p0 (1000000000 / p) (by rw [Int.natCast_ediv]; rfl) (by omega) _ R
  · exact refmul_zero an ad bn bd w ha hb g h p q u v hg hh g0 h0 gm hm hp' hq' hu' hv' pm qm um vm p0 _ R
end Go.Proofs.YtpmggfmhkjafkaaDoor
