/- The plain mathematics of the reference's operations. -/
import Derived.Test.YtpmggfmhkjafkaaDoorRef
import Derived.Test.YtpmggfmhkjafkaaDoorFieldM
namespace Go.Proofs.YtpmggfmhkjafkaaDoor

theorem vld_ints {n d : Int} (h : Vld n d) : -1000000000 ≤ n ∧ n ≤ 1000000000 ∧ 1 ≤ d ∧ d ≤ 1000000000 := by
  obtain ⟨h1, h2, h3, h4, _⟩ := h
  exact ⟨h3, h4, h1, h2⟩

theorem nat_prod {a b : Nat} (ha : a ≤ 1000000000) (hb : b ≤ 1000000000) : 0 ≤ (a : Int) * (b : Int) ∧ (a : Int) * (b : Int) < 18446744073709551616 := by
  have h : a * b ≤ 1000000000 * 1000000000 := Nat.mul_le_mul ha hb
  have e : (a : Int) * (b : Int) = ((a * b : Nat) : Int) := by simp
  rw [e]
  omega

theorem abs_prods {an ad bn bd : Int} (va : Vld an ad) (vb : Vld bn bd) :
    (0 ≤ (an.natAbs : Int) * (bd.natAbs : Int) ∧ (an.natAbs : Int) * (bd.natAbs : Int) < 18446744073709551616) ∧ (0 ≤ (ad.natAbs : Int) * (bn.natAbs : Int) ∧ (ad.natAbs : Int) * (bn.natAbs : Int) < 18446744073709551616) := by
  obtain ⟨i1, i2, i3, i4⟩ := vld_ints va
  obtain ⟨j1, j2, j3, j4⟩ := vld_ints vb
  exact ⟨nat_prod (by omega) (by omega), nat_prod (by omega) (by omega)⟩

theorem toNat_mul' (a b : Nat) : ((a : Int) * (b : Int)).toNat = a * b := by
  rw [← Int.natCast_mul]; exact Int.toNat_natCast _

theorem neg_mul_pos {a b : Int} (hb : 0 < b) : decide (a * b < 0) = decide (a < 0) := by
  apply decide_eq_decide.2
  constructor
  · intro h
    rcases Int.lt_or_le a 0 with h1 | h1
    · exact h1
    · have := Int.mul_nonneg h1 (Int.le_of_lt hb); omega
  · intro h; exact Int.mul_neg_of_neg_of_pos h hb

theorem rof_div {an ad bn bd : Int} (va : Vld an ad) (vb : Vld bn bd) :
    rof (decide (an < 0) != decide (bn < 0)) ((an.natAbs : Int) * (bd.natAbs : Int)).toNat ((ad.natAbs : Int) * (bn.natAbs : Int)).toNat = mk (an * bd) (ad * bn) := by
  obtain ⟨i1, i2, i3, i4⟩ := vld_ints va
  obtain ⟨j1, j2, j3, j4⟩ := vld_ints vb
  rw [← rof_mk, toNat_mul', toNat_mul', Int.natAbs_mul, Int.natAbs_mul, neg_mul_pos (by omega), Int.mul_comm ad bn, neg_mul_pos (by omega)]

/-- A common factor does not matter. -/
theorem rof_scale (neg : Bool) (k x y : Nat) (hk : 0 < k) : rof neg (k * x) (k * y) = rof neg x y := by
  unfold rof
  by_cases hy : y = 0
  · rw [if_pos (by rw [hy, Nat.mul_zero]), if_pos hy]
  · rw [if_neg (show ¬ k * y = 0 from Nat.mul_ne_zero (by omega) hy), if_neg hy, Nat.gcd_mul_left, Nat.mul_div_mul_left _ _ hk, Nat.mul_div_mul_left _ _ hk]
end Go.Proofs.YtpmggfmhkjafkaaDoor
