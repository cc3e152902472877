/- The plain mathematics of the order. -/
import Derived.Test.YtpmggfmhkjafkaaDoorFieldM
import Derived.Test.YtpmggfmhkjafkaaDoorCmp
namespace Go.Proofs.YtpmggfmhkjafkaaDoor

theorem cmpR_eq {an ad bn bd : Int} (va : Vld an ad) (vb : Vld bn bd) : cmpR an ad bn bd = cmpI (an * bd) (bn * ad) := by
  unfold cmpR; rw [vldB_mk va, vldB_mk vb]; rfl

theorem cmpI_cases (x y : Int) : (cmpI x y = -1 ∧ x < y) ∨ (cmpI x y = 0 ∧ x = y) ∨ (cmpI x y = 1 ∧ y < x) := by
  unfold cmpI; split
  · left; exact ⟨rfl, by omega⟩
  · split
    · right; right; exact ⟨rfl, by omega⟩
    · right; left; exact ⟨rfl, by omega⟩

/-- The comparison goes by the sign of the difference, whatever positive factor it bears. -/
theorem cmpI_scale {x y u v : Int} (p q : Int) (hp : 0 < p) (hq : 0 < q) (h : p * (x - y) = q * (u - v)) : cmpI x y = cmpI u v := by
  have pos : ∀ {r s : Int}, 0 < r → 0 < s → 0 < r * s := fun hr hs => Int.mul_pos hr hs
  rcases Int.lt_trichotomy (x - y) 0 with h1 | h1 | h1
  · have hx : p * (x - y) < 0 := Int.mul_neg_of_pos_of_neg hp h1
    have hu : u - v < 0 := by
      rcases Int.lt_or_le (u - v) 0 with h2 | h2
      · exact h2
      · have := Int.mul_nonneg (Int.le_of_lt hq) h2; omega
    unfold cmpI; rw [if_pos (by omega), if_pos (by omega)]
  · rw [h1, Int.mul_zero] at h
    have hu : u - v = 0 := by
      rcases Int.mul_eq_zero.1 h.symm with h2 | h2
      · omega
      · exact h2
    unfold cmpI; rw [if_neg (by omega), if_neg (by omega), if_neg (by omega), if_neg (by omega)]
  · have hx := pos hp h1
    have hu : 0 < u - v := by
      rcases Int.lt_or_le 0 (u - v) with h2 | h2
      · exact h2
      · have := Int.mul_nonpos_of_nonneg_of_nonpos (Int.le_of_lt hq) h2; omega
    unfold cmpI; rw [if_neg (by omega), if_pos (by omega), if_neg (by omega), if_pos (by omega)]

/-- Equal quotients of valid ratios are equal ratios. -/
theorem vld_eq {an ad bn bd : Int} (va : Vld an ad) (vb : Vld bn bd) (h : an * bd = bn * ad) : an = bn ∧ ad = bd := by
  have e1 := mk_uniq (n := an) (d := ad) (den_ne va) va rfl
  have e2 := mk_uniq (n := an) (d := ad) (den_ne va) vb h.symm
  rw [e1] at e2
  exact ⟨congrArg (fun r => r.1) e2, congrArg (fun r => r.2.1) e2⟩

theorem den_pos {n d : Int} (h : Vld n d) : 0 < d := by obtain ⟨_, _, _, _, _⟩ := h; omega

end Go.Proofs.YtpmggfmhkjafkaaDoor
