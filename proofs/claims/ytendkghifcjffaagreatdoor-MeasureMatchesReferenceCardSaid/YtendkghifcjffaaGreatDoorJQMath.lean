/- The Jaro similarity as a ratio: bounds, symmetry, when it is 1. -/
import Derived.Test.YtendkghifcjffaaGreatDoorPMath
import Derived.Test.YtendkghifcjffaaGreatDoorQMath
namespace Go.Proofs.YtendkghifcjffaaGreatDoor
open L1

def jw (a b : List UInt8) : Nat := max a.length b.length / 2 - 1
def jm (a b : List UInt8) : Nat := (IA a b (jw a b) a.length).length
def ju (a b : List UInt8) : Nat := diffTo (IA a b (jw a b) a.length) (IB a b (jw a b)) (jm a b)
def jp (m u x y : Int) : Int := 2 * m * m * (x + y) + (2 * m - u) * (x * y)
def jq (m x y : Int) : Int := 6 * m * (x * y)
def jaroT (a b : List UInt8) : Int × Int :=
  if 200 < a.length ∨ 200 < b.length then (0, 1)
  else if a = [] ∧ b = [] then (1, 1)
  else if jm a b = 0 then (0, 1)
  else shr (jp (jm a b) (ju a b) a.length b.length) (jq (jm a b) a.length b.length)

theorem jw_sym (a b : List UInt8) : jw a b = jw b a := by unfold jw; omega
theorem jm_sym (a b : List UInt8) : jm a b = jm b a := by
  unfold jm
  rw [jw_sym b a, swap_IA a b (jw a b)]
  exact IA_IB_len a b _
theorem ju_sym (a b : List UInt8) : ju a b = ju b a := by
  unfold ju
  rw [jm_sym b a, jw_sym b a, swap_IA a b (jw a b), swap_IB a b (jw a b)]
  exact diffTo_sym _ _ _
theorem jp_sym (m u x y : Int) : jp m u x y = jp m u y x := by unfold jp; rw [Int.add_comm x y, Int.mul_comm x y]
theorem jq_sym (m x y : Int) : jq m x y = jq m y x := by unfold jq; rw [Int.mul_comm x y]
theorem jaro_sym (a b : List UInt8) : jaroT a b = jaroT b a := by
  unfold jaroT
  rw [jm_sym b a, ju_sym b a, jp_sym _ _ (b.length : Int), jq_sym _ (b.length : Int)]
  by_cases h1 : 200 < a.length ∨ 200 < b.length
  · rw [if_pos h1, if_pos h1.symm]
  · rw [if_neg h1, if_neg (show ¬ (200 < b.length ∨ 200 < a.length) from fun e => h1 e.symm)]
    by_cases h2 : a = [] ∧ b = []
    · rw [if_pos h2, if_pos h2.symm]
    · rw [if_neg h2, if_neg (show ¬ (b = [] ∧ a = []) from fun e => h2 e.symm)]
theorem jm_le (a b : List UInt8) : jm a b ≤ a.length ∧ jm a b ≤ b.length := IA_le a b _
theorem ju_le (a b : List UInt8) : ju a b ≤ jm a b := diffTo_le _ _ _
theorem jp_form (m u x y : Nat) : jp m u x y = 2 * ((m * m * x : Nat) : Int) + 2 * ((m * m * y : Nat) : Int) + 2 * ((m * (x * y) : Nat) : Int) - ((u * (x * y) : Nat) : Int) := by
  unfold jp
  rw [Int.mul_add, Int.sub_mul]
  simp only [Int.natCast_mul, Int.mul_assoc]
  omega
theorem jq_form (m x y : Nat) : jq m x y = 6 * ((m * (x * y) : Nat) : Int) := by
  unfold jq
  simp only [Int.natCast_mul, Int.mul_assoc]
structure JB (m u x y : Nat) : Prop where
  a1 : m * m * x ≤ m * (x * y)
  a2 : m * m * y ≤ m * (x * y)
  a3 : u * (x * y) ≤ m * (x * y)
  a4 : m * (x * y) ≤ 8000000
  a5 : 0 < m → 0 < m * (x * y)
theorem jb {m u x y : Nat} (h1 : m ≤ x) (h2 : m ≤ y) (h3 : u ≤ m) (h4 : x ≤ 200) (h5 : y ≤ 200) : JB m u x y := by
  refine ⟨?_, ?_, Nat.mul_le_mul_right _ h3, ?_, fun h => Nat.mul_pos h (Nat.mul_pos (by omega) (by omega))⟩
  · rw [Nat.mul_assoc]
    refine Nat.mul_le_mul_left _ ?_
    rw [Nat.mul_comm x y]
    exact Nat.mul_le_mul_right _ h2
  · rw [Nat.mul_assoc]
    exact Nat.mul_le_mul_left _ (Nat.mul_le_mul_right _ h1)
  · have e1 : x * y ≤ 200 * 200 := Nat.mul_le_mul h4 h5
    have e2 : m * (x * y) ≤ 200 * (200 * 200) := Nat.mul_le_mul (by omega) e1
    omega
theorem jaro_bounds {m u x y : Nat} (h1 : m ≤ x) (h2 : m ≤ y) (h3 : u ≤ m) (h4 : x ≤ 200) (h5 : y ≤ 200) (h6 : m ≠ 0) : 0 ≤ jp m u x y ∧ jp m u x y ≤ jq m x y ∧ 0 < jq m x y ∧ jq m x y ≤ 1000000000 := by
  have B := jb h1 h2 h3 h4 h5
  have b1 := B.a1
  have b2 := B.a2
  have b3 := B.a3
  have b4 := B.a4
  have b5 := B.a5 (by omega)
  rw [jp_form, jq_form]
  omega
theorem jaro_unit (a b : List UInt8) : UnitR (jaroT a b) := by
  unfold jaroT
  by_cases h1 : 200 < a.length ∨ 200 < b.length
  · rw [if_pos h1]; exact unit_nil
  · rw [if_neg h1]
    by_cases h2 : a = [] ∧ b = []
    · rw [if_pos h2]; exact unit_one
    · rw [if_neg h2]
      by_cases h3 : jm a b = 0
      · rw [if_pos h3]; exact unit_nil
      · rw [if_neg h3]
        obtain ⟨p1, p2, p3, p4⟩ := jaro_bounds (jm_le a b).1 (jm_le a b).2 (ju_le a b) (by omega) (by omega) h3
        exact unit_shr p1 p2 p3 p4
theorem jaro_one (a b : List UInt8) (ha : a.length ≤ 200) (hb : b.length ≤ 200) : jaroT a b = (1, 1) ↔ a = b := by
  unfold jaroT
  rw [if_neg (by omega)]
  by_cases h2 : a = [] ∧ b = []
  · rw [if_pos h2]
    exact ⟨fun _ => by rw [h2.1, h2.2], fun _ => rfl⟩
  · rw [if_neg h2]
    by_cases h3 : jm a b = 0
    · rw [if_pos h3]
      refine ⟨fun e => (by cases e), fun e => ?_⟩
      subst e
      unfold jm at h3
      rw [self_IA, List.length_eq_zero_iff] at h3
      exact absurd ⟨h3, h3⟩ h2
    · rw [if_neg h3]
      obtain ⟨l1, l2⟩ := jm_le a b
      have l3 := ju_le a b
      obtain ⟨p1, p2, p3, p4⟩ := jaro_bounds l1 l2 l3 ha hb h3
      rw [shr_is_one p1 p2 p3 p4]
      constructor
      · intro e
        have B := jb l1 l2 l3 ha hb
        have b1 := B.a1
        have b2 := B.a2
        have b3 := B.a3
        have b5 := B.a5 (by omega)
        rw [jp_form, jq_form] at e
        have e1 : jm a b * jm a b * a.length = jm a b * (a.length * b.length) := by omega
        have e2 : jm a b * jm a b * b.length = jm a b * (a.length * b.length) := by omega
        have e3 : ju a b * (a.length * b.length) = 0 := by omega
        have m0 : 0 < jm a b := by omega
        have x0 : 0 < a.length := by omega
        have y0 : 0 < b.length := by omega
        have f1 : jm a b = b.length := by
          rw [Nat.mul_assoc, Nat.mul_comm (jm a b) a.length] at e1
          exact Nat.eq_of_mul_eq_mul_left x0 (Nat.eq_of_mul_eq_mul_left m0 e1)
        have f2 : jm a b = a.length := by
          rw [Nat.mul_assoc] at e2
          exact Nat.eq_of_mul_eq_mul_right y0 (Nat.eq_of_mul_eq_mul_left m0 e2)
        have f3 : ju a b = 0 := by
          rcases Nat.mul_eq_zero.1 e3 with k | k
          · exact k
          · have := Nat.mul_pos x0 y0
            omega
        have g1 : IA a b (jw a b) a.length = a := full_IA f2
        have g2 : IB a b (jw a b) = b := full_IB (by rw [← IA_IB_len]; exact f1)
        have g3 : a.length = b.length := by omega
        refine diff_eq g3 ?_
        unfold ju at f3
        rw [g1, g2, f2] at f3
        exact f3
      · intro e
        subst e
        have f1 : jm a a = a.length := by unfold jm; rw [self_IA]
        have f2 : ju a a = 0 := by unfold ju; rw [self_IA, self_IB]; exact diffTo_self _ _
        rw [jp_form, jq_form, f1, f2]
        have : a.length * a.length * a.length = a.length * (a.length * a.length) := Nat.mul_assoc _ _ _
        omega
theorem jaro_apart (a b : List UInt8) (h : ∀ x ∈ a, x ∉ b) (h2 : a.length + b.length ≠ 0) : jaroT a b = (0, 1) := by
  unfold jaroT
  have h3 : jm a b = 0 := by unfold jm; rw [IA_apart h]; rfl
  rw [h3]
  split
  · rfl
  · rw [if_neg (fun e => by rw [e.1, e.2] at h2; exact h2 rfl), if_pos rfl]
end Go.Proofs.YtendkghifcjffaaGreatDoor
