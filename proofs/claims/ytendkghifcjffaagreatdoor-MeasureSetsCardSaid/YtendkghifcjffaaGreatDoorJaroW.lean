/- MeasureJaro in plain words: Jaro is 1 exactly for equal texts, and 0 for texts without a common byte, unless both are empty. -/
import Derived.Test.YtendkghifcjffaaGreatDoorMLaw
namespace Go.Proofs.YtendkghifcjffaaGreatDoor
open Go.RowKit

theorem eql_rat (r s : Int × Int) (W : World) : (binOp .eql 32 (rat r) (rat s)).run Tryz.prog W = .ok (.bool (decide (r = s))) W := by
  obtain ⟨a, b⟩ := r
  obtain ⟨c, d⟩ := s
  by_cases h1 : a = c
  · by_cases h2 : b = d
    · subst h1 h2
      simp [go_sem]
    · have e2 : (b == d) = false := by simpa using h2
      subst h1
      simp [go_sem, e2, h2]
  · have e1 : (a == c) = false := by simpa using h1
    simp [go_sem, e1, h1]
theorem short2 {n : Nat} {a b : List UInt8} (h : shortB n [a, b] = true) : a.length ≤ n ∧ b.length ≤ n := by
  unfold shortB at h
  simp at h
  omega
/-- Whether one of the first i bytes of a is among b's. -/
def comB (a b : List UInt8) (i : Nat) : Bool := (a.take i).any (fun x => b.any (fun y => decide (x = y)))
def comK (c : UInt8) (b : List UInt8) (k : Nat) : Bool := (b.take k).any (fun y => decide (c = y))
theorem comB_succ {a b : List UInt8} {i : Nat} (hi : i < a.length) : comB a b (i + 1) = (comB a b i || comK a[i] b b.length) := by
  unfold comB comK
  rw [List.take_succ_eq_append_getElem hi, List.any_append, List.take_length]
  simp
theorem comK_succ {c : UInt8} {b : List UInt8} {k : Nat} (hk : k < b.length) : comK c b (k + 1) = (comK c b k || decide (c = b[k])) := by
  unfold comK
  rw [List.take_succ_eq_append_getElem hk, List.any_append]
  simp
theorem comB_false {a b : List UInt8} (h : comB a b a.length = false) : ∀ x ∈ a, x ∉ b := by
  intro x hx hb
  unfold comB at h
  rw [List.take_length] at h
  have : (a.any (fun x => b.any (fun y => decide (x = y)))) = true := by
    rw [List.any_eq_true]
    refine ⟨x, hx, ?_⟩
    rw [List.any_eq_true]
    exact ⟨x, hb, by simp⟩
  rw [h] at this
  cases this

end Go.Proofs.YtendkghifcjffaaGreatDoor
