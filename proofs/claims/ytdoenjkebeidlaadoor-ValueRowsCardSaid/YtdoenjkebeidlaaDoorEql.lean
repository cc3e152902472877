/- '==' and '!=' on values. -/
import Derived.Test.YtdoenjkebeidlaaDoorBase
namespace Go.Proofs.YtdoenjkebeidlaaDoor
open Go.RowKit

theorem eql_yes (k n : Int) (t : List UInt8) (W : World) :
    (binOp .eql 23 (V k n t) (V k n t)).run Tryd.prog W = .ok (.bool true) W := by
  simp [go_sem]
theorem eql_no {k n : Int} {t : List UInt8} {k2 n2 : Int} {t2 : List UInt8} (h : ¬ (k = k2 ∧ n = n2 ∧ t = t2)) (W : World) :
    (binOp .eql 23 (V k n t) (V k2 n2 t2)).run Tryd.prog W = .ok (.bool false) W := by
  by_cases h1 : k = k2
  · by_cases h2 : n = n2
    · have h3 : ¬ t = t2 := fun e => h ⟨h1, h2, e⟩
      subst h1 h2
      simp [go_sem, h3]
    · have e2 : (n == n2) = false := by simpa using h2
      subst h1
      simp [go_sem, e2]
  · have e1 : (k == k2) = false := by simpa using h1
    simp [go_sem, e1]
theorem neq_no (k n : Int) (t : List UInt8) (W : World) :
    (binOp .neq 23 (V k n t) (V k n t)).run Tryd.prog W = .ok (.bool false) W := by
  simp [go_sem]
theorem neq_yes {k n : Int} {t : List UInt8} {k2 n2 : Int} {t2 : List UInt8} (h : ¬ (k = k2 ∧ n = n2 ∧ t = t2)) (W : World) :
    (binOp .neq 23 (V k n t) (V k2 n2 t2)).run Tryd.prog W = .ok (.bool true) W := by
  by_cases h1 : k = k2
  · by_cases h2 : n = n2
    · have h3 : ¬ t = t2 := fun e => h ⟨h1, h2, e⟩
      subst h1 h2
      simp [go_sem, h3]
    · have e2 : (n == n2) = false := by simpa using h2
      subst h1
      simp [go_sem, e2]
  · have e1 : (k == k2) = false := by simpa using h1
    simp [go_sem, e1]
end Go.Proofs.YtdoenjkebeidlaaDoor
