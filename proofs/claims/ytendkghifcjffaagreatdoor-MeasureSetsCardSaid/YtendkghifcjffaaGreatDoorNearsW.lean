/- MeasureNears in plain words: Near is not less for a nearer number, nor for a greater tolerance, and not 0 exactly if the distance is at most the tolerance. -/
import Derived.Test.YtendkghifcjffaaGreatDoorJaroW
import Derived.Test.YtendkghifcjffaaGreatDoorRCmp
namespace Go.Proofs.YtendkghifcjffaaGreatDoor
open Go.RowKit

theorem neq_rat (r s : Int × Int) (W : World) : (binOp .neq 32 (rat r) (rat s)).run Tryz.prog W = .ok (.bool (!decide (r = s))) W := by
  obtain ⟨a, b⟩ := r
  obtain ⟨c, d⟩ := s
  by_cases h1 : a = c
  · by_cases h2 : b = d
    · subst h1 h2
      simp [go_sem]
    · have e2 : (b == d) = false := by simpa using h2
      subst h1
      simp [go_sem, e2, h2]
  · have e1 : (a == c) = false := by simpa using h1
    simp [go_sem, e1, h1]
theorem cmpR_ge {r s : Int × Int} (hr : UnitR r) (hs : UnitR s) (h : s.1 * r.2 ≤ r.1 * s.2) : ¬ L1.cmpR r.1 r.2 s.1 s.2 < 0 := by
  unfold L1.cmpR
  rw [L1.vldB_mk hr.1, L1.vldB_mk hs.1]
  unfold L1.cmpI
  simp only [Bool.and_self, if_true]
  rw [if_neg (by omega)]
  split <;> omega
end Go.Proofs.YtendkghifcjffaaGreatDoor
