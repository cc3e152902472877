/- Small words that several laws share. -/
import Derived.Test.YtcgkaecaddpenaaGreatDoorPsLawB
namespace Go.Proofs.YtcgkaecaddpenaaGreatDoor
open Go.RowKit
open L7 (Tk lexT lx gap)
open L8
set_option linter.unusedSimpArgs false

theorem below_step2 {a c d : World} (hb : Below a.heap.size a c) (h : Below c.heap.size c d) : Below a.heap.size a d := hb.trans (h.mono hb.size)
theorem kept_below {D : Nat} {w W : World} (hb : Below w.heap.size w W) : Kept D w W := ⟨hb.size, fun b _ hl => hb.block b hl⟩
theorem parse_nil {t : Txt} {a : List It} {er x : Int} (h : parseT t = (a, er, x)) (he : er ≠ 0) : a = [] := by
  by_cases hl : (lexT t).2.1 ≠ 0
  · rw [parse_err hl] at h
    simp only [Prod.mk.injEq] at h
    exact h.1.symm
  · have he2 : lexT t = ((lexT t).1, 0, (lexT t).2.2) := Prod.ext rfl (Prod.ext (by simpa using hl) rfl)
    rw [parse_lex he2] at h
    rcases e : itemsP 200 (lexT t).1 with ⟨l, r⟩ | ⟨c, r⟩
    · rw [e] at h
      simp only [endT, Prod.mk.injEq] at h
      omega
    · rw [e] at h
      simp only [endT, Prod.mk.injEq] at h
      exact h.1.symm
end Go.Proofs.YtcgkaecaddpenaaGreatDoor
