/- The contract of Parse. -/
import Derived.Test.YtdoenjkebeidlaaDoorRead
import Derived.Test.YtdoenjkebeidlaaDoorText
namespace Go.Proofs.YtdoenjkebeidlaaDoor
open Go.RowKit

/-- The result's block behind its three stores. -/
theorem set3 {B : Nat} {a w : World} (h : Below B a w) (b : Nat) (hb : B ≤ b) (x y z : Value) : Below B a (((w.setCell ⟨b, 0, none⟩ x).setCell ⟨b, 1, none⟩ y).setCell ⟨b, 2, none⟩ z) :=
  ((h.setCell hb _).setCell hb _).setCell hb _

theorem parse_any (l : List UInt8) (hl : l.length ≤ 1000) (w : World) (he : Env w) :
    Calls Tryd.prog 13 #[.string ⟨l.toArray⟩] w (ValPost w (parse l)) := by
  have HL := Lib.hid hl
  have HE := Lib.hid he
  clear hl he
  go_enter Tryd.func13, Tryd.ntmps13
  go_wp2_with fail
  refine (read_any l HL.out _ (HE.out.alloc _)).mono ?_
  rintro e w1 ⟨K, N, T, rfl, hg, hT, hb1⟩
  have HG := Lib.hid hg
  have R1 : Own3 w1 w.heap.size 0 0 [] := Own3.below ⟨⟨by simp [go_sem], by simp [go_sem], by simp [go_sem]⟩, by simp [go_sem], by simp [go_sem], by simp [go_sem]⟩ hb1
  have HB := below_up (((Below.refl _ _).alloc (Nat.le_refl _) _)) hb1 (by simp)
  replace HE := Lib.hid (HE.out.below HB)
  clear hb1 hg
  go_wp2_with fail
  refine (valid_any K N T _).mono ?_
  rintro e w2 ⟨rfl, hb2⟩
  have A2 : Val3 w2 w1.heap.size K N T := Val3.below ⟨by simp [go_sem], by simp [go_sem], by simp [go_sem]⟩ hb2
  have hb3 : Below w1.heap.size w1 w2 := below_up (((Below.refl _ _).alloc (Nat.le_refl _) _)) hb2 (by simp)
  have R2 := R1.below hb3
  have HB2 := below_up HB hb3 HB.size
  replace HE := Lib.hid (HE.out.below hb3)
  clear hb2 hb3
  cases hv : vldB K N T
  · have hp := Lib.hid (parse_no HG.out (Or.inl hv))
    have r0 := R2.c0; have r1 := R2.c1; have r2 := R2.c2; have f0 := R2.f0; have f1 := R2.f1; have f2 := R2.f2
    go_wp2_with fail
    refine bodyPost_ret (v := .tuple #[V 0 0 [], .int .i64 4]) (by simp [results, Tryd.results13, go_sem, r0, r1, r2]) rfl ?_
    rw [hp.out]
    exact ⟨rfl, set3 HB2 _ (Nat.le_refl _) _ _ _⟩
  · have a0 := A2.c0; have a1 := A2.c1; have a2 := A2.c2
    go_wp2_with fail
    generalize ht : txt K N T = t
    have C := text_any K N T w2 HE.out
    rw [ht] at C
    have HT := Lib.hid ht
    clear ht
    refine C.mono ?_
    clear C
    rintro e w3 ⟨rfl, hb3⟩
    have A3 := A2.below hb3
    have R3 := R2.below hb3
    have HB3 := below_up HB2 hb3 HB2.size
    clear hb3 a0 a1 a2
    have a0 := A3.c0; have a1 := A3.c1; have a2 := A3.c2
    have r0 := R3.c0; have r1 := R3.c1; have r2 := R3.c2; have f0 := R3.f0; have f1 := R3.f1; have f2 := R3.f2
    by_cases hq : t = l
    · have hp := Lib.hid (parse_yes hv (HT.out.trans hq))
      subst hq
      go_wp2_with fail
      refine bodyPost_ret (v := .tuple #[V K N T, .int .i64 0]) (by simp [results, Tryd.results13, go_sem, r0, r1, r2]) rfl ?_
      rw [hp.out]
      exact ⟨rfl, set3 HB3 _ (Nat.le_refl _) _ _ _⟩
    · have hp := Lib.hid (parse_no HG.out (Or.inr (fun e => hq (HT.out.symm.trans e))))
      have e1 : (t == l) = false := by simpa using hq
      have e2 : (!t == l) = true := by simpa using hq
      clear hq
      go_wp2_with fail
      refine bodyPost_ret (v := .tuple #[V 0 0 [], .int .i64 4]) (by simp [results, Tryd.results13, go_sem, r0, r1, r2]) rfl ?_
      rw [hp.out]
      exact ⟨rfl, set3 HB3 _ (Nat.le_refl _) _ _ _⟩
end Go.Proofs.YtdoenjkebeidlaaDoor
