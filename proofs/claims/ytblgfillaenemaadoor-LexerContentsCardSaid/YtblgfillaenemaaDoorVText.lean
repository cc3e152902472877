/- The contract of Text. -/
import Derived.Test.YtblgfillaenemaaDoorVValid
import Derived.Test.YtblgfillaenemaaDoorVQuote
import Derived.Test.YtblgfillaenemaaDoorVEnv
import Derived.Test.YtblgfillaenemaaDoorVMathT
namespace Go.Proofs.YtblgfillaenemaaDoor.L2
open Go.RowKit

theorem text_bad (k n : Int) (t : List UInt8) (hv : vldB k n t = false) (w : World) :
    Calls Tryd.prog 17 #[V k n t] w fun e w' => e = .returned (.string ⟨#[]⟩) ∧ Below w.heap.size w w' := by
  go_enter Tryd.func17, Tryd.ntmps17
  go_wp2_with fail
  refine (valid_any k n t _).mono ?_
  rintro e w1 ⟨rfl, hb1⟩
  have HB := below_up (((Below.refl _ _).alloc (Nat.le_refl _) _)) hb1 (by simp)
  clear hb1
  go_wp2_with fail
  go_ret
  exact ⟨rfl, HB⟩

theorem text_null (n : Int) (t : List UInt8) (hv : vldB 0 n t = true) (w : World) :
    Calls Tryd.prog 17 #[V 0 n t] w fun e w' => e = .returned (.string ⟨#[110, 117, 108, 108]⟩) ∧ Below w.heap.size w w' := by
  go_enter Tryd.func17, Tryd.ntmps17
  go_wp2_with fail
  refine (valid_any 0 n t _).mono ?_
  rintro e w1 ⟨rfl, hb1⟩
  have A1 : Val3 w1 w.heap.size 0 n t := Val3.below ⟨by simp [go_sem], by simp [go_sem], by simp [go_sem]⟩ hb1
  have HB := below_up (((Below.refl _ _).alloc (Nat.le_refl _) _)) hb1 (by simp)
  have c0 := A1.c0
  clear hb1
  go_wp2_with fail
  go_ret
  exact ⟨rfl, HB⟩

theorem text_text (n : Int) (t : List UInt8) (hv : vldB 1 n t = true) (w : World) :
    Calls Tryd.prog 17 #[V 1 n t] w fun e w' => e = .returned (.string ⟨(quo t).toArray⟩) ∧ Below w.heap.size w w' := by
  have HL := Lib.hid (vld_len hv)
  go_enter Tryd.func17, Tryd.ntmps17
  go_wp2_with fail
  refine (valid_any 1 n t _).mono ?_
  rintro e w1 ⟨rfl, hb1⟩
  have A1 : Val3 w1 w.heap.size 1 n t := Val3.below ⟨by simp [go_sem], by simp [go_sem], by simp [go_sem]⟩ hb1
  have HB := below_up (((Below.refl _ _).alloc (Nat.le_refl _) _)) hb1 (by simp)
  have c0 := A1.c0; have c2 := A1.c2
  clear hb1
  go_wp2_with fail
  refine (quote_any t (by have := HL.out; omega) _).mono ?_
  rintro e w2 ⟨rfl, hb2⟩
  have HB2 := below_up HB hb2 HB.size
  clear hb2
  go_wp2_with fail
  go_ret
  exact ⟨rfl, HB2⟩

theorem text_num (n : Int) (t : List UInt8) (hv : vldB 2 n t = true) (w : World) (he : Env w) :
    Calls Tryd.prog 17 #[V 2 n t] w fun e w' => e = .returned (.string ⟨(Lib.itoa n).toArray⟩) ∧ Below w.heap.size w w' := by
  have HN := Lib.hid (vld_bound hv)
  go_enter Tryd.func17, Tryd.ntmps17
  go_wp2_with fail
  refine (valid_any 2 n t _).mono ?_
  rintro e w1 ⟨rfl, hb1⟩
  have A1 : Val3 w1 w.heap.size 2 n t := Val3.below ⟨by simp [go_sem], by simp [go_sem], by simp [go_sem]⟩ hb1
  have HB := below_up (((Below.refl _ _).alloc (Nat.le_refl _) _)) hb1 (by simp)
  have HE := Lib.hid (he.below HB)
  have c0 := A1.c0; have c1 := A1.c1
  clear hb1 he
  go_wp2_with fail
  refine (itoa_any n (by have := HN.out; omega) (by have := HN.out; omega) _ HE.out).mono ?_
  rintro e w2 ⟨rfl, hb2⟩
  have HB2 := below_up HB hb2 HB.size
  clear hb2
  go_wp2_with fail
  go_ret
  exact ⟨rfl, HB2⟩

theorem text_day (n : Int) (t : List UInt8) (hv : vldB 3 n t = true) (w : World) (he : Env w) :
    Calls Tryd.prog 17 #[V 3 n t] w fun e w' => e = .returned (.string ⟨(64 :: Lib.itoa n).toArray⟩) ∧ Below w.heap.size w w' := by
  have HN := Lib.hid (vld_bound hv)
  have HL := Lib.hid (Lib.itoa_length_le n (by have := HN.out; omega) (by have := HN.out; omega))
  go_enter Tryd.func17, Tryd.ntmps17
  go_wp2_with fail
  refine (valid_any 3 n t _).mono ?_
  rintro e w1 ⟨rfl, hb1⟩
  have A1 : Val3 w1 w.heap.size 3 n t := Val3.below ⟨by simp [go_sem], by simp [go_sem], by simp [go_sem]⟩ hb1
  have HB := below_up (((Below.refl _ _).alloc (Nat.le_refl _) _)) hb1 (by simp)
  have HE := Lib.hid (he.below HB)
  have c0 := A1.c0; have c1 := A1.c1
  clear hb1 he
  go_wp2_with fail
  refine (itoa_any n (by have := HN.out; omega) (by have := HN.out; omega) _ HE.out).mono ?_
  rintro e w2 ⟨rfl, hb2⟩
  have HB2 := below_up HB hb2 HB.size
  clear hb2
  have q : (9223372036854775807 < 1 + (Lib.itoa n).length) = False := eq_false (by have := HL.out; omega)
  go_wp2_with fail
  go_ret
  exact ⟨str_ret (by simp), HB2⟩

theorem text_flag (n : Int) (t : List UInt8) (hv : vldB 4 n t = true) (l : List UInt8) (hl : txt 4 n t = l) (w : World) :
    Calls Tryd.prog 17 #[V 4 n t] w fun e w' => e = .returned (.string ⟨l.toArray⟩) ∧ Below w.heap.size w w' := by
  have HL := Lib.hid hl
  clear hl
  go_enter Tryd.func17, Tryd.ntmps17
  go_wp2_with fail
  refine (valid_any 4 n t _).mono ?_
  rintro e w1 ⟨rfl, hb1⟩
  have A1 : Val3 w1 w.heap.size 4 n t := Val3.below ⟨by simp [go_sem], by simp [go_sem], by simp [go_sem]⟩ hb1
  have HB := below_up (((Below.refl _ _).alloc (Nat.le_refl _) _)) hb1 (by simp)
  have c0 := A1.c0; have c1 := A1.c1
  clear hb1
  by_cases h1 : n = 1
  · subst h1
    go_wp2_with fail
    refine (fbool_any true _).mono ?_
    rintro e w2 ⟨rfl, rfl⟩
    go_wp2_with fail
    go_ret
    exact ⟨str_ret (by rw [← HL.out, txt_flag hv, if_pos rfl]; rfl), HB⟩
  · have e1 : (n == 1) = false := by simpa using h1
    have HH := Lib.hid h1
    clear h1
    go_wp2_with fail
    refine (fbool_any false _).mono ?_
    rintro e w2 ⟨rfl, rfl⟩
    go_wp2_with fail
    go_ret
    exact ⟨str_ret (by rw [← HL.out, txt_flag hv, if_neg HH.out]; rfl), HB⟩

/-- Text, for every value. -/
theorem text_any (k n : Int) (t : List UInt8) (w : World) (he : Env w) :
    Calls Tryd.prog 17 #[V k n t] w fun e w' => e = .returned (.string ⟨(txt k n t).toArray⟩) ∧ Below w.heap.size w w' := by
  cases hv : vldB k n t
  · rw [txt_bad hv]; exact text_bad k n t hv w
  · rcases vld_cases hv with rfl | rfl | rfl | rfl | rfl
    · rw [txt_null hv]; exact text_null n t hv w
    · rw [txt_text hv]; exact text_text n t hv w
    · rw [txt_num hv]; exact text_num n t hv w he
    · rw [txt_day hv]; exact text_day n t hv w he
    · exact text_flag n t hv _ rfl w
end Go.Proofs.YtblgfillaenemaaDoor.L2
