/- The contract of read: a guess that is right where there is a value to be guessed. -/
import Derived.Test.YtdoenjkebeidlaaDoorUnquote
import Derived.Test.YtdoenjkebeidlaaDoorEnv
namespace Go.Proofs.YtdoenjkebeidlaaDoor
open Go.RowKit

def ReadPost (l : List UInt8) (w : World) (e : Ending) (w' : World) : Prop :=
  ∃ K N T, e = .returned (V K N T) ∧ Guess l K N T ∧ T.length ≤ 1000 ∧ Below w.heap.size w w'

theorem guess_of_parse {l : List UInt8} {K N : Int} {T : List UInt8} (h : parse l = (K, N, T, 0)) : Guess l K N T := fun k n t hv e => by
  rw [← e, parse_txt hv] at h
  simp at h
  exact ⟨h.1.symm, h.2.1.symm, h.2.2.symm⟩
theorem trim_len (r : List UInt8) : (Lib.trimSuffix r [34]).length ≤ r.length := by
  unfold Lib.trimSuffix
  split
  · rw [List.length_take]; omega
  · omega
theorem unq_len : ∀ r : List UInt8, (unq r).length ≤ r.length
  | [] => by simp [unq]
  | [c] => by simp [unq]
  | c :: d :: r => by
    unfold unq
    split
    · have := unq_len r; simp; omega
    · have := unq_len (d :: r); simp at this ⊢; omega

theorem read_null (w : World) : Calls Tryd.prog 30 #[.string ⟨#[110, 117, 108, 108]⟩] w (ReadPost [110, 117, 108, 108] w) := by
  go_enter Tryd.func30, Tryd.ntmps30
  go_wp2_with fail
  refine bodyPost_ret (v := V 0 0 []) (by simp [results, Tryd.results30, go_sem]) rfl ?_
  exact ⟨_, _, _, rfl, guess_of_parse (by decide +kernel), by simp, by go_grown⟩
theorem read_true (w : World) : Calls Tryd.prog 30 #[.string ⟨#[116, 114, 117, 101]⟩] w (ReadPost [116, 114, 117, 101] w) := by
  go_enter Tryd.func30, Tryd.ntmps30
  go_wp2_with fail
  refine bodyPost_ret (v := V 4 1 []) (by simp [results, Tryd.results30, go_sem]) rfl ?_
  exact ⟨_, _, _, rfl, guess_of_parse (by decide +kernel), by simp, by go_grown⟩
theorem read_false (w : World) : Calls Tryd.prog 30 #[.string ⟨#[102, 97, 108, 115, 101]⟩] w (ReadPost [102, 97, 108, 115, 101] w) := by
  go_enter Tryd.func30, Tryd.ntmps30
  go_wp2_with fail
  refine bodyPost_ret (v := V 4 0 []) (by simp [results, Tryd.results30, go_sem]) rfl ?_
  exact ⟨_, _, _, rfl, guess_of_parse (by decide +kernel), by simp, by go_grown⟩

theorem read_text (r : List UInt8) (hl : r.length ≤ 999) (w : World) : Calls Tryd.prog 30 #[.string ⟨(34 :: r).toArray⟩] w (ReadPost (34 :: r) w) := by
  have HT := Lib.hid (trim_len r)
  have HL := Lib.hid hl
  clear hl
  go_enter Tryd.func30, Tryd.ntmps30
  go_wp2_with fail
  refine (cutp_yes 34 r _).mono ?_
  rintro e w1 ⟨rfl, rfl⟩
  go_wp2_with fail
  refine (trims_any r [34] (by have := HL.out; omega) _).mono ?_
  rintro e w1 ⟨rfl, rfl⟩
  go_wp2_with fail
  refine (unquote_any (Lib.trimSuffix r [34]) (by have := HL.out; have := HT.out; omega) _).mono ?_
  rintro e w1 ⟨rfl, hb1⟩
  have R1 : Own3 w1 w.heap.size 0 0 [] := Own3.below ⟨⟨by simp [go_sem], by simp [go_sem], by simp [go_sem]⟩, by simp [go_sem], by simp [go_sem], by simp [go_sem]⟩ hb1
  have HB := below_up (((Below.refl _ _).alloc (Nat.le_refl _) _)) hb1 (by simp)
  clear hb1
  have r0 := R1.c0; have r1 := R1.c1; have r2 := R1.c2; have f0 := R1.f0; have f1 := R1.f1; have f2 := R1.f2
  go_wp2_with fail
  refine bodyPost_ret (v := V 1 0 (unq (Lib.trimSuffix r [34]))) (by simp [results, Tryd.results30, go_sem, r0, r1, r2]) rfl ?_
  refine ⟨_, _, _, rfl, ?_, ?_, ((HB.setCell (Nat.le_refl _) _).setCell (Nat.le_refl _) _).setCell (Nat.le_refl _) _⟩
  · intro k n t hv e
    obtain ⟨h1, h2, h3⟩ := guess_text hv e
    refine ⟨h1.symm, h2.symm, ?_⟩
    rw [h3, trim_quo, unq_flat]
  · have := unq_len (Lib.trimSuffix r [34]); have := HT.out; have := HL.out; omega

theorem read_day (r : List UInt8) (hl : r.length ≤ 999) (w : World) (he : Env w) : Calls Tryd.prog 30 #[.string ⟨(64 :: r).toArray⟩] w (ReadPost (64 :: r) w) := by
  have HL := Lib.hid hl
  have HE := Lib.hid he
  clear hl he
  go_enter Tryd.func30, Tryd.ntmps30
  go_wp2_with fail
  refine (cutp_no 34 (64 :: r) (by simp) _).mono ?_
  rintro e w1 ⟨rfl, rfl⟩
  go_wp2_with fail
  refine (cutp_yes 64 r _).mono ?_
  rintro e w1 ⟨rfl, rfl⟩
  go_wp2_with fail
  refine (atoi_any r (by have := HL.out; omega) _ (HE.out.alloc _)).mono ?_
  rintro e w1 ⟨N, f, rfl, hN, hb1⟩
  have HN := Lib.hid hN
  have R1 : Own3 w1 w.heap.size 0 0 [] := Own3.below ⟨⟨by simp [go_sem], by simp [go_sem], by simp [go_sem]⟩, by simp [go_sem], by simp [go_sem], by simp [go_sem]⟩ hb1
  have HB := below_up (((Below.refl _ _).alloc (Nat.le_refl _) _)) hb1 (by simp)
  clear hb1 hN
  have r0 := R1.c0; have r1 := R1.c1; have r2 := R1.c2; have f0 := R1.f0; have f1 := R1.f1; have f2 := R1.f2
  go_wp2_with fail
  refine bodyPost_ret (v := V 3 N []) (by simp [results, Tryd.results30, go_sem, r0, r1, r2]) rfl ?_
  refine ⟨_, _, _, rfl, ?_, by simp, ((HB.setCell (Nat.le_refl _) _).setCell (Nat.le_refl _) _).setCell (Nat.le_refl _) _⟩
  intro k n t hv e
  obtain ⟨h1, h2, h3⟩ := guess_day hv e
  have hb := vld_bound hv
  exact ⟨h1.symm, HN.out n (by rw [← h2]; exact atoi_itoa n hb.1 hb.2), h3.symm⟩

theorem read_num (l : List UInt8) (hl : l.length ≤ 1000) (h1 : l ≠ [110, 117, 108, 108]) (h2 : l ≠ [116, 114, 117, 101]) (h3 : l ≠ [102, 97, 108, 115, 101]) (h4 : ∀ r, l ≠ 34 :: r) (h5 : ∀ r, l ≠ 64 :: r) (w : World) (he : Env w) : Calls Tryd.prog 30 #[.string ⟨l.toArray⟩] w (ReadPost l w) := by
  have HL := Lib.hid hl
  have HE := Lib.hid he
  have q1 : (l == [110, 117, 108, 108]) = false := by simpa using h1
  have q2 : (l == [116, 114, 117, 101]) = false := by simpa using h2
  have q3 : (l == [102, 97, 108, 115, 101]) = false := by simpa using h3
  have H4 := Lib.hid h4
  have H5 := Lib.hid h5
  have H1 := Lib.hid h1
  have H2 := Lib.hid h2
  have H3 := Lib.hid h3
  clear hl he h1 h2 h3 h4 h5
  go_enter Tryd.func30, Tryd.ntmps30
  go_wp2_with fail
  refine (cutp_no 34 l H4.out _).mono ?_
  rintro e w1 ⟨rfl, rfl⟩
  go_wp2_with fail
  refine (cutp_no 64 l H5.out _).mono ?_
  rintro e w1 ⟨rfl, rfl⟩
  go_wp2_with fail
  refine (atoi_any l (by have := HL.out; omega) _ (HE.out.alloc _)).mono ?_
  rintro e w1 ⟨N, f, rfl, hN, hb1⟩
  have HN := Lib.hid hN
  have R1 : Own3 w1 w.heap.size 0 0 [] := Own3.below ⟨⟨by simp [go_sem], by simp [go_sem], by simp [go_sem]⟩, by simp [go_sem], by simp [go_sem], by simp [go_sem]⟩ hb1
  have HB := below_up (((Below.refl _ _).alloc (Nat.le_refl _) _)) hb1 (by simp)
  clear hb1 hN
  have r0 := R1.c0; have r1 := R1.c1; have r2 := R1.c2; have f0 := R1.f0; have f1 := R1.f1; have f2 := R1.f2
  go_wp2_with fail
  refine bodyPost_ret (v := V 2 N []) (by simp [results, Tryd.results30, go_sem, r0, r1, r2]) rfl ?_
  refine ⟨_, _, _, rfl, ?_, by simp, ((HB.setCell (Nat.le_refl _) _).setCell (Nat.le_refl _) _).setCell (Nat.le_refl _) _⟩
  intro k n t hv e
  obtain ⟨h1, h2, h3⟩ := guess_num hv e H1.out H2.out H3.out H4.out H5.out
  have hb := vld_bound hv
  exact ⟨h1.symm, HN.out n (by rw [← h2]; exact atoi_itoa n hb.1 hb.2), h3.symm⟩

theorem read_any (l : List UInt8) (hl : l.length ≤ 1000) (w : World) (he : Env w) : Calls Tryd.prog 30 #[.string ⟨l.toArray⟩] w (ReadPost l w) := by
  by_cases h1 : l = [110, 117, 108, 108]
  · subst h1; exact read_null w
  by_cases h2 : l = [116, 114, 117, 101]
  · subst h2; exact read_true w
  by_cases h3 : l = [102, 97, 108, 115, 101]
  · subst h3; exact read_false w
  by_cases h4 : ∀ r, l ≠ 34 :: r
  · by_cases h5 : ∀ r, l ≠ 64 :: r
    · exact read_num l hl h1 h2 h3 h4 h5 w he
    · obtain ⟨r, hr⟩ := Classical.not_forall.1 h5
      obtain rfl := Classical.not_not.1 hr
      exact read_day r (by simp at hl; omega) w he
  · obtain ⟨r, hr⟩ := Classical.not_forall.1 h4
    obtain rfl := Classical.not_not.1 hr
    exact read_text r (by simp at hl; omega) w
end Go.Proofs.YtdoenjkebeidlaaDoor
