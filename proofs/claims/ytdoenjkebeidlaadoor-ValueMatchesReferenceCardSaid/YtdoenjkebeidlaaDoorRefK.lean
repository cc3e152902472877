/- The contract of the reference's Cast. -/
import Derived.Test.YtdoenjkebeidlaaDoorRefP
import Derived.Test.YtdoenjkebeidlaaDoorCast
namespace Go.Proofs.YtdoenjkebeidlaaDoor
open Go.RowKit

theorem refcast_bad1 (k n : Int) (t : List UInt8) (kind : Int) (hv : vldB k n t = false) (w : World) :
    Calls Tryd.prog 16 #[V k n t, .int .i64 kind] w (ValPost w (0, 0, [], 1)) := by
  go_enter Tryd.func16, Tryd.ntmps16
  go_wp2_with fail
  refine (refvalid_any k n t _).mono ?_
  rintro e w1 ⟨rfl, hb1⟩
  have R1 : Own3 w1 (w.heap.size + 1) 0 0 [] := Own3.below ⟨⟨by simp [go_sem], by simp [go_sem], by simp [go_sem]⟩, by simp [go_sem], by simp [go_sem], by simp [go_sem]⟩ hb1
  have HB := below_up (boxes2 w _ _) hb1 (by simp; omega)
  clear hb1
  have r0 := R1.c0; have r1 := R1.c1; have r2 := R1.c2; have f0 := R1.f0; have f1 := R1.f1; have f2 := R1.f2
  go_wp2_with fail
  refine bodyPost_ret (v := .tuple #[V 0 0 [], .int .i64 1]) (by simp [results, Tryd.results16, go_sem, r0, r1, r2]) rfl ?_
  exact ⟨rfl, set3 HB _ (Nat.le_succ _) _ _ _⟩

theorem refcast_bad2 (k n : Int) (t : List UInt8) (kind : Int) (hv : vldB k n t = true) (hk : kind < 1 ∨ 4 < kind) (w : World) :
    Calls Tryd.prog 16 #[V k n t, .int .i64 kind] w (ValPost w (0, 0, [], 1)) := by
  go_enter Tryd.func16, Tryd.ntmps16
  go_wp2_with fail
  refine (refvalid_any k n t _).mono ?_
  rintro e w1 ⟨rfl, hb1⟩
  have R1 : Own3 w1 (w.heap.size + 1) 0 0 [] := Own3.below ⟨⟨by simp [go_sem], by simp [go_sem], by simp [go_sem]⟩, by simp [go_sem], by simp [go_sem], by simp [go_sem]⟩ hb1
  have HB := below_up (boxes2 w _ _) hb1 (by simp; omega)
  clear hb1
  have r0 := R1.c0; have r1 := R1.c1; have r2 := R1.c2; have f0 := R1.f0; have f1 := R1.f1; have f2 := R1.f2
  rcases hk with hk | hk
  · go_wp2_with fail
    refine bodyPost_ret (v := .tuple #[V 0 0 [], .int .i64 1]) (by simp [results, Tryd.results16, go_sem, r0, r1, r2]) rfl ?_
    exact ⟨rfl, set3 HB _ (Nat.le_succ _) _ _ _⟩
  · have hk2 : ¬ kind < 1 := by omega
    go_wp2_with fail
    refine bodyPost_ret (v := .tuple #[V 0 0 [], .int .i64 1]) (by simp [results, Tryd.results16, go_sem, r0, r1, r2]) rfl ?_
    exact ⟨rfl, set3 HB _ (Nat.le_succ _) _ _ _⟩

/-- Where a value is returned as it is. -/
theorem refcast_same (k n : Int) (t : List UInt8) (kind : Int) (hv : vldB k n t = true) (h1 : 1 ≤ kind) (h4 : kind ≤ 4) (h : k = 0 ∨ k = kind) (w : World) :
    Calls Tryd.prog 16 #[V k n t, .int .i64 kind] w (ValPost w (k, n, t, 0)) := by
  go_enter Tryd.func16, Tryd.ntmps16
  go_wp2_with fail
  refine (refvalid_any k n t _).mono ?_
  rintro e w1 ⟨rfl, hb1⟩
  have A1 : Val3 w1 w.heap.size k n t := Val3.below ⟨by simp [go_sem], by simp [go_sem], by simp [go_sem]⟩ hb1
  have R1 : Own3 w1 (w.heap.size + 1) 0 0 [] := Own3.below ⟨⟨by simp [go_sem], by simp [go_sem], by simp [go_sem]⟩, by simp [go_sem], by simp [go_sem], by simp [go_sem]⟩ hb1
  have HB := below_up (boxes2 w _ _) hb1 (by simp; omega)
  clear hb1
  have r0 := R1.c0; have r1 := R1.c1; have r2 := R1.c2; have f0 := R1.f0; have f1 := R1.f1; have f2 := R1.f2
  have a0 := A1.c0; have a1 := A1.c1; have a2 := A1.c2
  rcases h with rfl | rfl
  · go_wp2_with fail
    refine bodyPost_ret (v := .tuple #[V 0 n t, .int .i64 0]) (by simp [results, Tryd.results16, go_sem, r0, r1, r2]) rfl ?_
    exact ⟨rfl, set3 HB _ (Nat.le_succ _) _ _ _⟩
  · have e0 : (k == 0) = false := by simp; omega
    go_wp2_with fail
    refine bodyPost_ret (v := .tuple #[V k n t, .int .i64 0]) (by simp [results, Tryd.results16, go_sem, r0, r1, r2]) rfl ?_
    exact ⟨rfl, set3 HB _ (Nat.le_succ _) _ _ _⟩

/-- A number, a day or a flag as a text. -/
theorem refcast_text (k n : Int) (t : List UInt8) (hv : vldB k n t = true) (h0 : k ≠ 0) (h1 : k ≠ 1) (w : World) :
    Calls Tryd.prog 16 #[V k n t, .int .i64 1] w (ValPost w (1, 0, txt k n t, 0)) := by
  have e0 : (k == 0) = false := by simpa using h0
  have e1 : (k == 1) = false := by simpa using h1
  clear h0 h1
  go_enter Tryd.func16, Tryd.ntmps16
  go_wp2_with fail
  refine (refvalid_any k n t _).mono ?_
  rintro e w1 ⟨rfl, hb1⟩
  have A1 : Val3 w1 w.heap.size k n t := Val3.below ⟨by simp [go_sem], by simp [go_sem], by simp [go_sem]⟩ hb1
  have R1 : Own3 w1 (w.heap.size + 1) 0 0 [] := Own3.below ⟨⟨by simp [go_sem], by simp [go_sem], by simp [go_sem]⟩, by simp [go_sem], by simp [go_sem], by simp [go_sem]⟩ hb1
  have HB := below_up (boxes2 w _ _) hb1 (by simp; omega)
  clear hb1
  have a0 := A1.c0; have a1 := A1.c1; have a2 := A1.c2
  go_wp2_with fail
  refine (reftext_any k n t _).mono ?_
  rintro e w2 ⟨rfl, hb2⟩
  have R2 := R1.below hb2
  have HB2 := below_up HB hb2 HB.size
  clear hb2 a0 a1 a2
  have r0 := R2.c0; have r1 := R2.c1; have r2 := R2.c2; have f0 := R2.f0; have f1 := R2.f1; have f2 := R2.f2
  go_wp2_with fail
  refine bodyPost_ret (v := .tuple #[V 1 0 (txt k n t), .int .i64 0]) (by simp [results, Tryd.results16, go_sem, r0, r1, r2]) rfl ?_
  exact ⟨rfl, set3 HB2 _ (Nat.le_succ _) _ _ _⟩

/-- A text as another kind. -/
theorem refcast_of_text (n : Int) (t : List UInt8) (kind : Int) (hv : vldB 1 n t = true) (h1 : 2 ≤ kind) (h4 : kind ≤ 4) (w : World) :
    Calls Tryd.prog 16 #[V 1 n t, .int .i64 kind] w (ValPost w (castT t kind)) := by
  have e1 : ((1 : Int) == kind) = false := by simp; omega
  have e2 : (kind == 1) = false := by simp; omega
  have HL := Lib.hid (vld_len hv)
  obtain ⟨⟨pk, pn, pt, pe⟩, hp⟩ : ∃ p, parse t = p := ⟨_, rfl⟩
  have HP := Lib.hid hp
  clear hp
  go_enter Tryd.func16, Tryd.ntmps16
  go_wp2_with fail
  refine (refvalid_any 1 n t _).mono ?_
  rintro e w1 ⟨rfl, hb1⟩
  have A1 : Val3 w1 w.heap.size 1 n t := Val3.below ⟨by simp [go_sem], by simp [go_sem], by simp [go_sem]⟩ hb1
  have R1 : Own3 w1 (w.heap.size + 1) 0 0 [] := Own3.below ⟨⟨by simp [go_sem], by simp [go_sem], by simp [go_sem]⟩, by simp [go_sem], by simp [go_sem], by simp [go_sem]⟩ hb1
  have HB := below_up (boxes2 w _ _) hb1 (by simp; omega)
  clear hb1
  have a0 := A1.c0; have a1 := A1.c1; have a2 := A1.c2
  go_wp2_with fail
  have C := fun W => refparse_any t (by have := HL.out; omega) W
  rw [HP.out] at C
  refine (C _).mono ?_
  clear C
  rintro e w2 ⟨rfl, hb2⟩
  have R2 := R1.below hb2
  have HB2 := below_up HB hb2 HB.size
  clear hb2 a0 a1 a2
  have r0 := R2.c0; have r1 := R2.c1; have r2 := R2.c2; have f0 := R2.f0; have f1 := R2.f1; have f2 := R2.f2
  have hlt := R2.lt
  by_cases g1 : pe = 0
  · by_cases g2 : pk = kind
    · have hc := Lib.hid (show castT t kind = (pk, pn, pt, pe) by unfold castT; rw [HP.out, if_pos ⟨g1, g2⟩])
      subst g1 g2
      go_wp2_with fail
      refine bodyPost_ret (v := .tuple #[V pk pn pt, .int .i64 0]) (by simp [results, Tryd.results16, go_sem, hlt, r0, r1, r2]) rfl ?_
      rw [hc.out]
      exact ⟨rfl, (set3 HB2 _ (Nat.le_succ _) _ _ _).alloc (by have := HB2.size; simp; omega) _⟩
    · have hc := Lib.hid (show castT t kind = (0, 0, [], 15) by unfold castT; rw [HP.out, if_neg (fun h => g2 h.2)])
      subst g1
      have q1 : (pk != kind) = true := by simpa using g2
      clear g2
      go_wp2_with fail
      refine bodyPost_ret (v := .tuple #[V 0 0 [], .int .i64 15]) (by simp [results, Tryd.results16, go_sem, hlt, r0, r1, r2]) rfl ?_
      rw [hc.out]
      exact ⟨rfl, (set3 HB2 _ (Nat.le_succ _) _ _ _).alloc (by have := HB2.size; simp; omega) _⟩
  · have hc := Lib.hid (show castT t kind = (0, 0, [], 15) by unfold castT; rw [HP.out, if_neg (fun h => g1 h.1)])
    have q1 : (pe != 0) = true := by simpa using g1
    clear g1
    go_wp2_with fail
    refine bodyPost_ret (v := .tuple #[V 0 0 [], .int .i64 15]) (by simp [results, Tryd.results16, go_sem, hlt, r0, r1, r2]) rfl ?_
    rw [hc.out]
    exact ⟨rfl, (set3 HB2 _ (Nat.le_succ _) _ _ _).alloc (by have := HB2.size; simp; omega) _⟩

/-- A flag, or to a flag: refused. -/
theorem refcast_type (k n : Int) (t : List UInt8) (kind : Int) (hv : vldB k n t = true) (h0 : k ≠ 0) (h1 : k ≠ 1) (hk : k ≠ kind) (h2 : 2 ≤ kind) (h4 : kind ≤ 4) (h : k = 4 ∨ kind = 4) (w : World) :
    Calls Tryd.prog 16 #[V k n t, .int .i64 kind] w (ValPost w (0, 0, [], 10)) := by
  have e0 : (k == 0) = false := by simpa using h0
  have e1 : (k == 1) = false := by simpa using h1
  have e2 : (k == kind) = false := by simpa using hk
  have e3 : (kind == 1) = false := by simp; omega
  have H := Lib.hid h
  clear h0 h1 hk h
  go_enter Tryd.func16, Tryd.ntmps16
  go_wp2_with fail
  refine (refvalid_any k n t _).mono ?_
  rintro e w1 ⟨rfl, hb1⟩
  have A1 : Val3 w1 w.heap.size k n t := Val3.below ⟨by simp [go_sem], by simp [go_sem], by simp [go_sem]⟩ hb1
  have R1 : Own3 w1 (w.heap.size + 1) 0 0 [] := Own3.below ⟨⟨by simp [go_sem], by simp [go_sem], by simp [go_sem]⟩, by simp [go_sem], by simp [go_sem], by simp [go_sem]⟩ hb1
  have HB := below_up (boxes2 w _ _) hb1 (by simp; omega)
  clear hb1
  have r0 := R1.c0; have r1 := R1.c1; have r2 := R1.c2; have f0 := R1.f0; have f1 := R1.f1; have f2 := R1.f2
  have a0 := A1.c0; have a1 := A1.c1; have a2 := A1.c2
  by_cases h5 : k = 4
  · have e4 : (k == 4) = true := by simpa using h5
    clear h5
    go_wp2_with fail
    refine bodyPost_ret (v := .tuple #[V 0 0 [], .int .i64 10]) (by simp [results, Tryd.results16, go_sem, r0, r1, r2]) rfl ?_
    exact ⟨rfl, set3 HB _ (Nat.le_succ _) _ _ _⟩
  · have e4 : (k == 4) = false := by simpa using h5
    have e5 : (kind == 4) = true := by have := H.out; simp; omega
    clear h5
    go_wp2_with fail
    refine bodyPost_ret (v := .tuple #[V 0 0 [], .int .i64 10]) (by simp [results, Tryd.results16, go_sem, r0, r1, r2]) rfl ?_
    exact ⟨rfl, set3 HB _ (Nat.le_succ _) _ _ _⟩

/-- A number as a day, a day as a number. -/
theorem refcast_num (k n : Int) (t : List UInt8) (kind : Int) (hv : vldB k n t = true) (h0 : k ≠ 0) (h1 : k ≠ 1) (hk : k ≠ kind) (h2 : 2 ≤ kind) (h4 : kind ≤ 4) (h5 : k ≠ 4) (h6 : kind ≠ 4) (w : World) :
    Calls Tryd.prog 16 #[V k n t, .int .i64 kind] w (ValPost w (castN n kind)) := by
  have e0 : (k == 0) = false := by simpa using h0
  have e1 : (k == 1) = false := by simpa using h1
  have e2 : (k == kind) = false := by simpa using hk
  have e3 : (kind == 1) = false := by simp; omega
  have e4 : (k == 4) = false := by simpa using h5
  have e5 : (kind == 4) = false := by simpa using h6
  clear h0 h1 hk h5 h6
  go_enter Tryd.func16, Tryd.ntmps16
  go_wp2_with fail
  refine (refvalid_any k n t _).mono ?_
  rintro e w1 ⟨rfl, hb1⟩
  have A1 : Val3 w1 w.heap.size k n t := Val3.below ⟨by simp [go_sem], by simp [go_sem], by simp [go_sem]⟩ hb1
  have R1 : Own3 w1 (w.heap.size + 1) 0 0 [] := Own3.below ⟨⟨by simp [go_sem], by simp [go_sem], by simp [go_sem]⟩, by simp [go_sem], by simp [go_sem], by simp [go_sem]⟩ hb1
  have HB := below_up (boxes2 w _ _) hb1 (by simp; omega)
  clear hb1
  have a0 := A1.c0; have a1 := A1.c1; have a2 := A1.c2
  go_wp2_with fail
  refine (refvalid_any kind n [] _).mono ?_
  rintro e w2 ⟨rfl, hb2⟩
  have A2 : Val3 w2 w1.heap.size kind n [] := Val3.below ⟨by simp [go_sem], by simp [go_sem], by simp [go_sem]⟩ hb2
  have hb3 : Below w1.heap.size w1 w2 := below_up (((Below.refl _ _).alloc (Nat.le_refl _) _)) hb2 (by simp)
  have R2 := R1.below hb3
  have HB2 := below_up HB hb3 HB.size
  clear hb2 hb3 a0 a1 a2
  have r0 := R2.c0; have r1 := R2.c1; have r2 := R2.c2; have f0 := R2.f0; have f1 := R2.f1; have f2 := R2.f2
  have a0 := A2.c0; have a1 := A2.c1; have a2 := A2.c2
  cases hw : vldB kind n []
  · have hc := Lib.hid (show castN n kind = (0, 0, [], 15) by unfold castN; rw [hw, if_neg (by decide)])
    go_wp2_with fail
    refine bodyPost_ret (v := .tuple #[V 0 0 [], .int .i64 15]) (by simp [results, Tryd.results16, go_sem, r0, r1, r2]) rfl ?_
    rw [hc.out]
    exact ⟨rfl, set3 HB2 _ (Nat.le_succ _) _ _ _⟩
  · have hc := Lib.hid (show castN n kind = (kind, n, [], 0) by unfold castN; rw [hw, if_pos rfl])
    go_wp2_with fail
    refine bodyPost_ret (v := .tuple #[V kind n [], .int .i64 0]) (by simp [results, Tryd.results16, go_sem, r0, r1, r2]) rfl ?_
    rw [hc.out]
    exact ⟨rfl, set3 HB2 _ (Nat.le_succ _) _ _ _⟩

/-- Cast, for every value and kind. -/
theorem refcast_any (k n : Int) (t : List UInt8) (kind : Int) (w : World) :
    Calls Tryd.prog 16 #[V k n t, .int .i64 kind] w (ValPost w (cast k n t kind)) := by
  unfold cast
  by_cases c1 : vldB k n t = false ∨ kind < 1 ∨ 4 < kind
  · rw [if_pos c1]
    cases hv : vldB k n t
    · exact refcast_bad1 k n t kind hv w
    · exact refcast_bad2 k n t kind hv (by rcases c1 with c | c; rw [hv] at c; cases c; exact c) w
  · rw [if_neg c1]
    have hv : vldB k n t = true := by
      cases g : vldB k n t
      · exact absurd (Or.inl g) c1
      · rfl
    have h1 : 1 ≤ kind := by have := fun h => c1 (Or.inr (Or.inl h)); omega
    have h4 : kind ≤ 4 := by have := fun h => c1 (Or.inr (Or.inr h)); omega
    by_cases c2 : k = 0 ∨ k = kind
    · rw [if_pos c2]; exact refcast_same k n t kind hv h1 h4 c2 w
    · rw [if_neg c2]
      have hk0 : k ≠ 0 := fun h => c2 (Or.inl h)
      have hkk : k ≠ kind := fun h => c2 (Or.inr h)
      by_cases c3 : kind = 1
      · subst c3
        rw [if_pos rfl]; exact refcast_text k n t hv hk0 hkk w
      · rw [if_neg c3]
        by_cases c4 : k = 1
        · subst c4
          rw [if_pos rfl]; exact refcast_of_text n t kind hv (by omega) h4 w
        · rw [if_neg c4]
          by_cases c5 : k = 4 ∨ kind = 4
          · rw [if_pos c5]; exact refcast_type k n t kind hv hk0 c4 hkk (by omega) h4 c5 w
          · rw [if_neg c5]; exact refcast_num k n t kind hv hk0 c4 hkk (by omega) h4 (fun h => c5 (Or.inl h)) (fun h => c5 (Or.inr h)) w
end Go.Proofs.YtdoenjkebeidlaaDoor
