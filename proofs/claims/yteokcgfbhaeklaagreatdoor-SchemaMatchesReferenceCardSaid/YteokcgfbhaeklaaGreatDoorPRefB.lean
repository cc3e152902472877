/- The contract of the reference's Parse. -/
import Derived.Test.YteokcgfbhaeklaaGreatDoorPRefA
import Derived.Test.YteokcgfbhaeklaaGreatDoorPVB
namespace Go.Proofs.YteokcgfbhaeklaaGreatDoor.L2
open Go.RowKit

theorem reftext_eq {k n : Int} {t : List UInt8} {x : List UInt8} (h : txt k n t = x) (w : World) :
    Calls Tryz.prog 63 #[V k n t] w fun e w' => e = .returned (.string ⟨x.toArray⟩) ∧ Below w.heap.size w w' := by
  subst h; exact reftext_any k n t w
theorem yes_of {k n : Int} {t l : List UInt8} (hl : l ≠ []) (h : txt k n t = l) : parse l = (k, n, t, 0) := by
  cases hv : vldB k n t
  · rw [txt_bad hv] at h; exact absurd h.symm hl
  · exact parse_yes hv h

theorem refparse_nil (w : World) : Calls Tryz.prog 64 #[.string ⟨#[]⟩] w (ValPost w (0, 0, [], 4)) := by
  go_enter Tryz.func64, Tryz.ntmps64
  go_wp2_with fail
  refine bodyPost_ret (v := .tuple #[V 0 0 [], .int .i64 4]) (by simp [results, Tryz.results64, go_sem]) rfl ?_
  exact ⟨rfl, by go_grown⟩

theorem guess_n {r : List UInt8} : Guess (110 :: r) 0 0 [] := by
  intro k n t hv h
  obtain ⟨c, q, hc, hd⟩ := itoa_head n
  rcases vld_cases hv with rfl | rfl | rfl | rfl | rfl
  · exact ⟨rfl, (vld_zero0 hv).symm, (vld_nil hv (by decide)).symm⟩
  · rw [txt_text hv] at h; unfold quo at h; simp at h
  · rw [txt_num hv, hc] at h
    injection h with h _
    subst h
    rcases hd with hd | hd
    · exact absurd hd (by decide)
    · unfold IsDig at hd; exact absurd hd (by decide)
  · rw [txt_day hv] at h; simp at h
  · rw [txt_flag hv] at h; split at h <;> simp at h
theorem guess_t {r : List UInt8} : Guess (116 :: r) 4 1 [] := by
  intro k n t hv h
  obtain ⟨c, q, hc, hd⟩ := itoa_head n
  rcases vld_cases hv with rfl | rfl | rfl | rfl | rfl
  · rw [txt_null hv] at h; simp at h
  · rw [txt_text hv] at h; unfold quo at h; simp at h
  · rw [txt_num hv, hc] at h
    injection h with h _
    subst h
    rcases hd with hd | hd
    · exact absurd hd (by decide)
    · unfold IsDig at hd; exact absurd hd (by decide)
  · rw [txt_day hv] at h; simp at h
  · rw [txt_flag hv] at h
    split at h
    · rename_i h1; exact ⟨rfl, h1.symm, (vld_nil hv (by decide)).symm⟩
    · simp at h
theorem guess_f {r : List UInt8} : Guess (102 :: r) 4 0 [] := by
  intro k n t hv h
  obtain ⟨c, q, hc, hd⟩ := itoa_head n
  rcases vld_cases hv with rfl | rfl | rfl | rfl | rfl
  · rw [txt_null hv] at h; simp at h
  · rw [txt_text hv] at h; unfold quo at h; simp at h
  · rw [txt_num hv, hc] at h
    injection h with h _
    subst h
    rcases hd with hd | hd
    · exact absurd hd (by decide)
    · unfold IsDig at hd; exact absurd hd (by decide)
  · rw [txt_day hv] at h; simp at h
  · rw [txt_flag hv] at h
    split at h
    · simp at h
    · rename_i h1
      have := vld_flag hv
      exact ⟨rfl, by omega, (vld_nil hv (by decide)).symm⟩
theorem guess_d {r : List UInt8} {M : Int} (hM : ∀ n, -1000000000 ≤ n → n ≤ 1000000000 → Lib.itoa n = r → M = n) : Guess (64 :: r) 3 M [] := by
  intro k n t hv h
  obtain ⟨h1, h2, h3⟩ := guess_day hv h
  have hb := vld_bound hv
  exact ⟨h1.symm, hM n hb.1 hb.2 h2, h3.symm⟩
theorem guess_q {r : List UInt8} : Guess (34 :: r) 1 0 (runq r) := by
  intro k n t hv h
  obtain ⟨h1, h2, h3⟩ := guess_text hv h
  exact ⟨h1.symm, h2.symm, by rw [h3, runq_flat]⟩
theorem guess_long {r : List UInt8} (hr : 401 < r.length) : Guess (34 :: r) 1 0 [] := by
  intro k n t _ h
  have := txt_len k n t
  rw [h] at this
  simp at this
  omega
theorem guess_m {c : UInt8} {r : List UInt8} {N : Int} (hN : ∀ n, -1000000000 ≤ n → n ≤ 1000000000 → Lib.itoa n = c :: r → N = n) (h1 : c.toNat ≠ 110) (h2 : c.toNat ≠ 116) (h3 : c.toNat ≠ 102) (h4 : c.toNat ≠ 64) (h5 : c.toNat ≠ 34) : Guess (c :: r) 2 N [] := by
  intro k n t hv h
  have hx : ∀ (x : UInt8) (y : List UInt8), c.toNat ≠ x.toNat → ¬ (c :: r = x :: y) := fun x y h e => h (by injection e with e _; rw [e])
  obtain ⟨g1, g2, g3⟩ := guess_num hv h (hx 110 _ h1) (hx 116 _ h2) (hx 102 _ h3) (fun _ => hx 34 _ h5) (fun _ => hx 64 _ h4)
  have hb := vld_bound hv
  exact ⟨g1.symm, hN n hb.1 hb.2 g2, g3.symm⟩

set_option maxRecDepth 100000 in
set_option maxHeartbeats 1600000 in
theorem refparse_n (r : List UInt8) (hl : r.length ≤ 999) (w : World) :
    Calls Tryz.prog 64 #[.string ⟨(110 :: r).toArray⟩] w (ValPost w (parse (110 :: r))) := by
  have HL := Lib.hid hl; clear hl
  have hb : ∀ (h : 0 < (ByteArray.mk (110 :: r).toArray).size), (⟨(110 :: r).toArray⟩ : ByteArray)[0]'h = 110 := fun _ => rfl
  have hL := HL.out
  go_enter Tryz.func64, Tryz.ntmps64
  go_wp2_with fail
  refine (number_ref (110 :: r) (by have := HL.out; simp; omega) _).mono ?_
  rintro e w1 ⟨N, rfl, hN, rfl⟩
  have HN := Lib.hid hN; clear hN
  go_wp2_with fail
  have HG : Hid (Guess (110 :: r) 0 0 []) := Lib.hid (guess_n)
  obtain ⟨x, hx⟩ : ∃ x, txt 0 0 [] = x := ⟨_, rfl⟩
  have HX := Lib.hid hx; clear hx
  refine (reftext_eq (k := 0) (n := 0) (t := []) HX.out _).mono ?_
  rintro e w3 ⟨rfl, hb3⟩
  have R : Own3 w3 w.heap.size 0 0 [] := Own3.below ⟨⟨by simp [go_sem], by simp [go_sem], by simp [go_sem]⟩, by simp [go_sem], by simp [go_sem], by simp [go_sem]⟩ hb3
  have A : Val3 w3 (w.heap.size + 1) 0 0 [] := Val3.below ⟨by simp [go_sem], by simp [go_sem], by simp [go_sem]⟩ hb3
  have HB := below_up (boxes2 w _ _) hb3 (by simp; omega)
  clear hb3 hb hL
  have r0 := R.c0; have r1 := R.c1; have r2 := R.c2; have f0 := R.f0; have f1 := R.f1; have f2 := R.f2
  have a0 := A.c0; have a1 := A.c1; have a2 := A.c2
  by_cases hq : x = (110 :: r)
  · have hp := Lib.hid (yes_of (by simp) (HX.out.trans hq))
    subst hq
    go_wp2_with fail
    refine bodyPost_ret (v := .tuple #[V 0 0 [], .int .i64 0]) (by simp [results, Tryz.results64, go_sem, r0, r1, r2]) rfl ?_
    rw [hp.out]
    exact ⟨rfl, set3 HB _ (Nat.le_refl _) _ _ _⟩
  · have hp := Lib.hid (parse_no HG.out (Or.inr (fun e => hq (HX.out.symm.trans e))))
    have q1 : (x == (110 :: r)) = false := by simpa using hq
    have q2 : (!x == (110 :: r)) = true := by simpa using hq
    have q3 : ¬ x = (110 :: r) := hq
    clear hq
    go_wp2_with fail
    refine bodyPost_ret (v := .tuple #[V 0 0 [], .int .i64 4]) (by simp [results, Tryz.results64, go_sem, r0, r1, r2]) rfl ?_
    rw [hp.out]
    exact ⟨rfl, set3 HB _ (Nat.le_refl _) _ _ _⟩

set_option maxRecDepth 100000 in
set_option maxHeartbeats 1600000 in
theorem refparse_t (r : List UInt8) (hl : r.length ≤ 999) (w : World) :
    Calls Tryz.prog 64 #[.string ⟨(116 :: r).toArray⟩] w (ValPost w (parse (116 :: r))) := by
  have HL := Lib.hid hl; clear hl
  have hb : ∀ (h : 0 < (ByteArray.mk (116 :: r).toArray).size), (⟨(116 :: r).toArray⟩ : ByteArray)[0]'h = 116 := fun _ => rfl
  have hL := HL.out
  go_enter Tryz.func64, Tryz.ntmps64
  go_wp2_with fail
  refine (number_ref (116 :: r) (by have := HL.out; simp; omega) _).mono ?_
  rintro e w1 ⟨N, rfl, hN, rfl⟩
  have HN := Lib.hid hN; clear hN
  go_wp2_with fail
  have HG : Hid (Guess (116 :: r) 4 1 []) := Lib.hid (guess_t)
  obtain ⟨x, hx⟩ : ∃ x, txt 4 1 [] = x := ⟨_, rfl⟩
  have HX := Lib.hid hx; clear hx
  refine (reftext_eq (k := 4) (n := 1) (t := []) HX.out _).mono ?_
  rintro e w3 ⟨rfl, hb3⟩
  have R : Own3 w3 w.heap.size 0 0 [] := Own3.below ⟨⟨by simp [go_sem], by simp [go_sem], by simp [go_sem]⟩, by simp [go_sem], by simp [go_sem], by simp [go_sem]⟩ hb3
  have A : Val3 w3 (w.heap.size + 1) 4 1 [] := Val3.below ⟨by simp [go_sem], by simp [go_sem], by simp [go_sem]⟩ hb3
  have HB := below_up (boxes2 w _ _) hb3 (by simp; omega)
  clear hb3 hb hL
  have r0 := R.c0; have r1 := R.c1; have r2 := R.c2; have f0 := R.f0; have f1 := R.f1; have f2 := R.f2
  have a0 := A.c0; have a1 := A.c1; have a2 := A.c2
  by_cases hq : x = (116 :: r)
  · have hp := Lib.hid (yes_of (by simp) (HX.out.trans hq))
    subst hq
    go_wp2_with fail
    refine bodyPost_ret (v := .tuple #[V 4 1 [], .int .i64 0]) (by simp [results, Tryz.results64, go_sem, r0, r1, r2]) rfl ?_
    rw [hp.out]
    exact ⟨rfl, set3 HB _ (Nat.le_refl _) _ _ _⟩
  · have hp := Lib.hid (parse_no HG.out (Or.inr (fun e => hq (HX.out.symm.trans e))))
    have q1 : (x == (116 :: r)) = false := by simpa using hq
    have q2 : (!x == (116 :: r)) = true := by simpa using hq
    have q3 : ¬ x = (116 :: r) := hq
    clear hq
    go_wp2_with fail
    refine bodyPost_ret (v := .tuple #[V 0 0 [], .int .i64 4]) (by simp [results, Tryz.results64, go_sem, r0, r1, r2]) rfl ?_
    rw [hp.out]
    exact ⟨rfl, set3 HB _ (Nat.le_refl _) _ _ _⟩

set_option maxRecDepth 100000 in
set_option maxHeartbeats 1600000 in
theorem refparse_f (r : List UInt8) (hl : r.length ≤ 999) (w : World) :
    Calls Tryz.prog 64 #[.string ⟨(102 :: r).toArray⟩] w (ValPost w (parse (102 :: r))) := by
  have HL := Lib.hid hl; clear hl
  have hb : ∀ (h : 0 < (ByteArray.mk (102 :: r).toArray).size), (⟨(102 :: r).toArray⟩ : ByteArray)[0]'h = 102 := fun _ => rfl
  have hL := HL.out
  go_enter Tryz.func64, Tryz.ntmps64
  go_wp2_with fail
  refine (number_ref (102 :: r) (by have := HL.out; simp; omega) _).mono ?_
  rintro e w1 ⟨N, rfl, hN, rfl⟩
  have HN := Lib.hid hN; clear hN
  go_wp2_with fail
  have HG : Hid (Guess (102 :: r) 4 0 []) := Lib.hid (guess_f)
  obtain ⟨x, hx⟩ : ∃ x, txt 4 0 [] = x := ⟨_, rfl⟩
  have HX := Lib.hid hx; clear hx
  refine (reftext_eq (k := 4) (n := 0) (t := []) HX.out _).mono ?_
  rintro e w3 ⟨rfl, hb3⟩
  have R : Own3 w3 w.heap.size 0 0 [] := Own3.below ⟨⟨by simp [go_sem], by simp [go_sem], by simp [go_sem]⟩, by simp [go_sem], by simp [go_sem], by simp [go_sem]⟩ hb3
  have A : Val3 w3 (w.heap.size + 1) 4 0 [] := Val3.below ⟨by simp [go_sem], by simp [go_sem], by simp [go_sem]⟩ hb3
  have HB := below_up (boxes2 w _ _) hb3 (by simp; omega)
  clear hb3 hb hL
  have r0 := R.c0; have r1 := R.c1; have r2 := R.c2; have f0 := R.f0; have f1 := R.f1; have f2 := R.f2
  have a0 := A.c0; have a1 := A.c1; have a2 := A.c2
  by_cases hq : x = (102 :: r)
  · have hp := Lib.hid (yes_of (by simp) (HX.out.trans hq))
    subst hq
    go_wp2_with fail
    refine bodyPost_ret (v := .tuple #[V 4 0 [], .int .i64 0]) (by simp [results, Tryz.results64, go_sem, r0, r1, r2]) rfl ?_
    rw [hp.out]
    exact ⟨rfl, set3 HB _ (Nat.le_refl _) _ _ _⟩
  · have hp := Lib.hid (parse_no HG.out (Or.inr (fun e => hq (HX.out.symm.trans e))))
    have q1 : (x == (102 :: r)) = false := by simpa using hq
    have q2 : (!x == (102 :: r)) = true := by simpa using hq
    have q3 : ¬ x = (102 :: r) := hq
    clear hq
    go_wp2_with fail
    refine bodyPost_ret (v := .tuple #[V 0 0 [], .int .i64 4]) (by simp [results, Tryz.results64, go_sem, r0, r1, r2]) rfl ?_
    rw [hp.out]
    exact ⟨rfl, set3 HB _ (Nat.le_refl _) _ _ _⟩

set_option maxRecDepth 100000 in
set_option maxHeartbeats 1600000 in
theorem refparse_d (r : List UInt8) (hl : r.length ≤ 999) (w : World) :
    Calls Tryz.prog 64 #[.string ⟨(64 :: r).toArray⟩] w (ValPost w (parse (64 :: r))) := by
  have HL := Lib.hid hl; clear hl
  have hx1 : (⟨(64 :: r).toArray⟩ : ByteArray).extract 1 (r.length + 1) = ⟨r.toArray⟩ := by rw [ext_eq]; simp
  have hb : ∀ (h : 0 < (ByteArray.mk (64 :: r).toArray).size), (⟨(64 :: r).toArray⟩ : ByteArray)[0]'h = 64 := fun _ => rfl
  have hL := HL.out
  go_enter Tryz.func64, Tryz.ntmps64
  go_wp2_with fail
  refine (number_ref (64 :: r) (by have := HL.out; simp; omega) _).mono ?_
  rintro e w1 ⟨N, rfl, hN, rfl⟩
  have HN := Lib.hid hN; clear hN
  go_wp2_with fail
  refine (number_ref r (by have := HL.out; omega) _).mono ?_
  rintro e w2 ⟨M, rfl, hM, rfl⟩
  have HM := Lib.hid hM; clear hM
  go_wp2_with fail
  have HG : Hid (Guess (64 :: r) 3 M []) := Lib.hid (guess_d HM.out)
  obtain ⟨x, hx⟩ : ∃ x, txt 3 M [] = x := ⟨_, rfl⟩
  have HX := Lib.hid hx; clear hx
  refine (reftext_eq (k := 3) (n := M) (t := []) HX.out _).mono ?_
  rintro e w3 ⟨rfl, hb3⟩
  have R : Own3 w3 w.heap.size 0 0 [] := Own3.below ⟨⟨by simp [go_sem], by simp [go_sem], by simp [go_sem]⟩, by simp [go_sem], by simp [go_sem], by simp [go_sem]⟩ hb3
  have A : Val3 w3 (w.heap.size + 1) 3 M [] := Val3.below ⟨by simp [go_sem], by simp [go_sem], by simp [go_sem]⟩ hb3
  have HB := below_up (boxes2 w _ _) hb3 (by simp; omega)
  clear hb3 hb hL
  have r0 := R.c0; have r1 := R.c1; have r2 := R.c2; have f0 := R.f0; have f1 := R.f1; have f2 := R.f2
  have a0 := A.c0; have a1 := A.c1; have a2 := A.c2
  by_cases hq : x = (64 :: r)
  · have hp := Lib.hid (yes_of (by simp) (HX.out.trans hq))
    subst hq
    go_wp2_with fail
    refine bodyPost_ret (v := .tuple #[V 3 M [], .int .i64 0]) (by simp [results, Tryz.results64, go_sem, r0, r1, r2]) rfl ?_
    rw [hp.out]
    exact ⟨rfl, set3 HB _ (Nat.le_refl _) _ _ _⟩
  · have hp := Lib.hid (parse_no HG.out (Or.inr (fun e => hq (HX.out.symm.trans e))))
    have q1 : (x == (64 :: r)) = false := by simpa using hq
    have q2 : (!x == (64 :: r)) = true := by simpa using hq
    have q3 : ¬ x = (64 :: r) := hq
    clear hq
    go_wp2_with fail
    refine bodyPost_ret (v := .tuple #[V 0 0 [], .int .i64 4]) (by simp [results, Tryz.results64, go_sem, r0, r1, r2]) rfl ?_
    rw [hp.out]
    exact ⟨rfl, set3 HB _ (Nat.le_refl _) _ _ _⟩

set_option maxRecDepth 100000 in
set_option maxHeartbeats 1600000 in
theorem refparse_q (r : List UInt8) (hl : r.length ≤ 999) (hs : r.length ≤ 401) (w : World) :
    Calls Tryz.prog 64 #[.string ⟨(34 :: r).toArray⟩] w (ValPost w (parse (34 :: r))) := by
  have HL := Lib.hid hl; clear hl
  have hb : ∀ (h : 0 < (ByteArray.mk (34 :: r).toArray).size), (⟨(34 :: r).toArray⟩ : ByteArray)[0]'h = 34 := fun _ => rfl
  have hL := HL.out
  go_enter Tryz.func64, Tryz.ntmps64
  go_wp2_with fail
  refine (number_ref (34 :: r) (by have := HL.out; simp; omega) _).mono ?_
  rintro e w1 ⟨N, rfl, hN, rfl⟩
  have HN := Lib.hid hN; clear hN
  go_wp2_with fail
  refine (unquoted_any (34 :: r) (by have := HL.out; simp; omega) _).mono ?_
  rintro e w2 ⟨rfl, rfl⟩
  rw [show List.drop 1 (34 :: r) = r from rfl]
  go_wp2_with fail
  have HG : Hid (Guess (34 :: r) 1 0 (runq r)) := Lib.hid (guess_q)
  obtain ⟨x, hx⟩ : ∃ x, txt 1 0 (runq r) = x := ⟨_, rfl⟩
  have HX := Lib.hid hx; clear hx
  refine (reftext_eq (k := 1) (n := 0) (t := (runq r)) HX.out _).mono ?_
  rintro e w3 ⟨rfl, hb3⟩
  have R : Own3 w3 w.heap.size 0 0 [] := Own3.below ⟨⟨by simp [go_sem], by simp [go_sem], by simp [go_sem]⟩, by simp [go_sem], by simp [go_sem], by simp [go_sem]⟩ hb3
  have A : Val3 w3 (w.heap.size + 1) 1 0 (runq r) := Val3.below ⟨by simp [go_sem], by simp [go_sem], by simp [go_sem]⟩ hb3
  have HB := below_up (boxes2 w _ _) hb3 (by simp; omega)
  clear hb3 hb hL
  have r0 := R.c0; have r1 := R.c1; have r2 := R.c2; have f0 := R.f0; have f1 := R.f1; have f2 := R.f2
  have a0 := A.c0; have a1 := A.c1; have a2 := A.c2
  by_cases hq : x = (34 :: r)
  · have hp := Lib.hid (yes_of (by simp) (HX.out.trans hq))
    subst hq
    go_wp2_with fail
    refine bodyPost_ret (v := .tuple #[V 1 0 (runq r), .int .i64 0]) (by simp [results, Tryz.results64, go_sem, r0, r1, r2]) rfl ?_
    rw [hp.out]
    exact ⟨rfl, set3 HB _ (Nat.le_refl _) _ _ _⟩
  · have hp := Lib.hid (parse_no HG.out (Or.inr (fun e => hq (HX.out.symm.trans e))))
    have q1 : (x == (34 :: r)) = false := by simpa using hq
    have q2 : (!x == (34 :: r)) = true := by simpa using hq
    have q3 : ¬ x = (34 :: r) := hq
    clear hq
    go_wp2_with fail
    refine bodyPost_ret (v := .tuple #[V 0 0 [], .int .i64 4]) (by simp [results, Tryz.results64, go_sem, r0, r1, r2]) rfl ?_
    rw [hp.out]
    exact ⟨rfl, set3 HB _ (Nat.le_refl _) _ _ _⟩

set_option maxRecDepth 100000 in
set_option maxHeartbeats 1600000 in
theorem refparse_l (r : List UInt8) (hl : r.length ≤ 999) (hs : 401 < r.length) (w : World) :
    Calls Tryz.prog 64 #[.string ⟨(34 :: r).toArray⟩] w (ValPost w (parse (34 :: r))) := by
  have HL := Lib.hid hl; clear hl
  have hb : ∀ (h : 0 < (ByteArray.mk (34 :: r).toArray).size), (⟨(34 :: r).toArray⟩ : ByteArray)[0]'h = 34 := fun _ => rfl
  have hL := HL.out
  go_enter Tryz.func64, Tryz.ntmps64
  go_wp2_with fail
  refine (number_ref (34 :: r) (by have := HL.out; simp; omega) _).mono ?_
  rintro e w1 ⟨N, rfl, hN, rfl⟩
  have HN := Lib.hid hN; clear hN
  go_wp2_with fail
  have HG : Hid (Guess (34 :: r) 1 0 []) := Lib.hid (guess_long hs)
  obtain ⟨x, hx⟩ : ∃ x, txt 1 0 [] = x := ⟨_, rfl⟩
  have HX := Lib.hid hx; clear hx
  refine (reftext_eq (k := 1) (n := 0) (t := []) HX.out _).mono ?_
  rintro e w3 ⟨rfl, hb3⟩
  have R : Own3 w3 w.heap.size 0 0 [] := Own3.below ⟨⟨by simp [go_sem], by simp [go_sem], by simp [go_sem]⟩, by simp [go_sem], by simp [go_sem], by simp [go_sem]⟩ hb3
  have A : Val3 w3 (w.heap.size + 1) 1 0 [] := Val3.below ⟨by simp [go_sem], by simp [go_sem], by simp [go_sem]⟩ hb3
  have HB := below_up (boxes2 w _ _) hb3 (by simp; omega)
  clear hb3 hb hL
  have r0 := R.c0; have r1 := R.c1; have r2 := R.c2; have f0 := R.f0; have f1 := R.f1; have f2 := R.f2
  have a0 := A.c0; have a1 := A.c1; have a2 := A.c2
  by_cases hq : x = (34 :: r)
  · have hp := Lib.hid (yes_of (by simp) (HX.out.trans hq))
    subst hq
    go_wp2_with fail
    refine bodyPost_ret (v := .tuple #[V 1 0 [], .int .i64 0]) (by simp [results, Tryz.results64, go_sem, r0, r1, r2]) rfl ?_
    rw [hp.out]
    exact ⟨rfl, set3 HB _ (Nat.le_refl _) _ _ _⟩
  · have hp := Lib.hid (parse_no HG.out (Or.inr (fun e => hq (HX.out.symm.trans e))))
    have q1 : (x == (34 :: r)) = false := by simpa using hq
    have q2 : (!x == (34 :: r)) = true := by simpa using hq
    have q3 : ¬ x = (34 :: r) := hq
    clear hq
    go_wp2_with fail
    refine bodyPost_ret (v := .tuple #[V 0 0 [], .int .i64 4]) (by simp [results, Tryz.results64, go_sem, r0, r1, r2]) rfl ?_
    rw [hp.out]
    exact ⟨rfl, set3 HB _ (Nat.le_refl _) _ _ _⟩

set_option maxRecDepth 100000 in
set_option maxHeartbeats 1600000 in
theorem refparse_m (c : UInt8) (r : List UInt8) (hl : r.length ≤ 999) (h1 : c.toNat ≠ 110) (h2 : c.toNat ≠ 116) (h3 : c.toNat ≠ 102) (h4 : c.toNat ≠ 64) (h5 : c.toNat ≠ 34) (w : World) :
    Calls Tryz.prog 64 #[.string ⟨(c :: r).toArray⟩] w (ValPost w (parse (c :: r))) := by
  have HL := Lib.hid hl; clear hl
  have H1 := Lib.hid h1; have H2 := Lib.hid h2; have H3 := Lib.hid h3; have H4 := Lib.hid h4; have H5 := Lib.hid h5
  have e1 : ((c.toNat : Int) == 110) = false := by simp; omega
  have e2 : ((c.toNat : Int) == 116) = false := by simp; omega
  have e3 : ((c.toNat : Int) == 102) = false := by simp; omega
  have e4 : ((c.toNat : Int) == 64) = false := by simp; omega
  have e5 : ((c.toNat : Int) == 34) = false := by simp; omega
  clear h1 h2 h3 h4 h5
  have hb : ∀ (h : 0 < (ByteArray.mk (c :: r).toArray).size), (⟨(c :: r).toArray⟩ : ByteArray)[0]'h = c := fun _ => rfl
  have hL := HL.out
  go_enter Tryz.func64, Tryz.ntmps64
  go_wp2_with fail
  refine (number_ref (c :: r) (by have := HL.out; simp; omega) _).mono ?_
  rintro e w1 ⟨N, rfl, hN, rfl⟩
  have HN := Lib.hid hN; clear hN
  go_wp2_with fail
  have HG : Hid (Guess (c :: r) 2 N []) := Lib.hid (guess_m HN.out H1.out H2.out H3.out H4.out H5.out)
  obtain ⟨x, hx⟩ : ∃ x, txt 2 N [] = x := ⟨_, rfl⟩
  have HX := Lib.hid hx; clear hx
  refine (reftext_eq (k := 2) (n := N) (t := []) HX.out _).mono ?_
  rintro e w3 ⟨rfl, hb3⟩
  have R : Own3 w3 w.heap.size 0 0 [] := Own3.below ⟨⟨by simp [go_sem], by simp [go_sem], by simp [go_sem]⟩, by simp [go_sem], by simp [go_sem], by simp [go_sem]⟩ hb3
  have A : Val3 w3 (w.heap.size + 1) 2 N [] := Val3.below ⟨by simp [go_sem], by simp [go_sem], by simp [go_sem]⟩ hb3
  have HB := below_up (boxes2 w _ _) hb3 (by simp; omega)
  clear hb3 hb hL
  have r0 := R.c0; have r1 := R.c1; have r2 := R.c2; have f0 := R.f0; have f1 := R.f1; have f2 := R.f2
  have a0 := A.c0; have a1 := A.c1; have a2 := A.c2
  by_cases hq : x = (c :: r)
  · have hp := Lib.hid (yes_of (by simp) (HX.out.trans hq))
    subst hq
    go_wp2_with fail
    refine bodyPost_ret (v := .tuple #[V 2 N [], .int .i64 0]) (by simp [results, Tryz.results64, go_sem, r0, r1, r2]) rfl ?_
    rw [hp.out]
    exact ⟨rfl, set3 HB _ (Nat.le_refl _) _ _ _⟩
  · have hp := Lib.hid (parse_no HG.out (Or.inr (fun e => hq (HX.out.symm.trans e))))
    have q1 : (x == (c :: r)) = false := by simpa using hq
    have q2 : (!x == (c :: r)) = true := by simpa using hq
    have q3 : ¬ x = (c :: r) := hq
    clear hq
    go_wp2_with fail
    refine bodyPost_ret (v := .tuple #[V 0 0 [], .int .i64 4]) (by simp [results, Tryz.results64, go_sem, r0, r1, r2]) rfl ?_
    rw [hp.out]
    exact ⟨rfl, set3 HB _ (Nat.le_refl _) _ _ _⟩

theorem refparse_any (l : List UInt8) (hl : l.length ≤ 1000) (w : World) :
    Calls Tryz.prog 64 #[.string ⟨l.toArray⟩] w (ValPost w (parse l)) := by
  cases l with
  | nil => rw [show parse [] = (0, 0, [], 4) by decide +kernel]; exact refparse_nil w
  | cons c r =>
    have hr : r.length ≤ 999 := by simp at hl; omega
    by_cases h1 : c.toNat = 110
    · obtain rfl := byte_eq (d := 110) h1; exact refparse_n r hr w
    by_cases h2 : c.toNat = 116
    · obtain rfl := byte_eq (d := 116) h2; exact refparse_t r hr w
    by_cases h3 : c.toNat = 102
    · obtain rfl := byte_eq (d := 102) h3; exact refparse_f r hr w
    by_cases h4 : c.toNat = 64
    · obtain rfl := byte_eq (d := 64) h4; exact refparse_d r hr w
    by_cases h5 : c.toNat = 34
    · obtain rfl := byte_eq (d := 34) h5
      by_cases hs : r.length ≤ 401
      · exact refparse_q r hr hs w
      · exact refparse_l r hr (by omega) w
    exact refparse_m c r hr h1 h2 h3 h4 h5 w
end Go.Proofs.YteokcgfbhaeklaaGreatDoor.L2

/- The contract of the reference's Cast. -/
namespace Go.Proofs.YteokcgfbhaeklaaGreatDoor.L2
open Go.RowKit

theorem refcast_bad1 (k n : Int) (t : List UInt8) (kind : Int) (hv : vldB k n t = false) (w : World) :
    Calls Tryz.prog 35 #[V k n t, .int .i64 kind] w (ValPost w (0, 0, [], 1)) := by
  go_enter Tryz.func35, Tryz.ntmps35
  go_wp2_with fail
  refine (refvalid_any k n t _).mono ?_
  rintro e w1 ⟨rfl, hb1⟩
  have R1 : Own3 w1 (w.heap.size + 1) 0 0 [] := Own3.below ⟨⟨by simp [go_sem], by simp [go_sem], by simp [go_sem]⟩, by simp [go_sem], by simp [go_sem], by simp [go_sem]⟩ hb1
  have HB := below_up (boxes2 w _ _) hb1 (by simp; omega)
  clear hb1
  have r0 := R1.c0; have r1 := R1.c1; have r2 := R1.c2; have f0 := R1.f0; have f1 := R1.f1; have f2 := R1.f2
  go_wp2_with fail
  refine bodyPost_ret (v := .tuple #[V 0 0 [], .int .i64 1]) (by simp [results, Tryz.results35, go_sem, r0, r1, r2]) rfl ?_
  exact ⟨rfl, set3 HB _ (Nat.le_succ _) _ _ _⟩

theorem refcast_bad2 (k n : Int) (t : List UInt8) (kind : Int) (hv : vldB k n t = true) (hk : kind < 1 ∨ 4 < kind) (w : World) :
    Calls Tryz.prog 35 #[V k n t, .int .i64 kind] w (ValPost w (0, 0, [], 1)) := by
  go_enter Tryz.func35, Tryz.ntmps35
  go_wp2_with fail
  refine (refvalid_any k n t _).mono ?_
  rintro e w1 ⟨rfl, hb1⟩
  have R1 : Own3 w1 (w.heap.size + 1) 0 0 [] := Own3.below ⟨⟨by simp [go_sem], by simp [go_sem], by simp [go_sem]⟩, by simp [go_sem], by simp [go_sem], by simp [go_sem]⟩ hb1
  have HB := below_up (boxes2 w _ _) hb1 (by simp; omega)
  clear hb1
  have r0 := R1.c0; have r1 := R1.c1; have r2 := R1.c2; have f0 := R1.f0; have f1 := R1.f1; have f2 := R1.f2
  rcases hk with hk | hk
  · go_wp2_with fail
    refine bodyPost_ret (v := .tuple #[V 0 0 [], .int .i64 1]) (by simp [results, Tryz.results35, go_sem, r0, r1, r2]) rfl ?_
    exact ⟨rfl, set3 HB _ (Nat.le_succ _) _ _ _⟩
  · have hk2 : ¬ kind < 1 := by omega
    go_wp2_with fail
    refine bodyPost_ret (v := .tuple #[V 0 0 [], .int .i64 1]) (by simp [results, Tryz.results35, go_sem, r0, r1, r2]) rfl ?_
    exact ⟨rfl, set3 HB _ (Nat.le_succ _) _ _ _⟩

/-- Where a value is returned as it is. -/
theorem refcast_same (k n : Int) (t : List UInt8) (kind : Int) (hv : vldB k n t = true) (h1 : 1 ≤ kind) (h4 : kind ≤ 4) (h : k = 0 ∨ k = kind) (w : World) :
    Calls Tryz.prog 35 #[V k n t, .int .i64 kind] w (ValPost w (k, n, t, 0)) := by
  go_enter Tryz.func35, Tryz.ntmps35
  go_wp2_with fail
  refine (refvalid_any k n t _).mono ?_
  rintro e w1 ⟨rfl, hb1⟩
  have A1 : Val3 w1 w.heap.size k n t := Val3.below ⟨by simp [go_sem], by simp [go_sem], by simp [go_sem]⟩ hb1
  have R1 : Own3 w1 (w.heap.size + 1) 0 0 [] := Own3.below ⟨⟨by simp [go_sem], by simp [go_sem], by simp [go_sem]⟩, by simp [go_sem], by simp [go_sem], by simp [go_sem]⟩ hb1
  have HB := below_up (boxes2 w _ _) hb1 (by simp; omega)
  clear hb1
  have r0 := R1.c0; have r1 := R1.c1; have r2 := R1.c2; have f0 := R1.f0; have f1 := R1.f1; have f2 := R1.f2
  have a0 := A1.c0; have a1 := A1.c1; have a2 := A1.c2
  rcases h with rfl | rfl
  · go_wp2_with fail
    refine bodyPost_ret (v := .tuple #[V 0 n t, .int .i64 0]) (by simp [results, Tryz.results35, go_sem, r0, r1, r2]) rfl ?_
    exact ⟨rfl, set3 HB _ (Nat.le_succ _) _ _ _⟩
  · have e0 : (k == 0) = false := by simp; omega
    go_wp2_with fail
    refine bodyPost_ret (v := .tuple #[V k n t, .int .i64 0]) (by simp [results, Tryz.results35, go_sem, r0, r1, r2]) rfl ?_
    exact ⟨rfl, set3 HB _ (Nat.le_succ _) _ _ _⟩

/-- A number, a day or a flag as a text. -/
theorem refcast_text (k n : Int) (t : List UInt8) (hv : vldB k n t = true) (h0 : k ≠ 0) (h1 : k ≠ 1) (w : World) :
    Calls Tryz.prog 35 #[V k n t, .int .i64 1] w (ValPost w (1, 0, txt k n t, 0)) := by
  have e0 : (k == 0) = false := by simpa using h0
  have e1 : (k == 1) = false := by simpa using h1
  clear h0 h1
  go_enter Tryz.func35, Tryz.ntmps35
  go_wp2_with fail
  refine (refvalid_any k n t _).mono ?_
  rintro e w1 ⟨rfl, hb1⟩
  have A1 : Val3 w1 w.heap.size k n t := Val3.below ⟨by simp [go_sem], by simp [go_sem], by simp [go_sem]⟩ hb1
  have R1 : Own3 w1 (w.heap.size + 1) 0 0 [] := Own3.below ⟨⟨by simp [go_sem], by simp [go_sem], by simp [go_sem]⟩, by simp [go_sem], by simp [go_sem], by simp [go_sem]⟩ hb1
  have HB := below_up (boxes2 w _ _) hb1 (by simp; omega)
  clear hb1
  have a0 := A1.c0; have a1 := A1.c1; have a2 := A1.c2
  go_wp2_with fail
  refine (reftext_any k n t _).mono ?_
  rintro e w2 ⟨rfl, hb2⟩
  have R2 := R1.below hb2
  have HB2 := below_up HB hb2 HB.size
  clear hb2 a0 a1 a2
  have r0 := R2.c0; have r1 := R2.c1; have r2 := R2.c2; have f0 := R2.f0; have f1 := R2.f1; have f2 := R2.f2
  go_wp2_with fail
  refine bodyPost_ret (v := .tuple #[V 1 0 (txt k n t), .int .i64 0]) (by simp [results, Tryz.results35, go_sem, r0, r1, r2]) rfl ?_
  exact ⟨rfl, set3 HB2 _ (Nat.le_succ _) _ _ _⟩

/-- A text as another kind. -/
theorem refcast_of_text (n : Int) (t : List UInt8) (kind : Int) (hv : vldB 1 n t = true) (h1 : 2 ≤ kind) (h4 : kind ≤ 4) (w : World) :
    Calls Tryz.prog 35 #[V 1 n t, .int .i64 kind] w (ValPost w (castT t kind)) := by
  have e1 : ((1 : Int) == kind) = false := by simp; omega
  have e2 : (kind == 1) = false := by simp; omega
  have HL := Lib.hid (vld_len hv)
  obtain ⟨⟨pk, pn, pt, pe⟩, hp⟩ : ∃ p, parse t = p := ⟨_, rfl⟩
  have HP := Lib.hid hp
  clear hp
  go_enter Tryz.func35, Tryz.ntmps35
  go_wp2_with fail
  refine (refvalid_any 1 n t _).mono ?_
  rintro e w1 ⟨rfl, hb1⟩
  have A1 : Val3 w1 w.heap.size 1 n t := Val3.below ⟨by simp [go_sem], by simp [go_sem], by simp [go_sem]⟩ hb1
  have R1 : Own3 w1 (w.heap.size + 1) 0 0 [] := Own3.below ⟨⟨by simp [go_sem], by simp [go_sem], by simp [go_sem]⟩, by simp [go_sem], by simp [go_sem], by simp [go_sem]⟩ hb1
  have HB := below_up (boxes2 w _ _) hb1 (by simp; omega)
  clear hb1
  have a0 := A1.c0; have a1 := A1.c1; have a2 := A1.c2
  go_wp2_with fail
  have C := fun W => refparse_any t (by have := HL.out; omega) W
  rw [HP.out] at C
  refine (C _).mono ?_
  clear C
  rintro e w2 ⟨rfl, hb2⟩
  have R2 := R1.below hb2
  have HB2 := below_up HB hb2 HB.size
  clear hb2 a0 a1 a2
  have r0 := R2.c0; have r1 := R2.c1; have r2 := R2.c2; have f0 := R2.f0; have f1 := R2.f1; have f2 := R2.f2
  have hlt := R2.lt
  by_cases g1 : pe = 0
  · by_cases g2 : pk = kind
    · have hc := Lib.hid (show castT t kind = (pk, pn, pt, pe) by unfold castT; rw [HP.out, if_pos ⟨g1, g2⟩])
      subst g1 g2
      go_wp2_with fail
      refine bodyPost_ret (v := .tuple #[V pk pn pt, .int .i64 0]) (by simp [results, Tryz.results35, go_sem, hlt, r0, r1, r2]) rfl ?_
      rw [hc.out]
      exact ⟨rfl, (set3 HB2 _ (Nat.le_succ _) _ _ _).alloc (by have := HB2.size; simp; omega) _⟩
    · have hc := Lib.hid (show castT t kind = (0, 0, [], 15) by unfold castT; rw [HP.out, if_neg (fun h => g2 h.2)])
      subst g1
      have q1 : (pk != kind) = true := by simpa using g2
      clear g2
      go_wp2_with fail
      refine bodyPost_ret (v := .tuple #[V 0 0 [], .int .i64 15]) (by simp [results, Tryz.results35, go_sem, hlt, r0, r1, r2]) rfl ?_
      rw [hc.out]
      exact ⟨rfl, (set3 HB2 _ (Nat.le_succ _) _ _ _).alloc (by have := HB2.size; simp; omega) _⟩
  · have hc := Lib.hid (show castT t kind = (0, 0, [], 15) by unfold castT; rw [HP.out, if_neg (fun h => g1 h.1)])
    have q1 : (pe != 0) = true := by simpa using g1
    clear g1
    go_wp2_with fail
    refine bodyPost_ret (v := .tuple #[V 0 0 [], .int .i64 15]) (by simp [results, Tryz.results35, go_sem, hlt, r0, r1, r2]) rfl ?_
    rw [hc.out]
    exact ⟨rfl, (set3 HB2 _ (Nat.le_succ _) _ _ _).alloc (by have := HB2.size; simp; omega) _⟩

/-- A flag, or to a flag: refused. -/
theorem refcast_type (k n : Int) (t : List UInt8) (kind : Int) (hv : vldB k n t = true) (h0 : k ≠ 0) (h1 : k ≠ 1) (hk : k ≠ kind) (h2 : 2 ≤ kind) (h4 : kind ≤ 4) (h : k = 4 ∨ kind = 4) (w : World) :
    Calls Tryz.prog 35 #[V k n t, .int .i64 kind] w (ValPost w (0, 0, [], 10)) := by
  have e0 : (k == 0) = false := by simpa using h0
  have e1 : (k == 1) = false := by simpa using h1
  have e2 : (k == kind) = false := by simpa using hk
  have e3 : (kind == 1) = false := by simp; omega
  have H := Lib.hid h
  clear h0 h1 hk h
  go_enter Tryz.func35, Tryz.ntmps35
  go_wp2_with fail
  refine (refvalid_any k n t _).mono ?_
  rintro e w1 ⟨rfl, hb1⟩
  have A1 : Val3 w1 w.heap.size k n t := Val3.below ⟨by simp [go_sem], by simp [go_sem], by simp [go_sem]⟩ hb1
  have R1 : Own3 w1 (w.heap.size + 1) 0 0 [] := Own3.below ⟨⟨by simp [go_sem], by simp [go_sem], by simp [go_sem]⟩, by simp [go_sem], by simp [go_sem], by simp [go_sem]⟩ hb1
  have HB := below_up (boxes2 w _ _) hb1 (by simp; omega)
  clear hb1
  have r0 := R1.c0; have r1 := R1.c1; have r2 := R1.c2; have f0 := R1.f0; have f1 := R1.f1; have f2 := R1.f2
  have a0 := A1.c0; have a1 := A1.c1; have a2 := A1.c2
  by_cases h5 : k = 4
  · have e4 : (k == 4) = true := by simpa using h5
    clear h5
    go_wp2_with fail
    refine bodyPost_ret (v := .tuple #[V 0 0 [], .int .i64 10]) (by simp [results, Tryz.results35, go_sem, r0, r1, r2]) rfl ?_
    exact ⟨rfl, set3 HB _ (Nat.le_succ _) _ _ _⟩
  · have e4 : (k == 4) = false := by simpa using h5
    have e5 : (kind == 4) = true := by have := H.out; simp; omega
    clear h5
    go_wp2_with fail
    refine bodyPost_ret (v := .tuple #[V 0 0 [], .int .i64 10]) (by simp [results, Tryz.results35, go_sem, r0, r1, r2]) rfl ?_
    exact ⟨rfl, set3 HB _ (Nat.le_succ _) _ _ _⟩

/-- A number as a day, a day as a number. -/
theorem refcast_num (k n : Int) (t : List UInt8) (kind : Int) (hv : vldB k n t = true) (h0 : k ≠ 0) (h1 : k ≠ 1) (hk : k ≠ kind) (h2 : 2 ≤ kind) (h4 : kind ≤ 4) (h5 : k ≠ 4) (h6 : kind ≠ 4) (w : World) :
    Calls Tryz.prog 35 #[V k n t, .int .i64 kind] w (ValPost w (castN n kind)) := by
  have e0 : (k == 0) = false := by simpa using h0
  have e1 : (k == 1) = false := by simpa using h1
  have e2 : (k == kind) = false := by simpa using hk
  have e3 : (kind == 1) = false := by simp; omega
  have e4 : (k == 4) = false := by simpa using h5
  have e5 : (kind == 4) = false := by simpa using h6
  clear h0 h1 hk h5 h6
  go_enter Tryz.func35, Tryz.ntmps35
  go_wp2_with fail
  refine (refvalid_any k n t _).mono ?_
  rintro e w1 ⟨rfl, hb1⟩
  have A1 : Val3 w1 w.heap.size k n t := Val3.below ⟨by simp [go_sem], by simp [go_sem], by simp [go_sem]⟩ hb1
  have R1 : Own3 w1 (w.heap.size + 1) 0 0 [] := Own3.below ⟨⟨by simp [go_sem], by simp [go_sem], by simp [go_sem]⟩, by simp [go_sem], by simp [go_sem], by simp [go_sem]⟩ hb1
  have HB := below_up (boxes2 w _ _) hb1 (by simp; omega)
  clear hb1
  have a0 := A1.c0; have a1 := A1.c1; have a2 := A1.c2
  go_wp2_with fail
  refine (refvalid_any kind n [] _).mono ?_
  rintro e w2 ⟨rfl, hb2⟩
  have A2 : Val3 w2 w1.heap.size kind n [] := Val3.below ⟨by simp [go_sem], by simp [go_sem], by simp [go_sem]⟩ hb2
  have hb3 : Below w1.heap.size w1 w2 := below_up (((Below.refl _ _).alloc (Nat.le_refl _) _)) hb2 (by simp)
  have R2 := R1.below hb3
  have HB2 := below_up HB hb3 HB.size
  clear hb2 hb3 a0 a1 a2
  have r0 := R2.c0; have r1 := R2.c1; have r2 := R2.c2; have f0 := R2.f0; have f1 := R2.f1; have f2 := R2.f2
  have a0 := A2.c0; have a1 := A2.c1; have a2 := A2.c2
  cases hw : vldB kind n []
  · have hc := Lib.hid (show castN n kind = (0, 0, [], 15) by unfold castN; rw [hw, if_neg (by decide)])
    go_wp2_with fail
    refine bodyPost_ret (v := .tuple #[V 0 0 [], .int .i64 15]) (by simp [results, Tryz.results35, go_sem, r0, r1, r2]) rfl ?_
    rw [hc.out]
    exact ⟨rfl, set3 HB2 _ (Nat.le_succ _) _ _ _⟩
  · have hc := Lib.hid (show castN n kind = (kind, n, [], 0) by unfold castN; rw [hw, if_pos rfl])
    go_wp2_with fail
    refine bodyPost_ret (v := .tuple #[V kind n [], .int .i64 0]) (by simp [results, Tryz.results35, go_sem, r0, r1, r2]) rfl ?_
    rw [hc.out]
    exact ⟨rfl, set3 HB2 _ (Nat.le_succ _) _ _ _⟩

/-- Cast, for every value and kind. -/
theorem refcast_any (k n : Int) (t : List UInt8) (kind : Int) (w : World) :
    Calls Tryz.prog 35 #[V k n t, .int .i64 kind] w (ValPost w (cast k n t kind)) := by
  unfold cast
  by_cases c1 : vldB k n t = false ∨ kind < 1 ∨ 4 < kind
  · rw [if_pos c1]
    cases hv : vldB k n t
    · exact refcast_bad1 k n t kind hv w
    · exact refcast_bad2 k n t kind hv (by rcases c1 with c | c; rw [hv] at c; cases c; exact c) w
  · rw [if_neg c1]
    have hv : vldB k n t = true := by
      cases g : vldB k n t
      · exact absurd (Or.inl g) c1
      · rfl
    have h1 : 1 ≤ kind := by have := fun h => c1 (Or.inr (Or.inl h)); omega
    have h4 : kind ≤ 4 := by have := fun h => c1 (Or.inr (Or.inr h)); omega
    by_cases c2 : k = 0 ∨ k = kind
    · rw [if_pos c2]; exact refcast_same k n t kind hv h1 h4 c2 w
    · rw [if_neg c2]
      have hk0 : k ≠ 0 := fun h => c2 (Or.inl h)
      have hkk : k ≠ kind := fun h => c2 (Or.inr h)
      by_cases c3 : kind = 1
      · subst c3
        rw [if_pos rfl]; exact refcast_text k n t hv hk0 hkk w
      · rw [if_neg c3]
        by_cases c4 : k = 1
        · subst c4
          rw [if_pos rfl]; exact refcast_of_text n t kind hv (by omega) h4 w
        · rw [if_neg c4]
          by_cases c5 : k = 4 ∨ kind = 4
          · rw [if_pos c5]; exact refcast_type k n t kind hv hk0 c4 hkk (by omega) h4 c5 w
          · rw [if_neg c5]; exact refcast_num k n t kind hv hk0 c4 hkk (by omega) h4 (fun h => c5 (Or.inl h)) (fun h => c5 (Or.inr h)) w
end Go.Proofs.YteokcgfbhaeklaaGreatDoor.L2

