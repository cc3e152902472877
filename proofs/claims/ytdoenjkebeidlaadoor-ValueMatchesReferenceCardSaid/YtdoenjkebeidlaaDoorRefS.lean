/- The contract of the reference's Test. -/
import Derived.Test.YtdoenjkebeidlaaDoorRefA
import Derived.Test.YtdoenjkebeidlaaDoorTest
namespace Go.Proofs.YtdoenjkebeidlaaDoor
open Go.RowKit

theorem reftest_bad1 (k n : Int) (t : List UInt8) (op k2 n2 : Int) (t2 : List UInt8) (add : Int) (hv : vldB k n t = false) (w : World) :
    Calls Tryd.prog 24 #[V k n t, .int .i64 op, V k2 n2 t2, .int .i64 add] w fun e w' => e = .returned (.bool false) ∧ Below w.heap.size w w' := by
  go_enter Tryd.func24, Tryd.ntmps24
  go_wp2_with fail
  refine (refvalid_any k n t _).mono ?_
  rintro e w1 ⟨rfl, hb1⟩
  have HB := below_up (boxes2 w _ _) hb1 (by simp; omega)
  clear hb1
  go_wp2_with fail
  go_ret
  exact ⟨rfl, HB⟩

theorem reftest_bad2 (k n : Int) (t : List UInt8) (op k2 n2 : Int) (t2 : List UInt8) (add : Int) (hv : vldB k n t = true) (h : vldB k2 n2 t2 = false ∨ k = 0 ∨ k ≠ k2 ∨ (add ≠ 0 ∧ k ≠ 2 ∧ k ≠ 3)) (w : World) :
    Calls Tryd.prog 24 #[V k n t, .int .i64 op, V k2 n2 t2, .int .i64 add] w fun e w' => e = .returned (.bool false) ∧ Below w.heap.size w w' := by
  have H := Lib.hid h
  clear h
  go_enter Tryd.func24, Tryd.ntmps24
  go_wp2_with fail
  refine (refvalid_any k n t _).mono ?_
  rintro e w1 ⟨rfl, hb1⟩
  have A1 : Val3 w1 w.heap.size k n t := Val3.below ⟨by simp [go_sem], by simp [go_sem], by simp [go_sem]⟩ hb1
  have B1 : Val3 w1 (w.heap.size + 1) k2 n2 t2 := Val3.below ⟨by simp [go_sem], by simp [go_sem], by simp [go_sem]⟩ hb1
  have HB := below_up (boxes2 w _ _) hb1 (by simp; omega)
  have b0 := B1.c0; have b1 := B1.c1; have b2 := B1.c2
  clear hb1
  go_wp2_with fail
  refine (refvalid_any k2 n2 t2 _).mono ?_
  rintro e w2 ⟨rfl, hb2⟩
  have A2 := A1.below hb2; have B2 := B1.below hb2
  have HB2 := below_up HB hb2 HB.size
  clear hb2 b0 b1 b2
  have a0 := A2.c0; have b0 := B2.c0
  rcases H.out with h | h | h | ⟨h1, h2, h3⟩
  · go_wp2_with fail
    all_goals (go_ret; exact ⟨rfl, HB2⟩)
  · have e1 : (k == 0) = true := by simpa using h
    cases hv2 : vldB k2 n2 t2
    · go_wp2_with fail
      all_goals (go_ret; exact ⟨rfl, HB2⟩)
    · go_wp2_with fail
      all_goals (go_ret; exact ⟨rfl, HB2⟩)
  · have e1 : (k != k2) = true := by simpa using h
    cases hv2 : vldB k2 n2 t2
    · go_wp2_with fail
      all_goals (go_ret; exact ⟨rfl, HB2⟩)
    · by_cases h0 : k = 0
      · have e2 : (k == 0) = true := by simpa using h0
        go_wp2_with fail
        all_goals (go_ret; exact ⟨rfl, HB2⟩)
      · have e2 : (k == 0) = false := by simpa using h0
        go_wp2_with fail
        all_goals (go_ret; exact ⟨rfl, HB2⟩)
  · have e1 : (add != 0) = true := by simpa using h1
    have e2 : (k != 2) = true := by simpa using h2
    have e3 : (k != 3) = true := by simpa using h3
    cases hv2 : vldB k2 n2 t2
    · go_wp2_with fail
      all_goals (go_ret; exact ⟨rfl, HB2⟩)
    · by_cases h0 : k = 0
      · have e4 : (k == 0) = true := by simpa using h0
        go_wp2_with fail
        all_goals (go_ret; exact ⟨rfl, HB2⟩)
      · have e4 : (k == 0) = false := by simpa using h0
        by_cases h5 : k = k2
        · subst h5
          go_wp2_with fail
          all_goals (go_ret; exact ⟨rfl, HB2⟩)
        · have e5 : (k != k2) = true := by simpa using h5
          go_wp2_with fail
          all_goals (go_ret; exact ⟨rfl, HB2⟩)

theorem holds_ops (op s : Int) (h1 : op ≠ 1) (h2 : op ≠ 2) (h3 : op ≠ 3) (h4 : op ≠ 4) : holdsB op s = false := by
  unfold holdsB; rw [if_neg h1, if_neg h2, if_neg h3, if_neg h4]
theorem holds1 (s : Int) : holdsB 1 s = (s == 0) := by unfold holdsB; rw [if_pos rfl]; exact (Bool.eq_iff_iff.2 (by simp))
theorem holds2 (s : Int) : holdsB 2 s = (s != 0) := by unfold holdsB; rw [if_neg (by decide), if_pos rfl, Bool.eq_iff_iff]; simp
theorem holds3 (s : Int) : holdsB 3 s = decide (s < 0) := by unfold holdsB; rw [if_neg (by decide), if_neg (by decide), if_pos rfl]
theorem holds4 (s : Int) : holdsB 4 s = decide (s ≤ 0) := by unfold holdsB; rw [if_neg (by decide), if_neg (by decide), if_neg (by decide), if_pos rfl]

set_option maxRecDepth 100000 in
set_option maxHeartbeats 1600000 in
theorem refgood2 (n : Int) (t : List UInt8) (op n2 : Int) (t2 : List UInt8) (add : Int) (h1 : add ≠ 0) (hv : vldB 2 n t = true) (hv2 : vldB 2 n2 t2 = true) (s : Int) (hs : or2 (cmpI (n - n2) add) (cmpS t t2) = s) (w : World) :
    Calls Tryd.prog 24 #[V 2 n t, .int .i64 op, V 2 n2 t2, .int .i64 add] w fun e w' => e = .returned (.bool (holdsB op s)) ∧ Below w.heap.size w w' := by
  have N1 := Lib.hid (vld_n (vldB_true hv))
  have N2 := Lib.hid (vld_n (vldB_true hv2))
  have hw := Lib.hid (show IntKind.i64.wrap (n - n2) = n - n2 from IntWalk.i64_in _ (by have := N1.out; have := N2.out; omega))
  have HS := Lib.hid (show cmpI (n - n2) add = s by rw [← hs, vld_nil hv (by decide), vld_nil hv2 (by decide), cmpS_self]; unfold or2; split <;> simp_all)
  clear hs
  have e1 : (add != 0) = true := by simpa using h1
  clear h1
  go_enter Tryd.func24, Tryd.ntmps24
  go_wp2_with fail
  refine (refvalid_any 2 n t _).mono ?_
  rintro e w1 ⟨rfl, hb1⟩
  have A1 : Val3 w1 w.heap.size 2 n t := Val3.below ⟨by simp [go_sem], by simp [go_sem], by simp [go_sem]⟩ hb1
  have B1 : Val3 w1 (w.heap.size + 1) 2 n2 t2 := Val3.below ⟨by simp [go_sem], by simp [go_sem], by simp [go_sem]⟩ hb1
  have HB := below_up (boxes2 w _ _) hb1 (by simp; omega)
  have b0 := B1.c0; have b1 := B1.c1; have b2 := B1.c2
  clear hb1
  go_wp2_with fail
  refine (refvalid_any 2 n2 t2 _).mono ?_
  rintro e w2 ⟨rfl, hb2⟩
  have A2 := A1.below hb2; have B2 := B1.below hb2
  have HB2 := Lib.hid (below_up HB hb2 HB.size)
  clear hb2 b0 b1 b2 HB
  have a0 := A2.c0; have b0 := B2.c0
  have a1 := A2.c1; have b1 := B2.c1
  have a2 := A2.c2; have b2 := B2.c2
  obtain ⟨l1, u1⟩ := N1.out
  obtain ⟨l2, u2⟩ := N2.out
  go_wp2_with fail
  refine (sign_any (n - n2) add _).mono ?_
  rintro e w3 ⟨rfl, rfl⟩
  clear l1 u1 l2 u2
  rw [HS.out]
  by_cases o1 : op = 1
  · subst o1
    go_wp2_with fail
    go_ret
    exact ⟨bool_ret (holds1 s).symm, HB2.out⟩
  by_cases o2 : op = 2
  · subst o2
    go_wp2_with fail
    go_ret
    exact ⟨bool_ret (holds2 s).symm, HB2.out⟩
  by_cases o3 : op = 3
  · subst o3
    go_wp2_with fail
    go_ret
    exact ⟨bool_ret (holds3 s).symm, HB2.out⟩
  by_cases o4 : op = 4
  · subst o4
    go_wp2_with fail
    go_ret
    exact ⟨bool_ret (holds4 s).symm, HB2.out⟩
  have hn := Lib.hid (holds_ops op s o1 o2 o3 o4)
  have p1 : (op == 1) = false := by simpa using o1
  have p2 : (op == 2) = false := by simpa using o2
  have p3 : (op == 3) = false := by simpa using o3
  have p4 : (op == 4) = false := by simpa using o4
  clear o1 o2 o3 o4
  go_wp2_with fail
  go_ret
  exact ⟨bool_ret hn.out.symm, HB2.out⟩

set_option maxRecDepth 100000 in
set_option maxHeartbeats 1600000 in
theorem refgood3 (n : Int) (t : List UInt8) (op n2 : Int) (t2 : List UInt8) (add : Int) (h1 : add ≠ 0) (hv : vldB 3 n t = true) (hv2 : vldB 3 n2 t2 = true) (s : Int) (hs : or2 (cmpI (n - n2) add) (cmpS t t2) = s) (w : World) :
    Calls Tryd.prog 24 #[V 3 n t, .int .i64 op, V 3 n2 t2, .int .i64 add] w fun e w' => e = .returned (.bool (holdsB op s)) ∧ Below w.heap.size w w' := by
  have N1 := Lib.hid (vld_n (vldB_true hv))
  have N2 := Lib.hid (vld_n (vldB_true hv2))
  have hw := Lib.hid (show IntKind.i64.wrap (n - n2) = n - n2 from IntWalk.i64_in _ (by have := N1.out; have := N2.out; omega))
  have HS := Lib.hid (show cmpI (n - n2) add = s by rw [← hs, vld_nil hv (by decide), vld_nil hv2 (by decide), cmpS_self]; unfold or2; split <;> simp_all)
  clear hs
  have e1 : (add != 0) = true := by simpa using h1
  clear h1
  go_enter Tryd.func24, Tryd.ntmps24
  go_wp2_with fail
  refine (refvalid_any 3 n t _).mono ?_
  rintro e w1 ⟨rfl, hb1⟩
  have A1 : Val3 w1 w.heap.size 3 n t := Val3.below ⟨by simp [go_sem], by simp [go_sem], by simp [go_sem]⟩ hb1
  have B1 : Val3 w1 (w.heap.size + 1) 3 n2 t2 := Val3.below ⟨by simp [go_sem], by simp [go_sem], by simp [go_sem]⟩ hb1
  have HB := below_up (boxes2 w _ _) hb1 (by simp; omega)
  have b0 := B1.c0; have b1 := B1.c1; have b2 := B1.c2
  clear hb1
  go_wp2_with fail
  refine (refvalid_any 3 n2 t2 _).mono ?_
  rintro e w2 ⟨rfl, hb2⟩
  have A2 := A1.below hb2; have B2 := B1.below hb2
  have HB2 := Lib.hid (below_up HB hb2 HB.size)
  clear hb2 b0 b1 b2 HB
  have a0 := A2.c0; have b0 := B2.c0
  have a1 := A2.c1; have b1 := B2.c1
  have a2 := A2.c2; have b2 := B2.c2
  obtain ⟨l1, u1⟩ := N1.out
  obtain ⟨l2, u2⟩ := N2.out
  go_wp2_with fail
  refine (sign_any (n - n2) add _).mono ?_
  rintro e w3 ⟨rfl, rfl⟩
  clear l1 u1 l2 u2
  rw [HS.out]
  by_cases o1 : op = 1
  · subst o1
    go_wp2_with fail
    go_ret
    exact ⟨bool_ret (holds1 s).symm, HB2.out⟩
  by_cases o2 : op = 2
  · subst o2
    go_wp2_with fail
    go_ret
    exact ⟨bool_ret (holds2 s).symm, HB2.out⟩
  by_cases o3 : op = 3
  · subst o3
    go_wp2_with fail
    go_ret
    exact ⟨bool_ret (holds3 s).symm, HB2.out⟩
  by_cases o4 : op = 4
  · subst o4
    go_wp2_with fail
    go_ret
    exact ⟨bool_ret (holds4 s).symm, HB2.out⟩
  have hn := Lib.hid (holds_ops op s o1 o2 o3 o4)
  have p1 : (op == 1) = false := by simpa using o1
  have p2 : (op == 2) = false := by simpa using o2
  have p3 : (op == 3) = false := by simpa using o3
  have p4 : (op == 4) = false := by simpa using o4
  clear o1 o2 o3 o4
  go_wp2_with fail
  go_ret
  exact ⟨bool_ret hn.out.symm, HB2.out⟩

set_option maxRecDepth 100000 in
set_option maxHeartbeats 1600000 in
theorem refgood1 (n : Int) (t : List UInt8) (op n2 : Int) (t2 : List UInt8) (hv : vldB 1 n t = true) (hv2 : vldB 1 n2 t2 = true) (s : Int) (hs : or2 (cmpI (n - n2) 0) (cmpS t t2) = s) (w : World) :
    Calls Tryd.prog 24 #[V 1 n t, .int .i64 op, V 1 n2 t2, .int .i64 0] w fun e w' => e = .returned (.bool (holdsB op s)) ∧ Below w.heap.size w w' := by
  have N1 := Lib.hid (vld_n (vldB_true hv))
  have N2 := Lib.hid (vld_n (vldB_true hv2))
  have hw := Lib.hid (show IntKind.i64.wrap (n - n2) = n - n2 from IntWalk.i64_in _ (by have := N1.out; have := N2.out; omega))
  have HS := Lib.hid (show cmpV 1 n t 1 n2 t2 = s by
    rw [← hs, vld_zero hv, vld_zero hv2]; unfold cmpV; rw [cmpI_self, cmpI_self]; rfl)
  clear hs
  go_enter Tryd.func24, Tryd.ntmps24
  go_wp2_with fail
  refine (refvalid_any 1 n t _).mono ?_
  rintro e w1 ⟨rfl, hb1⟩
  have A1 : Val3 w1 w.heap.size 1 n t := Val3.below ⟨by simp [go_sem], by simp [go_sem], by simp [go_sem]⟩ hb1
  have B1 : Val3 w1 (w.heap.size + 1) 1 n2 t2 := Val3.below ⟨by simp [go_sem], by simp [go_sem], by simp [go_sem]⟩ hb1
  have HB := below_up (boxes2 w _ _) hb1 (by simp; omega)
  have b0 := B1.c0; have b1 := B1.c1; have b2 := B1.c2
  clear hb1
  go_wp2_with fail
  refine (refvalid_any 1 n2 t2 _).mono ?_
  rintro e w2 ⟨rfl, hb2⟩
  have A2 := A1.below hb2; have B2 := B1.below hb2
  have HB2 := Lib.hid (below_up HB hb2 HB.size)
  clear hb2 b0 b1 b2 HB
  have a0 := A2.c0; have b0 := B2.c0
  have a1 := A2.c1; have b1 := B2.c1
  have a2 := A2.c2; have b2 := B2.c2
  obtain ⟨l1, u1⟩ := N1.out
  obtain ⟨l2, u2⟩ := N2.out
  go_wp2_with fail
  refine (sign_any (n - n2) 0 _).mono ?_
  rintro e w3 ⟨rfl, rfl⟩
  clear l1 u1 l2 u2
  go_wp2_with fail
  have C := fun W => refcompare_any 1 n t 1 n2 t2 W
  rw [HS.out] at C
  refine (C _).mono ?_
  clear C
  rintro e w3 ⟨rfl, hb3⟩
  replace HB2 := Lib.hid (below_up HB2.out hb3 HB2.out.size)
  clear hb3 a0 a1 a2 b0 b1 b2
  by_cases o1 : op = 1
  · subst o1
    go_wp2_with fail
    go_ret
    exact ⟨bool_ret (holds1 s).symm, HB2.out⟩
  by_cases o2 : op = 2
  · subst o2
    go_wp2_with fail
    go_ret
    exact ⟨bool_ret (holds2 s).symm, HB2.out⟩
  by_cases o3 : op = 3
  · subst o3
    go_wp2_with fail
    go_ret
    exact ⟨bool_ret (holds3 s).symm, HB2.out⟩
  by_cases o4 : op = 4
  · subst o4
    go_wp2_with fail
    go_ret
    exact ⟨bool_ret (holds4 s).symm, HB2.out⟩
  have hn := Lib.hid (holds_ops op s o1 o2 o3 o4)
  have p1 : (op == 1) = false := by simpa using o1
  have p2 : (op == 2) = false := by simpa using o2
  have p3 : (op == 3) = false := by simpa using o3
  have p4 : (op == 4) = false := by simpa using o4
  clear o1 o2 o3 o4
  go_wp2_with fail
  go_ret
  exact ⟨bool_ret hn.out.symm, HB2.out⟩

set_option maxRecDepth 100000 in
set_option maxHeartbeats 1600000 in
theorem refgood4 (n : Int) (t : List UInt8) (op n2 : Int) (t2 : List UInt8) (hv : vldB 4 n t = true) (hv2 : vldB 4 n2 t2 = true) (s : Int) (hs : or2 (cmpI (n - n2) 0) (cmpS t t2) = s) (w : World) :
    Calls Tryd.prog 24 #[V 4 n t, .int .i64 op, V 4 n2 t2, .int .i64 0] w fun e w' => e = .returned (.bool (holdsB op s)) ∧ Below w.heap.size w w' := by
  have N1 := Lib.hid (vld_n (vldB_true hv))
  have N2 := Lib.hid (vld_n (vldB_true hv2))
  have hw := Lib.hid (show IntKind.i64.wrap (n - n2) = n - n2 from IntWalk.i64_in _ (by have := N1.out; have := N2.out; omega))
  have HS := Lib.hid (show cmpI (n - n2) 0 = s by rw [← hs, vld_nil hv (by decide), vld_nil hv2 (by decide), cmpS_self]; unfold or2; split <;> simp_all)
  clear hs
  go_enter Tryd.func24, Tryd.ntmps24
  go_wp2_with fail
  refine (refvalid_any 4 n t _).mono ?_
  rintro e w1 ⟨rfl, hb1⟩
  have A1 : Val3 w1 w.heap.size 4 n t := Val3.below ⟨by simp [go_sem], by simp [go_sem], by simp [go_sem]⟩ hb1
  have B1 : Val3 w1 (w.heap.size + 1) 4 n2 t2 := Val3.below ⟨by simp [go_sem], by simp [go_sem], by simp [go_sem]⟩ hb1
  have HB := below_up (boxes2 w _ _) hb1 (by simp; omega)
  have b0 := B1.c0; have b1 := B1.c1; have b2 := B1.c2
  clear hb1
  go_wp2_with fail
  refine (refvalid_any 4 n2 t2 _).mono ?_
  rintro e w2 ⟨rfl, hb2⟩
  have A2 := A1.below hb2; have B2 := B1.below hb2
  have HB2 := Lib.hid (below_up HB hb2 HB.size)
  clear hb2 b0 b1 b2 HB
  have a0 := A2.c0; have b0 := B2.c0
  have a1 := A2.c1; have b1 := B2.c1
  have a2 := A2.c2; have b2 := B2.c2
  obtain ⟨l1, u1⟩ := N1.out
  obtain ⟨l2, u2⟩ := N2.out
  go_wp2_with fail
  refine (sign_any (n - n2) 0 _).mono ?_
  rintro e w3 ⟨rfl, rfl⟩
  clear l1 u1 l2 u2
  rw [HS.out]
  by_cases o1 : op = 1
  · subst o1
    go_wp2_with fail
    go_ret
    exact ⟨bool_ret (holds1 s).symm, HB2.out⟩
  by_cases o2 : op = 2
  · subst o2
    go_wp2_with fail
    go_ret
    exact ⟨bool_ret (holds2 s).symm, HB2.out⟩
  by_cases o3 : op = 3
  · subst o3
    go_wp2_with fail
    go_ret
    exact ⟨bool_ret (holds3 s).symm, HB2.out⟩
  by_cases o4 : op = 4
  · subst o4
    go_wp2_with fail
    go_ret
    exact ⟨bool_ret (holds4 s).symm, HB2.out⟩
  have hn := Lib.hid (holds_ops op s o1 o2 o3 o4)
  have p1 : (op == 1) = false := by simpa using o1
  have p2 : (op == 2) = false := by simpa using o2
  have p3 : (op == 3) = false := by simpa using o3
  have p4 : (op == 4) = false := by simpa using o4
  clear o1 o2 o3 o4
  go_wp2_with fail
  go_ret
  exact ⟨bool_ret hn.out.symm, HB2.out⟩

set_option maxRecDepth 100000 in
set_option maxHeartbeats 1600000 in
theorem refgood20 (n : Int) (t : List UInt8) (op n2 : Int) (t2 : List UInt8) (hv : vldB 2 n t = true) (hv2 : vldB 2 n2 t2 = true) (s : Int) (hs : or2 (cmpI (n - n2) 0) (cmpS t t2) = s) (w : World) :
    Calls Tryd.prog 24 #[V 2 n t, .int .i64 op, V 2 n2 t2, .int .i64 0] w fun e w' => e = .returned (.bool (holdsB op s)) ∧ Below w.heap.size w w' := by
  have N1 := Lib.hid (vld_n (vldB_true hv))
  have N2 := Lib.hid (vld_n (vldB_true hv2))
  have hw := Lib.hid (show IntKind.i64.wrap (n - n2) = n - n2 from IntWalk.i64_in _ (by have := N1.out; have := N2.out; omega))
  have HS := Lib.hid (show cmpI (n - n2) 0 = s by rw [← hs, vld_nil hv (by decide), vld_nil hv2 (by decide), cmpS_self]; unfold or2; split <;> simp_all)
  clear hs
  go_enter Tryd.func24, Tryd.ntmps24
  go_wp2_with fail
  refine (refvalid_any 2 n t _).mono ?_
  rintro e w1 ⟨rfl, hb1⟩
  have A1 : Val3 w1 w.heap.size 2 n t := Val3.below ⟨by simp [go_sem], by simp [go_sem], by simp [go_sem]⟩ hb1
  have B1 : Val3 w1 (w.heap.size + 1) 2 n2 t2 := Val3.below ⟨by simp [go_sem], by simp [go_sem], by simp [go_sem]⟩ hb1
  have HB := below_up (boxes2 w _ _) hb1 (by simp; omega)
  have b0 := B1.c0; have b1 := B1.c1; have b2 := B1.c2
  clear hb1
  go_wp2_with fail
  refine (refvalid_any 2 n2 t2 _).mono ?_
  rintro e w2 ⟨rfl, hb2⟩
  have A2 := A1.below hb2; have B2 := B1.below hb2
  have HB2 := Lib.hid (below_up HB hb2 HB.size)
  clear hb2 b0 b1 b2 HB
  have a0 := A2.c0; have b0 := B2.c0
  have a1 := A2.c1; have b1 := B2.c1
  have a2 := A2.c2; have b2 := B2.c2
  obtain ⟨l1, u1⟩ := N1.out
  obtain ⟨l2, u2⟩ := N2.out
  go_wp2_with fail
  refine (sign_any (n - n2) 0 _).mono ?_
  rintro e w3 ⟨rfl, rfl⟩
  clear l1 u1 l2 u2
  rw [HS.out]
  by_cases o1 : op = 1
  · subst o1
    go_wp2_with fail
    go_ret
    exact ⟨bool_ret (holds1 s).symm, HB2.out⟩
  by_cases o2 : op = 2
  · subst o2
    go_wp2_with fail
    go_ret
    exact ⟨bool_ret (holds2 s).symm, HB2.out⟩
  by_cases o3 : op = 3
  · subst o3
    go_wp2_with fail
    go_ret
    exact ⟨bool_ret (holds3 s).symm, HB2.out⟩
  by_cases o4 : op = 4
  · subst o4
    go_wp2_with fail
    go_ret
    exact ⟨bool_ret (holds4 s).symm, HB2.out⟩
  have hn := Lib.hid (holds_ops op s o1 o2 o3 o4)
  have p1 : (op == 1) = false := by simpa using o1
  have p2 : (op == 2) = false := by simpa using o2
  have p3 : (op == 3) = false := by simpa using o3
  have p4 : (op == 4) = false := by simpa using o4
  clear o1 o2 o3 o4
  go_wp2_with fail
  go_ret
  exact ⟨bool_ret hn.out.symm, HB2.out⟩

set_option maxRecDepth 100000 in
set_option maxHeartbeats 1600000 in
theorem refgood30 (n : Int) (t : List UInt8) (op n2 : Int) (t2 : List UInt8) (hv : vldB 3 n t = true) (hv2 : vldB 3 n2 t2 = true) (s : Int) (hs : or2 (cmpI (n - n2) 0) (cmpS t t2) = s) (w : World) :
    Calls Tryd.prog 24 #[V 3 n t, .int .i64 op, V 3 n2 t2, .int .i64 0] w fun e w' => e = .returned (.bool (holdsB op s)) ∧ Below w.heap.size w w' := by
  have N1 := Lib.hid (vld_n (vldB_true hv))
  have N2 := Lib.hid (vld_n (vldB_true hv2))
  have hw := Lib.hid (show IntKind.i64.wrap (n - n2) = n - n2 from IntWalk.i64_in _ (by have := N1.out; have := N2.out; omega))
  have HS := Lib.hid (show cmpI (n - n2) 0 = s by rw [← hs, vld_nil hv (by decide), vld_nil hv2 (by decide), cmpS_self]; unfold or2; split <;> simp_all)
  clear hs
  go_enter Tryd.func24, Tryd.ntmps24
  go_wp2_with fail
  refine (refvalid_any 3 n t _).mono ?_
  rintro e w1 ⟨rfl, hb1⟩
  have A1 : Val3 w1 w.heap.size 3 n t := Val3.below ⟨by simp [go_sem], by simp [go_sem], by simp [go_sem]⟩ hb1
  have B1 : Val3 w1 (w.heap.size + 1) 3 n2 t2 := Val3.below ⟨by simp [go_sem], by simp [go_sem], by simp [go_sem]⟩ hb1
  have HB := below_up (boxes2 w _ _) hb1 (by simp; omega)
  have b0 := B1.c0; have b1 := B1.c1; have b2 := B1.c2
  clear hb1
  go_wp2_with fail
  refine (refvalid_any 3 n2 t2 _).mono ?_
  rintro e w2 ⟨rfl, hb2⟩
  have A2 := A1.below hb2; have B2 := B1.below hb2
  have HB2 := Lib.hid (below_up HB hb2 HB.size)
  clear hb2 b0 b1 b2 HB
  have a0 := A2.c0; have b0 := B2.c0
  have a1 := A2.c1; have b1 := B2.c1
  have a2 := A2.c2; have b2 := B2.c2
  obtain ⟨l1, u1⟩ := N1.out
  obtain ⟨l2, u2⟩ := N2.out
  go_wp2_with fail
  refine (sign_any (n - n2) 0 _).mono ?_
  rintro e w3 ⟨rfl, rfl⟩
  clear l1 u1 l2 u2
  rw [HS.out]
  by_cases o1 : op = 1
  · subst o1
    go_wp2_with fail
    go_ret
    exact ⟨bool_ret (holds1 s).symm, HB2.out⟩
  by_cases o2 : op = 2
  · subst o2
    go_wp2_with fail
    go_ret
    exact ⟨bool_ret (holds2 s).symm, HB2.out⟩
  by_cases o3 : op = 3
  · subst o3
    go_wp2_with fail
    go_ret
    exact ⟨bool_ret (holds3 s).symm, HB2.out⟩
  by_cases o4 : op = 4
  · subst o4
    go_wp2_with fail
    go_ret
    exact ⟨bool_ret (holds4 s).symm, HB2.out⟩
  have hn := Lib.hid (holds_ops op s o1 o2 o3 o4)
  have p1 : (op == 1) = false := by simpa using o1
  have p2 : (op == 2) = false := by simpa using o2
  have p3 : (op == 3) = false := by simpa using o3
  have p4 : (op == 4) = false := by simpa using o4
  clear o1 o2 o3 o4
  go_wp2_with fail
  go_ret
  exact ⟨bool_ret hn.out.symm, HB2.out⟩

theorem reftest_any (k n : Int) (t : List UInt8) (op k2 n2 : Int) (t2 : List UInt8) (add : Int) (w : World) :
    Calls Tryd.prog 24 #[V k n t, .int .i64 op, V k2 n2 t2, .int .i64 add] w fun e w' => e = .returned (.bool (testB k n t op k2 n2 t2 add)) ∧ Below w.heap.size w w' := by
  cases hv : vldB k n t
  · rw [show testB k n t op k2 n2 t2 add = false by unfold testB; rw [hv]; rfl]
    exact reftest_bad1 k n t op k2 n2 t2 add hv w
  · by_cases h : vldB k2 n2 t2 = false ∨ k = 0 ∨ k ≠ k2 ∨ (add ≠ 0 ∧ k ≠ 2 ∧ k ≠ 3)
    · rw [show testB k n t op k2 n2 t2 add = false by
        unfold testB
        rw [if_neg]
        intro g
        simp only [Bool.and_eq_true, Bool.or_eq_true, decide_eq_true_eq, Bool.not_eq_true', decide_eq_false_iff_not] at g
        obtain ⟨⟨⟨⟨_, g2⟩, g3⟩, g4⟩, g5⟩ := g
        rcases h with h | h | h | h
        · rw [g2] at h; cases h
        · exact g3 h
        · exact h g4
        · omega]
      exact reftest_bad2 k n t op k2 n2 t2 add hv h w
    · have hv2 : vldB k2 n2 t2 = true := by
        cases g : vldB k2 n2 t2
        · exact absurd (Or.inl g) h
        · rfl
      have h0 : k ≠ 0 := fun g => h (Or.inr (Or.inl g))
      have hk : k = k2 := Classical.byContradiction fun g => h (Or.inr (Or.inr (Or.inl g)))
      subst hk
      have ha : add = 0 ∨ (add ≠ 0 ∧ k = 2) ∨ (add ≠ 0 ∧ k = 3) := by
        by_cases a0 : add = 0
        · exact Or.inl a0
        · by_cases a2 : k = 2
          · exact Or.inr (Or.inl ⟨a0, a2⟩)
          · by_cases a3 : k = 3
            · exact Or.inr (Or.inr ⟨a0, a3⟩)
            · exact absurd (Or.inr (Or.inr (Or.inr ⟨a0, a2, a3⟩))) h
      rw [show testB k n t op k n2 t2 add = holdsB op (or2 (cmpI (n - n2) add) (cmpS t t2)) by
        unfold testB
        rw [hv, hv2, if_pos]
        simp only [Bool.and_eq_true, Bool.or_eq_true, decide_eq_true_eq, Bool.not_eq_true', decide_eq_false_iff_not]
        exact ⟨⟨⟨⟨trivial, trivial⟩, h0⟩, trivial⟩, by omega⟩]
      rcases ha with rfl | ⟨h1, rfl⟩ | ⟨h1, rfl⟩
      · rcases vld_cases hv with rfl | rfl | rfl | rfl | rfl
        · exact absurd rfl h0
        · exact refgood1 n t op n2 t2 hv hv2 _ rfl w
        · exact refgood20 n t op n2 t2 hv hv2 _ rfl w
        · exact refgood30 n t op n2 t2 hv hv2 _ rfl w
        · exact refgood4 n t op n2 t2 hv hv2 _ rfl w
      · exact refgood2 n t op n2 t2 add h1 hv hv2 _ rfl w
      · exact refgood3 n t op n2 t2 add h1 hv hv2 _ rfl w
end Go.Proofs.YtdoenjkebeidlaaDoor
