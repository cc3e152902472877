/- The walks of ValueTests. -/
import Derived.Test.YtdoenjkebeidlaaDoorOrderW
namespace Go.Proofs.YtdoenjkebeidlaaDoor
open Go.RowKit

theorem test_order {k n : Int} {t : List UInt8} {n2 : Int} {t2 : List UInt8} (hv : vldB k n t = true) (hv2 : vldB k n2 t2 = true) (h0 : k ≠ 0) (c : Int) (hc : cmpV k n t k n2 t2 = c) (op : Int) (b : Bool) (hb : holdsB op c = b) : testB k n t op k n2 t2 0 = b := by
  have e : cmpI (n - n2) 0 = cmpI n n2 := by unfold cmpI; split <;> split <;> (try split) <;> (try split) <;> omega
  have ec : cmpV k n t k n2 t2 = or2 (cmpI n n2) (cmpS t t2) := by unfold cmpV; rw [cmpI_self, or2_zero]
  unfold testB
  rw [hv, hv2, if_pos (by simp [h0]), e, ← ec, hc, hb]

set_option maxRecDepth 100000 in
set_option maxHeartbeats 1600000 in
theorem tests_long (k k2 n n2 : Int) (t t2 : List UInt8) (hs : shortB [t, t2] = false) (w : World) (he : Env w) :
    Calls Tryd.prog 8 #[V k n t, V k2 n2 t2] w fun e w' => e = .returned (.bool true) ∧ Below w.heap.size w w' := by
  have HE := Lib.hid he
  have HB := Lib.hid (Below.refl w.heap.size w)
  clear he
  go_enter Tryd.func8, Tryd.ntmps8
  go_wp2_with fail
  refine (head_any _ ((HE.out.alloc _).alloc _)).mono ?_
  rintro e w1 ⟨rfl, hb⟩
  have RA := Lib.hid (show Val3 w1 (w.heap.size) k n t from Val3.below ⟨by simp [go_sem], by simp [go_sem], by simp [go_sem]⟩ hb)
  have RB := Lib.hid (show Val3 w1 (w.heap.size + 1) k2 n2 t2 from Val3.below ⟨by simp [go_sem], by simp [go_sem], by simp [go_sem]⟩ hb)
  replace HE := Lib.hid (((HE.out.alloc _).alloc _).below hb)
  replace HB := Lib.hid (below_up (((HB.out.alloc (by have := HB.out.size; simp; try omega) _).alloc (by have := HB.out.size; simp; try omega) _)) hb (by have := HB.out.size; simp; omega))
  clear hb
  have zRAc0 := RA.out.c0
  have zRAc1 := RA.out.c1
  have zRAc2 := RA.out.c2
  have zRBc0 := RB.out.c0
  have zRBc1 := RB.out.c1
  have zRBc2 := RB.out.c2
  go_wp2_with fail
  refine (short_b2 k n t k2 n2 t2 false hs _ ).mono ?_
  rintro e w2 ⟨rfl, hb⟩
  replace RA := Lib.hid ((RA.out.alloc _).below hb)
  replace RB := Lib.hid ((RB.out.alloc _).below hb)
  replace HE := Lib.hid ((HE.out.alloc _).below hb)
  replace HB := Lib.hid (below_next HB.out HB.out.size hb)
  clear hb
  clear zRAc0 zRAc1 zRAc2 zRBc0 zRBc1 zRBc2
  go_wp2_with fail
  go_ret
  exact ⟨rfl, HB.out⟩


set_option maxRecDepth 100000 in
set_option maxHeartbeats 1600000 in
theorem tests_p1 (k k2 n n2 : Int) (t t2 : List UInt8) (hs : shortB [t, t2] = true) (hv : vldB k n t = false) (w : World) (he : Env w) :
    Calls Tryd.prog 8 #[V k n t, V k2 n2 t2] w fun e w' => e = .returned (.bool true) ∧ Below w.heap.size w w' := by
  have HE := Lib.hid he
  have HB := Lib.hid (Below.refl w.heap.size w)
  clear he
  go_enter Tryd.func8, Tryd.ntmps8
  go_wp2_with fail
  refine (head_any _ ((HE.out.alloc _).alloc _)).mono ?_
  rintro e w1 ⟨rfl, hb⟩
  have RA := Lib.hid (show Val3 w1 (w.heap.size) k n t from Val3.below ⟨by simp [go_sem], by simp [go_sem], by simp [go_sem]⟩ hb)
  have RB := Lib.hid (show Val3 w1 (w.heap.size + 1) k2 n2 t2 from Val3.below ⟨by simp [go_sem], by simp [go_sem], by simp [go_sem]⟩ hb)
  replace HE := Lib.hid (((HE.out.alloc _).alloc _).below hb)
  replace HB := Lib.hid (below_up (((HB.out.alloc (by have := HB.out.size; simp; try omega) _).alloc (by have := HB.out.size; simp; try omega) _)) hb (by have := HB.out.size; simp; omega))
  clear hb
  have zRAc0 := RA.out.c0
  have zRAc1 := RA.out.c1
  have zRAc2 := RA.out.c2
  have zRBc0 := RB.out.c0
  have zRBc1 := RB.out.c1
  have zRBc2 := RB.out.c2
  go_wp2_with fail
  refine (short_b2 k n t k2 n2 t2 true hs _ ).mono ?_
  rintro e w2 ⟨rfl, hb⟩
  replace RA := Lib.hid ((RA.out.alloc _).below hb)
  replace RB := Lib.hid ((RB.out.alloc _).below hb)
  replace HE := Lib.hid ((HE.out.alloc _).below hb)
  replace HB := Lib.hid (below_next HB.out HB.out.size hb)
  clear hb
  clear zRAc0 zRAc1 zRAc2 zRBc0 zRBc1 zRBc2
  have zRAc0 := RA.out.c0
  have zRAc1 := RA.out.c1
  have zRAc2 := RA.out.c2
  have zRBc0 := RB.out.c0
  have zRBc1 := RB.out.c1
  have zRBc2 := RB.out.c2
  go_wp2_with fail
  refine (valid_any k n t _ ).mono ?_
  rintro e w3 ⟨rfl, hb⟩
  replace RA := Lib.hid (RA.out.below hb)
  replace RB := Lib.hid (RB.out.below hb)
  replace HE := Lib.hid (HE.out.below hb)
  replace HB := Lib.hid (below_up HB.out hb HB.out.size)
  clear hb
  clear zRAc0 zRAc1 zRAc2 zRBc0 zRBc1 zRBc2
  have zRAc0 := RA.out.c0
  have zRAc1 := RA.out.c1
  have zRAc2 := RA.out.c2
  have zRBc0 := RB.out.c0
  have zRBc1 := RB.out.c1
  have zRBc2 := RB.out.c2
  go_wp2_with fail
  go_ret
  exact ⟨rfl, HB.out⟩


set_option maxRecDepth 100000 in
set_option maxHeartbeats 1600000 in
theorem tests_p2 (k k2 n n2 : Int) (t t2 : List UInt8) (hs : shortB [t, t2] = true) (hv : vldB k n t = true) (hv2 : vldB k2 n2 t2 = false) (w : World) (he : Env w) :
    Calls Tryd.prog 8 #[V k n t, V k2 n2 t2] w fun e w' => e = .returned (.bool true) ∧ Below w.heap.size w w' := by
  have HE := Lib.hid he
  have HB := Lib.hid (Below.refl w.heap.size w)
  clear he
  go_enter Tryd.func8, Tryd.ntmps8
  go_wp2_with fail
  refine (head_any _ ((HE.out.alloc _).alloc _)).mono ?_
  rintro e w1 ⟨rfl, hb⟩
  have RA := Lib.hid (show Val3 w1 (w.heap.size) k n t from Val3.below ⟨by simp [go_sem], by simp [go_sem], by simp [go_sem]⟩ hb)
  have RB := Lib.hid (show Val3 w1 (w.heap.size + 1) k2 n2 t2 from Val3.below ⟨by simp [go_sem], by simp [go_sem], by simp [go_sem]⟩ hb)
  replace HE := Lib.hid (((HE.out.alloc _).alloc _).below hb)
  replace HB := Lib.hid (below_up (((HB.out.alloc (by have := HB.out.size; simp; try omega) _).alloc (by have := HB.out.size; simp; try omega) _)) hb (by have := HB.out.size; simp; omega))
  clear hb
  have zRAc0 := RA.out.c0
  have zRAc1 := RA.out.c1
  have zRAc2 := RA.out.c2
  have zRBc0 := RB.out.c0
  have zRBc1 := RB.out.c1
  have zRBc2 := RB.out.c2
  go_wp2_with fail
  refine (short_b2 k n t k2 n2 t2 true hs _ ).mono ?_
  rintro e w2 ⟨rfl, hb⟩
  replace RA := Lib.hid ((RA.out.alloc _).below hb)
  replace RB := Lib.hid ((RB.out.alloc _).below hb)
  replace HE := Lib.hid ((HE.out.alloc _).below hb)
  replace HB := Lib.hid (below_next HB.out HB.out.size hb)
  clear hb
  clear zRAc0 zRAc1 zRAc2 zRBc0 zRBc1 zRBc2
  have zRAc0 := RA.out.c0
  have zRAc1 := RA.out.c1
  have zRAc2 := RA.out.c2
  have zRBc0 := RB.out.c0
  have zRBc1 := RB.out.c1
  have zRBc2 := RB.out.c2
  go_wp2_with fail
  refine (valid_any k n t _ ).mono ?_
  rintro e w3 ⟨rfl, hb⟩
  replace RA := Lib.hid (RA.out.below hb)
  replace RB := Lib.hid (RB.out.below hb)
  replace HE := Lib.hid (HE.out.below hb)
  replace HB := Lib.hid (below_up HB.out hb HB.out.size)
  clear hb
  clear zRAc0 zRAc1 zRAc2 zRBc0 zRBc1 zRBc2
  have zRAc0 := RA.out.c0
  have zRAc1 := RA.out.c1
  have zRAc2 := RA.out.c2
  have zRBc0 := RB.out.c0
  have zRBc1 := RB.out.c1
  have zRBc2 := RB.out.c2
  go_wp2_with fail
  refine (valid_any k2 n2 t2 _ ).mono ?_
  rintro e w4 ⟨rfl, hb⟩
  replace RA := Lib.hid (RA.out.below hb)
  replace RB := Lib.hid (RB.out.below hb)
  replace HE := Lib.hid (HE.out.below hb)
  replace HB := Lib.hid (below_up HB.out hb HB.out.size)
  clear hb
  clear zRAc0 zRAc1 zRAc2 zRBc0 zRBc1 zRBc2
  have zRAc0 := RA.out.c0
  have zRAc1 := RA.out.c1
  have zRAc2 := RA.out.c2
  have zRBc0 := RB.out.c0
  have zRBc1 := RB.out.c1
  have zRBc2 := RB.out.c2
  go_wp2_with fail
  go_ret
  exact ⟨rfl, HB.out⟩


set_option maxRecDepth 100000 in
set_option maxHeartbeats 1600000 in
theorem tests_p3 (k k2 n n2 : Int) (t t2 : List UInt8) (hs : shortB [t, t2] = true) (hv : vldB k n t = true) (hv2 : vldB k2 n2 t2 = true) (hk : k ≠ k2) (w : World) (he : Env w) :
    Calls Tryd.prog 8 #[V k n t, V k2 n2 t2] w fun e w' => e = .returned (.bool true) ∧ Below w.heap.size w w' := by
  have e1 : (k != k2) = true := by simpa using hk
  clear hk
  have HE := Lib.hid he
  have HB := Lib.hid (Below.refl w.heap.size w)
  clear he
  go_enter Tryd.func8, Tryd.ntmps8
  go_wp2_with fail
  refine (head_any _ ((HE.out.alloc _).alloc _)).mono ?_
  rintro e w1 ⟨rfl, hb⟩
  have RA := Lib.hid (show Val3 w1 (w.heap.size) k n t from Val3.below ⟨by simp [go_sem], by simp [go_sem], by simp [go_sem]⟩ hb)
  have RB := Lib.hid (show Val3 w1 (w.heap.size + 1) k2 n2 t2 from Val3.below ⟨by simp [go_sem], by simp [go_sem], by simp [go_sem]⟩ hb)
  replace HE := Lib.hid (((HE.out.alloc _).alloc _).below hb)
  replace HB := Lib.hid (below_up (((HB.out.alloc (by have := HB.out.size; simp; try omega) _).alloc (by have := HB.out.size; simp; try omega) _)) hb (by have := HB.out.size; simp; omega))
  clear hb
  have zRAc0 := RA.out.c0
  have zRAc1 := RA.out.c1
  have zRAc2 := RA.out.c2
  have zRBc0 := RB.out.c0
  have zRBc1 := RB.out.c1
  have zRBc2 := RB.out.c2
  go_wp2_with fail
  refine (short_b2 k n t k2 n2 t2 true hs _ ).mono ?_
  rintro e w2 ⟨rfl, hb⟩
  replace RA := Lib.hid ((RA.out.alloc _).below hb)
  replace RB := Lib.hid ((RB.out.alloc _).below hb)
  replace HE := Lib.hid ((HE.out.alloc _).below hb)
  replace HB := Lib.hid (below_next HB.out HB.out.size hb)
  clear hb
  clear zRAc0 zRAc1 zRAc2 zRBc0 zRBc1 zRBc2
  have zRAc0 := RA.out.c0
  have zRAc1 := RA.out.c1
  have zRAc2 := RA.out.c2
  have zRBc0 := RB.out.c0
  have zRBc1 := RB.out.c1
  have zRBc2 := RB.out.c2
  go_wp2_with fail
  refine (valid_any k n t _ ).mono ?_
  rintro e w3 ⟨rfl, hb⟩
  replace RA := Lib.hid (RA.out.below hb)
  replace RB := Lib.hid (RB.out.below hb)
  replace HE := Lib.hid (HE.out.below hb)
  replace HB := Lib.hid (below_up HB.out hb HB.out.size)
  clear hb
  clear zRAc0 zRAc1 zRAc2 zRBc0 zRBc1 zRBc2
  have zRAc0 := RA.out.c0
  have zRAc1 := RA.out.c1
  have zRAc2 := RA.out.c2
  have zRBc0 := RB.out.c0
  have zRBc1 := RB.out.c1
  have zRBc2 := RB.out.c2
  go_wp2_with fail
  refine (valid_any k2 n2 t2 _ ).mono ?_
  rintro e w4 ⟨rfl, hb⟩
  replace RA := Lib.hid (RA.out.below hb)
  replace RB := Lib.hid (RB.out.below hb)
  replace HE := Lib.hid (HE.out.below hb)
  replace HB := Lib.hid (below_up HB.out hb HB.out.size)
  clear hb
  clear zRAc0 zRAc1 zRAc2 zRBc0 zRBc1 zRBc2
  have zRAc0 := RA.out.c0
  have zRAc1 := RA.out.c1
  have zRAc2 := RA.out.c2
  have zRBc0 := RB.out.c0
  have zRBc1 := RB.out.c1
  have zRBc2 := RB.out.c2
  go_wp2_with fail
  go_ret
  exact ⟨rfl, HB.out⟩


set_option maxRecDepth 100000 in
set_option maxHeartbeats 1600000 in
theorem tests_p4 (n n2 : Int) (t t2 : List UInt8) (hs : shortB [t, t2] = true) (hv : vldB 0 n t = true) (hv2 : vldB 0 n2 t2 = true) (w : World) (he : Env w) :
    Calls Tryd.prog 8 #[V 0 n t, V 0 n2 t2] w fun e w' => e = .returned (.bool true) ∧ Below w.heap.size w w' := by
  have HE := Lib.hid he
  have HB := Lib.hid (Below.refl w.heap.size w)
  clear he
  go_enter Tryd.func8, Tryd.ntmps8
  go_wp2_with fail
  refine (head_any _ ((HE.out.alloc _).alloc _)).mono ?_
  rintro e w1 ⟨rfl, hb⟩
  have RA := Lib.hid (show Val3 w1 (w.heap.size) 0 n t from Val3.below ⟨by simp [go_sem], by simp [go_sem], by simp [go_sem]⟩ hb)
  have RB := Lib.hid (show Val3 w1 (w.heap.size + 1) 0 n2 t2 from Val3.below ⟨by simp [go_sem], by simp [go_sem], by simp [go_sem]⟩ hb)
  replace HE := Lib.hid (((HE.out.alloc _).alloc _).below hb)
  replace HB := Lib.hid (below_up (((HB.out.alloc (by have := HB.out.size; simp; try omega) _).alloc (by have := HB.out.size; simp; try omega) _)) hb (by have := HB.out.size; simp; omega))
  clear hb
  have zRAc0 := RA.out.c0
  have zRAc1 := RA.out.c1
  have zRAc2 := RA.out.c2
  have zRBc0 := RB.out.c0
  have zRBc1 := RB.out.c1
  have zRBc2 := RB.out.c2
  go_wp2_with fail
  refine (short_b2 0 n t 0 n2 t2 true hs _ ).mono ?_
  rintro e w2 ⟨rfl, hb⟩
  replace RA := Lib.hid ((RA.out.alloc _).below hb)
  replace RB := Lib.hid ((RB.out.alloc _).below hb)
  replace HE := Lib.hid ((HE.out.alloc _).below hb)
  replace HB := Lib.hid (below_next HB.out HB.out.size hb)
  clear hb
  clear zRAc0 zRAc1 zRAc2 zRBc0 zRBc1 zRBc2
  have zRAc0 := RA.out.c0
  have zRAc1 := RA.out.c1
  have zRAc2 := RA.out.c2
  have zRBc0 := RB.out.c0
  have zRBc1 := RB.out.c1
  have zRBc2 := RB.out.c2
  go_wp2_with fail
  refine (valid_any 0 n t _ ).mono ?_
  rintro e w3 ⟨rfl, hb⟩
  replace RA := Lib.hid (RA.out.below hb)
  replace RB := Lib.hid (RB.out.below hb)
  replace HE := Lib.hid (HE.out.below hb)
  replace HB := Lib.hid (below_up HB.out hb HB.out.size)
  clear hb
  clear zRAc0 zRAc1 zRAc2 zRBc0 zRBc1 zRBc2
  have zRAc0 := RA.out.c0
  have zRAc1 := RA.out.c1
  have zRAc2 := RA.out.c2
  have zRBc0 := RB.out.c0
  have zRBc1 := RB.out.c1
  have zRBc2 := RB.out.c2
  go_wp2_with fail
  refine (valid_any 0 n2 t2 _ ).mono ?_
  rintro e w4 ⟨rfl, hb⟩
  replace RA := Lib.hid (RA.out.below hb)
  replace RB := Lib.hid (RB.out.below hb)
  replace HE := Lib.hid (HE.out.below hb)
  replace HB := Lib.hid (below_up HB.out hb HB.out.size)
  clear hb
  clear zRAc0 zRAc1 zRAc2 zRBc0 zRBc1 zRBc2
  have zRAc0 := RA.out.c0
  have zRAc1 := RA.out.c1
  have zRAc2 := RA.out.c2
  have zRBc0 := RB.out.c0
  have zRBc1 := RB.out.c1
  have zRBc2 := RB.out.c2
  go_wp2_with fail
  go_ret
  exact ⟨rfl, HB.out⟩


set_option maxRecDepth 100000 in
set_option maxHeartbeats 1600000 in
theorem tests_cm (k n n2 : Int) (t t2 : List UInt8) (hs : shortB [t, t2] = true) (hv : vldB k n t = true) (hv2 : vldB k n2 t2 = true) (h0 : k ≠ 0) (hc : cmpV k n t k n2 t2 = -1) (w : World) (he : Env w) :
    Calls Tryd.prog 8 #[V k n t, V k n2 t2] w fun e w' => e = .returned (.bool true) ∧ Below w.heap.size w w' := by
  have HC := Lib.hid hc
  have T3 := Lib.hid (test_order hv hv2 h0 (-1) hc 3 true (by decide +kernel))
  have T1 := Lib.hid (test_order hv hv2 h0 (-1) hc 1 false (by decide +kernel))
  have T2 := Lib.hid (test_order hv hv2 h0 (-1) hc 2 true (by decide +kernel))
  have T4 := Lib.hid (test_order hv hv2 h0 (-1) hc 4 true (by decide +kernel))
  have e0 : (k == 0) = false := by simpa using h0
  clear h0 hc
  have HE := Lib.hid he
  have HB := Lib.hid (Below.refl w.heap.size w)
  clear he
  go_enter Tryd.func8, Tryd.ntmps8
  go_wp2_with fail
  refine (head_any _ ((HE.out.alloc _).alloc _)).mono ?_
  rintro e w1 ⟨rfl, hb⟩
  have RA := Lib.hid (show Val3 w1 (w.heap.size) k n t from Val3.below ⟨by simp [go_sem], by simp [go_sem], by simp [go_sem]⟩ hb)
  have RB := Lib.hid (show Val3 w1 (w.heap.size + 1) k n2 t2 from Val3.below ⟨by simp [go_sem], by simp [go_sem], by simp [go_sem]⟩ hb)
  replace HE := Lib.hid (((HE.out.alloc _).alloc _).below hb)
  replace HB := Lib.hid (below_up (((HB.out.alloc (by have := HB.out.size; simp; try omega) _).alloc (by have := HB.out.size; simp; try omega) _)) hb (by have := HB.out.size; simp; omega))
  clear hb
  have zRAc0 := RA.out.c0
  have zRAc1 := RA.out.c1
  have zRAc2 := RA.out.c2
  have zRBc0 := RB.out.c0
  have zRBc1 := RB.out.c1
  have zRBc2 := RB.out.c2
  go_wp2_with fail
  refine (short_b2 k n t k n2 t2 true hs _ ).mono ?_
  rintro e w2 ⟨rfl, hb⟩
  replace RA := Lib.hid ((RA.out.alloc _).below hb)
  replace RB := Lib.hid ((RB.out.alloc _).below hb)
  replace HE := Lib.hid ((HE.out.alloc _).below hb)
  replace HB := Lib.hid (below_next HB.out HB.out.size hb)
  clear hb
  clear zRAc0 zRAc1 zRAc2 zRBc0 zRBc1 zRBc2
  have zRAc0 := RA.out.c0
  have zRAc1 := RA.out.c1
  have zRAc2 := RA.out.c2
  have zRBc0 := RB.out.c0
  have zRBc1 := RB.out.c1
  have zRBc2 := RB.out.c2
  go_wp2_with fail
  refine (valid_any k n t _ ).mono ?_
  rintro e w3 ⟨rfl, hb⟩
  replace RA := Lib.hid (RA.out.below hb)
  replace RB := Lib.hid (RB.out.below hb)
  replace HE := Lib.hid (HE.out.below hb)
  replace HB := Lib.hid (below_up HB.out hb HB.out.size)
  clear hb
  clear zRAc0 zRAc1 zRAc2 zRBc0 zRBc1 zRBc2
  have zRAc0 := RA.out.c0
  have zRAc1 := RA.out.c1
  have zRAc2 := RA.out.c2
  have zRBc0 := RB.out.c0
  have zRBc1 := RB.out.c1
  have zRBc2 := RB.out.c2
  go_wp2_with fail
  refine (valid_any k n2 t2 _ ).mono ?_
  rintro e w4 ⟨rfl, hb⟩
  replace RA := Lib.hid (RA.out.below hb)
  replace RB := Lib.hid (RB.out.below hb)
  replace HE := Lib.hid (HE.out.below hb)
  replace HB := Lib.hid (below_up HB.out hb HB.out.size)
  clear hb
  clear zRAc0 zRAc1 zRAc2 zRBc0 zRBc1 zRBc2
  have zRAc0 := RA.out.c0
  have zRAc1 := RA.out.c1
  have zRAc2 := RA.out.c2
  have zRBc0 := RB.out.c0
  have zRBc1 := RB.out.c1
  have zRBc2 := RB.out.c2
  go_wp2_with fail
  have C := fun W => compare_any k n t k n2 t2 W
  rw [HC.out] at C
  refine (C _ ).mono ?_
  clear C
  rintro e w5 ⟨rfl, hb⟩
  replace RA := Lib.hid (RA.out.below hb)
  replace RB := Lib.hid (RB.out.below hb)
  replace HE := Lib.hid (HE.out.below hb)
  replace HB := Lib.hid (below_up HB.out hb HB.out.size)
  clear hb
  clear zRAc0 zRAc1 zRAc2 zRBc0 zRBc1 zRBc2
  have zRAc0 := RA.out.c0
  have zRAc1 := RA.out.c1
  have zRAc2 := RA.out.c2
  have zRBc0 := RB.out.c0
  have zRBc1 := RB.out.c1
  have zRBc2 := RB.out.c2
  go_wp2_with fail
  have C := fun W => test_any k n t 3 k n2 t2 0 W
  rw [T3.out] at C
  refine (C _ ).mono ?_
  clear C
  rintro e w6 ⟨rfl, hb⟩
  replace RA := Lib.hid (RA.out.below hb)
  replace RB := Lib.hid (RB.out.below hb)
  replace HE := Lib.hid (HE.out.below hb)
  replace HB := Lib.hid (below_up HB.out hb HB.out.size)
  clear hb
  clear zRAc0 zRAc1 zRAc2 zRBc0 zRBc1 zRBc2
  have zRAc0 := RA.out.c0
  have zRAc1 := RA.out.c1
  have zRAc2 := RA.out.c2
  have zRBc0 := RB.out.c0
  have zRBc1 := RB.out.c1
  have zRBc2 := RB.out.c2
  go_wp2_with fail
  have C := fun W => test_any k n t 1 k n2 t2 0 W
  rw [T1.out] at C
  refine (C _ ).mono ?_
  clear C
  rintro e w7 ⟨rfl, hb⟩
  replace RA := Lib.hid (RA.out.below hb)
  replace RB := Lib.hid (RB.out.below hb)
  replace HE := Lib.hid (HE.out.below hb)
  replace HB := Lib.hid (below_up HB.out hb HB.out.size)
  clear hb
  clear zRAc0 zRAc1 zRAc2 zRBc0 zRBc1 zRBc2
  have zRAc0 := RA.out.c0
  have zRAc1 := RA.out.c1
  have zRAc2 := RA.out.c2
  have zRBc0 := RB.out.c0
  have zRBc1 := RB.out.c1
  have zRBc2 := RB.out.c2
  go_wp2_with fail
  have C := fun W => test_any k n t 2 k n2 t2 0 W
  rw [T2.out] at C
  refine (C _ ).mono ?_
  clear C
  rintro e w8 ⟨rfl, hb⟩
  replace RA := Lib.hid (RA.out.below hb)
  replace RB := Lib.hid (RB.out.below hb)
  replace HE := Lib.hid (HE.out.below hb)
  replace HB := Lib.hid (below_up HB.out hb HB.out.size)
  clear hb
  clear zRAc0 zRAc1 zRAc2 zRBc0 zRBc1 zRBc2
  have zRAc0 := RA.out.c0
  have zRAc1 := RA.out.c1
  have zRAc2 := RA.out.c2
  have zRBc0 := RB.out.c0
  have zRBc1 := RB.out.c1
  have zRBc2 := RB.out.c2
  go_wp2_with fail
  have C := fun W => test_any k n t 4 k n2 t2 0 W
  rw [T4.out] at C
  refine (C _ ).mono ?_
  clear C
  rintro e w9 ⟨rfl, hb⟩
  replace RA := Lib.hid (RA.out.below hb)
  replace RB := Lib.hid (RB.out.below hb)
  replace HE := Lib.hid (HE.out.below hb)
  replace HB := Lib.hid (below_up HB.out hb HB.out.size)
  clear hb
  clear zRAc0 zRAc1 zRAc2 zRBc0 zRBc1 zRBc2
  go_wp2_with fail
  go_ret
  exact ⟨rfl, HB.out⟩


set_option maxRecDepth 100000 in
set_option maxHeartbeats 1600000 in
theorem tests_cz (k n n2 : Int) (t t2 : List UInt8) (hs : shortB [t, t2] = true) (hv : vldB k n t = true) (hv2 : vldB k n2 t2 = true) (h0 : k ≠ 0) (hc : cmpV k n t k n2 t2 = 0) (w : World) (he : Env w) :
    Calls Tryd.prog 8 #[V k n t, V k n2 t2] w fun e w' => e = .returned (.bool true) ∧ Below w.heap.size w w' := by
  have HC := Lib.hid hc
  have T3 := Lib.hid (test_order hv hv2 h0 (0) hc 3 false (by decide +kernel))
  have T1 := Lib.hid (test_order hv hv2 h0 (0) hc 1 true (by decide +kernel))
  have T2 := Lib.hid (test_order hv hv2 h0 (0) hc 2 false (by decide +kernel))
  have T4 := Lib.hid (test_order hv hv2 h0 (0) hc 4 true (by decide +kernel))
  have e0 : (k == 0) = false := by simpa using h0
  clear h0 hc
  have HE := Lib.hid he
  have HB := Lib.hid (Below.refl w.heap.size w)
  clear he
  go_enter Tryd.func8, Tryd.ntmps8
  go_wp2_with fail
  refine (head_any _ ((HE.out.alloc _).alloc _)).mono ?_
  rintro e w1 ⟨rfl, hb⟩
  have RA := Lib.hid (show Val3 w1 (w.heap.size) k n t from Val3.below ⟨by simp [go_sem], by simp [go_sem], by simp [go_sem]⟩ hb)
  have RB := Lib.hid (show Val3 w1 (w.heap.size + 1) k n2 t2 from Val3.below ⟨by simp [go_sem], by simp [go_sem], by simp [go_sem]⟩ hb)
  replace HE := Lib.hid (((HE.out.alloc _).alloc _).below hb)
  replace HB := Lib.hid (below_up (((HB.out.alloc (by have := HB.out.size; simp; try omega) _).alloc (by have := HB.out.size; simp; try omega) _)) hb (by have := HB.out.size; simp; omega))
  clear hb
  have zRAc0 := RA.out.c0
  have zRAc1 := RA.out.c1
  have zRAc2 := RA.out.c2
  have zRBc0 := RB.out.c0
  have zRBc1 := RB.out.c1
  have zRBc2 := RB.out.c2
  go_wp2_with fail
  refine (short_b2 k n t k n2 t2 true hs _ ).mono ?_
  rintro e w2 ⟨rfl, hb⟩
  replace RA := Lib.hid ((RA.out.alloc _).below hb)
  replace RB := Lib.hid ((RB.out.alloc _).below hb)
  replace HE := Lib.hid ((HE.out.alloc _).below hb)
  replace HB := Lib.hid (below_next HB.out HB.out.size hb)
  clear hb
  clear zRAc0 zRAc1 zRAc2 zRBc0 zRBc1 zRBc2
  have zRAc0 := RA.out.c0
  have zRAc1 := RA.out.c1
  have zRAc2 := RA.out.c2
  have zRBc0 := RB.out.c0
  have zRBc1 := RB.out.c1
  have zRBc2 := RB.out.c2
  go_wp2_with fail
  refine (valid_any k n t _ ).mono ?_
  rintro e w3 ⟨rfl, hb⟩
  replace RA := Lib.hid (RA.out.below hb)
  replace RB := Lib.hid (RB.out.below hb)
  replace HE := Lib.hid (HE.out.below hb)
  replace HB := Lib.hid (below_up HB.out hb HB.out.size)
  clear hb
  clear zRAc0 zRAc1 zRAc2 zRBc0 zRBc1 zRBc2
  have zRAc0 := RA.out.c0
  have zRAc1 := RA.out.c1
  have zRAc2 := RA.out.c2
  have zRBc0 := RB.out.c0
  have zRBc1 := RB.out.c1
  have zRBc2 := RB.out.c2
  go_wp2_with fail
  refine (valid_any k n2 t2 _ ).mono ?_
  rintro e w4 ⟨rfl, hb⟩
  replace RA := Lib.hid (RA.out.below hb)
  replace RB := Lib.hid (RB.out.below hb)
  replace HE := Lib.hid (HE.out.below hb)
  replace HB := Lib.hid (below_up HB.out hb HB.out.size)
  clear hb
  clear zRAc0 zRAc1 zRAc2 zRBc0 zRBc1 zRBc2
  have zRAc0 := RA.out.c0
  have zRAc1 := RA.out.c1
  have zRAc2 := RA.out.c2
  have zRBc0 := RB.out.c0
  have zRBc1 := RB.out.c1
  have zRBc2 := RB.out.c2
  go_wp2_with fail
  have C := fun W => compare_any k n t k n2 t2 W
  rw [HC.out] at C
  refine (C _ ).mono ?_
  clear C
  rintro e w5 ⟨rfl, hb⟩
  replace RA := Lib.hid (RA.out.below hb)
  replace RB := Lib.hid (RB.out.below hb)
  replace HE := Lib.hid (HE.out.below hb)
  replace HB := Lib.hid (below_up HB.out hb HB.out.size)
  clear hb
  clear zRAc0 zRAc1 zRAc2 zRBc0 zRBc1 zRBc2
  have zRAc0 := RA.out.c0
  have zRAc1 := RA.out.c1
  have zRAc2 := RA.out.c2
  have zRBc0 := RB.out.c0
  have zRBc1 := RB.out.c1
  have zRBc2 := RB.out.c2
  go_wp2_with fail
  have C := fun W => test_any k n t 3 k n2 t2 0 W
  rw [T3.out] at C
  refine (C _ ).mono ?_
  clear C
  rintro e w6 ⟨rfl, hb⟩
  replace RA := Lib.hid (RA.out.below hb)
  replace RB := Lib.hid (RB.out.below hb)
  replace HE := Lib.hid (HE.out.below hb)
  replace HB := Lib.hid (below_up HB.out hb HB.out.size)
  clear hb
  clear zRAc0 zRAc1 zRAc2 zRBc0 zRBc1 zRBc2
  have zRAc0 := RA.out.c0
  have zRAc1 := RA.out.c1
  have zRAc2 := RA.out.c2
  have zRBc0 := RB.out.c0
  have zRBc1 := RB.out.c1
  have zRBc2 := RB.out.c2
  go_wp2_with fail
  have C := fun W => test_any k n t 1 k n2 t2 0 W
  rw [T1.out] at C
  refine (C _ ).mono ?_
  clear C
  rintro e w7 ⟨rfl, hb⟩
  replace RA := Lib.hid (RA.out.below hb)
  replace RB := Lib.hid (RB.out.below hb)
  replace HE := Lib.hid (HE.out.below hb)
  replace HB := Lib.hid (below_up HB.out hb HB.out.size)
  clear hb
  clear zRAc0 zRAc1 zRAc2 zRBc0 zRBc1 zRBc2
  have zRAc0 := RA.out.c0
  have zRAc1 := RA.out.c1
  have zRAc2 := RA.out.c2
  have zRBc0 := RB.out.c0
  have zRBc1 := RB.out.c1
  have zRBc2 := RB.out.c2
  go_wp2_with fail
  have C := fun W => test_any k n t 2 k n2 t2 0 W
  rw [T2.out] at C
  refine (C _ ).mono ?_
  clear C
  rintro e w8 ⟨rfl, hb⟩
  replace RA := Lib.hid (RA.out.below hb)
  replace RB := Lib.hid (RB.out.below hb)
  replace HE := Lib.hid (HE.out.below hb)
  replace HB := Lib.hid (below_up HB.out hb HB.out.size)
  clear hb
  clear zRAc0 zRAc1 zRAc2 zRBc0 zRBc1 zRBc2
  have zRAc0 := RA.out.c0
  have zRAc1 := RA.out.c1
  have zRAc2 := RA.out.c2
  have zRBc0 := RB.out.c0
  have zRBc1 := RB.out.c1
  have zRBc2 := RB.out.c2
  go_wp2_with fail
  have C := fun W => test_any k n t 4 k n2 t2 0 W
  rw [T4.out] at C
  refine (C _ ).mono ?_
  clear C
  rintro e w9 ⟨rfl, hb⟩
  replace RA := Lib.hid (RA.out.below hb)
  replace RB := Lib.hid (RB.out.below hb)
  replace HE := Lib.hid (HE.out.below hb)
  replace HB := Lib.hid (below_up HB.out hb HB.out.size)
  clear hb
  clear zRAc0 zRAc1 zRAc2 zRBc0 zRBc1 zRBc2
  go_wp2_with fail
  go_ret
  exact ⟨rfl, HB.out⟩


set_option maxRecDepth 100000 in
set_option maxHeartbeats 1600000 in
theorem tests_cp (k n n2 : Int) (t t2 : List UInt8) (hs : shortB [t, t2] = true) (hv : vldB k n t = true) (hv2 : vldB k n2 t2 = true) (h0 : k ≠ 0) (hc : cmpV k n t k n2 t2 = 1) (w : World) (he : Env w) :
    Calls Tryd.prog 8 #[V k n t, V k n2 t2] w fun e w' => e = .returned (.bool true) ∧ Below w.heap.size w w' := by
  have HC := Lib.hid hc
  have T3 := Lib.hid (test_order hv hv2 h0 (1) hc 3 false (by decide +kernel))
  have T1 := Lib.hid (test_order hv hv2 h0 (1) hc 1 false (by decide +kernel))
  have T2 := Lib.hid (test_order hv hv2 h0 (1) hc 2 true (by decide +kernel))
  have T4 := Lib.hid (test_order hv hv2 h0 (1) hc 4 false (by decide +kernel))
  have e0 : (k == 0) = false := by simpa using h0
  clear h0 hc
  have HE := Lib.hid he
  have HB := Lib.hid (Below.refl w.heap.size w)
  clear he
  go_enter Tryd.func8, Tryd.ntmps8
  go_wp2_with fail
  refine (head_any _ ((HE.out.alloc _).alloc _)).mono ?_
  rintro e w1 ⟨rfl, hb⟩
  have RA := Lib.hid (show Val3 w1 (w.heap.size) k n t from Val3.below ⟨by simp [go_sem], by simp [go_sem], by simp [go_sem]⟩ hb)
  have RB := Lib.hid (show Val3 w1 (w.heap.size + 1) k n2 t2 from Val3.below ⟨by simp [go_sem], by simp [go_sem], by simp [go_sem]⟩ hb)
  replace HE := Lib.hid (((HE.out.alloc _).alloc _).below hb)
  replace HB := Lib.hid (below_up (((HB.out.alloc (by have := HB.out.size; simp; try omega) _).alloc (by have := HB.out.size; simp; try omega) _)) hb (by have := HB.out.size; simp; omega))
  clear hb
  have zRAc0 := RA.out.c0
  have zRAc1 := RA.out.c1
  have zRAc2 := RA.out.c2
  have zRBc0 := RB.out.c0
  have zRBc1 := RB.out.c1
  have zRBc2 := RB.out.c2
  go_wp2_with fail
  refine (short_b2 k n t k n2 t2 true hs _ ).mono ?_
  rintro e w2 ⟨rfl, hb⟩
  replace RA := Lib.hid ((RA.out.alloc _).below hb)
  replace RB := Lib.hid ((RB.out.alloc _).below hb)
  replace HE := Lib.hid ((HE.out.alloc _).below hb)
  replace HB := Lib.hid (below_next HB.out HB.out.size hb)
  clear hb
  clear zRAc0 zRAc1 zRAc2 zRBc0 zRBc1 zRBc2
  have zRAc0 := RA.out.c0
  have zRAc1 := RA.out.c1
  have zRAc2 := RA.out.c2
  have zRBc0 := RB.out.c0
  have zRBc1 := RB.out.c1
  have zRBc2 := RB.out.c2
  go_wp2_with fail
  refine (valid_any k n t _ ).mono ?_
  rintro e w3 ⟨rfl, hb⟩
  replace RA := Lib.hid (RA.out.below hb)
  replace RB := Lib.hid (RB.out.below hb)
  replace HE := Lib.hid (HE.out.below hb)
  replace HB := Lib.hid (below_up HB.out hb HB.out.size)
  clear hb
  clear zRAc0 zRAc1 zRAc2 zRBc0 zRBc1 zRBc2
  have zRAc0 := RA.out.c0
  have zRAc1 := RA.out.c1
  have zRAc2 := RA.out.c2
  have zRBc0 := RB.out.c0
  have zRBc1 := RB.out.c1
  have zRBc2 := RB.out.c2
  go_wp2_with fail
  refine (valid_any k n2 t2 _ ).mono ?_
  rintro e w4 ⟨rfl, hb⟩
  replace RA := Lib.hid (RA.out.below hb)
  replace RB := Lib.hid (RB.out.below hb)
  replace HE := Lib.hid (HE.out.below hb)
  replace HB := Lib.hid (below_up HB.out hb HB.out.size)
  clear hb
  clear zRAc0 zRAc1 zRAc2 zRBc0 zRBc1 zRBc2
  have zRAc0 := RA.out.c0
  have zRAc1 := RA.out.c1
  have zRAc2 := RA.out.c2
  have zRBc0 := RB.out.c0
  have zRBc1 := RB.out.c1
  have zRBc2 := RB.out.c2
  go_wp2_with fail
  have C := fun W => compare_any k n t k n2 t2 W
  rw [HC.out] at C
  refine (C _ ).mono ?_
  clear C
  rintro e w5 ⟨rfl, hb⟩
  replace RA := Lib.hid (RA.out.below hb)
  replace RB := Lib.hid (RB.out.below hb)
  replace HE := Lib.hid (HE.out.below hb)
  replace HB := Lib.hid (below_up HB.out hb HB.out.size)
  clear hb
  clear zRAc0 zRAc1 zRAc2 zRBc0 zRBc1 zRBc2
  have zRAc0 := RA.out.c0
  have zRAc1 := RA.out.c1
  have zRAc2 := RA.out.c2
  have zRBc0 := RB.out.c0
  have zRBc1 := RB.out.c1
  have zRBc2 := RB.out.c2
  go_wp2_with fail
  have C := fun W => test_any k n t 3 k n2 t2 0 W
  rw [T3.out] at C
  refine (C _ ).mono ?_
  clear C
  rintro e w6 ⟨rfl, hb⟩
  replace RA := Lib.hid (RA.out.below hb)
  replace RB := Lib.hid (RB.out.below hb)
  replace HE := Lib.hid (HE.out.below hb)
  replace HB := Lib.hid (below_up HB.out hb HB.out.size)
  clear hb
  clear zRAc0 zRAc1 zRAc2 zRBc0 zRBc1 zRBc2
  have zRAc0 := RA.out.c0
  have zRAc1 := RA.out.c1
  have zRAc2 := RA.out.c2
  have zRBc0 := RB.out.c0
  have zRBc1 := RB.out.c1
  have zRBc2 := RB.out.c2
  go_wp2_with fail
  have C := fun W => test_any k n t 1 k n2 t2 0 W
  rw [T1.out] at C
  refine (C _ ).mono ?_
  clear C
  rintro e w7 ⟨rfl, hb⟩
  replace RA := Lib.hid (RA.out.below hb)
  replace RB := Lib.hid (RB.out.below hb)
  replace HE := Lib.hid (HE.out.below hb)
  replace HB := Lib.hid (below_up HB.out hb HB.out.size)
  clear hb
  clear zRAc0 zRAc1 zRAc2 zRBc0 zRBc1 zRBc2
  have zRAc0 := RA.out.c0
  have zRAc1 := RA.out.c1
  have zRAc2 := RA.out.c2
  have zRBc0 := RB.out.c0
  have zRBc1 := RB.out.c1
  have zRBc2 := RB.out.c2
  go_wp2_with fail
  have C := fun W => test_any k n t 2 k n2 t2 0 W
  rw [T2.out] at C
  refine (C _ ).mono ?_
  clear C
  rintro e w8 ⟨rfl, hb⟩
  replace RA := Lib.hid (RA.out.below hb)
  replace RB := Lib.hid (RB.out.below hb)
  replace HE := Lib.hid (HE.out.below hb)
  replace HB := Lib.hid (below_up HB.out hb HB.out.size)
  clear hb
  clear zRAc0 zRAc1 zRAc2 zRBc0 zRBc1 zRBc2
  have zRAc0 := RA.out.c0
  have zRAc1 := RA.out.c1
  have zRAc2 := RA.out.c2
  have zRBc0 := RB.out.c0
  have zRBc1 := RB.out.c1
  have zRBc2 := RB.out.c2
  go_wp2_with fail
  have C := fun W => test_any k n t 4 k n2 t2 0 W
  rw [T4.out] at C
  refine (C _ ).mono ?_
  clear C
  rintro e w9 ⟨rfl, hb⟩
  replace RA := Lib.hid (RA.out.below hb)
  replace RB := Lib.hid (RB.out.below hb)
  replace HE := Lib.hid (HE.out.below hb)
  replace HB := Lib.hid (below_up HB.out hb HB.out.size)
  clear hb
  clear zRAc0 zRAc1 zRAc2 zRBc0 zRBc1 zRBc2
  go_wp2_with fail
  go_ret
  exact ⟨rfl, HB.out⟩


theorem tests_any (k n : Int) (t : List UInt8) (k2 n2 : Int) (t2 : List UInt8) (w : World) (he : Env w) :
    Calls Tryd.prog 8 #[V k n t, V k2 n2 t2] w fun e w' => e = .returned (.bool true) ∧ Below w.heap.size w w' := by
  cases hs : shortB [t, t2]
  · exact tests_long k k2 n n2 t t2 hs w he
  cases hv : vldB k n t
  · exact tests_p1 k k2 n n2 t t2 hs hv w he
  cases hv2 : vldB k2 n2 t2
  · exact tests_p2 k k2 n n2 t t2 hs hv hv2 w he
  by_cases hk : k = k2
  · subst hk
    by_cases h0 : k = 0
    · subst h0
      exact tests_p4 n n2 t t2 hs hv hv2 w he
    rcases cmpV_range k n t k n2 t2 with hc | hc | hc
    · exact tests_cm k n n2 t t2 hs hv hv2 h0 hc w he
    · exact tests_cz k n n2 t t2 hs hv hv2 h0 hc w he
    · exact tests_cp k n n2 t t2 hs hv hv2 h0 hc w he
  · exact tests_p3 k k2 n n2 t t2 hs hv hv2 hk w he
end Go.Proofs.YtdoenjkebeidlaaDoor
