/- The walks of ValueNothing. -/
import Derived.Test.YtdoenjkebeidlaaDoorOrderW
namespace Go.Proofs.YtdoenjkebeidlaaDoor
open Go.RowKit

theorem testB_bad {k n : Int} {t : List UInt8} {op k2 n2 : Int} {t2 : List UInt8} {add : Int} (h : ¬ (vldB k n t = true ∧ vldB k2 n2 t2 = true ∧ k ≠ 0 ∧ k = k2 ∧ (add = 0 ∨ k = 2 ∨ k = 3) ∧ 1 ≤ op ∧ op ≤ 4)) : testB k n t op k2 n2 t2 add = false := by
  unfold testB
  split
  · rename_i g
    simp only [Bool.and_eq_true, Bool.or_eq_true, decide_eq_true_eq, Bool.not_eq_true', decide_eq_false_iff_not] at g
    obtain ⟨⟨⟨⟨g1, g2⟩, g3⟩, g4⟩, g5⟩ := g
    have ho : op < 1 ∨ 4 < op := by
      by_cases a : op < 1
      · exact Or.inl a
      · by_cases b : 4 < op
        · exact Or.inr b
        · exact absurd ⟨g1, g2, g3, g4, by omega, by omega, by omega⟩ h
    unfold holdsB
    rw [if_neg (by omega), if_neg (by omega), if_neg (by omega), if_neg (by omega)]
  · rfl
theorem test_nullr (k n : Int) (t : List UInt8) (op add : Int) : testB k n t op 0 0 [] add = false :=
  testB_bad (fun h => h.2.2.1 h.2.2.2.1)
theorem test_nulll (k n : Int) (t : List UInt8) (op add : Int) : testB 0 0 [] op k n t add = false :=
  testB_bad (fun h => h.2.2.1 rfl)

set_option maxRecDepth 100000 in
set_option maxHeartbeats 1600000 in
theorem nothing_long (k k2 n n2 : Int) (t t2 : List UInt8) (op add : Int) (hs : shortB [t, t2] = false) (w : World) (he : Env w) :
    Calls Tryd.prog 10 #[V k n t, V k2 n2 t2, .int .i64 op, .int .i64 add] w fun e w' => e = .returned (.bool true) ∧ Below w.heap.size w w' := by
  have HE := Lib.hid he
  have HB := Lib.hid (Below.refl w.heap.size w)
  clear he
  go_enter Tryd.func10, Tryd.ntmps10
  go_wp2_with fail
  refine (head_any _ ((HE.out.alloc _).alloc _)).mono ?_
  rintro e w1 ⟨rfl, hb⟩
  have RA := Lib.hid (show Val3 w1 (w.heap.size) k n t from Val3.below ⟨by simp [go_sem], by simp [go_sem], by simp [go_sem]⟩ hb)
  have RB := Lib.hid (show Val3 w1 (w.heap.size + 1) k2 n2 t2 from Val3.below ⟨by simp [go_sem], by simp [go_sem], by simp [go_sem]⟩ hb)
  replace HE := Lib.hid (((HE.out.alloc _).alloc _).below hb)
  replace HB := Lib.hid (below_up (((HB.out.alloc (by have := HB.out.size; simp; try omega) _).alloc (by have := HB.out.size; simp; try omega) _)) hb (by have := HB.out.size; simp; omega))
  clear hb
  have zRAc0 := RA.out.c0
  have zRAc1 := RA.out.c1
  have zRAc2 := RA.out.c2
  have zRBc0 := RB.out.c0
  have zRBc1 := RB.out.c1
  have zRBc2 := RB.out.c2
  go_wp2_with fail
  refine (short_b2 k n t k2 n2 t2 false hs _ ).mono ?_
  rintro e w2 ⟨rfl, hb⟩
  replace RA := Lib.hid ((RA.out.alloc _).below hb)
  replace RB := Lib.hid ((RB.out.alloc _).below hb)
  replace HE := Lib.hid ((HE.out.alloc _).below hb)
  replace HB := Lib.hid (below_next HB.out HB.out.size hb)
  clear hb
  clear zRAc0 zRAc1 zRAc2 zRBc0 zRBc1 zRBc2
  go_wp2_with fail
  go_ret
  exact ⟨rfl, HB.out⟩


set_option maxRecDepth 100000 in
set_option maxHeartbeats 1600000 in
theorem nothing_p1 (k k2 n n2 : Int) (t t2 : List UInt8) (op add : Int) (hs : shortB [t, t2] = true) (hv : vldB k n t = false) (ht : testB k n t op k2 n2 t2 add = false) (w : World) (he : Env w) :
    Calls Tryd.prog 10 #[V k n t, V k2 n2 t2, .int .i64 op, .int .i64 add] w fun e w' => e = .returned (.bool true) ∧ Below w.heap.size w w' := by
  have N1 := Lib.hid (test_nullr k n t op add); have N2 := Lib.hid (test_nulll k2 n2 t2 op add)
  have HT := Lib.hid ht; clear ht
  have HE := Lib.hid he
  have HB := Lib.hid (Below.refl w.heap.size w)
  clear he
  go_enter Tryd.func10, Tryd.ntmps10
  go_wp2_with fail
  refine (head_any _ ((HE.out.alloc _).alloc _)).mono ?_
  rintro e w1 ⟨rfl, hb⟩
  have RA := Lib.hid (show Val3 w1 (w.heap.size) k n t from Val3.below ⟨by simp [go_sem], by simp [go_sem], by simp [go_sem]⟩ hb)
  have RB := Lib.hid (show Val3 w1 (w.heap.size + 1) k2 n2 t2 from Val3.below ⟨by simp [go_sem], by simp [go_sem], by simp [go_sem]⟩ hb)
  replace HE := Lib.hid (((HE.out.alloc _).alloc _).below hb)
  replace HB := Lib.hid (below_up (((HB.out.alloc (by have := HB.out.size; simp; try omega) _).alloc (by have := HB.out.size; simp; try omega) _)) hb (by have := HB.out.size; simp; omega))
  clear hb
  have zRAc0 := RA.out.c0
  have zRAc1 := RA.out.c1
  have zRAc2 := RA.out.c2
  have zRBc0 := RB.out.c0
  have zRBc1 := RB.out.c1
  have zRBc2 := RB.out.c2
  go_wp2_with fail
  refine (short_b2 k n t k2 n2 t2 true hs _ ).mono ?_
  rintro e w2 ⟨rfl, hb⟩
  replace RA := Lib.hid ((RA.out.alloc _).below hb)
  replace RB := Lib.hid ((RB.out.alloc _).below hb)
  replace HE := Lib.hid ((HE.out.alloc _).below hb)
  replace HB := Lib.hid (below_next HB.out HB.out.size hb)
  clear hb
  clear zRAc0 zRAc1 zRAc2 zRBc0 zRBc1 zRBc2
  have zRAc0 := RA.out.c0
  have zRAc1 := RA.out.c1
  have zRAc2 := RA.out.c2
  have zRBc0 := RB.out.c0
  have zRBc1 := RB.out.c1
  have zRBc2 := RB.out.c2
  go_wp2_with fail
  refine (valid_any k n t _ ).mono ?_
  rintro e w3 ⟨rfl, hb⟩
  replace RA := Lib.hid (RA.out.below hb)
  replace RB := Lib.hid (RB.out.below hb)
  replace HE := Lib.hid (HE.out.below hb)
  replace HB := Lib.hid (below_up HB.out hb HB.out.size)
  clear hb
  clear zRAc0 zRAc1 zRAc2 zRBc0 zRBc1 zRBc2
  have zRAc0 := RA.out.c0
  have zRAc1 := RA.out.c1
  have zRAc2 := RA.out.c2
  have zRBc0 := RB.out.c0
  have zRBc1 := RB.out.c1
  have zRBc2 := RB.out.c2
  go_wp2_with fail
  have C := fun W => test_any k n t op k2 n2 t2 add W
  rw [HT.out] at C
  refine (C _ ).mono ?_
  clear C
  rintro e w4 ⟨rfl, hb⟩
  replace RA := Lib.hid (RA.out.below hb)
  replace RB := Lib.hid (RB.out.below hb)
  replace HE := Lib.hid (HE.out.below hb)
  replace HB := Lib.hid (below_up HB.out hb HB.out.size)
  clear hb
  clear zRAc0 zRAc1 zRAc2 zRBc0 zRBc1 zRBc2
  have zRAc0 := RA.out.c0
  have zRAc1 := RA.out.c1
  have zRAc2 := RA.out.c2
  have zRBc0 := RB.out.c0
  have zRBc1 := RB.out.c1
  have zRBc2 := RB.out.c2
  go_wp2_with fail
  have C := fun W => test_any k n t op 0 0 [] add W
  rw [N1.out] at C
  refine (C _ ).mono ?_
  clear C
  rintro e w5 ⟨rfl, hb⟩
  replace RA := Lib.hid (RA.out.below hb)
  replace RB := Lib.hid (RB.out.below hb)
  replace HE := Lib.hid (HE.out.below hb)
  replace HB := Lib.hid (below_up HB.out hb HB.out.size)
  clear hb
  clear zRAc0 zRAc1 zRAc2 zRBc0 zRBc1 zRBc2
  have zRAc0 := RA.out.c0
  have zRAc1 := RA.out.c1
  have zRAc2 := RA.out.c2
  have zRBc0 := RB.out.c0
  have zRBc1 := RB.out.c1
  have zRBc2 := RB.out.c2
  go_wp2_with fail
  have C := fun W => test_any 0 0 [] op k2 n2 t2 add W
  rw [N2.out] at C
  refine (C _ ).mono ?_
  clear C
  rintro e w6 ⟨rfl, hb⟩
  replace RA := Lib.hid (RA.out.below hb)
  replace RB := Lib.hid (RB.out.below hb)
  replace HE := Lib.hid (HE.out.below hb)
  replace HB := Lib.hid (below_up HB.out hb HB.out.size)
  clear hb
  clear zRAc0 zRAc1 zRAc2 zRBc0 zRBc1 zRBc2
  go_wp2_with fail
  go_ret
  exact ⟨rfl, HB.out⟩


set_option maxRecDepth 100000 in
set_option maxHeartbeats 1600000 in
theorem nothing_p2 (k k2 n n2 : Int) (t t2 : List UInt8) (op add : Int) (hs : shortB [t, t2] = true) (hv : vldB k n t = true) (hv2 : vldB k2 n2 t2 = false) (ht : testB k n t op k2 n2 t2 add = false) (w : World) (he : Env w) :
    Calls Tryd.prog 10 #[V k n t, V k2 n2 t2, .int .i64 op, .int .i64 add] w fun e w' => e = .returned (.bool true) ∧ Below w.heap.size w w' := by
  have N1 := Lib.hid (test_nullr k n t op add); have N2 := Lib.hid (test_nulll k2 n2 t2 op add)
  have HT := Lib.hid ht; clear ht
  have HE := Lib.hid he
  have HB := Lib.hid (Below.refl w.heap.size w)
  clear he
  go_enter Tryd.func10, Tryd.ntmps10
  go_wp2_with fail
  refine (head_any _ ((HE.out.alloc _).alloc _)).mono ?_
  rintro e w1 ⟨rfl, hb⟩
  have RA := Lib.hid (show Val3 w1 (w.heap.size) k n t from Val3.below ⟨by simp [go_sem], by simp [go_sem], by simp [go_sem]⟩ hb)
  have RB := Lib.hid (show Val3 w1 (w.heap.size + 1) k2 n2 t2 from Val3.below ⟨by simp [go_sem], by simp [go_sem], by simp [go_sem]⟩ hb)
  replace HE := Lib.hid (((HE.out.alloc _).alloc _).below hb)
  replace HB := Lib.hid (below_up (((HB.out.alloc (by have := HB.out.size; simp; try omega) _).alloc (by have := HB.out.size; simp; try omega) _)) hb (by have := HB.out.size; simp; omega))
  clear hb
  have zRAc0 := RA.out.c0
  have zRAc1 := RA.out.c1
  have zRAc2 := RA.out.c2
  have zRBc0 := RB.out.c0
  have zRBc1 := RB.out.c1
  have zRBc2 := RB.out.c2
  go_wp2_with fail
  refine (short_b2 k n t k2 n2 t2 true hs _ ).mono ?_
  rintro e w2 ⟨rfl, hb⟩
  replace RA := Lib.hid ((RA.out.alloc _).below hb)
  replace RB := Lib.hid ((RB.out.alloc _).below hb)
  replace HE := Lib.hid ((HE.out.alloc _).below hb)
  replace HB := Lib.hid (below_next HB.out HB.out.size hb)
  clear hb
  clear zRAc0 zRAc1 zRAc2 zRBc0 zRBc1 zRBc2
  have zRAc0 := RA.out.c0
  have zRAc1 := RA.out.c1
  have zRAc2 := RA.out.c2
  have zRBc0 := RB.out.c0
  have zRBc1 := RB.out.c1
  have zRBc2 := RB.out.c2
  go_wp2_with fail
  refine (valid_any k n t _ ).mono ?_
  rintro e w3 ⟨rfl, hb⟩
  replace RA := Lib.hid (RA.out.below hb)
  replace RB := Lib.hid (RB.out.below hb)
  replace HE := Lib.hid (HE.out.below hb)
  replace HB := Lib.hid (below_up HB.out hb HB.out.size)
  clear hb
  clear zRAc0 zRAc1 zRAc2 zRBc0 zRBc1 zRBc2
  have zRAc0 := RA.out.c0
  have zRAc1 := RA.out.c1
  have zRAc2 := RA.out.c2
  have zRBc0 := RB.out.c0
  have zRBc1 := RB.out.c1
  have zRBc2 := RB.out.c2
  go_wp2_with fail
  refine (valid_any k2 n2 t2 _ ).mono ?_
  rintro e w4 ⟨rfl, hb⟩
  replace RA := Lib.hid (RA.out.below hb)
  replace RB := Lib.hid (RB.out.below hb)
  replace HE := Lib.hid (HE.out.below hb)
  replace HB := Lib.hid (below_up HB.out hb HB.out.size)
  clear hb
  clear zRAc0 zRAc1 zRAc2 zRBc0 zRBc1 zRBc2
  have zRAc0 := RA.out.c0
  have zRAc1 := RA.out.c1
  have zRAc2 := RA.out.c2
  have zRBc0 := RB.out.c0
  have zRBc1 := RB.out.c1
  have zRBc2 := RB.out.c2
  go_wp2_with fail
  have C := fun W => test_any k n t op k2 n2 t2 add W
  rw [HT.out] at C
  refine (C _ ).mono ?_
  clear C
  rintro e w5 ⟨rfl, hb⟩
  replace RA := Lib.hid (RA.out.below hb)
  replace RB := Lib.hid (RB.out.below hb)
  replace HE := Lib.hid (HE.out.below hb)
  replace HB := Lib.hid (below_up HB.out hb HB.out.size)
  clear hb
  clear zRAc0 zRAc1 zRAc2 zRBc0 zRBc1 zRBc2
  have zRAc0 := RA.out.c0
  have zRAc1 := RA.out.c1
  have zRAc2 := RA.out.c2
  have zRBc0 := RB.out.c0
  have zRBc1 := RB.out.c1
  have zRBc2 := RB.out.c2
  go_wp2_with fail
  have C := fun W => test_any k n t op 0 0 [] add W
  rw [N1.out] at C
  refine (C _ ).mono ?_
  clear C
  rintro e w6 ⟨rfl, hb⟩
  replace RA := Lib.hid (RA.out.below hb)
  replace RB := Lib.hid (RB.out.below hb)
  replace HE := Lib.hid (HE.out.below hb)
  replace HB := Lib.hid (below_up HB.out hb HB.out.size)
  clear hb
  clear zRAc0 zRAc1 zRAc2 zRBc0 zRBc1 zRBc2
  have zRAc0 := RA.out.c0
  have zRAc1 := RA.out.c1
  have zRAc2 := RA.out.c2
  have zRBc0 := RB.out.c0
  have zRBc1 := RB.out.c1
  have zRBc2 := RB.out.c2
  go_wp2_with fail
  have C := fun W => test_any 0 0 [] op k2 n2 t2 add W
  rw [N2.out] at C
  refine (C _ ).mono ?_
  clear C
  rintro e w7 ⟨rfl, hb⟩
  replace RA := Lib.hid (RA.out.below hb)
  replace RB := Lib.hid (RB.out.below hb)
  replace HE := Lib.hid (HE.out.below hb)
  replace HB := Lib.hid (below_up HB.out hb HB.out.size)
  clear hb
  clear zRAc0 zRAc1 zRAc2 zRBc0 zRBc1 zRBc2
  go_wp2_with fail
  go_ret
  exact ⟨rfl, HB.out⟩


set_option maxRecDepth 100000 in
set_option maxHeartbeats 1600000 in
theorem nothing_p3 (k k2 n n2 : Int) (t t2 : List UInt8) (op add : Int) (hs : shortB [t, t2] = true) (hv : vldB k n t = true) (hv2 : vldB k2 n2 t2 = true) (hk : k ≠ k2) (ht : testB k n t op k2 n2 t2 add = false) (w : World) (he : Env w) :
    Calls Tryd.prog 10 #[V k n t, V k2 n2 t2, .int .i64 op, .int .i64 add] w fun e w' => e = .returned (.bool true) ∧ Below w.heap.size w w' := by
  have N1 := Lib.hid (test_nullr k n t op add); have N2 := Lib.hid (test_nulll k2 n2 t2 op add)
  have HT := Lib.hid ht; clear ht
  have e1 : (k != k2) = true := by simpa using hk
  clear hk
  have HE := Lib.hid he
  have HB := Lib.hid (Below.refl w.heap.size w)
  clear he
  go_enter Tryd.func10, Tryd.ntmps10
  go_wp2_with fail
  refine (head_any _ ((HE.out.alloc _).alloc _)).mono ?_
  rintro e w1 ⟨rfl, hb⟩
  have RA := Lib.hid (show Val3 w1 (w.heap.size) k n t from Val3.below ⟨by simp [go_sem], by simp [go_sem], by simp [go_sem]⟩ hb)
  have RB := Lib.hid (show Val3 w1 (w.heap.size + 1) k2 n2 t2 from Val3.below ⟨by simp [go_sem], by simp [go_sem], by simp [go_sem]⟩ hb)
  replace HE := Lib.hid (((HE.out.alloc _).alloc _).below hb)
  replace HB := Lib.hid (below_up (((HB.out.alloc (by have := HB.out.size; simp; try omega) _).alloc (by have := HB.out.size; simp; try omega) _)) hb (by have := HB.out.size; simp; omega))
  clear hb
  have zRAc0 := RA.out.c0
  have zRAc1 := RA.out.c1
  have zRAc2 := RA.out.c2
  have zRBc0 := RB.out.c0
  have zRBc1 := RB.out.c1
  have zRBc2 := RB.out.c2
  go_wp2_with fail
  refine (short_b2 k n t k2 n2 t2 true hs _ ).mono ?_
  rintro e w2 ⟨rfl, hb⟩
  replace RA := Lib.hid ((RA.out.alloc _).below hb)
  replace RB := Lib.hid ((RB.out.alloc _).below hb)
  replace HE := Lib.hid ((HE.out.alloc _).below hb)
  replace HB := Lib.hid (below_next HB.out HB.out.size hb)
  clear hb
  clear zRAc0 zRAc1 zRAc2 zRBc0 zRBc1 zRBc2
  have zRAc0 := RA.out.c0
  have zRAc1 := RA.out.c1
  have zRAc2 := RA.out.c2
  have zRBc0 := RB.out.c0
  have zRBc1 := RB.out.c1
  have zRBc2 := RB.out.c2
  go_wp2_with fail
  refine (valid_any k n t _ ).mono ?_
  rintro e w3 ⟨rfl, hb⟩
  replace RA := Lib.hid (RA.out.below hb)
  replace RB := Lib.hid (RB.out.below hb)
  replace HE := Lib.hid (HE.out.below hb)
  replace HB := Lib.hid (below_up HB.out hb HB.out.size)
  clear hb
  clear zRAc0 zRAc1 zRAc2 zRBc0 zRBc1 zRBc2
  have zRAc0 := RA.out.c0
  have zRAc1 := RA.out.c1
  have zRAc2 := RA.out.c2
  have zRBc0 := RB.out.c0
  have zRBc1 := RB.out.c1
  have zRBc2 := RB.out.c2
  go_wp2_with fail
  refine (valid_any k2 n2 t2 _ ).mono ?_
  rintro e w4 ⟨rfl, hb⟩
  replace RA := Lib.hid (RA.out.below hb)
  replace RB := Lib.hid (RB.out.below hb)
  replace HE := Lib.hid (HE.out.below hb)
  replace HB := Lib.hid (below_up HB.out hb HB.out.size)
  clear hb
  clear zRAc0 zRAc1 zRAc2 zRBc0 zRBc1 zRBc2
  have zRAc0 := RA.out.c0
  have zRAc1 := RA.out.c1
  have zRAc2 := RA.out.c2
  have zRBc0 := RB.out.c0
  have zRBc1 := RB.out.c1
  have zRBc2 := RB.out.c2
  go_wp2_with fail
  have C := fun W => test_any k n t op k2 n2 t2 add W
  rw [HT.out] at C
  refine (C _ ).mono ?_
  clear C
  rintro e w5 ⟨rfl, hb⟩
  replace RA := Lib.hid (RA.out.below hb)
  replace RB := Lib.hid (RB.out.below hb)
  replace HE := Lib.hid (HE.out.below hb)
  replace HB := Lib.hid (below_up HB.out hb HB.out.size)
  clear hb
  clear zRAc0 zRAc1 zRAc2 zRBc0 zRBc1 zRBc2
  have zRAc0 := RA.out.c0
  have zRAc1 := RA.out.c1
  have zRAc2 := RA.out.c2
  have zRBc0 := RB.out.c0
  have zRBc1 := RB.out.c1
  have zRBc2 := RB.out.c2
  go_wp2_with fail
  have C := fun W => test_any k n t op 0 0 [] add W
  rw [N1.out] at C
  refine (C _ ).mono ?_
  clear C
  rintro e w6 ⟨rfl, hb⟩
  replace RA := Lib.hid (RA.out.below hb)
  replace RB := Lib.hid (RB.out.below hb)
  replace HE := Lib.hid (HE.out.below hb)
  replace HB := Lib.hid (below_up HB.out hb HB.out.size)
  clear hb
  clear zRAc0 zRAc1 zRAc2 zRBc0 zRBc1 zRBc2
  have zRAc0 := RA.out.c0
  have zRAc1 := RA.out.c1
  have zRAc2 := RA.out.c2
  have zRBc0 := RB.out.c0
  have zRBc1 := RB.out.c1
  have zRBc2 := RB.out.c2
  go_wp2_with fail
  have C := fun W => test_any 0 0 [] op k2 n2 t2 add W
  rw [N2.out] at C
  refine (C _ ).mono ?_
  clear C
  rintro e w7 ⟨rfl, hb⟩
  replace RA := Lib.hid (RA.out.below hb)
  replace RB := Lib.hid (RB.out.below hb)
  replace HE := Lib.hid (HE.out.below hb)
  replace HB := Lib.hid (below_up HB.out hb HB.out.size)
  clear hb
  clear zRAc0 zRAc1 zRAc2 zRBc0 zRBc1 zRBc2
  go_wp2_with fail
  go_ret
  exact ⟨rfl, HB.out⟩


set_option maxRecDepth 100000 in
set_option maxHeartbeats 1600000 in
theorem nothing_p4 (n n2 : Int) (t t2 : List UInt8) (op add : Int) (hs : shortB [t, t2] = true) (hv : vldB 0 n t = true) (hv2 : vldB 0 n2 t2 = true) (ht : testB 0 n t op 0 n2 t2 add = false) (w : World) (he : Env w) :
    Calls Tryd.prog 10 #[V 0 n t, V 0 n2 t2, .int .i64 op, .int .i64 add] w fun e w' => e = .returned (.bool true) ∧ Below w.heap.size w w' := by
  have N1 := Lib.hid (test_nullr 0 n t op add); have N2 := Lib.hid (test_nulll 0 n2 t2 op add)
  have HT := Lib.hid ht; clear ht
  have HE := Lib.hid he
  have HB := Lib.hid (Below.refl w.heap.size w)
  clear he
  go_enter Tryd.func10, Tryd.ntmps10
  go_wp2_with fail
  refine (head_any _ ((HE.out.alloc _).alloc _)).mono ?_
  rintro e w1 ⟨rfl, hb⟩
  have RA := Lib.hid (show Val3 w1 (w.heap.size) 0 n t from Val3.below ⟨by simp [go_sem], by simp [go_sem], by simp [go_sem]⟩ hb)
  have RB := Lib.hid (show Val3 w1 (w.heap.size + 1) 0 n2 t2 from Val3.below ⟨by simp [go_sem], by simp [go_sem], by simp [go_sem]⟩ hb)
  replace HE := Lib.hid (((HE.out.alloc _).alloc _).below hb)
  replace HB := Lib.hid (below_up (((HB.out.alloc (by have := HB.out.size; simp; try omega) _).alloc (by have := HB.out.size; simp; try omega) _)) hb (by have := HB.out.size; simp; omega))
  clear hb
  have zRAc0 := RA.out.c0
  have zRAc1 := RA.out.c1
  have zRAc2 := RA.out.c2
  have zRBc0 := RB.out.c0
  have zRBc1 := RB.out.c1
  have zRBc2 := RB.out.c2
  go_wp2_with fail
  refine (short_b2 0 n t 0 n2 t2 true hs _ ).mono ?_
  rintro e w2 ⟨rfl, hb⟩
  replace RA := Lib.hid ((RA.out.alloc _).below hb)
  replace RB := Lib.hid ((RB.out.alloc _).below hb)
  replace HE := Lib.hid ((HE.out.alloc _).below hb)
  replace HB := Lib.hid (below_next HB.out HB.out.size hb)
  clear hb
  clear zRAc0 zRAc1 zRAc2 zRBc0 zRBc1 zRBc2
  have zRAc0 := RA.out.c0
  have zRAc1 := RA.out.c1
  have zRAc2 := RA.out.c2
  have zRBc0 := RB.out.c0
  have zRBc1 := RB.out.c1
  have zRBc2 := RB.out.c2
  go_wp2_with fail
  refine (valid_any 0 n t _ ).mono ?_
  rintro e w3 ⟨rfl, hb⟩
  replace RA := Lib.hid (RA.out.below hb)
  replace RB := Lib.hid (RB.out.below hb)
  replace HE := Lib.hid (HE.out.below hb)
  replace HB := Lib.hid (below_up HB.out hb HB.out.size)
  clear hb
  clear zRAc0 zRAc1 zRAc2 zRBc0 zRBc1 zRBc2
  have zRAc0 := RA.out.c0
  have zRAc1 := RA.out.c1
  have zRAc2 := RA.out.c2
  have zRBc0 := RB.out.c0
  have zRBc1 := RB.out.c1
  have zRBc2 := RB.out.c2
  go_wp2_with fail
  refine (valid_any 0 n2 t2 _ ).mono ?_
  rintro e w4 ⟨rfl, hb⟩
  replace RA := Lib.hid (RA.out.below hb)
  replace RB := Lib.hid (RB.out.below hb)
  replace HE := Lib.hid (HE.out.below hb)
  replace HB := Lib.hid (below_up HB.out hb HB.out.size)
  clear hb
  clear zRAc0 zRAc1 zRAc2 zRBc0 zRBc1 zRBc2
  have zRAc0 := RA.out.c0
  have zRAc1 := RA.out.c1
  have zRAc2 := RA.out.c2
  have zRBc0 := RB.out.c0
  have zRBc1 := RB.out.c1
  have zRBc2 := RB.out.c2
  go_wp2_with fail
  have C := fun W => test_any 0 n t op 0 n2 t2 add W
  rw [HT.out] at C
  refine (C _ ).mono ?_
  clear C
  rintro e w5 ⟨rfl, hb⟩
  replace RA := Lib.hid (RA.out.below hb)
  replace RB := Lib.hid (RB.out.below hb)
  replace HE := Lib.hid (HE.out.below hb)
  replace HB := Lib.hid (below_up HB.out hb HB.out.size)
  clear hb
  clear zRAc0 zRAc1 zRAc2 zRBc0 zRBc1 zRBc2
  have zRAc0 := RA.out.c0
  have zRAc1 := RA.out.c1
  have zRAc2 := RA.out.c2
  have zRBc0 := RB.out.c0
  have zRBc1 := RB.out.c1
  have zRBc2 := RB.out.c2
  go_wp2_with fail
  have C := fun W => test_any 0 n t op 0 0 [] add W
  rw [N1.out] at C
  refine (C _ ).mono ?_
  clear C
  rintro e w6 ⟨rfl, hb⟩
  replace RA := Lib.hid (RA.out.below hb)
  replace RB := Lib.hid (RB.out.below hb)
  replace HE := Lib.hid (HE.out.below hb)
  replace HB := Lib.hid (below_up HB.out hb HB.out.size)
  clear hb
  clear zRAc0 zRAc1 zRAc2 zRBc0 zRBc1 zRBc2
  have zRAc0 := RA.out.c0
  have zRAc1 := RA.out.c1
  have zRAc2 := RA.out.c2
  have zRBc0 := RB.out.c0
  have zRBc1 := RB.out.c1
  have zRBc2 := RB.out.c2
  go_wp2_with fail
  have C := fun W => test_any 0 0 [] op 0 n2 t2 add W
  rw [N2.out] at C
  refine (C _ ).mono ?_
  clear C
  rintro e w7 ⟨rfl, hb⟩
  replace RA := Lib.hid (RA.out.below hb)
  replace RB := Lib.hid (RB.out.below hb)
  replace HE := Lib.hid (HE.out.below hb)
  replace HB := Lib.hid (below_up HB.out hb HB.out.size)
  clear hb
  clear zRAc0 zRAc1 zRAc2 zRBc0 zRBc1 zRBc2
  go_wp2_with fail
  go_ret
  exact ⟨rfl, HB.out⟩


set_option maxRecDepth 100000 in
set_option maxHeartbeats 1600000 in
theorem nothing_p5 (k n n2 : Int) (t t2 : List UInt8) (op add : Int) (hs : shortB [t, t2] = true) (hv : vldB k n t = true) (hv2 : vldB k n2 t2 = true) (h0 : k ≠ 0) (ho : op < 1) (ht : testB k n t op k n2 t2 add = false) (w : World) (he : Env w) :
    Calls Tryd.prog 10 #[V k n t, V k n2 t2, .int .i64 op, .int .i64 add] w fun e w' => e = .returned (.bool true) ∧ Below w.heap.size w w' := by
  have N1 := Lib.hid (test_nullr k n t op add); have N2 := Lib.hid (test_nulll k n2 t2 op add)
  have HT := Lib.hid ht; clear ht
  have e0 : (k == 0) = false := by simpa using h0
  clear h0
  have HE := Lib.hid he
  have HB := Lib.hid (Below.refl w.heap.size w)
  clear he
  go_enter Tryd.func10, Tryd.ntmps10
  go_wp2_with fail
  refine (head_any _ ((HE.out.alloc _).alloc _)).mono ?_
  rintro e w1 ⟨rfl, hb⟩
  have RA := Lib.hid (show Val3 w1 (w.heap.size) k n t from Val3.below ⟨by simp [go_sem], by simp [go_sem], by simp [go_sem]⟩ hb)
  have RB := Lib.hid (show Val3 w1 (w.heap.size + 1) k n2 t2 from Val3.below ⟨by simp [go_sem], by simp [go_sem], by simp [go_sem]⟩ hb)
  replace HE := Lib.hid (((HE.out.alloc _).alloc _).below hb)
  replace HB := Lib.hid (below_up (((HB.out.alloc (by have := HB.out.size; simp; try omega) _).alloc (by have := HB.out.size; simp; try omega) _)) hb (by have := HB.out.size; simp; omega))
  clear hb
  have zRAc0 := RA.out.c0
  have zRAc1 := RA.out.c1
  have zRAc2 := RA.out.c2
  have zRBc0 := RB.out.c0
  have zRBc1 := RB.out.c1
  have zRBc2 := RB.out.c2
  go_wp2_with fail
  refine (short_b2 k n t k n2 t2 true hs _ ).mono ?_
  rintro e w2 ⟨rfl, hb⟩
  replace RA := Lib.hid ((RA.out.alloc _).below hb)
  replace RB := Lib.hid ((RB.out.alloc _).below hb)
  replace HE := Lib.hid ((HE.out.alloc _).below hb)
  replace HB := Lib.hid (below_next HB.out HB.out.size hb)
  clear hb
  clear zRAc0 zRAc1 zRAc2 zRBc0 zRBc1 zRBc2
  have zRAc0 := RA.out.c0
  have zRAc1 := RA.out.c1
  have zRAc2 := RA.out.c2
  have zRBc0 := RB.out.c0
  have zRBc1 := RB.out.c1
  have zRBc2 := RB.out.c2
  go_wp2_with fail
  refine (valid_any k n t _ ).mono ?_
  rintro e w3 ⟨rfl, hb⟩
  replace RA := Lib.hid (RA.out.below hb)
  replace RB := Lib.hid (RB.out.below hb)
  replace HE := Lib.hid (HE.out.below hb)
  replace HB := Lib.hid (below_up HB.out hb HB.out.size)
  clear hb
  clear zRAc0 zRAc1 zRAc2 zRBc0 zRBc1 zRBc2
  have zRAc0 := RA.out.c0
  have zRAc1 := RA.out.c1
  have zRAc2 := RA.out.c2
  have zRBc0 := RB.out.c0
  have zRBc1 := RB.out.c1
  have zRBc2 := RB.out.c2
  go_wp2_with fail
  refine (valid_any k n2 t2 _ ).mono ?_
  rintro e w4 ⟨rfl, hb⟩
  replace RA := Lib.hid (RA.out.below hb)
  replace RB := Lib.hid (RB.out.below hb)
  replace HE := Lib.hid (HE.out.below hb)
  replace HB := Lib.hid (below_up HB.out hb HB.out.size)
  clear hb
  clear zRAc0 zRAc1 zRAc2 zRBc0 zRBc1 zRBc2
  have zRAc0 := RA.out.c0
  have zRAc1 := RA.out.c1
  have zRAc2 := RA.out.c2
  have zRBc0 := RB.out.c0
  have zRBc1 := RB.out.c1
  have zRBc2 := RB.out.c2
  go_wp2_with fail
  have C := fun W => test_any k n t op k n2 t2 add W
  rw [HT.out] at C
  refine (C _ ).mono ?_
  clear C
  rintro e w5 ⟨rfl, hb⟩
  replace RA := Lib.hid (RA.out.below hb)
  replace RB := Lib.hid (RB.out.below hb)
  replace HE := Lib.hid (HE.out.below hb)
  replace HB := Lib.hid (below_up HB.out hb HB.out.size)
  clear hb
  clear zRAc0 zRAc1 zRAc2 zRBc0 zRBc1 zRBc2
  have zRAc0 := RA.out.c0
  have zRAc1 := RA.out.c1
  have zRAc2 := RA.out.c2
  have zRBc0 := RB.out.c0
  have zRBc1 := RB.out.c1
  have zRBc2 := RB.out.c2
  go_wp2_with fail
  have C := fun W => test_any k n t op 0 0 [] add W
  rw [N1.out] at C
  refine (C _ ).mono ?_
  clear C
  rintro e w6 ⟨rfl, hb⟩
  replace RA := Lib.hid (RA.out.below hb)
  replace RB := Lib.hid (RB.out.below hb)
  replace HE := Lib.hid (HE.out.below hb)
  replace HB := Lib.hid (below_up HB.out hb HB.out.size)
  clear hb
  clear zRAc0 zRAc1 zRAc2 zRBc0 zRBc1 zRBc2
  have zRAc0 := RA.out.c0
  have zRAc1 := RA.out.c1
  have zRAc2 := RA.out.c2
  have zRBc0 := RB.out.c0
  have zRBc1 := RB.out.c1
  have zRBc2 := RB.out.c2
  go_wp2_with fail
  have C := fun W => test_any 0 0 [] op k n2 t2 add W
  rw [N2.out] at C
  refine (C _ ).mono ?_
  clear C
  rintro e w7 ⟨rfl, hb⟩
  replace RA := Lib.hid (RA.out.below hb)
  replace RB := Lib.hid (RB.out.below hb)
  replace HE := Lib.hid (HE.out.below hb)
  replace HB := Lib.hid (below_up HB.out hb HB.out.size)
  clear hb
  clear zRAc0 zRAc1 zRAc2 zRBc0 zRBc1 zRBc2
  go_wp2_with fail
  go_ret
  exact ⟨rfl, HB.out⟩


set_option maxRecDepth 100000 in
set_option maxHeartbeats 1600000 in
theorem nothing_p6 (k n n2 : Int) (t t2 : List UInt8) (op add : Int) (hs : shortB [t, t2] = true) (hv : vldB k n t = true) (hv2 : vldB k n2 t2 = true) (h0 : k ≠ 0) (ho : ¬ op < 1) (ho2 : 4 < op) (ht : testB k n t op k n2 t2 add = false) (w : World) (he : Env w) :
    Calls Tryd.prog 10 #[V k n t, V k n2 t2, .int .i64 op, .int .i64 add] w fun e w' => e = .returned (.bool true) ∧ Below w.heap.size w w' := by
  have N1 := Lib.hid (test_nullr k n t op add); have N2 := Lib.hid (test_nulll k n2 t2 op add)
  have HT := Lib.hid ht; clear ht
  have e0 : (k == 0) = false := by simpa using h0
  clear h0
  have HE := Lib.hid he
  have HB := Lib.hid (Below.refl w.heap.size w)
  clear he
  go_enter Tryd.func10, Tryd.ntmps10
  go_wp2_with fail
  refine (head_any _ ((HE.out.alloc _).alloc _)).mono ?_
  rintro e w1 ⟨rfl, hb⟩
  have RA := Lib.hid (show Val3 w1 (w.heap.size) k n t from Val3.below ⟨by simp [go_sem], by simp [go_sem], by simp [go_sem]⟩ hb)
  have RB := Lib.hid (show Val3 w1 (w.heap.size + 1) k n2 t2 from Val3.below ⟨by simp [go_sem], by simp [go_sem], by simp [go_sem]⟩ hb)
  replace HE := Lib.hid (((HE.out.alloc _).alloc _).below hb)
  replace HB := Lib.hid (below_up (((HB.out.alloc (by have := HB.out.size; simp; try omega) _).alloc (by have := HB.out.size; simp; try omega) _)) hb (by have := HB.out.size; simp; omega))
  clear hb
  have zRAc0 := RA.out.c0
  have zRAc1 := RA.out.c1
  have zRAc2 := RA.out.c2
  have zRBc0 := RB.out.c0
  have zRBc1 := RB.out.c1
  have zRBc2 := RB.out.c2
  go_wp2_with fail
  refine (short_b2 k n t k n2 t2 true hs _ ).mono ?_
  rintro e w2 ⟨rfl, hb⟩
  replace RA := Lib.hid ((RA.out.alloc _).below hb)
  replace RB := Lib.hid ((RB.out.alloc _).below hb)
  replace HE := Lib.hid ((HE.out.alloc _).below hb)
  replace HB := Lib.hid (below_next HB.out HB.out.size hb)
  clear hb
  clear zRAc0 zRAc1 zRAc2 zRBc0 zRBc1 zRBc2
  have zRAc0 := RA.out.c0
  have zRAc1 := RA.out.c1
  have zRAc2 := RA.out.c2
  have zRBc0 := RB.out.c0
  have zRBc1 := RB.out.c1
  have zRBc2 := RB.out.c2
  go_wp2_with fail
  refine (valid_any k n t _ ).mono ?_
  rintro e w3 ⟨rfl, hb⟩
  replace RA := Lib.hid (RA.out.below hb)
  replace RB := Lib.hid (RB.out.below hb)
  replace HE := Lib.hid (HE.out.below hb)
  replace HB := Lib.hid (below_up HB.out hb HB.out.size)
  clear hb
  clear zRAc0 zRAc1 zRAc2 zRBc0 zRBc1 zRBc2
  have zRAc0 := RA.out.c0
  have zRAc1 := RA.out.c1
  have zRAc2 := RA.out.c2
  have zRBc0 := RB.out.c0
  have zRBc1 := RB.out.c1
  have zRBc2 := RB.out.c2
  go_wp2_with fail
  refine (valid_any k n2 t2 _ ).mono ?_
  rintro e w4 ⟨rfl, hb⟩
  replace RA := Lib.hid (RA.out.below hb)
  replace RB := Lib.hid (RB.out.below hb)
  replace HE := Lib.hid (HE.out.below hb)
  replace HB := Lib.hid (below_up HB.out hb HB.out.size)
  clear hb
  clear zRAc0 zRAc1 zRAc2 zRBc0 zRBc1 zRBc2
  have zRAc0 := RA.out.c0
  have zRAc1 := RA.out.c1
  have zRAc2 := RA.out.c2
  have zRBc0 := RB.out.c0
  have zRBc1 := RB.out.c1
  have zRBc2 := RB.out.c2
  go_wp2_with fail
  have C := fun W => test_any k n t op k n2 t2 add W
  rw [HT.out] at C
  refine (C _ ).mono ?_
  clear C
  rintro e w5 ⟨rfl, hb⟩
  replace RA := Lib.hid (RA.out.below hb)
  replace RB := Lib.hid (RB.out.below hb)
  replace HE := Lib.hid (HE.out.below hb)
  replace HB := Lib.hid (below_up HB.out hb HB.out.size)
  clear hb
  clear zRAc0 zRAc1 zRAc2 zRBc0 zRBc1 zRBc2
  have zRAc0 := RA.out.c0
  have zRAc1 := RA.out.c1
  have zRAc2 := RA.out.c2
  have zRBc0 := RB.out.c0
  have zRBc1 := RB.out.c1
  have zRBc2 := RB.out.c2
  go_wp2_with fail
  have C := fun W => test_any k n t op 0 0 [] add W
  rw [N1.out] at C
  refine (C _ ).mono ?_
  clear C
  rintro e w6 ⟨rfl, hb⟩
  replace RA := Lib.hid (RA.out.below hb)
  replace RB := Lib.hid (RB.out.below hb)
  replace HE := Lib.hid (HE.out.below hb)
  replace HB := Lib.hid (below_up HB.out hb HB.out.size)
  clear hb
  clear zRAc0 zRAc1 zRAc2 zRBc0 zRBc1 zRBc2
  have zRAc0 := RA.out.c0
  have zRAc1 := RA.out.c1
  have zRAc2 := RA.out.c2
  have zRBc0 := RB.out.c0
  have zRBc1 := RB.out.c1
  have zRBc2 := RB.out.c2
  go_wp2_with fail
  have C := fun W => test_any 0 0 [] op k n2 t2 add W
  rw [N2.out] at C
  refine (C _ ).mono ?_
  clear C
  rintro e w7 ⟨rfl, hb⟩
  replace RA := Lib.hid (RA.out.below hb)
  replace RB := Lib.hid (RB.out.below hb)
  replace HE := Lib.hid (HE.out.below hb)
  replace HB := Lib.hid (below_up HB.out hb HB.out.size)
  clear hb
  clear zRAc0 zRAc1 zRAc2 zRBc0 zRBc1 zRBc2
  go_wp2_with fail
  go_ret
  exact ⟨rfl, HB.out⟩


set_option maxRecDepth 100000 in
set_option maxHeartbeats 1600000 in
theorem nothing_r1 (n n2 : Int) (t t2 : List UInt8) (op add : Int) (hs : shortB [t, t2] = true) (hv : vldB 1 n t = true) (hv2 : vldB 1 n2 t2 = true) (ho : ¬ op < 1) (ho2 : ¬ 4 < op) (ha : add ≠ 0) (ht : testB 1 n t op 1 n2 t2 add = false) (w : World) (he : Env w) :
    Calls Tryd.prog 10 #[V 1 n t, V 1 n2 t2, .int .i64 op, .int .i64 add] w fun e w' => e = .returned (.bool true) ∧ Below w.heap.size w w' := by
  have N1 := Lib.hid (test_nullr 1 n t op add); have N2 := Lib.hid (test_nulll 1 n2 t2 op add)
  have HT := Lib.hid ht; clear ht
  have ea : (add != 0) = true := by simpa using ha
  clear ha
  have HE := Lib.hid he
  have HB := Lib.hid (Below.refl w.heap.size w)
  clear he
  go_enter Tryd.func10, Tryd.ntmps10
  go_wp2_with fail
  refine (head_any _ ((HE.out.alloc _).alloc _)).mono ?_
  rintro e w1 ⟨rfl, hb⟩
  have RA := Lib.hid (show Val3 w1 (w.heap.size) 1 n t from Val3.below ⟨by simp [go_sem], by simp [go_sem], by simp [go_sem]⟩ hb)
  have RB := Lib.hid (show Val3 w1 (w.heap.size + 1) 1 n2 t2 from Val3.below ⟨by simp [go_sem], by simp [go_sem], by simp [go_sem]⟩ hb)
  replace HE := Lib.hid (((HE.out.alloc _).alloc _).below hb)
  replace HB := Lib.hid (below_up (((HB.out.alloc (by have := HB.out.size; simp; try omega) _).alloc (by have := HB.out.size; simp; try omega) _)) hb (by have := HB.out.size; simp; omega))
  clear hb
  have zRAc0 := RA.out.c0
  have zRAc1 := RA.out.c1
  have zRAc2 := RA.out.c2
  have zRBc0 := RB.out.c0
  have zRBc1 := RB.out.c1
  have zRBc2 := RB.out.c2
  go_wp2_with fail
  refine (short_b2 1 n t 1 n2 t2 true hs _ ).mono ?_
  rintro e w2 ⟨rfl, hb⟩
  replace RA := Lib.hid ((RA.out.alloc _).below hb)
  replace RB := Lib.hid ((RB.out.alloc _).below hb)
  replace HE := Lib.hid ((HE.out.alloc _).below hb)
  replace HB := Lib.hid (below_next HB.out HB.out.size hb)
  clear hb
  clear zRAc0 zRAc1 zRAc2 zRBc0 zRBc1 zRBc2
  have zRAc0 := RA.out.c0
  have zRAc1 := RA.out.c1
  have zRAc2 := RA.out.c2
  have zRBc0 := RB.out.c0
  have zRBc1 := RB.out.c1
  have zRBc2 := RB.out.c2
  go_wp2_with fail
  refine (valid_any 1 n t _ ).mono ?_
  rintro e w3 ⟨rfl, hb⟩
  replace RA := Lib.hid (RA.out.below hb)
  replace RB := Lib.hid (RB.out.below hb)
  replace HE := Lib.hid (HE.out.below hb)
  replace HB := Lib.hid (below_up HB.out hb HB.out.size)
  clear hb
  clear zRAc0 zRAc1 zRAc2 zRBc0 zRBc1 zRBc2
  have zRAc0 := RA.out.c0
  have zRAc1 := RA.out.c1
  have zRAc2 := RA.out.c2
  have zRBc0 := RB.out.c0
  have zRBc1 := RB.out.c1
  have zRBc2 := RB.out.c2
  go_wp2_with fail
  refine (valid_any 1 n2 t2 _ ).mono ?_
  rintro e w4 ⟨rfl, hb⟩
  replace RA := Lib.hid (RA.out.below hb)
  replace RB := Lib.hid (RB.out.below hb)
  replace HE := Lib.hid (HE.out.below hb)
  replace HB := Lib.hid (below_up HB.out hb HB.out.size)
  clear hb
  clear zRAc0 zRAc1 zRAc2 zRBc0 zRBc1 zRBc2
  have zRAc0 := RA.out.c0
  have zRAc1 := RA.out.c1
  have zRAc2 := RA.out.c2
  have zRBc0 := RB.out.c0
  have zRBc1 := RB.out.c1
  have zRBc2 := RB.out.c2
  go_wp2_with fail
  have C := fun W => test_any 1 n t op 1 n2 t2 add W
  rw [HT.out] at C
  refine (C _ ).mono ?_
  clear C
  rintro e w5 ⟨rfl, hb⟩
  replace RA := Lib.hid (RA.out.below hb)
  replace RB := Lib.hid (RB.out.below hb)
  replace HE := Lib.hid (HE.out.below hb)
  replace HB := Lib.hid (below_up HB.out hb HB.out.size)
  clear hb
  clear zRAc0 zRAc1 zRAc2 zRBc0 zRBc1 zRBc2
  have zRAc0 := RA.out.c0
  have zRAc1 := RA.out.c1
  have zRAc2 := RA.out.c2
  have zRBc0 := RB.out.c0
  have zRBc1 := RB.out.c1
  have zRBc2 := RB.out.c2
  go_wp2_with fail
  have C := fun W => test_any 1 n t op 0 0 [] add W
  rw [N1.out] at C
  refine (C _ ).mono ?_
  clear C
  rintro e w6 ⟨rfl, hb⟩
  replace RA := Lib.hid (RA.out.below hb)
  replace RB := Lib.hid (RB.out.below hb)
  replace HE := Lib.hid (HE.out.below hb)
  replace HB := Lib.hid (below_up HB.out hb HB.out.size)
  clear hb
  clear zRAc0 zRAc1 zRAc2 zRBc0 zRBc1 zRBc2
  have zRAc0 := RA.out.c0
  have zRAc1 := RA.out.c1
  have zRAc2 := RA.out.c2
  have zRBc0 := RB.out.c0
  have zRBc1 := RB.out.c1
  have zRBc2 := RB.out.c2
  go_wp2_with fail
  have C := fun W => test_any 0 0 [] op 1 n2 t2 add W
  rw [N2.out] at C
  refine (C _ ).mono ?_
  clear C
  rintro e w7 ⟨rfl, hb⟩
  replace RA := Lib.hid (RA.out.below hb)
  replace RB := Lib.hid (RB.out.below hb)
  replace HE := Lib.hid (HE.out.below hb)
  replace HB := Lib.hid (below_up HB.out hb HB.out.size)
  clear hb
  clear zRAc0 zRAc1 zRAc2 zRBc0 zRBc1 zRBc2
  go_wp2_with fail
  go_ret
  exact ⟨rfl, HB.out⟩


set_option maxRecDepth 100000 in
set_option maxHeartbeats 1600000 in
theorem nothing_r4 (n n2 : Int) (t t2 : List UInt8) (op add : Int) (hs : shortB [t, t2] = true) (hv : vldB 4 n t = true) (hv2 : vldB 4 n2 t2 = true) (ho : ¬ op < 1) (ho2 : ¬ 4 < op) (ha : add ≠ 0) (ht : testB 4 n t op 4 n2 t2 add = false) (w : World) (he : Env w) :
    Calls Tryd.prog 10 #[V 4 n t, V 4 n2 t2, .int .i64 op, .int .i64 add] w fun e w' => e = .returned (.bool true) ∧ Below w.heap.size w w' := by
  have N1 := Lib.hid (test_nullr 4 n t op add); have N2 := Lib.hid (test_nulll 4 n2 t2 op add)
  have HT := Lib.hid ht; clear ht
  have ea : (add != 0) = true := by simpa using ha
  clear ha
  have HE := Lib.hid he
  have HB := Lib.hid (Below.refl w.heap.size w)
  clear he
  go_enter Tryd.func10, Tryd.ntmps10
  go_wp2_with fail
  refine (head_any _ ((HE.out.alloc _).alloc _)).mono ?_
  rintro e w1 ⟨rfl, hb⟩
  have RA := Lib.hid (show Val3 w1 (w.heap.size) 4 n t from Val3.below ⟨by simp [go_sem], by simp [go_sem], by simp [go_sem]⟩ hb)
  have RB := Lib.hid (show Val3 w1 (w.heap.size + 1) 4 n2 t2 from Val3.below ⟨by simp [go_sem], by simp [go_sem], by simp [go_sem]⟩ hb)
  replace HE := Lib.hid (((HE.out.alloc _).alloc _).below hb)
  replace HB := Lib.hid (below_up (((HB.out.alloc (by have := HB.out.size; simp; try omega) _).alloc (by have := HB.out.size; simp; try omega) _)) hb (by have := HB.out.size; simp; omega))
  clear hb
  have zRAc0 := RA.out.c0
  have zRAc1 := RA.out.c1
  have zRAc2 := RA.out.c2
  have zRBc0 := RB.out.c0
  have zRBc1 := RB.out.c1
  have zRBc2 := RB.out.c2
  go_wp2_with fail
  refine (short_b2 4 n t 4 n2 t2 true hs _ ).mono ?_
  rintro e w2 ⟨rfl, hb⟩
  replace RA := Lib.hid ((RA.out.alloc _).below hb)
  replace RB := Lib.hid ((RB.out.alloc _).below hb)
  replace HE := Lib.hid ((HE.out.alloc _).below hb)
  replace HB := Lib.hid (below_next HB.out HB.out.size hb)
  clear hb
  clear zRAc0 zRAc1 zRAc2 zRBc0 zRBc1 zRBc2
  have zRAc0 := RA.out.c0
  have zRAc1 := RA.out.c1
  have zRAc2 := RA.out.c2
  have zRBc0 := RB.out.c0
  have zRBc1 := RB.out.c1
  have zRBc2 := RB.out.c2
  go_wp2_with fail
  refine (valid_any 4 n t _ ).mono ?_
  rintro e w3 ⟨rfl, hb⟩
  replace RA := Lib.hid (RA.out.below hb)
  replace RB := Lib.hid (RB.out.below hb)
  replace HE := Lib.hid (HE.out.below hb)
  replace HB := Lib.hid (below_up HB.out hb HB.out.size)
  clear hb
  clear zRAc0 zRAc1 zRAc2 zRBc0 zRBc1 zRBc2
  have zRAc0 := RA.out.c0
  have zRAc1 := RA.out.c1
  have zRAc2 := RA.out.c2
  have zRBc0 := RB.out.c0
  have zRBc1 := RB.out.c1
  have zRBc2 := RB.out.c2
  go_wp2_with fail
  refine (valid_any 4 n2 t2 _ ).mono ?_
  rintro e w4 ⟨rfl, hb⟩
  replace RA := Lib.hid (RA.out.below hb)
  replace RB := Lib.hid (RB.out.below hb)
  replace HE := Lib.hid (HE.out.below hb)
  replace HB := Lib.hid (below_up HB.out hb HB.out.size)
  clear hb
  clear zRAc0 zRAc1 zRAc2 zRBc0 zRBc1 zRBc2
  have zRAc0 := RA.out.c0
  have zRAc1 := RA.out.c1
  have zRAc2 := RA.out.c2
  have zRBc0 := RB.out.c0
  have zRBc1 := RB.out.c1
  have zRBc2 := RB.out.c2
  go_wp2_with fail
  have C := fun W => test_any 4 n t op 4 n2 t2 add W
  rw [HT.out] at C
  refine (C _ ).mono ?_
  clear C
  rintro e w5 ⟨rfl, hb⟩
  replace RA := Lib.hid (RA.out.below hb)
  replace RB := Lib.hid (RB.out.below hb)
  replace HE := Lib.hid (HE.out.below hb)
  replace HB := Lib.hid (below_up HB.out hb HB.out.size)
  clear hb
  clear zRAc0 zRAc1 zRAc2 zRBc0 zRBc1 zRBc2
  have zRAc0 := RA.out.c0
  have zRAc1 := RA.out.c1
  have zRAc2 := RA.out.c2
  have zRBc0 := RB.out.c0
  have zRBc1 := RB.out.c1
  have zRBc2 := RB.out.c2
  go_wp2_with fail
  have C := fun W => test_any 4 n t op 0 0 [] add W
  rw [N1.out] at C
  refine (C _ ).mono ?_
  clear C
  rintro e w6 ⟨rfl, hb⟩
  replace RA := Lib.hid (RA.out.below hb)
  replace RB := Lib.hid (RB.out.below hb)
  replace HE := Lib.hid (HE.out.below hb)
  replace HB := Lib.hid (below_up HB.out hb HB.out.size)
  clear hb
  clear zRAc0 zRAc1 zRAc2 zRBc0 zRBc1 zRBc2
  have zRAc0 := RA.out.c0
  have zRAc1 := RA.out.c1
  have zRAc2 := RA.out.c2
  have zRBc0 := RB.out.c0
  have zRBc1 := RB.out.c1
  have zRBc2 := RB.out.c2
  go_wp2_with fail
  have C := fun W => test_any 0 0 [] op 4 n2 t2 add W
  rw [N2.out] at C
  refine (C _ ).mono ?_
  clear C
  rintro e w7 ⟨rfl, hb⟩
  replace RA := Lib.hid (RA.out.below hb)
  replace RB := Lib.hid (RB.out.below hb)
  replace HE := Lib.hid (HE.out.below hb)
  replace HB := Lib.hid (below_up HB.out hb HB.out.size)
  clear hb
  clear zRAc0 zRAc1 zRAc2 zRBc0 zRBc1 zRBc2
  go_wp2_with fail
  go_ret
  exact ⟨rfl, HB.out⟩


set_option maxRecDepth 100000 in
set_option maxHeartbeats 1600000 in
theorem nothing_s (k n n2 : Int) (t t2 : List UInt8) (op : Int) (hs : shortB [t, t2] = true) (hv : vldB k n t = true) (hv2 : vldB k n2 t2 = true) (h0 : k ≠ 0) (ho : ¬ op < 1) (ho2 : ¬ 4 < op) (w : World) (he : Env w) :
    Calls Tryd.prog 10 #[V k n t, V k n2 t2, .int .i64 op, .int .i64 0] w fun e w' => e = .returned (.bool true) ∧ Below w.heap.size w w' := by
  have N1 := Lib.hid (test_nullr k n t op 0); have N2 := Lib.hid (test_nulll k n2 t2 op 0)
  have e0 : (k == 0) = false := by simpa using h0
  clear h0
  have HE := Lib.hid he
  have HB := Lib.hid (Below.refl w.heap.size w)
  clear he
  go_enter Tryd.func10, Tryd.ntmps10
  go_wp2_with fail
  refine (head_any _ ((HE.out.alloc _).alloc _)).mono ?_
  rintro e w1 ⟨rfl, hb⟩
  have RA := Lib.hid (show Val3 w1 (w.heap.size) k n t from Val3.below ⟨by simp [go_sem], by simp [go_sem], by simp [go_sem]⟩ hb)
  have RB := Lib.hid (show Val3 w1 (w.heap.size + 1) k n2 t2 from Val3.below ⟨by simp [go_sem], by simp [go_sem], by simp [go_sem]⟩ hb)
  replace HE := Lib.hid (((HE.out.alloc _).alloc _).below hb)
  replace HB := Lib.hid (below_up (((HB.out.alloc (by have := HB.out.size; simp; try omega) _).alloc (by have := HB.out.size; simp; try omega) _)) hb (by have := HB.out.size; simp; omega))
  clear hb
  have zRAc0 := RA.out.c0
  have zRAc1 := RA.out.c1
  have zRAc2 := RA.out.c2
  have zRBc0 := RB.out.c0
  have zRBc1 := RB.out.c1
  have zRBc2 := RB.out.c2
  go_wp2_with fail
  refine (short_b2 k n t k n2 t2 true hs _ ).mono ?_
  rintro e w2 ⟨rfl, hb⟩
  replace RA := Lib.hid ((RA.out.alloc _).below hb)
  replace RB := Lib.hid ((RB.out.alloc _).below hb)
  replace HE := Lib.hid ((HE.out.alloc _).below hb)
  replace HB := Lib.hid (below_next HB.out HB.out.size hb)
  clear hb
  clear zRAc0 zRAc1 zRAc2 zRBc0 zRBc1 zRBc2
  have zRAc0 := RA.out.c0
  have zRAc1 := RA.out.c1
  have zRAc2 := RA.out.c2
  have zRBc0 := RB.out.c0
  have zRBc1 := RB.out.c1
  have zRBc2 := RB.out.c2
  go_wp2_with fail
  refine (valid_any k n t _ ).mono ?_
  rintro e w3 ⟨rfl, hb⟩
  replace RA := Lib.hid (RA.out.below hb)
  replace RB := Lib.hid (RB.out.below hb)
  replace HE := Lib.hid (HE.out.below hb)
  replace HB := Lib.hid (below_up HB.out hb HB.out.size)
  clear hb
  clear zRAc0 zRAc1 zRAc2 zRBc0 zRBc1 zRBc2
  have zRAc0 := RA.out.c0
  have zRAc1 := RA.out.c1
  have zRAc2 := RA.out.c2
  have zRBc0 := RB.out.c0
  have zRBc1 := RB.out.c1
  have zRBc2 := RB.out.c2
  go_wp2_with fail
  refine (valid_any k n2 t2 _ ).mono ?_
  rintro e w4 ⟨rfl, hb⟩
  replace RA := Lib.hid (RA.out.below hb)
  replace RB := Lib.hid (RB.out.below hb)
  replace HE := Lib.hid (HE.out.below hb)
  replace HB := Lib.hid (below_up HB.out hb HB.out.size)
  clear hb
  clear zRAc0 zRAc1 zRAc2 zRBc0 zRBc1 zRBc2
  have zRAc0 := RA.out.c0
  have zRAc1 := RA.out.c1
  have zRAc2 := RA.out.c2
  have zRBc0 := RB.out.c0
  have zRBc1 := RB.out.c1
  have zRBc2 := RB.out.c2
  go_wp2_with fail
  have C := fun W => test_any k n t op 0 0 [] 0 W
  rw [N1.out] at C
  refine (C _ ).mono ?_
  clear C
  rintro e w5 ⟨rfl, hb⟩
  replace RA := Lib.hid (RA.out.below hb)
  replace RB := Lib.hid (RB.out.below hb)
  replace HE := Lib.hid (HE.out.below hb)
  replace HB := Lib.hid (below_up HB.out hb HB.out.size)
  clear hb
  clear zRAc0 zRAc1 zRAc2 zRBc0 zRBc1 zRBc2
  have zRAc0 := RA.out.c0
  have zRAc1 := RA.out.c1
  have zRAc2 := RA.out.c2
  have zRBc0 := RB.out.c0
  have zRBc1 := RB.out.c1
  have zRBc2 := RB.out.c2
  go_wp2_with fail
  have C := fun W => test_any 0 0 [] op k n2 t2 0 W
  rw [N2.out] at C
  refine (C _ ).mono ?_
  clear C
  rintro e w6 ⟨rfl, hb⟩
  replace RA := Lib.hid (RA.out.below hb)
  replace RB := Lib.hid (RB.out.below hb)
  replace HE := Lib.hid (HE.out.below hb)
  replace HB := Lib.hid (below_up HB.out hb HB.out.size)
  clear hb
  clear zRAc0 zRAc1 zRAc2 zRBc0 zRBc1 zRBc2
  go_wp2_with fail
  go_ret
  exact ⟨rfl, HB.out⟩


set_option maxRecDepth 100000 in
set_option maxHeartbeats 1600000 in
theorem nothing_s2 (n n2 : Int) (t t2 : List UInt8) (op add : Int) (hs : shortB [t, t2] = true) (hv : vldB 2 n t = true) (hv2 : vldB 2 n2 t2 = true) (ho : ¬ op < 1) (ho2 : ¬ 4 < op) (ha : add ≠ 0) (w : World) (he : Env w) :
    Calls Tryd.prog 10 #[V 2 n t, V 2 n2 t2, .int .i64 op, .int .i64 add] w fun e w' => e = .returned (.bool true) ∧ Below w.heap.size w w' := by
  have N1 := Lib.hid (test_nullr 2 n t op add); have N2 := Lib.hid (test_nulll 2 n2 t2 op add)
  have ea : (add != 0) = true := by simpa using ha
  clear ha
  have HE := Lib.hid he
  have HB := Lib.hid (Below.refl w.heap.size w)
  clear he
  go_enter Tryd.func10, Tryd.ntmps10
  go_wp2_with fail
  refine (head_any _ ((HE.out.alloc _).alloc _)).mono ?_
  rintro e w1 ⟨rfl, hb⟩
  have RA := Lib.hid (show Val3 w1 (w.heap.size) 2 n t from Val3.below ⟨by simp [go_sem], by simp [go_sem], by simp [go_sem]⟩ hb)
  have RB := Lib.hid (show Val3 w1 (w.heap.size + 1) 2 n2 t2 from Val3.below ⟨by simp [go_sem], by simp [go_sem], by simp [go_sem]⟩ hb)
  replace HE := Lib.hid (((HE.out.alloc _).alloc _).below hb)
  replace HB := Lib.hid (below_up (((HB.out.alloc (by have := HB.out.size; simp; try omega) _).alloc (by have := HB.out.size; simp; try omega) _)) hb (by have := HB.out.size; simp; omega))
  clear hb
  have zRAc0 := RA.out.c0
  have zRAc1 := RA.out.c1
  have zRAc2 := RA.out.c2
  have zRBc0 := RB.out.c0
  have zRBc1 := RB.out.c1
  have zRBc2 := RB.out.c2
  go_wp2_with fail
  refine (short_b2 2 n t 2 n2 t2 true hs _ ).mono ?_
  rintro e w2 ⟨rfl, hb⟩
  replace RA := Lib.hid ((RA.out.alloc _).below hb)
  replace RB := Lib.hid ((RB.out.alloc _).below hb)
  replace HE := Lib.hid ((HE.out.alloc _).below hb)
  replace HB := Lib.hid (below_next HB.out HB.out.size hb)
  clear hb
  clear zRAc0 zRAc1 zRAc2 zRBc0 zRBc1 zRBc2
  have zRAc0 := RA.out.c0
  have zRAc1 := RA.out.c1
  have zRAc2 := RA.out.c2
  have zRBc0 := RB.out.c0
  have zRBc1 := RB.out.c1
  have zRBc2 := RB.out.c2
  go_wp2_with fail
  refine (valid_any 2 n t _ ).mono ?_
  rintro e w3 ⟨rfl, hb⟩
  replace RA := Lib.hid (RA.out.below hb)
  replace RB := Lib.hid (RB.out.below hb)
  replace HE := Lib.hid (HE.out.below hb)
  replace HB := Lib.hid (below_up HB.out hb HB.out.size)
  clear hb
  clear zRAc0 zRAc1 zRAc2 zRBc0 zRBc1 zRBc2
  have zRAc0 := RA.out.c0
  have zRAc1 := RA.out.c1
  have zRAc2 := RA.out.c2
  have zRBc0 := RB.out.c0
  have zRBc1 := RB.out.c1
  have zRBc2 := RB.out.c2
  go_wp2_with fail
  refine (valid_any 2 n2 t2 _ ).mono ?_
  rintro e w4 ⟨rfl, hb⟩
  replace RA := Lib.hid (RA.out.below hb)
  replace RB := Lib.hid (RB.out.below hb)
  replace HE := Lib.hid (HE.out.below hb)
  replace HB := Lib.hid (below_up HB.out hb HB.out.size)
  clear hb
  clear zRAc0 zRAc1 zRAc2 zRBc0 zRBc1 zRBc2
  have zRAc0 := RA.out.c0
  have zRAc1 := RA.out.c1
  have zRAc2 := RA.out.c2
  have zRBc0 := RB.out.c0
  have zRBc1 := RB.out.c1
  have zRBc2 := RB.out.c2
  go_wp2_with fail
  have C := fun W => test_any 2 n t op 0 0 [] add W
  rw [N1.out] at C
  refine (C _ ).mono ?_
  clear C
  rintro e w5 ⟨rfl, hb⟩
  replace RA := Lib.hid (RA.out.below hb)
  replace RB := Lib.hid (RB.out.below hb)
  replace HE := Lib.hid (HE.out.below hb)
  replace HB := Lib.hid (below_up HB.out hb HB.out.size)
  clear hb
  clear zRAc0 zRAc1 zRAc2 zRBc0 zRBc1 zRBc2
  have zRAc0 := RA.out.c0
  have zRAc1 := RA.out.c1
  have zRAc2 := RA.out.c2
  have zRBc0 := RB.out.c0
  have zRBc1 := RB.out.c1
  have zRBc2 := RB.out.c2
  go_wp2_with fail
  have C := fun W => test_any 0 0 [] op 2 n2 t2 add W
  rw [N2.out] at C
  refine (C _ ).mono ?_
  clear C
  rintro e w6 ⟨rfl, hb⟩
  replace RA := Lib.hid (RA.out.below hb)
  replace RB := Lib.hid (RB.out.below hb)
  replace HE := Lib.hid (HE.out.below hb)
  replace HB := Lib.hid (below_up HB.out hb HB.out.size)
  clear hb
  clear zRAc0 zRAc1 zRAc2 zRBc0 zRBc1 zRBc2
  go_wp2_with fail
  go_ret
  exact ⟨rfl, HB.out⟩


set_option maxRecDepth 100000 in
set_option maxHeartbeats 1600000 in
theorem nothing_s3 (n n2 : Int) (t t2 : List UInt8) (op add : Int) (hs : shortB [t, t2] = true) (hv : vldB 3 n t = true) (hv2 : vldB 3 n2 t2 = true) (ho : ¬ op < 1) (ho2 : ¬ 4 < op) (ha : add ≠ 0) (w : World) (he : Env w) :
    Calls Tryd.prog 10 #[V 3 n t, V 3 n2 t2, .int .i64 op, .int .i64 add] w fun e w' => e = .returned (.bool true) ∧ Below w.heap.size w w' := by
  have N1 := Lib.hid (test_nullr 3 n t op add); have N2 := Lib.hid (test_nulll 3 n2 t2 op add)
  have ea : (add != 0) = true := by simpa using ha
  clear ha
  have HE := Lib.hid he
  have HB := Lib.hid (Below.refl w.heap.size w)
  clear he
  go_enter Tryd.func10, Tryd.ntmps10
  go_wp2_with fail
  refine (head_any _ ((HE.out.alloc _).alloc _)).mono ?_
  rintro e w1 ⟨rfl, hb⟩
  have RA := Lib.hid (show Val3 w1 (w.heap.size) 3 n t from Val3.below ⟨by simp [go_sem], by simp [go_sem], by simp [go_sem]⟩ hb)
  have RB := Lib.hid (show Val3 w1 (w.heap.size + 1) 3 n2 t2 from Val3.below ⟨by simp [go_sem], by simp [go_sem], by simp [go_sem]⟩ hb)
  replace HE := Lib.hid (((HE.out.alloc _).alloc _).below hb)
  replace HB := Lib.hid (below_up (((HB.out.alloc (by have := HB.out.size; simp; try omega) _).alloc (by have := HB.out.size; simp; try omega) _)) hb (by have := HB.out.size; simp; omega))
  clear hb
  have zRAc0 := RA.out.c0
  have zRAc1 := RA.out.c1
  have zRAc2 := RA.out.c2
  have zRBc0 := RB.out.c0
  have zRBc1 := RB.out.c1
  have zRBc2 := RB.out.c2
  go_wp2_with fail
  refine (short_b2 3 n t 3 n2 t2 true hs _ ).mono ?_
  rintro e w2 ⟨rfl, hb⟩
  replace RA := Lib.hid ((RA.out.alloc _).below hb)
  replace RB := Lib.hid ((RB.out.alloc _).below hb)
  replace HE := Lib.hid ((HE.out.alloc _).below hb)
  replace HB := Lib.hid (below_next HB.out HB.out.size hb)
  clear hb
  clear zRAc0 zRAc1 zRAc2 zRBc0 zRBc1 zRBc2
  have zRAc0 := RA.out.c0
  have zRAc1 := RA.out.c1
  have zRAc2 := RA.out.c2
  have zRBc0 := RB.out.c0
  have zRBc1 := RB.out.c1
  have zRBc2 := RB.out.c2
  go_wp2_with fail
  refine (valid_any 3 n t _ ).mono ?_
  rintro e w3 ⟨rfl, hb⟩
  replace RA := Lib.hid (RA.out.below hb)
  replace RB := Lib.hid (RB.out.below hb)
  replace HE := Lib.hid (HE.out.below hb)
  replace HB := Lib.hid (below_up HB.out hb HB.out.size)
  clear hb
  clear zRAc0 zRAc1 zRAc2 zRBc0 zRBc1 zRBc2
  have zRAc0 := RA.out.c0
  have zRAc1 := RA.out.c1
  have zRAc2 := RA.out.c2
  have zRBc0 := RB.out.c0
  have zRBc1 := RB.out.c1
  have zRBc2 := RB.out.c2
  go_wp2_with fail
  refine (valid_any 3 n2 t2 _ ).mono ?_
  rintro e w4 ⟨rfl, hb⟩
  replace RA := Lib.hid (RA.out.below hb)
  replace RB := Lib.hid (RB.out.below hb)
  replace HE := Lib.hid (HE.out.below hb)
  replace HB := Lib.hid (below_up HB.out hb HB.out.size)
  clear hb
  clear zRAc0 zRAc1 zRAc2 zRBc0 zRBc1 zRBc2
  have zRAc0 := RA.out.c0
  have zRAc1 := RA.out.c1
  have zRAc2 := RA.out.c2
  have zRBc0 := RB.out.c0
  have zRBc1 := RB.out.c1
  have zRBc2 := RB.out.c2
  go_wp2_with fail
  have C := fun W => test_any 3 n t op 0 0 [] add W
  rw [N1.out] at C
  refine (C _ ).mono ?_
  clear C
  rintro e w5 ⟨rfl, hb⟩
  replace RA := Lib.hid (RA.out.below hb)
  replace RB := Lib.hid (RB.out.below hb)
  replace HE := Lib.hid (HE.out.below hb)
  replace HB := Lib.hid (below_up HB.out hb HB.out.size)
  clear hb
  clear zRAc0 zRAc1 zRAc2 zRBc0 zRBc1 zRBc2
  have zRAc0 := RA.out.c0
  have zRAc1 := RA.out.c1
  have zRAc2 := RA.out.c2
  have zRBc0 := RB.out.c0
  have zRBc1 := RB.out.c1
  have zRBc2 := RB.out.c2
  go_wp2_with fail
  have C := fun W => test_any 0 0 [] op 3 n2 t2 add W
  rw [N2.out] at C
  refine (C _ ).mono ?_
  clear C
  rintro e w6 ⟨rfl, hb⟩
  replace RA := Lib.hid (RA.out.below hb)
  replace RB := Lib.hid (RB.out.below hb)
  replace HE := Lib.hid (HE.out.below hb)
  replace HB := Lib.hid (below_up HB.out hb HB.out.size)
  clear hb
  clear zRAc0 zRAc1 zRAc2 zRBc0 zRBc1 zRBc2
  go_wp2_with fail
  go_ret
  exact ⟨rfl, HB.out⟩


theorem nothing_any (k n : Int) (t : List UInt8) (k2 n2 : Int) (t2 : List UInt8) (op add : Int) (w : World) (he : Env w) :
    Calls Tryd.prog 10 #[V k n t, V k2 n2 t2, .int .i64 op, .int .i64 add] w fun e w' => e = .returned (.bool true) ∧ Below w.heap.size w w' := by
  cases hs : shortB [t, t2]
  · exact nothing_long k k2 n n2 t t2 op add hs w he
  cases hv : vldB k n t
  · exact nothing_p1 k k2 n n2 t t2 op add hs hv (testB_bad (fun h => by rw [hv] at h; exact absurd h.1 (by decide))) w he
  cases hv2 : vldB k2 n2 t2
  · exact nothing_p2 k k2 n n2 t t2 op add hs hv hv2 (testB_bad (fun h => by rw [hv2] at h; exact absurd h.2.1 (by decide))) w he
  by_cases hk : k = k2
  · subst hk
    by_cases h0 : k = 0
    · subst h0
      exact nothing_p4 n n2 t t2 op add hs hv hv2 (testB_bad (fun h => h.2.2.1 rfl)) w he
    by_cases ho : op < 1
    · exact nothing_p5 k n n2 t t2 op add hs hv hv2 h0 ho (testB_bad (fun h => by have := h.2.2.2.2.2.1; omega)) w he
    by_cases ho2 : 4 < op
    · exact nothing_p6 k n n2 t t2 op add hs hv hv2 h0 ho ho2 (testB_bad (fun h => by have := h.2.2.2.2.2.2; omega)) w he
    by_cases ha : add = 0
    · subst ha
      exact nothing_s k n n2 t t2 op hs hv hv2 h0 ho ho2 w he
    rcases vld_cases hv with rfl | rfl | rfl | rfl | rfl
    · exact absurd rfl h0
    · exact nothing_r1 n n2 t t2 op add hs hv hv2 ho ho2 ha (testB_bad (fun h => by have := h.2.2.2.2.1; omega)) w he
    · exact nothing_s2 n n2 t t2 op add hs hv hv2 ho ho2 ha w he
    · exact nothing_s3 n n2 t t2 op add hs hv hv2 ho ho2 ha w he
    · exact nothing_r4 n n2 t t2 op add hs hv hv2 ho ho2 ha (testB_bad (fun h => by have := h.2.2.2.2.1; omega)) w he
  · exact nothing_p3 k k2 n n2 t t2 op add hs hv hv2 hk (testB_bad (fun h => hk h.2.2.2.1)) w he
end Go.Proofs.YtdoenjkebeidlaaDoor
