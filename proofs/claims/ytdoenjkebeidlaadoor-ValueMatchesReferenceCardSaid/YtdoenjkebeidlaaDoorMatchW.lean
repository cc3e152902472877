/- The walks of ValueMatchesReference. -/
import Derived.Test.YtdoenjkebeidlaaDoorOrderW
import Derived.Test.YtdoenjkebeidlaaDoorRefK
import Derived.Test.YtdoenjkebeidlaaDoorRefS
namespace Go.Proofs.YtdoenjkebeidlaaDoor
open Go.RowKit

theorem mvalid_eq {k n : Int} {t : List UInt8} {b : Bool} (h : vldB k n t = b) (w : World) :
    Calls Tryd.prog 17 #[V k n t] w fun e w' => e = .returned (.bool b) ∧ Below w.heap.size w w' := by
  subst h; exact valid_any k n t w
theorem mrefvalid_eq {k n : Int} {t : List UInt8} {b : Bool} (h : vldB k n t = b) (w : World) :
    Calls Tryd.prog 18 #[V k n t] w fun e w' => e = .returned (.bool b) ∧ Below w.heap.size w w' := by
  subst h; exact refvalid_any k n t w
theorem mcompare_eq {k n : Int} {t : List UInt8} {k2 n2 : Int} {t2 : List UInt8} {c : Int} (h : cmpV k n t k2 n2 t2 = c) (w : World) :
    Calls Tryd.prog 19 #[V k n t, V k2 n2 t2] w fun e w' => e = .returned (.int .i64 c) ∧ Below w.heap.size w w' := by
  subst h; exact compare_any k n t k2 n2 t2 w
theorem mrefcompare_eq {k n : Int} {t : List UInt8} {k2 n2 : Int} {t2 : List UInt8} {c : Int} (h : cmpV k n t k2 n2 t2 = c) (w : World) :
    Calls Tryd.prog 20 #[V k n t, V k2 n2 t2] w fun e w' => e = .returned (.int .i64 c) ∧ Below w.heap.size w w' := by
  subst h; exact refcompare_any k n t k2 n2 t2 w
theorem mtext_eq {k n : Int} {t : List UInt8} {x : List UInt8} (h : txt k n t = x) (w : World) (he : Env w) :
    Calls Tryd.prog 21 #[V k n t] w fun e w' => e = .returned (.string ⟨x.toArray⟩) ∧ Below w.heap.size w w' := by
  subst h; exact text_any k n t w he
theorem mtest_eq {k n : Int} {t : List UInt8} {op k2 n2 : Int} {t2 : List UInt8} {add : Int} {b : Bool} (h : testB k n t op k2 n2 t2 add = b) (w : World) :
    Calls Tryd.prog 23 #[V k n t, .int .i64 op, V k2 n2 t2, .int .i64 add] w fun e w' => e = .returned (.bool b) ∧ Below w.heap.size w w' := by
  subst h; exact test_any k n t op k2 n2 t2 add w
theorem mreftest_eq {k n : Int} {t : List UInt8} {op k2 n2 : Int} {t2 : List UInt8} {add : Int} {b : Bool} (h : testB k n t op k2 n2 t2 add = b) (w : World) :
    Calls Tryd.prog 24 #[V k n t, .int .i64 op, V k2 n2 t2, .int .i64 add] w fun e w' => e = .returned (.bool b) ∧ Below w.heap.size w w' := by
  subst h; exact reftest_any k n t op k2 n2 t2 add w

set_option maxRecDepth 100000 in
set_option maxHeartbeats 1600000 in
theorem match_long1 (k n : Int) (t : List UInt8) (k2 n2 : Int) (t2 : List UInt8) (op add kind : Int) (l : List UInt8) (hs : shortB [t, t2] = false) (w : World) (he : Env w) :
    Calls Tryd.prog 3 #[V k n t, V k2 n2 t2, .int .i64 op, .int .i64 add, .int .i64 kind, .string ⟨l.toArray⟩] w fun e w' => e = .returned (.bool true) ∧ Below w.heap.size w w' := by
  have HE := Lib.hid he
  have HB := Lib.hid (Below.refl w.heap.size w)
  clear he
  go_enter Tryd.func3, Tryd.ntmps3
  go_wp2_with fail
  refine (head_any _ ((HE.out.alloc _).alloc _)).mono ?_
  rintro e w1 ⟨rfl, hb⟩
  have RA := Lib.hid (show Val3 w1 (w.heap.size) k n t from Val3.below ⟨by simp [go_sem], by simp [go_sem], by simp [go_sem]⟩ hb)
  have RB := Lib.hid (show Val3 w1 (w.heap.size + 1) k2 n2 t2 from Val3.below ⟨by simp [go_sem], by simp [go_sem], by simp [go_sem]⟩ hb)
  replace HE := Lib.hid (((HE.out.alloc _).alloc _).below hb)
  replace HB := Lib.hid (below_up (((HB.out.alloc (by have := HB.out.size; simp; try omega) _).alloc (by have := HB.out.size; simp; try omega) _)) hb (by have := HB.out.size; simp; omega))
  clear hb
  have zRAc0 := RA.out.c0
  have zRAc1 := RA.out.c1
  have zRAc2 := RA.out.c2
  have zRBc0 := RB.out.c0
  have zRBc1 := RB.out.c1
  have zRBc2 := RB.out.c2
  go_wp2_with fail
  refine (short_b2 k n t k2 n2 t2 false hs _ ).mono ?_
  rintro e w2 ⟨rfl, hb⟩
  replace RA := Lib.hid ((RA.out.alloc _).below hb)
  replace RB := Lib.hid ((RB.out.alloc _).below hb)
  replace HE := Lib.hid ((HE.out.alloc _).below hb)
  replace HB := Lib.hid (below_next HB.out HB.out.size hb)
  clear hb
  clear zRAc0 zRAc1 zRAc2 zRBc0 zRBc1 zRBc2
  go_wp2_with fail
  go_ret
  exact ⟨rfl, HB.out⟩


set_option maxRecDepth 100000 in
set_option maxHeartbeats 1600000 in
theorem match_long2 (k n : Int) (t : List UInt8) (k2 n2 : Int) (t2 : List UInt8) (op add kind : Int) (l : List UInt8) (hs : shortB [t, t2] = true) (hl : 500 < l.length) (w : World) (he : Env w) :
    Calls Tryd.prog 3 #[V k n t, V k2 n2 t2, .int .i64 op, .int .i64 add, .int .i64 kind, .string ⟨l.toArray⟩] w fun e w' => e = .returned (.bool true) ∧ Below w.heap.size w w' := by
  have HE := Lib.hid he
  have HB := Lib.hid (Below.refl w.heap.size w)
  clear he
  go_enter Tryd.func3, Tryd.ntmps3
  go_wp2_with fail
  refine (head_any _ ((HE.out.alloc _).alloc _)).mono ?_
  rintro e w1 ⟨rfl, hb⟩
  have RA := Lib.hid (show Val3 w1 (w.heap.size) k n t from Val3.below ⟨by simp [go_sem], by simp [go_sem], by simp [go_sem]⟩ hb)
  have RB := Lib.hid (show Val3 w1 (w.heap.size + 1) k2 n2 t2 from Val3.below ⟨by simp [go_sem], by simp [go_sem], by simp [go_sem]⟩ hb)
  replace HE := Lib.hid (((HE.out.alloc _).alloc _).below hb)
  replace HB := Lib.hid (below_up (((HB.out.alloc (by have := HB.out.size; simp; try omega) _).alloc (by have := HB.out.size; simp; try omega) _)) hb (by have := HB.out.size; simp; omega))
  clear hb
  have zRAc0 := RA.out.c0
  have zRAc1 := RA.out.c1
  have zRAc2 := RA.out.c2
  have zRBc0 := RB.out.c0
  have zRBc1 := RB.out.c1
  have zRBc2 := RB.out.c2
  go_wp2_with fail
  refine (short_b2 k n t k2 n2 t2 true hs _ ).mono ?_
  rintro e w2 ⟨rfl, hb⟩
  replace RA := Lib.hid ((RA.out.alloc _).below hb)
  replace RB := Lib.hid ((RB.out.alloc _).below hb)
  replace HE := Lib.hid ((HE.out.alloc _).below hb)
  replace HB := Lib.hid (below_next HB.out HB.out.size hb)
  clear hb
  clear zRAc0 zRAc1 zRAc2 zRBc0 zRBc1 zRBc2
  go_wp2_with fail
  go_ret
  exact ⟨rfl, HB.out⟩


set_option maxRecDepth 100000 in
set_option maxHeartbeats 1600000 in
theorem match_all (k n : Int) (t : List UInt8) (k2 n2 : Int) (t2 : List UInt8) (op add kind : Int) (l : List UInt8) (hs : shortB [t, t2] = true) (hl : l.length ≤ 500) (pk pn : Int) (pt : List UInt8) (pe : Int) (hp : parse l = (pk, pn, pt, pe)) (ck cn : Int) (ct : List UInt8) (ce : Int) (hc : cast k n t kind = (ck, cn, ct, ce)) (vb : Bool) (hv : vldB k n t = vb) (cm : Int) (hm : cmpV k n t k2 n2 t2 = cm) (tx : List UInt8) (ht : txt k n t = tx) (tb : Bool) (hb : testB k n t op k2 n2 t2 add = tb) (w : World) (he : Env w) :
    Calls Tryd.prog 3 #[V k n t, V k2 n2 t2, .int .i64 op, .int .i64 add, .int .i64 kind, .string ⟨l.toArray⟩] w fun e w' => e = .returned (.bool true) ∧ Below w.heap.size w w' := by
  have HLX := Lib.hid hl; clear hl
  have HPX := Lib.hid hp; clear hp
  have HCX := Lib.hid hc; clear hc
  have HVX := Lib.hid hv; clear hv
  have HMX := Lib.hid hm; clear hm
  have HTX := Lib.hid ht; clear ht
  have HBX := Lib.hid hb; clear hb
  have hl2 := HLX.out
  have HE := Lib.hid he
  have HB := Lib.hid (Below.refl w.heap.size w)
  clear he
  go_enter Tryd.func3, Tryd.ntmps3
  go_wp2_with fail
  refine (head_any _ ((HE.out.alloc _).alloc _)).mono ?_
  rintro e w1 ⟨rfl, hb⟩
  have RA := Lib.hid (show Val3 w1 (w.heap.size) k n t from Val3.below ⟨by simp [go_sem], by simp [go_sem], by simp [go_sem]⟩ hb)
  have RB := Lib.hid (show Val3 w1 (w.heap.size + 1) k2 n2 t2 from Val3.below ⟨by simp [go_sem], by simp [go_sem], by simp [go_sem]⟩ hb)
  replace HE := Lib.hid (((HE.out.alloc _).alloc _).below hb)
  replace HB := Lib.hid (below_up (((HB.out.alloc (by have := HB.out.size; simp; try omega) _).alloc (by have := HB.out.size; simp; try omega) _)) hb (by have := HB.out.size; simp; omega))
  clear hb
  have zRAc0 := RA.out.c0
  have zRAc1 := RA.out.c1
  have zRAc2 := RA.out.c2
  have zRBc0 := RB.out.c0
  have zRBc1 := RB.out.c1
  have zRBc2 := RB.out.c2
  go_wp2_with fail
  refine (short_b2 k n t k2 n2 t2 true hs _ ).mono ?_
  rintro e w2 ⟨rfl, hb⟩
  replace RA := Lib.hid ((RA.out.alloc _).below hb)
  replace RB := Lib.hid ((RB.out.alloc _).below hb)
  replace HE := Lib.hid ((HE.out.alloc _).below hb)
  replace HB := Lib.hid (below_next HB.out HB.out.size hb)
  clear hb
  clear zRAc0 zRAc1 zRAc2 zRBc0 zRBc1 zRBc2
  go_wp2_with fail
  have C := fun W h => parse_any l (by have := HLX.out; omega) W h
  rw [HPX.out] at C
  refine (C _ HE.out).mono ?_
  clear C
  rintro e w3 ⟨rfl, hb⟩
  replace RA := Lib.hid (RA.out.below hb)
  replace RB := Lib.hid (RB.out.below hb)
  replace HE := Lib.hid (HE.out.below hb)
  replace HB := Lib.hid (below_up HB.out hb HB.out.size)
  clear hb
  clear hl2
  go_wp2_with fail
  have C := fun W => refparse_any l (by have := HLX.out; omega) W
  rw [HPX.out] at C
  refine (C _ ).mono ?_
  clear C
  rintro e w4 ⟨rfl, hb⟩
  replace RA := Lib.hid ((RA.out.alloc _).below hb)
  replace RB := Lib.hid ((RB.out.alloc _).below hb)
  have RX := Lib.hid (show Val3 w4 (w3.heap.size) pk pn pt from Val3.below ⟨by simp [go_sem], by simp [go_sem], by simp [go_sem]⟩ hb)
  replace HE := Lib.hid ((HE.out.alloc _).below hb)
  replace HB := Lib.hid (below_next HB.out HB.out.size hb)
  clear hb
  have yRAc0 := fun o => (RA.out.alloc o).c0
  have zRAc0 := RA.out.c0
  have yRAc1 := fun o => (RA.out.alloc o).c1
  have zRAc1 := RA.out.c1
  have yRAc2 := fun o => (RA.out.alloc o).c2
  have zRAc2 := RA.out.c2
  go_wp2_with fail
  have C := fun W h => cast_any k n t kind W h
  rw [HCX.out] at C
  refine (C _ (HE.out.alloc _)).mono ?_
  clear C
  rintro e w5 ⟨rfl, hb⟩
  replace RA := Lib.hid ((RA.out.alloc _).below hb)
  replace RB := Lib.hid ((RB.out.alloc _).below hb)
  replace RX := Lib.hid ((RX.out.alloc _).below hb)
  have RY := Lib.hid (show Val3 w5 (w4.heap.size) pk pn pt from Val3.below ⟨by simp [go_sem], by simp [go_sem], by simp [go_sem]⟩ hb)
  replace HE := Lib.hid ((HE.out.alloc _).below hb)
  replace HB := Lib.hid (below_next HB.out HB.out.size hb)
  clear hb
  clear yRAc0 zRAc0 yRAc1 zRAc1 yRAc2 zRAc2
  have yRAc0 := fun o => (RA.out.alloc o).c0
  have zRAc0 := RA.out.c0
  have yRAc1 := fun o => (RA.out.alloc o).c1
  have zRAc1 := RA.out.c1
  have yRAc2 := fun o => (RA.out.alloc o).c2
  have zRAc2 := RA.out.c2
  go_wp2_with fail
  have C := fun W => refcast_any k n t kind W
  rw [HCX.out] at C
  refine (C _ ).mono ?_
  clear C
  rintro e w6 ⟨rfl, hb⟩
  replace RA := Lib.hid ((RA.out.alloc _).below hb)
  replace RB := Lib.hid ((RB.out.alloc _).below hb)
  replace RX := Lib.hid ((RX.out.alloc _).below hb)
  replace RY := Lib.hid ((RY.out.alloc _).below hb)
  have RU := Lib.hid (show Val3 w6 (w5.heap.size) ck cn ct from Val3.below ⟨by simp [go_sem], by simp [go_sem], by simp [go_sem]⟩ hb)
  replace HE := Lib.hid ((HE.out.alloc _).below hb)
  replace HB := Lib.hid (below_next HB.out HB.out.size hb)
  clear hb
  clear yRAc0 zRAc0 yRAc1 zRAc1 yRAc2 zRAc2
  have yRXc0 := fun o => (RX.out.alloc o).c0
  have zRXc0 := RX.out.c0
  have yRXc1 := fun o => (RX.out.alloc o).c1
  have zRXc1 := RX.out.c1
  have yRXc2 := fun o => (RX.out.alloc o).c2
  have zRXc2 := RX.out.c2
  have yRYc0 := fun o => (RY.out.alloc o).c0
  have zRYc0 := RY.out.c0
  have yRYc1 := fun o => (RY.out.alloc o).c1
  have zRYc1 := RY.out.c1
  have yRYc2 := fun o => (RY.out.alloc o).c2
  have zRYc2 := RY.out.c2
  have yRUc0 := fun o => (RU.out.alloc o).c0
  have zRUc0 := RU.out.c0
  have yRUc1 := fun o => (RU.out.alloc o).c1
  have zRUc1 := RU.out.c1
  have yRUc2 := fun o => (RU.out.alloc o).c2
  have zRUc2 := RU.out.c2
  have qx := neq_no pk pn pt
  have qc := neq_no ck cn ct
  go_wp2_with fail
  clear yRXc0 zRXc0 yRXc1 zRXc1 yRXc2 zRXc2 yRYc0 zRYc0 yRYc1 zRYc1 yRYc2 zRYc2 yRUc0 zRUc0 yRUc1 zRUc1 yRUc2 zRUc2
  obtain ⟨w7, hW⟩ : ∃ W, W = w6.alloc (Obj.cells #[Value.int IntKind.i64 ck, Value.int IntKind.i64 cn, Value.string ⟨ct.toArray⟩] 23) := ⟨_, rfl⟩
  rw [← hW]
  replace RA := Lib.hid (by have h := RA.out.alloc (Obj.cells #[Value.int IntKind.i64 ck, Value.int IntKind.i64 cn, Value.string ⟨ct.toArray⟩] 23); rw [← hW] at h; exact h)
  replace RB := Lib.hid (by have h := RB.out.alloc (Obj.cells #[Value.int IntKind.i64 ck, Value.int IntKind.i64 cn, Value.string ⟨ct.toArray⟩] 23); rw [← hW] at h; exact h)
  replace RX := Lib.hid (by have h := RX.out.alloc (Obj.cells #[Value.int IntKind.i64 ck, Value.int IntKind.i64 cn, Value.string ⟨ct.toArray⟩] 23); rw [← hW] at h; exact h)
  replace RY := Lib.hid (by have h := RY.out.alloc (Obj.cells #[Value.int IntKind.i64 ck, Value.int IntKind.i64 cn, Value.string ⟨ct.toArray⟩] 23); rw [← hW] at h; exact h)
  replace RU := Lib.hid (by have h := RU.out.alloc (Obj.cells #[Value.int IntKind.i64 ck, Value.int IntKind.i64 cn, Value.string ⟨ct.toArray⟩] 23); rw [← hW] at h; exact h)
  have RV := Lib.hid (show Val3 w7 w6.heap.size ck cn ct by rw [hW]; exact ⟨by simp [go_sem], by simp [go_sem], by simp [go_sem]⟩)
  replace HE := Lib.hid (show Env w7 by rw [hW]; exact HE.out.alloc _)
  replace HB := Lib.hid (show Below w.heap.size w w7 by rw [hW]; exact HB.out.alloc HB.out.size _)
  clear hW
  clear qx qc RX RY RU RV
  have zRAc0 := RA.out.c0
  have zRAc1 := RA.out.c1
  have zRAc2 := RA.out.c2
  have zRBc0 := RB.out.c0
  have zRBc1 := RB.out.c1
  have zRBc2 := RB.out.c2
  go_region_held3 (fun w' => w'.cell? ⟨w.heap.size, 0, none⟩ = some (.int .i64 k) ∧ w'.cell? ⟨w.heap.size, 1, none⟩ = some (.int .i64 n) ∧ w'.cell? ⟨w.heap.size, 2, none⟩ = some (.string ⟨t.toArray⟩) ∧ w'.cell? ⟨w.heap.size + 1, 0, none⟩ = some (.int .i64 k2) ∧ w'.cell? ⟨w.heap.size + 1, 1, none⟩ = some (.int .i64 n2) ∧ w'.cell? ⟨w.heap.size + 1, 2, none⟩ = some (.string ⟨t2.toArray⟩)) (go_keep)
    (first | (go_at_call 17; refine (mvalid_eq (k := k) (n := n) (t := t) HVX.out _).mono ?_; rintro e v7_1 ⟨rfl, hv1⟩; have g1 := Lib.hid ((below_drewN _ w7 1).trans hv1); clear hv1; have RA_1 := Lib.hid (RA.out.below g1.out); have RB_1 := Lib.hid (RB.out.below g1.out); have E_1 := Lib.hid (HE.out.below g1.out); have k1RA0 := RA_1.out.c0; have k1RA1 := RA_1.out.c1; have k1RA2 := RA_1.out.c2; have k1RB0 := RB_1.out.c0; have k1RB1 := RB_1.out.c1; have k1RB2 := RB_1.out.c2) | (go_at_call 18; refine (mrefvalid_eq (k := k) (n := n) (t := t) HVX.out _).mono ?_; rintro e v7_2 ⟨rfl, hv2⟩; have g2 := Lib.hid hv2; clear hv2; have RA_2 := Lib.hid (RA_1.out.below g2.out); have RB_2 := Lib.hid (RB_1.out.below g2.out); have E_2 := Lib.hid (E_1.out.below g2.out); have k2RA0 := RA_2.out.c0; have k2RA1 := RA_2.out.c1; have k2RA2 := RA_2.out.c2; have k2RB0 := RB_2.out.c0; have k2RB1 := RB_2.out.c1; have k2RB2 := RB_2.out.c2) | (go_at_call 19; refine (mcompare_eq (k := k) (n := n) (t := t) (k2 := k2) (n2 := n2) (t2 := t2) HMX.out _).mono ?_; rintro e v7_3 ⟨rfl, hv3⟩; have g3 := Lib.hid hv3; clear hv3; have RA_3 := Lib.hid (RA_2.out.below g3.out); have RB_3 := Lib.hid (RB_2.out.below g3.out); have E_3 := Lib.hid (E_2.out.below g3.out); have k3RA0 := RA_3.out.c0; have k3RA1 := RA_3.out.c1; have k3RA2 := RA_3.out.c2; have k3RB0 := RB_3.out.c0; have k3RB1 := RB_3.out.c1; have k3RB2 := RB_3.out.c2) | (go_at_call 20; refine (mrefcompare_eq (k := k) (n := n) (t := t) (k2 := k2) (n2 := n2) (t2 := t2) HMX.out _).mono ?_; rintro e v7_4 ⟨rfl, hv4⟩; have g4 := Lib.hid hv4; clear hv4; have RA_4 := Lib.hid (RA_3.out.below g4.out); have RB_4 := Lib.hid (RB_3.out.below g4.out); have E_4 := Lib.hid (E_3.out.below g4.out); have k4RA0 := RA_4.out.c0; have k4RA1 := RA_4.out.c1; have k4RA2 := RA_4.out.c2; have k4RB0 := RB_4.out.c0; have k4RB1 := RB_4.out.c1; have k4RB2 := RB_4.out.c2) | (go_at_call 21; refine (mtext_eq (k := k) (n := n) (t := t) HTX.out _ E_4.out).mono ?_; rintro e v7_5 ⟨rfl, hv5⟩; have g5 := Lib.hid hv5; clear hv5; have RA_5 := Lib.hid (RA_4.out.below g5.out); have RB_5 := Lib.hid (RB_4.out.below g5.out); have E_5 := Lib.hid (E_4.out.below g5.out); have k5RA0 := RA_5.out.c0; have k5RA1 := RA_5.out.c1; have k5RA2 := RA_5.out.c2; have k5RB0 := RB_5.out.c0; have k5RB1 := RB_5.out.c1; have k5RB2 := RB_5.out.c2) | (go_at_call 22; refine (reftext_eq (k := k) (n := n) (t := t) HTX.out _).mono ?_; rintro e v7_6 ⟨rfl, hv6⟩; have g6 := Lib.hid hv6; clear hv6; have RA_6 := Lib.hid (RA_5.out.below g6.out); have RB_6 := Lib.hid (RB_5.out.below g6.out); have E_6 := Lib.hid (E_5.out.below g6.out); have k6RA0 := RA_6.out.c0; have k6RA1 := RA_6.out.c1; have k6RA2 := RA_6.out.c2; have k6RB0 := RB_6.out.c0; have k6RB1 := RB_6.out.c1; have k6RB2 := RB_6.out.c2) | (go_at_call 23; refine (mtest_eq (k := k) (n := n) (t := t) (k2 := k2) (n2 := n2) (t2 := t2) (op := op) (add := add) HBX.out _).mono ?_; rintro e v7_7 ⟨rfl, hv7⟩; have g7 := Lib.hid hv7; clear hv7; have RA_7 := Lib.hid (RA_6.out.below g7.out); have RB_7 := Lib.hid (RB_6.out.below g7.out); have E_7 := Lib.hid (E_6.out.below g7.out); have k7RA0 := RA_7.out.c0; have k7RA1 := RA_7.out.c1; have k7RA2 := RA_7.out.c2; have k7RB0 := RB_7.out.c0; have k7RB1 := RB_7.out.c1; have k7RB2 := RB_7.out.c2) | (go_at_call 24; refine (mreftest_eq (k := k) (n := n) (t := t) (k2 := k2) (n2 := n2) (t2 := t2) (op := op) (add := add) HBX.out _).mono ?_; rintro e v7_8 ⟨rfl, hv8⟩; have g8 := Lib.hid hv8; clear hv8; have RA_8 := Lib.hid (RA_7.out.below g8.out); have RB_8 := Lib.hid (RB_7.out.below g8.out); have E_8 := Lib.hid (E_7.out.below g8.out); have k8RA0 := RA_8.out.c0; have k8RA1 := RA_8.out.c1; have k8RA2 := RA_8.out.c2; have k8RB0 := RB_8.out.c0; have k8RB1 := RB_8.out.c1; have k8RB2 := RB_8.out.c2))
  replace HB := Lib.hid (below_up HB.out g1.out HB.out.size)
  replace HB := Lib.hid (below_up HB.out g2.out HB.out.size)
  replace HB := Lib.hid (below_up HB.out g3.out HB.out.size)
  replace HB := Lib.hid (below_up HB.out g4.out HB.out.size)
  replace HB := Lib.hid (below_up HB.out g5.out HB.out.size)
  replace HB := Lib.hid (below_up HB.out g6.out HB.out.size)
  replace HB := Lib.hid (below_up HB.out g7.out HB.out.size)
  replace HB := Lib.hid (below_up HB.out g8.out HB.out.size)
  replace RA := RA_8
  replace RB := RB_8
  replace HE := E_8
  clear zRAc0 zRAc1 zRAc2 zRBc0 zRBc1 zRBc2
  clear g1 g2 g3 g4 g5 g6 g7 g8 E_1 E_2 E_3 E_4 E_5 E_6 E_7 E_8 RA_1 RA_2 RA_3 RA_4 RA_5 RA_6 RA_7 RA_8 RB_1 RB_2 RB_3 RB_4 RB_5 RB_6 RB_7 RB_8 k1RA0 k1RA1 k1RA2 k1RB0 k1RB1 k1RB2 k2RA0 k2RA1 k2RA2 k2RB0 k2RB1 k2RB2 k3RA0 k3RA1 k3RA2 k3RB0 k3RB1 k3RB2 k4RA0 k4RA1 k4RA2 k4RB0 k4RB1 k4RB2 k5RA0 k5RA1 k5RA2 k5RB0 k5RB1 k5RB2 k6RA0 k6RA1 k6RA2 k6RB0 k6RB1 k6RB2 k7RA0 k7RA1 k7RA2 k7RB0 k7RB1 k7RB2 k8RA0 k8RA1 k8RA2 k8RB0 k8RB1 k8RB2
  go_wp2_with fail
  go_ret
  exact ⟨rfl, HB.out⟩


theorem match_any (k n : Int) (t : List UInt8) (k2 n2 : Int) (t2 : List UInt8) (op add kind : Int) (l : List UInt8) (w : World) (he : Env w) :
    Calls Tryd.prog 3 #[V k n t, V k2 n2 t2, .int .i64 op, .int .i64 add, .int .i64 kind, .string ⟨l.toArray⟩] w fun e w' => e = .returned (.bool true) ∧ Below w.heap.size w w' := by
  cases hs : shortB [t, t2]
  · exact match_long1 k n t k2 n2 t2 op add kind l hs w he
  by_cases hl : 500 < l.length
  · exact match_long2 k n t k2 n2 t2 op add kind l hs hl w he
  exact match_all k n t k2 n2 t2 op add kind l hs (by omega) _ _ _ _ rfl _ _ _ _ rfl _ rfl _ rfl _ rfl _ rfl w he
end Go.Proofs.YtdoenjkebeidlaaDoor
