/- The walks of ValueOrder. -/
import Derived.Test.YtdoenjkebeidlaaDoorHead
import Derived.Test.YtdoenjkebeidlaaDoorEql
namespace Go.Proofs.YtdoenjkebeidlaaDoor
open Go.RowKit

theorem short3 (k n : Int) (t : List UInt8) (k2 n2 : Int) (t2 : List UInt8) (k3 n3 : Int) (t3 : List UInt8) (W : World) :
    Calls Tryd.prog 12 #[.slice (some ⟨W.heap.size, 0, none⟩) 3 3] (W.alloc (Obj.cells #[.int .i64 k, .int .i64 n, .string ⟨t.toArray⟩, .int .i64 k2, .int .i64 n2, .string ⟨t2.toArray⟩, .int .i64 k3, .int .i64 n3, .string ⟨t3.toArray⟩] 23)) fun e w' => e = .returned (.bool (shortB [t, t2, t3])) ∧ W.alloc (Obj.cells #[.int .i64 k, .int .i64 n, .string ⟨t.toArray⟩, .int .i64 k2, .int .i64 n2, .string ⟨t2.toArray⟩, .int .i64 k3, .int .i64 n3, .string ⟨t3.toArray⟩] 23) = w' :=
  short_any [t, t2, t3] W.heap.size 0 3 (by simp) _ (fun i h => by
    rcases (by simp at h; omega : i = 0 ∨ i = 1 ∨ i = 2) with rfl | rfl | rfl
    · simp [go_sem]
    · simp [go_sem]
    · simp [go_sem])
theorem short2 (k n : Int) (t : List UInt8) (k2 n2 : Int) (t2 : List UInt8) (W : World) :
    Calls Tryd.prog 12 #[.slice (some ⟨W.heap.size, 0, none⟩) 2 2] (W.alloc (Obj.cells #[.int .i64 k, .int .i64 n, .string ⟨t.toArray⟩, .int .i64 k2, .int .i64 n2, .string ⟨t2.toArray⟩] 23)) fun e w' => e = .returned (.bool (shortB [t, t2])) ∧ W.alloc (Obj.cells #[.int .i64 k, .int .i64 n, .string ⟨t.toArray⟩, .int .i64 k2, .int .i64 n2, .string ⟨t2.toArray⟩] 23) = w' :=
  short_any [t, t2] W.heap.size 0 2 (by simp) _ (fun i h => by
    rcases (by simp at h; omega : i = 0 ∨ i = 1) with rfl | rfl
    · simp [go_sem]
    · simp [go_sem])
theorem short1 (k n : Int) (t : List UInt8) (W : World) :
    Calls Tryd.prog 12 #[.slice (some ⟨W.heap.size, 0, none⟩) 1 1] (W.alloc (Obj.cells #[.int .i64 k, .int .i64 n, .string ⟨t.toArray⟩] 23)) fun e w' => e = .returned (.bool (shortB [t])) ∧ W.alloc (Obj.cells #[.int .i64 k, .int .i64 n, .string ⟨t.toArray⟩] 23) = w' :=
  short_any [t] W.heap.size 0 1 (by simp) _ (fun i h => by
    rcases (by simp at h; omega : i = 0) with rfl
    simp [go_sem])
theorem short_b3 (k n : Int) (t : List UInt8) (k2 n2 : Int) (t2 : List UInt8) (k3 n3 : Int) (t3 : List UInt8) (b : Bool) (hb : shortB [t, t2, t3] = b) (W : World) :
    Calls Tryd.prog 12 #[.slice (some ⟨W.heap.size, 0, none⟩) 3 3] (W.alloc (Obj.cells #[.int .i64 k, .int .i64 n, .string ⟨t.toArray⟩, .int .i64 k2, .int .i64 n2, .string ⟨t2.toArray⟩, .int .i64 k3, .int .i64 n3, .string ⟨t3.toArray⟩] 23)) fun e w' => e = .returned (.bool b) ∧ Below (W.alloc (Obj.cells #[.int .i64 k, .int .i64 n, .string ⟨t.toArray⟩, .int .i64 k2, .int .i64 n2, .string ⟨t2.toArray⟩, .int .i64 k3, .int .i64 n3, .string ⟨t3.toArray⟩] 23)).heap.size (W.alloc (Obj.cells #[.int .i64 k, .int .i64 n, .string ⟨t.toArray⟩, .int .i64 k2, .int .i64 n2, .string ⟨t2.toArray⟩, .int .i64 k3, .int .i64 n3, .string ⟨t3.toArray⟩] 23)) w' := by
  subst hb
  refine (short3 k n t k2 n2 t2 k3 n3 t3 W).mono ?_
  rintro e w' ⟨rfl, rfl⟩
  exact ⟨rfl, Below.refl _ _⟩
theorem short_b2 (k n : Int) (t : List UInt8) (k2 n2 : Int) (t2 : List UInt8) (b : Bool) (hb : shortB [t, t2] = b) (W : World) :
    Calls Tryd.prog 12 #[.slice (some ⟨W.heap.size, 0, none⟩) 2 2] (W.alloc (Obj.cells #[.int .i64 k, .int .i64 n, .string ⟨t.toArray⟩, .int .i64 k2, .int .i64 n2, .string ⟨t2.toArray⟩] 23)) fun e w' => e = .returned (.bool b) ∧ Below (W.alloc (Obj.cells #[.int .i64 k, .int .i64 n, .string ⟨t.toArray⟩, .int .i64 k2, .int .i64 n2, .string ⟨t2.toArray⟩] 23)).heap.size (W.alloc (Obj.cells #[.int .i64 k, .int .i64 n, .string ⟨t.toArray⟩, .int .i64 k2, .int .i64 n2, .string ⟨t2.toArray⟩] 23)) w' := by
  subst hb
  refine (short2 k n t k2 n2 t2 W).mono ?_
  rintro e w' ⟨rfl, rfl⟩
  exact ⟨rfl, Below.refl _ _⟩
theorem short_b1 (k n : Int) (t : List UInt8) (b : Bool) (hb : shortB [t] = b) (W : World) :
    Calls Tryd.prog 12 #[.slice (some ⟨W.heap.size, 0, none⟩) 1 1] (W.alloc (Obj.cells #[.int .i64 k, .int .i64 n, .string ⟨t.toArray⟩] 23)) fun e w' => e = .returned (.bool b) ∧ Below (W.alloc (Obj.cells #[.int .i64 k, .int .i64 n, .string ⟨t.toArray⟩] 23)).heap.size (W.alloc (Obj.cells #[.int .i64 k, .int .i64 n, .string ⟨t.toArray⟩] 23)) w' := by
  subst hb
  refine (short1 k n t W).mono ?_
  rintro e w' ⟨rfl, rfl⟩
  exact ⟨rfl, Below.refl _ _⟩

set_option maxRecDepth 100000 in
set_option maxHeartbeats 1600000 in
theorem order_long (k n : Int) (t : List UInt8) (k2 n2 : Int) (t2 : List UInt8) (k3 n3 : Int) (t3 : List UInt8) (hs : shortB [t, t2, t3] = false) (w : World) (he : Env w) :
    Calls Tryd.prog 5 #[V k n t, V k2 n2 t2, V k3 n3 t3] w fun e w' => e = .returned (.bool true) ∧ Below w.heap.size w w' := by
  have HE := Lib.hid he
  have HB := Lib.hid (Below.refl w.heap.size w)
  clear he
  go_enter Tryd.func5, Tryd.ntmps5
  go_wp2_with fail
  refine (head_any _ (((HE.out.alloc _).alloc _).alloc _)).mono ?_
  rintro e w1 ⟨rfl, hb⟩
  have RA := Lib.hid (show Val3 w1 (w.heap.size) k n t from Val3.below ⟨by simp [go_sem], by simp [go_sem], by simp [go_sem]⟩ hb)
  have RB := Lib.hid (show Val3 w1 (w.heap.size + 1) k2 n2 t2 from Val3.below ⟨by simp [go_sem], by simp [go_sem], by simp [go_sem]⟩ hb)
  have RC := Lib.hid (show Val3 w1 (w.heap.size + 1 + 1) k3 n3 t3 from Val3.below ⟨by simp [go_sem], by simp [go_sem], by simp [go_sem]⟩ hb)
  replace HE := Lib.hid ((((HE.out.alloc _).alloc _).alloc _).below hb)
  replace HB := Lib.hid (below_up ((((HB.out.alloc (by have := HB.out.size; simp; try omega) _).alloc (by have := HB.out.size; simp; try omega) _).alloc (by have := HB.out.size; simp; try omega) _)) hb (by have := HB.out.size; simp; omega))
  clear hb
  have zRAc0 := RA.out.c0
  have zRAc1 := RA.out.c1
  have zRAc2 := RA.out.c2
  have zRBc0 := RB.out.c0
  have zRBc1 := RB.out.c1
  have zRBc2 := RB.out.c2
  have zRCc0 := RC.out.c0
  have zRCc1 := RC.out.c1
  have zRCc2 := RC.out.c2
  go_wp2_with fail
  refine (short_b3 k n t k2 n2 t2 k3 n3 t3 false hs _ ).mono ?_
  rintro e w2 ⟨rfl, hb⟩
  replace RA := Lib.hid ((RA.out.alloc _).below hb)
  replace RB := Lib.hid ((RB.out.alloc _).below hb)
  replace RC := Lib.hid ((RC.out.alloc _).below hb)
  replace HE := Lib.hid ((HE.out.alloc _).below hb)
  replace HB := Lib.hid (below_next HB.out HB.out.size hb)
  clear hb
  clear zRAc0 zRAc1 zRAc2 zRBc0 zRBc1 zRBc2 zRCc0 zRCc1 zRCc2
  go_wp2_with fail
  go_ret
  exact ⟨rfl, HB.out⟩


set_option maxRecDepth 100000 in
set_option maxHeartbeats 1600000 in
theorem order_dp (k n : Int) (t : List UInt8) (k2 n2 : Int) (t2 : List UInt8) (k3 n3 : Int) (t3 : List UInt8) (hs : shortB [t, t2, t3] = true) (hc : cmpV k n t k2 n2 t2 = 1) (hc2 : cmpV k2 n2 t2 k n t = -1) (hne : ¬ (k = k2 ∧ n = n2 ∧ t = t2)) (w : World) (he : Env w) :
    Calls Tryd.prog 5 #[V k n t, V k2 n2 t2, V k3 n3 t3] w fun e w' => e = .returned (.bool true) ∧ Below w.heap.size w w' := by
  have HC := Lib.hid hc; have HC2 := Lib.hid hc2; clear hc hc2
  have HE := Lib.hid he
  have HB := Lib.hid (Below.refl w.heap.size w)
  clear he
  go_enter Tryd.func5, Tryd.ntmps5
  go_wp2_with fail
  refine (head_any _ (((HE.out.alloc _).alloc _).alloc _)).mono ?_
  rintro e w1 ⟨rfl, hb⟩
  have RA := Lib.hid (show Val3 w1 (w.heap.size) k n t from Val3.below ⟨by simp [go_sem], by simp [go_sem], by simp [go_sem]⟩ hb)
  have RB := Lib.hid (show Val3 w1 (w.heap.size + 1) k2 n2 t2 from Val3.below ⟨by simp [go_sem], by simp [go_sem], by simp [go_sem]⟩ hb)
  have RC := Lib.hid (show Val3 w1 (w.heap.size + 1 + 1) k3 n3 t3 from Val3.below ⟨by simp [go_sem], by simp [go_sem], by simp [go_sem]⟩ hb)
  replace HE := Lib.hid ((((HE.out.alloc _).alloc _).alloc _).below hb)
  replace HB := Lib.hid (below_up ((((HB.out.alloc (by have := HB.out.size; simp; try omega) _).alloc (by have := HB.out.size; simp; try omega) _).alloc (by have := HB.out.size; simp; try omega) _)) hb (by have := HB.out.size; simp; omega))
  clear hb
  have zRAc0 := RA.out.c0
  have zRAc1 := RA.out.c1
  have zRAc2 := RA.out.c2
  have zRBc0 := RB.out.c0
  have zRBc1 := RB.out.c1
  have zRBc2 := RB.out.c2
  have zRCc0 := RC.out.c0
  have zRCc1 := RC.out.c1
  have zRCc2 := RC.out.c2
  go_wp2_with fail
  refine (short_b3 k n t k2 n2 t2 k3 n3 t3 true hs _ ).mono ?_
  rintro e w2 ⟨rfl, hb⟩
  replace RA := Lib.hid ((RA.out.alloc _).below hb)
  replace RB := Lib.hid ((RB.out.alloc _).below hb)
  replace RC := Lib.hid ((RC.out.alloc _).below hb)
  replace HE := Lib.hid ((HE.out.alloc _).below hb)
  replace HB := Lib.hid (below_next HB.out HB.out.size hb)
  clear hb
  clear zRAc0 zRAc1 zRAc2 zRBc0 zRBc1 zRBc2 zRCc0 zRCc1 zRCc2
  have zRAc0 := RA.out.c0
  have zRAc1 := RA.out.c1
  have zRAc2 := RA.out.c2
  have zRBc0 := RB.out.c0
  have zRBc1 := RB.out.c1
  have zRBc2 := RB.out.c2
  go_wp2_with fail
  have C := fun W => compare_any k n t k2 n2 t2 W
  rw [HC.out] at C
  refine (C _ ).mono ?_
  clear C
  rintro e w3 ⟨rfl, hb⟩
  replace RA := Lib.hid (RA.out.below hb)
  replace RB := Lib.hid (RB.out.below hb)
  replace RC := Lib.hid (RC.out.below hb)
  replace HE := Lib.hid (HE.out.below hb)
  replace HB := Lib.hid (below_up HB.out hb HB.out.size)
  clear hb
  clear zRAc0 zRAc1 zRAc2 zRBc0 zRBc1 zRBc2
  have zRAc0 := RA.out.c0
  have zRAc1 := RA.out.c1
  have zRAc2 := RA.out.c2
  have zRBc0 := RB.out.c0
  have zRBc1 := RB.out.c1
  have zRBc2 := RB.out.c2
  have qe := eql_no hne
  go_wp2_with fail
  have C := fun W => compare_any k2 n2 t2 k n t W
  rw [HC2.out] at C
  refine (C _ ).mono ?_
  clear C
  rintro e w4 ⟨rfl, hb⟩
  replace RA := Lib.hid (RA.out.below hb)
  replace RB := Lib.hid (RB.out.below hb)
  replace RC := Lib.hid (RC.out.below hb)
  replace HE := Lib.hid (HE.out.below hb)
  replace HB := Lib.hid (below_up HB.out hb HB.out.size)
  clear hb
  clear zRAc0 zRAc1 zRAc2 zRBc0 zRBc1 zRBc2
  clear qe
  go_wp2_with fail
  go_ret
  exact ⟨rfl, HB.out⟩


set_option maxRecDepth 100000 in
set_option maxHeartbeats 1600000 in
theorem order_dmgt (k n : Int) (t : List UInt8) (k2 n2 : Int) (t2 : List UInt8) (k3 n3 : Int) (t3 : List UInt8) (hs : shortB [t, t2, t3] = true) (hc : cmpV k n t k2 n2 t2 = -1) (hc2 : cmpV k2 n2 t2 k n t = 1) (hne : ¬ (k = k2 ∧ n = n2 ∧ t = t2)) (d : Int) (hd : cmpV k2 n2 t2 k3 n3 t3 = d) (hdd : 0 < d) (w : World) (he : Env w) :
    Calls Tryd.prog 5 #[V k n t, V k2 n2 t2, V k3 n3 t3] w fun e w' => e = .returned (.bool true) ∧ Below w.heap.size w w' := by
  have HC := Lib.hid hc; have HC2 := Lib.hid hc2; clear hc hc2
  have HD := Lib.hid hd; clear hd
  have HE := Lib.hid he
  have HB := Lib.hid (Below.refl w.heap.size w)
  clear he
  go_enter Tryd.func5, Tryd.ntmps5
  go_wp2_with fail
  refine (head_any _ (((HE.out.alloc _).alloc _).alloc _)).mono ?_
  rintro e w1 ⟨rfl, hb⟩
  have RA := Lib.hid (show Val3 w1 (w.heap.size) k n t from Val3.below ⟨by simp [go_sem], by simp [go_sem], by simp [go_sem]⟩ hb)
  have RB := Lib.hid (show Val3 w1 (w.heap.size + 1) k2 n2 t2 from Val3.below ⟨by simp [go_sem], by simp [go_sem], by simp [go_sem]⟩ hb)
  have RC := Lib.hid (show Val3 w1 (w.heap.size + 1 + 1) k3 n3 t3 from Val3.below ⟨by simp [go_sem], by simp [go_sem], by simp [go_sem]⟩ hb)
  replace HE := Lib.hid ((((HE.out.alloc _).alloc _).alloc _).below hb)
  replace HB := Lib.hid (below_up ((((HB.out.alloc (by have := HB.out.size; simp; try omega) _).alloc (by have := HB.out.size; simp; try omega) _).alloc (by have := HB.out.size; simp; try omega) _)) hb (by have := HB.out.size; simp; omega))
  clear hb
  have zRAc0 := RA.out.c0
  have zRAc1 := RA.out.c1
  have zRAc2 := RA.out.c2
  have zRBc0 := RB.out.c0
  have zRBc1 := RB.out.c1
  have zRBc2 := RB.out.c2
  have zRCc0 := RC.out.c0
  have zRCc1 := RC.out.c1
  have zRCc2 := RC.out.c2
  go_wp2_with fail
  refine (short_b3 k n t k2 n2 t2 k3 n3 t3 true hs _ ).mono ?_
  rintro e w2 ⟨rfl, hb⟩
  replace RA := Lib.hid ((RA.out.alloc _).below hb)
  replace RB := Lib.hid ((RB.out.alloc _).below hb)
  replace RC := Lib.hid ((RC.out.alloc _).below hb)
  replace HE := Lib.hid ((HE.out.alloc _).below hb)
  replace HB := Lib.hid (below_next HB.out HB.out.size hb)
  clear hb
  clear zRAc0 zRAc1 zRAc2 zRBc0 zRBc1 zRBc2 zRCc0 zRCc1 zRCc2
  have zRAc0 := RA.out.c0
  have zRAc1 := RA.out.c1
  have zRAc2 := RA.out.c2
  have zRBc0 := RB.out.c0
  have zRBc1 := RB.out.c1
  have zRBc2 := RB.out.c2
  go_wp2_with fail
  have C := fun W => compare_any k n t k2 n2 t2 W
  rw [HC.out] at C
  refine (C _ ).mono ?_
  clear C
  rintro e w3 ⟨rfl, hb⟩
  replace RA := Lib.hid (RA.out.below hb)
  replace RB := Lib.hid (RB.out.below hb)
  replace RC := Lib.hid (RC.out.below hb)
  replace HE := Lib.hid (HE.out.below hb)
  replace HB := Lib.hid (below_up HB.out hb HB.out.size)
  clear hb
  clear zRAc0 zRAc1 zRAc2 zRBc0 zRBc1 zRBc2
  have zRAc0 := RA.out.c0
  have zRAc1 := RA.out.c1
  have zRAc2 := RA.out.c2
  have zRBc0 := RB.out.c0
  have zRBc1 := RB.out.c1
  have zRBc2 := RB.out.c2
  have qe := eql_no hne
  go_wp2_with fail
  have C := fun W => compare_any k2 n2 t2 k n t W
  rw [HC2.out] at C
  refine (C _ ).mono ?_
  clear C
  rintro e w4 ⟨rfl, hb⟩
  replace RA := Lib.hid (RA.out.below hb)
  replace RB := Lib.hid (RB.out.below hb)
  replace RC := Lib.hid (RC.out.below hb)
  replace HE := Lib.hid (HE.out.below hb)
  replace HB := Lib.hid (below_up HB.out hb HB.out.size)
  clear hb
  clear zRAc0 zRAc1 zRAc2 zRBc0 zRBc1 zRBc2
  clear qe
  have zRBc0 := RB.out.c0
  have zRBc1 := RB.out.c1
  have zRBc2 := RB.out.c2
  have zRCc0 := RC.out.c0
  have zRCc1 := RC.out.c1
  have zRCc2 := RC.out.c2
  go_wp2_with fail
  have C := fun W => compare_any k2 n2 t2 k3 n3 t3 W
  rw [HD.out] at C
  refine (C _ ).mono ?_
  clear C
  rintro e w5 ⟨rfl, hb⟩
  replace RA := Lib.hid (RA.out.below hb)
  replace RB := Lib.hid (RB.out.below hb)
  replace RC := Lib.hid (RC.out.below hb)
  replace HE := Lib.hid (HE.out.below hb)
  replace HB := Lib.hid (below_up HB.out hb HB.out.size)
  clear hb
  clear zRBc0 zRBc1 zRBc2 zRCc0 zRCc1 zRCc2
  go_wp2_with fail
  go_ret
  exact ⟨rfl, HB.out⟩


set_option maxRecDepth 100000 in
set_option maxHeartbeats 1600000 in
theorem order_dmle (k n : Int) (t : List UInt8) (k2 n2 : Int) (t2 : List UInt8) (k3 n3 : Int) (t3 : List UInt8) (hs : shortB [t, t2, t3] = true) (hc : cmpV k n t k2 n2 t2 = -1) (hc2 : cmpV k2 n2 t2 k n t = 1) (hne : ¬ (k = k2 ∧ n = n2 ∧ t = t2)) (d : Int) (hd : cmpV k2 n2 t2 k3 n3 t3 = d) (hdd : d ≤ 0) (f : Int) (hf : cmpV k n t k3 n3 t3 = f) (hff : f ≤ 0) (w : World) (he : Env w) :
    Calls Tryd.prog 5 #[V k n t, V k2 n2 t2, V k3 n3 t3] w fun e w' => e = .returned (.bool true) ∧ Below w.heap.size w w' := by
  have HC := Lib.hid hc; have HC2 := Lib.hid hc2; clear hc hc2
  have HD := Lib.hid hd; clear hd
  have HF := Lib.hid hf; clear hf
  have HE := Lib.hid he
  have HB := Lib.hid (Below.refl w.heap.size w)
  clear he
  go_enter Tryd.func5, Tryd.ntmps5
  go_wp2_with fail
  refine (head_any _ (((HE.out.alloc _).alloc _).alloc _)).mono ?_
  rintro e w1 ⟨rfl, hb⟩
  have RA := Lib.hid (show Val3 w1 (w.heap.size) k n t from Val3.below ⟨by simp [go_sem], by simp [go_sem], by simp [go_sem]⟩ hb)
  have RB := Lib.hid (show Val3 w1 (w.heap.size + 1) k2 n2 t2 from Val3.below ⟨by simp [go_sem], by simp [go_sem], by simp [go_sem]⟩ hb)
  have RC := Lib.hid (show Val3 w1 (w.heap.size + 1 + 1) k3 n3 t3 from Val3.below ⟨by simp [go_sem], by simp [go_sem], by simp [go_sem]⟩ hb)
  replace HE := Lib.hid ((((HE.out.alloc _).alloc _).alloc _).below hb)
  replace HB := Lib.hid (below_up ((((HB.out.alloc (by have := HB.out.size; simp; try omega) _).alloc (by have := HB.out.size; simp; try omega) _).alloc (by have := HB.out.size; simp; try omega) _)) hb (by have := HB.out.size; simp; omega))
  clear hb
  have zRAc0 := RA.out.c0
  have zRAc1 := RA.out.c1
  have zRAc2 := RA.out.c2
  have zRBc0 := RB.out.c0
  have zRBc1 := RB.out.c1
  have zRBc2 := RB.out.c2
  have zRCc0 := RC.out.c0
  have zRCc1 := RC.out.c1
  have zRCc2 := RC.out.c2
  go_wp2_with fail
  refine (short_b3 k n t k2 n2 t2 k3 n3 t3 true hs _ ).mono ?_
  rintro e w2 ⟨rfl, hb⟩
  replace RA := Lib.hid ((RA.out.alloc _).below hb)
  replace RB := Lib.hid ((RB.out.alloc _).below hb)
  replace RC := Lib.hid ((RC.out.alloc _).below hb)
  replace HE := Lib.hid ((HE.out.alloc _).below hb)
  replace HB := Lib.hid (below_next HB.out HB.out.size hb)
  clear hb
  clear zRAc0 zRAc1 zRAc2 zRBc0 zRBc1 zRBc2 zRCc0 zRCc1 zRCc2
  have zRAc0 := RA.out.c0
  have zRAc1 := RA.out.c1
  have zRAc2 := RA.out.c2
  have zRBc0 := RB.out.c0
  have zRBc1 := RB.out.c1
  have zRBc2 := RB.out.c2
  go_wp2_with fail
  have C := fun W => compare_any k n t k2 n2 t2 W
  rw [HC.out] at C
  refine (C _ ).mono ?_
  clear C
  rintro e w3 ⟨rfl, hb⟩
  replace RA := Lib.hid (RA.out.below hb)
  replace RB := Lib.hid (RB.out.below hb)
  replace RC := Lib.hid (RC.out.below hb)
  replace HE := Lib.hid (HE.out.below hb)
  replace HB := Lib.hid (below_up HB.out hb HB.out.size)
  clear hb
  clear zRAc0 zRAc1 zRAc2 zRBc0 zRBc1 zRBc2
  have zRAc0 := RA.out.c0
  have zRAc1 := RA.out.c1
  have zRAc2 := RA.out.c2
  have zRBc0 := RB.out.c0
  have zRBc1 := RB.out.c1
  have zRBc2 := RB.out.c2
  have qe := eql_no hne
  go_wp2_with fail
  have C := fun W => compare_any k2 n2 t2 k n t W
  rw [HC2.out] at C
  refine (C _ ).mono ?_
  clear C
  rintro e w4 ⟨rfl, hb⟩
  replace RA := Lib.hid (RA.out.below hb)
  replace RB := Lib.hid (RB.out.below hb)
  replace RC := Lib.hid (RC.out.below hb)
  replace HE := Lib.hid (HE.out.below hb)
  replace HB := Lib.hid (below_up HB.out hb HB.out.size)
  clear hb
  clear zRAc0 zRAc1 zRAc2 zRBc0 zRBc1 zRBc2
  clear qe
  have zRBc0 := RB.out.c0
  have zRBc1 := RB.out.c1
  have zRBc2 := RB.out.c2
  have zRCc0 := RC.out.c0
  have zRCc1 := RC.out.c1
  have zRCc2 := RC.out.c2
  go_wp2_with fail
  have C := fun W => compare_any k2 n2 t2 k3 n3 t3 W
  rw [HD.out] at C
  refine (C _ ).mono ?_
  clear C
  rintro e w5 ⟨rfl, hb⟩
  replace RA := Lib.hid (RA.out.below hb)
  replace RB := Lib.hid (RB.out.below hb)
  replace RC := Lib.hid (RC.out.below hb)
  replace HE := Lib.hid (HE.out.below hb)
  replace HB := Lib.hid (below_up HB.out hb HB.out.size)
  clear hb
  clear zRBc0 zRBc1 zRBc2 zRCc0 zRCc1 zRCc2
  have zRAc0 := RA.out.c0
  have zRAc1 := RA.out.c1
  have zRAc2 := RA.out.c2
  have zRCc0 := RC.out.c0
  have zRCc1 := RC.out.c1
  have zRCc2 := RC.out.c2
  go_wp2_with fail
  have C := fun W => compare_any k n t k3 n3 t3 W
  rw [HF.out] at C
  refine (C _ ).mono ?_
  clear C
  rintro e w6 ⟨rfl, hb⟩
  replace RA := Lib.hid (RA.out.below hb)
  replace RB := Lib.hid (RB.out.below hb)
  replace RC := Lib.hid (RC.out.below hb)
  replace HE := Lib.hid (HE.out.below hb)
  replace HB := Lib.hid (below_up HB.out hb HB.out.size)
  clear hb
  clear zRAc0 zRAc1 zRAc2 zRCc0 zRCc1 zRCc2
  go_wp2_with fail
  go_ret
  exact ⟨rfl, HB.out⟩


set_option maxRecDepth 100000 in
set_option maxHeartbeats 1600000 in
theorem order_szgt (k n : Int) (t : List UInt8) (k3 n3 : Int) (t3 : List UInt8) (hs : shortB [t, t, t3] = true) (hc : cmpV k n t k n t = 0) (hc2 : cmpV k n t k n t = 0) (d : Int) (hd : cmpV k n t k3 n3 t3 = d) (hdd : 0 < d) (w : World) (he : Env w) :
    Calls Tryd.prog 5 #[V k n t, V k n t, V k3 n3 t3] w fun e w' => e = .returned (.bool true) ∧ Below w.heap.size w w' := by
  have HC := Lib.hid hc; have HC2 := Lib.hid hc2; clear hc hc2
  have HD := Lib.hid hd; clear hd
  have HE := Lib.hid he
  have HB := Lib.hid (Below.refl w.heap.size w)
  clear he
  go_enter Tryd.func5, Tryd.ntmps5
  go_wp2_with fail
  refine (head_any _ (((HE.out.alloc _).alloc _).alloc _)).mono ?_
  rintro e w1 ⟨rfl, hb⟩
  have RA := Lib.hid (show Val3 w1 (w.heap.size) k n t from Val3.below ⟨by simp [go_sem], by simp [go_sem], by simp [go_sem]⟩ hb)
  have RB := Lib.hid (show Val3 w1 (w.heap.size + 1) k n t from Val3.below ⟨by simp [go_sem], by simp [go_sem], by simp [go_sem]⟩ hb)
  have RC := Lib.hid (show Val3 w1 (w.heap.size + 1 + 1) k3 n3 t3 from Val3.below ⟨by simp [go_sem], by simp [go_sem], by simp [go_sem]⟩ hb)
  replace HE := Lib.hid ((((HE.out.alloc _).alloc _).alloc _).below hb)
  replace HB := Lib.hid (below_up ((((HB.out.alloc (by have := HB.out.size; simp; try omega) _).alloc (by have := HB.out.size; simp; try omega) _).alloc (by have := HB.out.size; simp; try omega) _)) hb (by have := HB.out.size; simp; omega))
  clear hb
  have zRAc0 := RA.out.c0
  have zRAc1 := RA.out.c1
  have zRAc2 := RA.out.c2
  have zRBc0 := RB.out.c0
  have zRBc1 := RB.out.c1
  have zRBc2 := RB.out.c2
  have zRCc0 := RC.out.c0
  have zRCc1 := RC.out.c1
  have zRCc2 := RC.out.c2
  go_wp2_with fail
  refine (short_b3 k n t k n t k3 n3 t3 true hs _ ).mono ?_
  rintro e w2 ⟨rfl, hb⟩
  replace RA := Lib.hid ((RA.out.alloc _).below hb)
  replace RB := Lib.hid ((RB.out.alloc _).below hb)
  replace RC := Lib.hid ((RC.out.alloc _).below hb)
  replace HE := Lib.hid ((HE.out.alloc _).below hb)
  replace HB := Lib.hid (below_next HB.out HB.out.size hb)
  clear hb
  clear zRAc0 zRAc1 zRAc2 zRBc0 zRBc1 zRBc2 zRCc0 zRCc1 zRCc2
  have zRAc0 := RA.out.c0
  have zRAc1 := RA.out.c1
  have zRAc2 := RA.out.c2
  have zRBc0 := RB.out.c0
  have zRBc1 := RB.out.c1
  have zRBc2 := RB.out.c2
  go_wp2_with fail
  have C := fun W => compare_any k n t k n t W
  rw [HC.out] at C
  refine (C _ ).mono ?_
  clear C
  rintro e w3 ⟨rfl, hb⟩
  replace RA := Lib.hid (RA.out.below hb)
  replace RB := Lib.hid (RB.out.below hb)
  replace RC := Lib.hid (RC.out.below hb)
  replace HE := Lib.hid (HE.out.below hb)
  replace HB := Lib.hid (below_up HB.out hb HB.out.size)
  clear hb
  clear zRAc0 zRAc1 zRAc2 zRBc0 zRBc1 zRBc2
  have zRAc0 := RA.out.c0
  have zRAc1 := RA.out.c1
  have zRAc2 := RA.out.c2
  have zRBc0 := RB.out.c0
  have zRBc1 := RB.out.c1
  have zRBc2 := RB.out.c2
  have qe := eql_yes k n t
  go_wp2_with fail
  have C := fun W => compare_any k n t k n t W
  rw [HC2.out] at C
  refine (C _ ).mono ?_
  clear C
  rintro e w4 ⟨rfl, hb⟩
  replace RA := Lib.hid (RA.out.below hb)
  replace RB := Lib.hid (RB.out.below hb)
  replace RC := Lib.hid (RC.out.below hb)
  replace HE := Lib.hid (HE.out.below hb)
  replace HB := Lib.hid (below_up HB.out hb HB.out.size)
  clear hb
  clear zRAc0 zRAc1 zRAc2 zRBc0 zRBc1 zRBc2
  clear qe
  have zRBc0 := RB.out.c0
  have zRBc1 := RB.out.c1
  have zRBc2 := RB.out.c2
  have zRCc0 := RC.out.c0
  have zRCc1 := RC.out.c1
  have zRCc2 := RC.out.c2
  go_wp2_with fail
  have C := fun W => compare_any k n t k3 n3 t3 W
  rw [HD.out] at C
  refine (C _ ).mono ?_
  clear C
  rintro e w5 ⟨rfl, hb⟩
  replace RA := Lib.hid (RA.out.below hb)
  replace RB := Lib.hid (RB.out.below hb)
  replace RC := Lib.hid (RC.out.below hb)
  replace HE := Lib.hid (HE.out.below hb)
  replace HB := Lib.hid (below_up HB.out hb HB.out.size)
  clear hb
  clear zRBc0 zRBc1 zRBc2 zRCc0 zRCc1 zRCc2
  go_wp2_with fail
  go_ret
  exact ⟨rfl, HB.out⟩


set_option maxRecDepth 100000 in
set_option maxHeartbeats 1600000 in
theorem order_szle (k n : Int) (t : List UInt8) (k3 n3 : Int) (t3 : List UInt8) (hs : shortB [t, t, t3] = true) (hc : cmpV k n t k n t = 0) (hc2 : cmpV k n t k n t = 0) (d : Int) (hd : cmpV k n t k3 n3 t3 = d) (hdd : d ≤ 0) (f : Int) (hf : cmpV k n t k3 n3 t3 = f) (hff : f ≤ 0) (w : World) (he : Env w) :
    Calls Tryd.prog 5 #[V k n t, V k n t, V k3 n3 t3] w fun e w' => e = .returned (.bool true) ∧ Below w.heap.size w w' := by
  have HC := Lib.hid hc; have HC2 := Lib.hid hc2; clear hc hc2
  have HD := Lib.hid hd; clear hd
  have HF := Lib.hid hf; clear hf
  have HE := Lib.hid he
  have HB := Lib.hid (Below.refl w.heap.size w)
  clear he
  go_enter Tryd.func5, Tryd.ntmps5
  go_wp2_with fail
  refine (head_any _ (((HE.out.alloc _).alloc _).alloc _)).mono ?_
  rintro e w1 ⟨rfl, hb⟩
  have RA := Lib.hid (show Val3 w1 (w.heap.size) k n t from Val3.below ⟨by simp [go_sem], by simp [go_sem], by simp [go_sem]⟩ hb)
  have RB := Lib.hid (show Val3 w1 (w.heap.size + 1) k n t from Val3.below ⟨by simp [go_sem], by simp [go_sem], by simp [go_sem]⟩ hb)
  have RC := Lib.hid (show Val3 w1 (w.heap.size + 1 + 1) k3 n3 t3 from Val3.below ⟨by simp [go_sem], by simp [go_sem], by simp [go_sem]⟩ hb)
  replace HE := Lib.hid ((((HE.out.alloc _).alloc _).alloc _).below hb)
  replace HB := Lib.hid (below_up ((((HB.out.alloc (by have := HB.out.size; simp; try omega) _).alloc (by have := HB.out.size; simp; try omega) _).alloc (by have := HB.out.size; simp; try omega) _)) hb (by have := HB.out.size; simp; omega))
  clear hb
  have zRAc0 := RA.out.c0
  have zRAc1 := RA.out.c1
  have zRAc2 := RA.out.c2
  have zRBc0 := RB.out.c0
  have zRBc1 := RB.out.c1
  have zRBc2 := RB.out.c2
  have zRCc0 := RC.out.c0
  have zRCc1 := RC.out.c1
  have zRCc2 := RC.out.c2
  go_wp2_with fail
  refine (short_b3 k n t k n t k3 n3 t3 true hs _ ).mono ?_
  rintro e w2 ⟨rfl, hb⟩
  replace RA := Lib.hid ((RA.out.alloc _).below hb)
  replace RB := Lib.hid ((RB.out.alloc _).below hb)
  replace RC := Lib.hid ((RC.out.alloc _).below hb)
  replace HE := Lib.hid ((HE.out.alloc _).below hb)
  replace HB := Lib.hid (below_next HB.out HB.out.size hb)
  clear hb
  clear zRAc0 zRAc1 zRAc2 zRBc0 zRBc1 zRBc2 zRCc0 zRCc1 zRCc2
  have zRAc0 := RA.out.c0
  have zRAc1 := RA.out.c1
  have zRAc2 := RA.out.c2
  have zRBc0 := RB.out.c0
  have zRBc1 := RB.out.c1
  have zRBc2 := RB.out.c2
  go_wp2_with fail
  have C := fun W => compare_any k n t k n t W
  rw [HC.out] at C
  refine (C _ ).mono ?_
  clear C
  rintro e w3 ⟨rfl, hb⟩
  replace RA := Lib.hid (RA.out.below hb)
  replace RB := Lib.hid (RB.out.below hb)
  replace RC := Lib.hid (RC.out.below hb)
  replace HE := Lib.hid (HE.out.below hb)
  replace HB := Lib.hid (below_up HB.out hb HB.out.size)
  clear hb
  clear zRAc0 zRAc1 zRAc2 zRBc0 zRBc1 zRBc2
  have zRAc0 := RA.out.c0
  have zRAc1 := RA.out.c1
  have zRAc2 := RA.out.c2
  have zRBc0 := RB.out.c0
  have zRBc1 := RB.out.c1
  have zRBc2 := RB.out.c2
  have qe := eql_yes k n t
  go_wp2_with fail
  have C := fun W => compare_any k n t k n t W
  rw [HC2.out] at C
  refine (C _ ).mono ?_
  clear C
  rintro e w4 ⟨rfl, hb⟩
  replace RA := Lib.hid (RA.out.below hb)
  replace RB := Lib.hid (RB.out.below hb)
  replace RC := Lib.hid (RC.out.below hb)
  replace HE := Lib.hid (HE.out.below hb)
  replace HB := Lib.hid (below_up HB.out hb HB.out.size)
  clear hb
  clear zRAc0 zRAc1 zRAc2 zRBc0 zRBc1 zRBc2
  clear qe
  have zRBc0 := RB.out.c0
  have zRBc1 := RB.out.c1
  have zRBc2 := RB.out.c2
  have zRCc0 := RC.out.c0
  have zRCc1 := RC.out.c1
  have zRCc2 := RC.out.c2
  go_wp2_with fail
  have C := fun W => compare_any k n t k3 n3 t3 W
  rw [HD.out] at C
  refine (C _ ).mono ?_
  clear C
  rintro e w5 ⟨rfl, hb⟩
  replace RA := Lib.hid (RA.out.below hb)
  replace RB := Lib.hid (RB.out.below hb)
  replace RC := Lib.hid (RC.out.below hb)
  replace HE := Lib.hid (HE.out.below hb)
  replace HB := Lib.hid (below_up HB.out hb HB.out.size)
  clear hb
  clear zRBc0 zRBc1 zRBc2 zRCc0 zRCc1 zRCc2
  have zRAc0 := RA.out.c0
  have zRAc1 := RA.out.c1
  have zRAc2 := RA.out.c2
  have zRCc0 := RC.out.c0
  have zRCc1 := RC.out.c1
  have zRCc2 := RC.out.c2
  go_wp2_with fail
  have C := fun W => compare_any k n t k3 n3 t3 W
  rw [HF.out] at C
  refine (C _ ).mono ?_
  clear C
  rintro e w6 ⟨rfl, hb⟩
  replace RA := Lib.hid (RA.out.below hb)
  replace RB := Lib.hid (RB.out.below hb)
  replace RC := Lib.hid (RC.out.below hb)
  replace HE := Lib.hid (HE.out.below hb)
  replace HB := Lib.hid (below_up HB.out hb HB.out.size)
  clear hb
  clear zRAc0 zRAc1 zRAc2 zRCc0 zRCc1 zRCc2
  go_wp2_with fail
  go_ret
  exact ⟨rfl, HB.out⟩


theorem order_any (k n : Int) (t : List UInt8) (k2 n2 : Int) (t2 : List UInt8) (k3 n3 : Int) (t3 : List UInt8) (w : World) (he : Env w) :
    Calls Tryd.prog 5 #[V k n t, V k2 n2 t2, V k3 n3 t3] w fun e w' => e = .returned (.bool true) ∧ Below w.heap.size w w' := by
  cases hs : shortB [t, t2, t3]
  · exact order_long k n t k2 n2 t2 k3 n3 t3 hs w he
  · have hn := cmpV_neg k n t k2 n2 t2
    rcases cmpV_range k n t k2 n2 t2 with hc | hc | hc
    · have hne : ¬ (k = k2 ∧ n = n2 ∧ t = t2) := by rintro ⟨rfl, rfl, rfl⟩; rw [cmpV_self] at hc; cases hc
      by_cases hd : 0 < cmpV k2 n2 t2 k3 n3 t3
      · exact order_dmgt k n t k2 n2 t2 k3 n3 t3 hs hc (by rw [hn, hc]; rfl) hne _ rfl hd w he
      · exact order_dmle k n t k2 n2 t2 k3 n3 t3 hs hc (by rw [hn, hc]; rfl) hne _ rfl (by omega) _ rfl (cmpV_trans (by omega) (show cmpV k2 n2 t2 k3 n3 t3 ≤ 0 by omega)) w he
    · obtain ⟨rfl, rfl, rfl⟩ := cmpV_zero hc
      by_cases hd : 0 < cmpV k n t k3 n3 t3
      · exact order_szgt k n t k3 n3 t3 hs hc hc _ rfl hd w he
      · exact order_szle k n t k3 n3 t3 hs hc hc _ rfl (by omega) _ rfl (by omega) w he
    · have hne : ¬ (k = k2 ∧ n = n2 ∧ t = t2) := by rintro ⟨rfl, rfl, rfl⟩; rw [cmpV_self] at hc; cases hc
      exact order_dp k n t k2 n2 t2 k3 n3 t3 hs hc (by rw [hn, hc]) hne w he
end Go.Proofs.YtdoenjkebeidlaaDoor
