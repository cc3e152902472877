/- The contract of the laws' fixed examples: they hold. -/
import Derived.Test.YtpmggfmhkjafkaaDoorCmp
namespace Go.Proofs.YtpmggfmhkjafkaaDoor
open Go.RowKit

theorem make_at {n d : Int} {r : Int × Int × Int} (h : mk n d = r) (w : World) (hn0 : -9223372036854775808 ≤ n) (hn1 : n ≤ 9223372036854775807) (hd0 : -9223372036854775808 ≤ d) (hd1 : d ≤ 9223372036854775807) :
    Calls Tryd.prog 11 #[.int .i64 n, .int .i64 d] w (RatioPost w r) := h ▸ make_any n d w hn0 hn1 hd0 hd1

/-- Two worlds on: what a block holds, behind a new block and a call. -/
theorem Rat2.next {w w1 : World} {b : Nat} {n d : Int} (h : Rat2 w b n d) {o : Obj} (hb : Below (w.alloc o).heap.size (w.alloc o) w1) : Rat2 w1 b n d := (h.alloc o).below hb
theorem Env.next {w w1 : World} (h : Env w) {o : Obj} (hb : Below (w.alloc o).heap.size (w.alloc o) w1) : Env w1 := (h.alloc o).below hb
theorem Rat2.made {w w1 : World} {n d : Int} {t : TypeId} (hb : Below (w.alloc (Obj.cells #[Value.int IntKind.i64 n, Value.int IntKind.i64 d] t)).heap.size (w.alloc (Obj.cells #[Value.int IntKind.i64 n, Value.int IntKind.i64 d] t)) w1) : Rat2 w1 w.heap.size n d :=
  Rat2.below ⟨by simp [go_sem], by simp [go_sem]⟩ hb
theorem below_next {B : Nat} {a w w1 : World} (h : Below B a w) (hB : B ≤ w.heap.size) {o : Obj} (hb : Below (w.alloc o).heap.size (w.alloc o) w1) : Below B a w1 :=
  below_up (h.alloc hB o) hb (by simp; omega)

set_option maxRecDepth 100000 in
set_option maxHeartbeats 1600000 in
theorem head_any (w : World) (he : Env w) : Calls Tryd.prog 10 #[] w fun e w' => e = .returned (.bool true) ∧ Below w.heap.size w w' := by
  go_enter Tryd.func10, Tryd.ntmps10
  go_wp2_with fail
  refine (make_at (r := (-3, 2, 0)) (n := 6) (d := (-4)) (by decide +kernel) _ (by decide) (by decide) (by decide) (by decide)).mono ?_
  rintro e w1 ⟨rfl, hb1⟩
  have HB := hb1
  have HE := Lib.hid (he.below hb1)
  clear hb1 he
  go_wp2_with fail
  refine (make_at (r := (0, 1, 0)) (n := 0) (d := (-7)) (by decide +kernel) _ (by decide) (by decide) (by decide) (by decide)).mono ?_
  rintro e w2 ⟨rfl, hb2⟩
  have R1 : Rat2 w2 w1.heap.size (-3) 2 := Rat2.below ⟨by simp [go_sem], by simp [go_sem]⟩ hb2
  replace HE := Lib.hid ((HE.out.alloc _).below hb2)
  replace HB := below_next HB HB.size hb2
  clear hb2
  go_wp2_with fail
  refine (make_at (r := (0, 0, 1)) (n := 1) (d := 0) (by decide +kernel) _ (by decide) (by decide) (by decide) (by decide)).mono ?_
  rintro e w3 ⟨rfl, hb3⟩
  replace R1 := (R1.alloc _).below hb3
  have R2 : Rat2 w3 w2.heap.size (0) 1 := Rat2.below ⟨by simp [go_sem], by simp [go_sem]⟩ hb3
  replace HE := Lib.hid ((HE.out.alloc _).below hb3)
  replace HB := below_next HB HB.size hb3
  clear hb3
  go_wp2_with fail
  refine (make_at (r := (0, 0, 2)) (n := 1) (d := 1000000001) (by decide +kernel) _ (by decide) (by decide) (by decide) (by decide)).mono ?_
  rintro e w4 ⟨rfl, hb4⟩
  replace R1 := (R1.alloc _).below hb4
  replace R2 := (R2.alloc _).below hb4
  replace HE := Lib.hid ((HE.out.alloc _).below hb4)
  replace HB := below_next HB HB.size hb4
  clear hb4
  go_wp2_with fail
  refine (of_any 1 6 _).mono ?_
  rintro e w' ⟨rfl, rfl⟩
  go_wp2_with fail
  refine (of_any 1 3 _).mono ?_
  rintro e w' ⟨rfl, rfl⟩
  go_wp2_with fail
  have C := fun W => add_any 1 6 1 3 W
  rw [show opr _ _ _ = (1, 2, 0) by decide +kernel] at C
  refine (C _).mono ?_
  clear C
  rintro e w5 ⟨rfl, hb5⟩
  replace R1 := (((R1.alloc _).alloc _).alloc _).below hb5
  replace R2 := (((R2.alloc _).alloc _).alloc _).below hb5
  replace HE := Lib.hid ((((HE.out.alloc _).alloc _).alloc _).below hb5)
  replace HB := below_up (((HB.alloc HB.size _).alloc (Nat.le_succ_of_le HB.size |> fun h => by simpa using h) _).alloc (by have := HB.size; simp; omega) _) hb5 (by have := HB.size; simp; omega)
  clear hb5
  go_wp2_with fail
  refine (of_any 2 3 _).mono ?_
  rintro e w' ⟨rfl, rfl⟩
  go_wp2_with fail
  refine (of_any 9 4 _).mono ?_
  rintro e w' ⟨rfl, rfl⟩
  go_wp2_with fail
  have C := fun W => mul_any 2 3 9 4 W
  rw [show opr _ _ _ = (3, 2, 0) by decide +kernel] at C
  refine (C _).mono ?_
  clear C
  rintro e w6 ⟨rfl, hb6⟩
  replace R1 := (((R1.alloc _).alloc _).alloc _).below hb6
  replace R2 := (((R2.alloc _).alloc _).alloc _).below hb6
  have R5 : Rat2 w6 w5.heap.size (1) 2 := Rat2.below ⟨by simp [go_sem], by simp [go_sem]⟩ hb6
  replace HE := Lib.hid ((((HE.out.alloc _).alloc _).alloc _).below hb6)
  replace HB := below_up (((HB.alloc HB.size _).alloc (Nat.le_succ_of_le HB.size |> fun h => by simpa using h) _).alloc (by have := HB.size; simp; omega) _) hb6 (by have := HB.size; simp; omega)
  clear hb6
  go_wp2_with fail
  refine (of_any 1 2 _).mono ?_
  rintro e w' ⟨rfl, rfl⟩
  go_wp2_with fail
  refine (of_any 0 1 _).mono ?_
  rintro e w' ⟨rfl, rfl⟩
  go_wp2_with fail
  have C := fun W => div_any 1 2 0 1 W
  rw [show opr _ _ _ = (0, 0, 1) by decide +kernel] at C
  refine (C _).mono ?_
  clear C
  rintro e w7 ⟨rfl, hb7⟩
  replace R1 := (((R1.alloc _).alloc _).alloc _).below hb7
  replace R2 := (((R2.alloc _).alloc _).alloc _).below hb7
  replace R5 := (((R5.alloc _).alloc _).alloc _).below hb7
  have R6 : Rat2 w7 w6.heap.size (3) 2 := Rat2.below ⟨by simp [go_sem], by simp [go_sem]⟩ hb7
  replace HE := Lib.hid ((((HE.out.alloc _).alloc _).alloc _).below hb7)
  replace HB := below_up (((HB.alloc HB.size _).alloc (Nat.le_succ_of_le HB.size |> fun h => by simpa using h) _).alloc (by have := HB.size; simp; omega) _) hb7 (by have := HB.size; simp; omega)
  clear hb7
  go_wp2_with fail
  have C := fun W hW => parse_any [52, 47, 50] (by decide) W hW
  rw [show parse [52, 47, 50] = (0, 0, 6) by decide +kernel] at C
  refine (C _ (HE.out.alloc _)).mono ?_
  clear C
  rintro e w8 ⟨rfl, hb8⟩
  replace R1 := (R1.alloc _).below hb8
  replace R2 := (R2.alloc _).below hb8
  replace R5 := (R5.alloc _).below hb8
  replace R6 := (R6.alloc _).below hb8
  replace HE := Lib.hid ((HE.out.alloc _).below hb8)
  replace HB := below_next HB HB.size hb8
  clear hb8
  go_wp2_with fail
  replace HE := Lib.hid (HE.out.alloc (Obj.cells #[Value.int IntKind.i64 0, Value.int IntKind.i64 0] 23))
  replace HB := HB.alloc HB.size (Obj.cells #[Value.int IntKind.i64 0, Value.int IntKind.i64 0] 23)
  replace R1 := R1.alloc (Obj.cells #[Value.int IntKind.i64 0, Value.int IntKind.i64 0] 23)
  replace R2 := R2.alloc (Obj.cells #[Value.int IntKind.i64 0, Value.int IntKind.i64 0] 23)
  replace R5 := R5.alloc (Obj.cells #[Value.int IntKind.i64 0, Value.int IntKind.i64 0] 23)
  replace R6 := R6.alloc (Obj.cells #[Value.int IntKind.i64 0, Value.int IntKind.i64 0] 23)
  generalize (w8.alloc (Obj.cells #[Value.int IntKind.i64 0, Value.int IntKind.i64 0] 23)) = w9 at *
  have c0 := R1.c0; have c1 := R1.c1; have d0 := R2.c0; have d1 := R2.c1
  go_region_held3 (fun w' => w'.cell? ⟨w1.heap.size, 0, none⟩ = some (.int .i64 (-3)) ∧ w'.cell? ⟨w1.heap.size, 1, none⟩ = some (.int .i64 2) ∧ w'.cell? ⟨w2.heap.size, 0, none⟩ = some (.int .i64 (0)) ∧ w'.cell? ⟨w2.heap.size, 1, none⟩ = some (.int .i64 1)) (go_keep)
    (first | (go_at_call_of 30 (Value.int IntKind.i64 2); refine (of_below (-3) 2 _).mono ?_; rintro e v1 ⟨rfl, hv1⟩; have kv1 := R1.below ((below_drewN _ w9 1).trans hv1); have c2 := kv1.c0; have c3 := kv1.c1; have lv1 := R2.below ((below_drewN _ w9 1).trans hv1); have d2 := lv1.c0; have d3 := lv1.c1) | (go_at_call_of 30 (Value.int IntKind.i64 0); refine (of_below (0) 1 _).mono ?_; rintro e v2 ⟨rfl, hv2⟩; have kv2 := kv1.below hv2; have c4 := kv2.c0; have c5 := kv2.c1; have lv2 := lv1.below hv2; have d4 := lv2.c0; have d5 := lv2.c1))
  have Hv2 := below_up (below_drewN _ w9 1) (hv1.trans (hv2.mono hv1.size)) (Nat.le_refl _)
  clear c0 c1 d0 d1 c2 c3 d2 d3 c4 c5 d4 d5 kv1 lv1 kv2 lv2 hv1 hv2 R1 R2
  replace R5 := R5.below Hv2; replace R6 := R6.below Hv2; replace HE := Lib.hid (HE.out.below Hv2); replace HB := below_up HB Hv2 HB.size
  clear Hv2
  go_wp2_with fail
  have c0 := R5.c0; have c1 := R5.c1; have d0 := R6.c0; have d1 := R6.c1
  go_region_held3 (fun w' => w'.cell? ⟨w5.heap.size, 0, none⟩ = some (.int .i64 (1)) ∧ w'.cell? ⟨w5.heap.size, 1, none⟩ = some (.int .i64 2) ∧ w'.cell? ⟨w6.heap.size, 0, none⟩ = some (.int .i64 (3)) ∧ w'.cell? ⟨w6.heap.size, 1, none⟩ = some (.int .i64 2)) (go_keep)
    (first | (go_at_call_of 30 (Value.int IntKind.i64 1); refine (of_below (1) 2 _).mono ?_; rintro e v3 ⟨rfl, hv3⟩; have kv3 := R5.below ((below_drewN _ v2 1).trans hv3); have c2 := kv3.c0; have c3 := kv3.c1; have lv3 := R6.below ((below_drewN _ v2 1).trans hv3); have d2 := lv3.c0; have d3 := lv3.c1) | (go_at_call_of 30 (Value.int IntKind.i64 3); refine (of_below (3) 2 _).mono ?_; rintro e v4 ⟨rfl, hv4⟩; have kv4 := kv3.below hv4; have c4 := kv4.c0; have c5 := kv4.c1; have lv4 := lv3.below hv4; have d4 := lv4.c0; have d5 := lv4.c1))
  have Hv4 := below_up (below_drewN _ v2 1) (hv3.trans (hv4.mono hv3.size)) (Nat.le_refl _)
  clear c0 c1 d0 d1 c2 c3 d2 d3 c4 c5 d4 d5 kv3 lv3 kv4 lv4 hv3 hv4 R5 R6
  replace HE := Lib.hid (HE.out.below Hv4); replace HB := below_up HB Hv4 HB.size
  clear Hv4
  go_wp2_with fail
  refine (of_below (-3) 2 _).mono ?_
  rintro e v5 ⟨rfl, hb⟩
  replace HE := Lib.hid (HE.out.below hb); replace HB := below_up HB hb HB.size
  clear hb
  go_wp2_with fail
  have C := fun W hW => text_any (-3) 2 W hW
  rw [show txt (-3) 2 = [45, 51, 47, 50] by decide +kernel] at C
  refine (C _ HE.out).mono ?_
  clear C
  rintro e v6 ⟨rfl, hb⟩
  replace HE := Lib.hid (HE.out.below hb); replace HB := below_up HB hb HB.size
  clear hb
  go_wp2_with fail
  refine (of_below (-3) 2 _).mono ?_
  rintro e v7 ⟨rfl, hb⟩
  replace HE := Lib.hid (HE.out.below hb); replace HB := below_up HB hb HB.size
  clear hb
  go_wp2_with fail
  have C := fun W => valid_any (-3) 2 W
  rw [show vldB (-3) 2 = true by decide +kernel] at C
  refine (C _).mono ?_
  clear C
  rintro e v8 ⟨rfl, hb⟩
  replace HE := Lib.hid (HE.out.below hb); replace HB := below_up HB hb HB.size
  clear hb
  go_wp2_with fail
  refine (of_below 2 4 _).mono ?_
  rintro e v9 ⟨rfl, hb⟩
  replace HE := Lib.hid (HE.out.below hb); replace HB := below_up HB hb HB.size
  clear hb
  go_wp2_with fail
  have C := fun W => valid_any 2 4 W
  rw [show vldB 2 4 = false by decide +kernel] at C
  refine (C _).mono ?_
  clear C
  rintro e v10 ⟨rfl, hb⟩
  replace HE := Lib.hid (HE.out.below hb); replace HB := below_up HB hb HB.size
  clear hb
  go_wp2_with fail
  refine (of_below 1 3 _).mono ?_
  rintro e v11 ⟨rfl, hb⟩
  replace HE := Lib.hid (HE.out.below hb); replace HB := below_up HB hb HB.size
  clear hb
  go_wp2_with fail
  refine (of_below 1 2 _).mono ?_
  rintro e v12 ⟨rfl, hb⟩
  replace HE := Lib.hid (HE.out.below hb); replace HB := below_up HB hb HB.size
  clear hb
  go_wp2_with fail
  have C := fun W => cmp_any 1 3 1 2 W
  rw [show cmpR 1 3 1 2 = -1 by decide +kernel] at C
  refine (C _).mono ?_
  clear C
  rintro e v13 ⟨rfl, hb⟩
  replace HB := below_up HB hb HB.size
  clear hb
  go_wp2_with fail
  go_ret
  exact ⟨rfl, HB⟩
end Go.Proofs.YtpmggfmhkjafkaaDoor
