/- The contract of the laws' fixed examples: they hold. -/
import Derived.Test.YtdoenjkebeidlaaDoorShort
import Derived.Test.YtdoenjkebeidlaaDoorTest
import Derived.Test.YtdoenjkebeidlaaDoorCast
namespace Go.Proofs.YtdoenjkebeidlaaDoor
open Go.RowKit

set_option maxRecDepth 100000 in
set_option maxHeartbeats 1600000 in
theorem head_any (w : World) (he : Env w) : Calls Tryd.prog 11 #[] w fun e w' => e = .returned (.bool true) ∧ Below w.heap.size w w' := by
  have HE := Lib.hid he
  have HB := Below.refl w.heap.size w
  clear he
  go_enter Tryd.func11, Tryd.ntmps11
  go_wp2_with fail
  have C := fun W h => parse_any [64, 49, 50] (by decide) W h
  rw [show parse [64, 49, 50] = (3, 12, [], 0) by decide +kernel] at C
  refine (C _ HE.out).mono ?_
  clear C
  rintro e w1 ⟨rfl, hb⟩
  replace HE := Lib.hid (HE.out.below hb)
  replace HB := below_up HB hb HB.size
  clear hb
  go_wp2_with fail
  have C := fun W h => parse_any [48, 48, 55] (by decide) W h
  rw [show parse [48, 48, 55] = (0, 0, [], 4) by decide +kernel] at C
  refine (C _ (HE.out.alloc _)).mono ?_
  clear C
  rintro e w2 ⟨rfl, hb⟩
  have RA : Val3 w2 w1.heap.size 3 12 [] := Val3.below ⟨by simp [go_sem], by simp [go_sem], by simp [go_sem]⟩ hb
  replace HE := Lib.hid ((HE.out.alloc _).below hb)
  replace HB := below_next HB HB.size hb
  clear hb
  go_wp2_with fail
  refine (mtext_any [49, 50] _ ).mono ?_
  rintro e w3 ⟨rfl, hb⟩
  replace RA := (RA.alloc _).below hb
  replace HE := Lib.hid ((HE.out.alloc _).below hb)
  replace HB := below_next HB HB.size hb
  clear hb
  go_wp2_with fail
  have C := fun W h => cast_any 1 0 [49, 50] 2 W h
  rw [show cast 1 0 [49, 50] 2 = (2, 12, [], 0) by decide +kernel] at C
  refine (C _ HE.out).mono ?_
  clear C
  rintro e w4 ⟨rfl, hb⟩
  replace RA := RA.below hb
  replace HE := Lib.hid (HE.out.below hb)
  replace HB := below_up HB hb HB.size
  clear hb
  go_wp2_with fail
  refine (mtext_any [64, 49, 50] _ ).mono ?_
  rintro e w5 ⟨rfl, hb⟩
  replace RA := (RA.alloc _).below hb
  have RB : Val3 w5 w4.heap.size 2 12 [] := Val3.below ⟨by simp [go_sem], by simp [go_sem], by simp [go_sem]⟩ hb
  replace HE := Lib.hid ((HE.out.alloc _).below hb)
  replace HB := below_next HB HB.size hb
  clear hb
  go_wp2_with fail
  have C := fun W h => cast_any 1 0 [64, 49, 50] 2 W h
  rw [show cast 1 0 [64, 49, 50] 2 = (0, 0, [], 15) by decide +kernel] at C
  refine (C _ HE.out).mono ?_
  clear C
  rintro e w6 ⟨rfl, hb⟩
  replace RA := RA.below hb
  replace RB := RB.below hb
  replace HE := Lib.hid (HE.out.below hb)
  replace HB := below_up HB hb HB.size
  clear hb
  go_wp2_with fail
  refine (number_any (-1) _ ).mono ?_
  rintro e w7 ⟨rfl, hb⟩
  replace RA := (RA.alloc _).below hb
  replace RB := (RB.alloc _).below hb
  replace HE := Lib.hid ((HE.out.alloc _).below hb)
  replace HB := below_next HB HB.size hb
  clear hb
  go_wp2_with fail
  have C := fun W h => cast_any 2 (-1) [] 3 W h
  rw [show cast 2 (-1) [] 3 = (0, 0, [], 15) by decide +kernel] at C
  refine (C _ HE.out).mono ?_
  clear C
  rintro e w8 ⟨rfl, hb⟩
  replace RA := RA.below hb
  replace RB := RB.below hb
  replace HE := Lib.hid (HE.out.below hb)
  replace HB := below_up HB hb HB.size
  clear hb
  go_wp2_with fail
  refine (number_any 12 _ ).mono ?_
  rintro e w9 ⟨rfl, hb⟩
  replace RA := (RA.alloc _).below hb
  replace RB := (RB.alloc _).below hb
  replace HE := Lib.hid ((HE.out.alloc _).below hb)
  replace HB := below_next HB HB.size hb
  clear hb
  go_wp2_with fail
  have C := fun W h => cast_any 2 12 [] 4 W h
  rw [show cast 2 12 [] 4 = (0, 0, [], 10) by decide +kernel] at C
  refine (C _ HE.out).mono ?_
  clear C
  rintro e w10 ⟨rfl, hb⟩
  replace RA := RA.below hb
  replace RB := RB.below hb
  replace HE := Lib.hid (HE.out.below hb)
  replace HB := below_up HB hb HB.size
  clear hb
  go_wp2_with fail
  refine (number_any 12 _ ).mono ?_
  rintro e w11 ⟨rfl, hb⟩
  replace RA := (RA.alloc _).below hb
  replace RB := (RB.alloc _).below hb
  replace HE := Lib.hid ((HE.out.alloc _).below hb)
  replace HB := below_next HB HB.size hb
  clear hb
  go_wp2_with fail
  have C := fun W h => cast_any 2 12 [] 0 W h
  rw [show cast 2 12 [] 0 = (0, 0, [], 1) by decide +kernel] at C
  refine (C _ HE.out).mono ?_
  clear C
  rintro e w12 ⟨rfl, hb⟩
  replace RA := RA.below hb
  replace RB := RB.below hb
  replace HE := Lib.hid (HE.out.below hb)
  replace HB := below_up HB hb HB.size
  clear hb
  go_wp2_with fail
  obtain ⟨W, hW⟩ : ∃ W, W = w12.alloc (Obj.cells #[Value.int IntKind.i64 0, Value.int IntKind.i64 0, Value.string ⟨#[]⟩] 23) := ⟨_, rfl⟩
  rw [← hW]
  replace RA := (show Val3 W _ 3 12 [] by rw [hW]; exact RA.alloc _)
  replace RB := (show Val3 W _ 2 12 [] by rw [hW]; exact RB.alloc _)
  replace HE := Lib.hid (show Env W by rw [hW]; exact HE.out.alloc _)
  replace HB := Lib.hid (show Below w.heap.size w W by rw [hW]; exact HB.alloc HB.size _)
  clear hW
  have KA := Lib.hid RA; have KB := Lib.hid RB
  have a0 := RA.c0; have a1 := RA.c1; have a2 := RA.c2; have b0 := RB.c0; have b1 := RB.c1; have b2 := RB.c2
  clear RA RB
  have C := fun W h => text_any 1 0 [97, 34, 98] W h
  rw [show txt 1 0 [97, 34, 98] = [34, 97, 92, 34, 98, 34] by decide +kernel] at C
  have CT := Lib.hid C
  clear C
  go_region_held3 (fun w' => w'.cell? ⟨w1.heap.size, 0, none⟩ = some (.int .i64 3) ∧ w'.cell? ⟨w1.heap.size, 1, none⟩ = some (.int .i64 12) ∧ w'.cell? ⟨w1.heap.size, 2, none⟩ = some (.string ⟨#[]⟩) ∧ w'.cell? ⟨w4.heap.size, 0, none⟩ = some (.int .i64 2) ∧ w'.cell? ⟨w4.heap.size, 1, none⟩ = some (.int .i64 12) ∧ w'.cell? ⟨w4.heap.size, 2, none⟩ = some (.string ⟨#[]⟩)) (go_keep)
    (first | (go_at_call 28; refine (mtext_any [97, 34, 98] _).mono ?_; rintro e v1 ⟨rfl, hv1⟩; have g1 := Lib.hid ((below_drewN _ W 1).trans hv1); clear hv1; have A1 := Lib.hid (KA.out.below g1.out); have B1 := Lib.hid (KB.out.below g1.out); have E1 := Lib.hid (HE.out.below g1.out); have p10 := A1.out.c0; have p11 := A1.out.c1; have p12 := A1.out.c2; have q10 := B1.out.c0; have q11 := B1.out.c1; have q12 := B1.out.c2) | (go_at_call 21; refine (CT.out _ E1.out).mono ?_; rintro e v2 ⟨rfl, hv2⟩; have g2 := Lib.hid hv2; clear hv2; have A2 := Lib.hid (A1.out.below g2.out); have B2 := Lib.hid (B1.out.below g2.out); have E2 := Lib.hid (E1.out.below g2.out); have p20 := A2.out.c0; have p21 := A2.out.c1; have p22 := A2.out.c2; have q20 := B2.out.c0; have q21 := B2.out.c1; have q22 := B2.out.c2) | (go_at_call 29; refine (day_any 12 _).mono ?_; rintro e v3 ⟨rfl, hv3⟩; have g3 := Lib.hid hv3; clear hv3; have A3 := Lib.hid (A2.out.below g3.out); have B3 := Lib.hid (B2.out.below g3.out); have E3 := Lib.hid (E2.out.below g3.out); have p30 := A3.out.c0; have p31 := A3.out.c1; have p32 := A3.out.c2; have q30 := B3.out.c0; have q31 := B3.out.c1; have q32 := B3.out.c2) | (go_at_call 27; refine (number_any 12 _).mono ?_; rintro e v4 ⟨rfl, hv4⟩; have g4 := Lib.hid hv4; clear hv4; have A4 := Lib.hid (A3.out.below g4.out); have B4 := Lib.hid (B3.out.below g4.out); have E4 := Lib.hid (E3.out.below g4.out); have p40 := A4.out.c0; have p41 := A4.out.c1; have p42 := A4.out.c2; have q40 := B4.out.c0; have q41 := B4.out.c1; have q42 := B4.out.c2))
  have HB4 := Lib.hid (below_up (below_up (below_up (below_up HB.out g1.out HB.out.size) g2.out (below_up HB.out g1.out HB.out.size).size) g3.out (below_up (below_up HB.out g1.out HB.out.size) g2.out (below_up HB.out g1.out HB.out.size).size).size) g4.out (below_up (below_up (below_up HB.out g1.out HB.out.size) g2.out (below_up HB.out g1.out HB.out.size).size) g3.out (below_up (below_up HB.out g1.out HB.out.size) g2.out (below_up HB.out g1.out HB.out.size).size).size).size)
  have HE4 := E4
  clear g1 g2 g3 g4 A1 A2 A3 A4 B1 B2 B3 B4 E1 E2 E3 E4 HE HB KA KB CT
  clear a0 a1 a2 b0 b1 b2 p10 q10 p11 q11 p12 q12 p20 q20 p21 q21 p22 q22 p30 q30 p31 q31 p32 q32 p40 q40 p41 q41 p42 q42
  replace HB := HB4.out; have HE := HE4
  go_wp2_with fail
  refine (number_any 3 _ ).mono ?_
  rintro e w13 ⟨rfl, hb⟩
  replace HE := Lib.hid (HE.out.below hb)
  replace HB := below_up HB hb HB.size
  clear hb
  go_wp2_with fail
  refine (number_any 1 _ ).mono ?_
  rintro e w14 ⟨rfl, hb⟩
  replace HE := Lib.hid (HE.out.below hb)
  replace HB := below_up HB hb HB.size
  clear hb
  go_wp2_with fail
  have C := fun W => test_any 2 3 [] 3 2 1 [] 3 W
  rw [show testB 2 3 [] 3 2 1 [] 3 = true by decide +kernel] at C
  refine (C _ ).mono ?_
  clear C
  rintro e w15 ⟨rfl, hb⟩
  replace HE := Lib.hid (HE.out.below hb)
  replace HB := below_up HB hb HB.size
  clear hb
  go_wp2_with fail
  have C := fun W => test_any 0 0 [] 1 0 0 [] 0 W
  rw [show testB 0 0 [] 1 0 0 [] 0 = false by decide +kernel] at C
  refine (C _ ).mono ?_
  clear C
  rintro e w16 ⟨rfl, hb⟩
  replace HE := Lib.hid (HE.out.below hb)
  replace HB := below_up HB hb HB.size
  clear hb
  go_wp2_with fail
  refine (number_any 9 _ ).mono ?_
  rintro e w17 ⟨rfl, hb⟩
  replace HE := Lib.hid (HE.out.below hb)
  replace HB := below_up HB hb HB.size
  clear hb
  go_wp2_with fail
  refine (day_any 0 _ ).mono ?_
  rintro e w18 ⟨rfl, hb⟩
  replace HE := Lib.hid (HE.out.below hb)
  replace HB := below_up HB hb HB.size
  clear hb
  go_wp2_with fail
  have C := fun W => compare_any 2 9 [] 3 0 [] W
  rw [show cmpV 2 9 [] 3 0 [] = -1 by decide +kernel] at C
  refine (C _ ).mono ?_
  clear C
  rintro e w19 ⟨rfl, hb⟩
  replace HE := Lib.hid (HE.out.below hb)
  replace HB := below_up HB hb HB.size
  clear hb
  go_wp2_with fail
  refine (day_any 73049 _ ).mono ?_
  rintro e w20 ⟨rfl, hb⟩
  replace HE := Lib.hid (HE.out.below hb)
  replace HB := below_up HB hb HB.size
  clear hb
  go_wp2_with fail
  have C := fun W => valid_any 3 73049 [] W
  rw [show vldB 3 73049 [] = false by decide +kernel] at C
  refine (C _ ).mono ?_
  clear C
  rintro e w21 ⟨rfl, hb⟩
  replace HE := Lib.hid (HE.out.below hb)
  replace HB := below_up HB hb HB.size
  clear hb
  go_wp2_with fail
  go_ret
  exact ⟨rfl, HB⟩
end Go.Proofs.YtdoenjkebeidlaaDoor
