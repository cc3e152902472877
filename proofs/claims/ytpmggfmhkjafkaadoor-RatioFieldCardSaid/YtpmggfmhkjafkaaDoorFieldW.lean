/- The walk of RatioField. -/
import Derived.Test.YtpmggfmhkjafkaaDoorHead
import Derived.WalkLawsBesides
import Derived.Deep.DeepCutAuto
namespace Go.Proofs.YtpmggfmhkjafkaaDoor
open Go.RowKit

set_option maxRecDepth 100000 in
set_option maxHeartbeats 3200000 in
theorem field_a1 (an ad bn bd cn cd : Int) (hv : vldB an ad = false) (w : World) (he : Env w) :
    Calls Tryd.prog 5 #[.agg #[.int .i64 an, .int .i64 ad], .agg #[.int .i64 bn, .int .i64 bd], .agg #[.int .i64 cn, .int .i64 cd]] w fun e w' => e = .returned (.bool true) ∧ Below w.heap.size w w' := by
  go_enter Tryd.func5, Tryd.ntmps5
  go_wp2_with fail
  refine (head_any _ (((he.alloc _).alloc _).alloc _)).mono ?_
  rintro e w1 ⟨rfl, hb⟩
  have HB := below_up (boxes3 w _ _ _) hb (by simp; omega)
  have A : Rat2 w1 w.heap.size an ad := Rat2.below ⟨by simp [go_sem], by simp [go_sem]⟩ hb
  have B : Rat2 w1 (w.heap.size + 1) bn bd := Rat2.below ⟨by simp [go_sem], by simp [go_sem]⟩ hb
  have C : Rat2 w1 (w.heap.size + 1 + 1) cn cd := Rat2.below ⟨by simp [go_sem], by simp [go_sem]⟩ hb
  clear hb he
  have zAc0 := A.c0
  have zAc1 := A.c1
  go_wp2_with fail
  refine (valid_any an ad _).mono ?_
  rintro e w2 ⟨rfl, hb⟩
  replace A := A.below hb
  replace B := B.below hb
  replace C := C.below hb
  replace HB := below_up HB hb HB.size
  clear hb
  clear zAc0 zAc1
  go_wp2_with fail
  go_ret
  exact ⟨rfl, HB⟩

set_option maxRecDepth 100000 in
set_option maxHeartbeats 3200000 in
theorem field_a2 (an ad bn bd cn cd : Int) (hv : vldB an ad = true) (hu : vldB bn bd = false) (w : World) (he : Env w) :
    Calls Tryd.prog 5 #[.agg #[.int .i64 an, .int .i64 ad], .agg #[.int .i64 bn, .int .i64 bd], .agg #[.int .i64 cn, .int .i64 cd]] w fun e w' => e = .returned (.bool true) ∧ Below w.heap.size w w' := by
  go_enter Tryd.func5, Tryd.ntmps5
  go_wp2_with fail
  refine (head_any _ (((he.alloc _).alloc _).alloc _)).mono ?_
  rintro e w1 ⟨rfl, hb⟩
  have HB := below_up (boxes3 w _ _ _) hb (by simp; omega)
  have A : Rat2 w1 w.heap.size an ad := Rat2.below ⟨by simp [go_sem], by simp [go_sem]⟩ hb
  have B : Rat2 w1 (w.heap.size + 1) bn bd := Rat2.below ⟨by simp [go_sem], by simp [go_sem]⟩ hb
  have C : Rat2 w1 (w.heap.size + 1 + 1) cn cd := Rat2.below ⟨by simp [go_sem], by simp [go_sem]⟩ hb
  clear hb he
  have zAc0 := A.c0
  have zAc1 := A.c1
  go_wp2_with fail
  refine (valid_any an ad _).mono ?_
  rintro e w2 ⟨rfl, hb⟩
  replace A := A.below hb
  replace B := B.below hb
  replace C := C.below hb
  replace HB := below_up HB hb HB.size
  clear hb
  clear zAc0 zAc1
  have zBc0 := B.c0
  have zBc1 := B.c1
  go_wp2_with fail
  refine (valid_any bn bd _).mono ?_
  rintro e w3 ⟨rfl, hb⟩
  replace A := A.below hb
  replace B := B.below hb
  replace C := C.below hb
  replace HB := below_up HB hb HB.size
  clear hb
  clear zBc0 zBc1
  go_wp2_with fail
  go_ret
  exact ⟨rfl, HB⟩

set_option maxRecDepth 100000 in
set_option maxHeartbeats 3200000 in
theorem field_a3 (an ad bn bd cn cd : Int) (hv : vldB an ad = true) (hu : vldB bn bd = true) (ht : vldB cn cd = false) (w : World) (he : Env w) :
    Calls Tryd.prog 5 #[.agg #[.int .i64 an, .int .i64 ad], .agg #[.int .i64 bn, .int .i64 bd], .agg #[.int .i64 cn, .int .i64 cd]] w fun e w' => e = .returned (.bool true) ∧ Below w.heap.size w w' := by
  go_enter Tryd.func5, Tryd.ntmps5
  go_wp2_with fail
  refine (head_any _ (((he.alloc _).alloc _).alloc _)).mono ?_
  rintro e w1 ⟨rfl, hb⟩
  have HB := below_up (boxes3 w _ _ _) hb (by simp; omega)
  have A : Rat2 w1 w.heap.size an ad := Rat2.below ⟨by simp [go_sem], by simp [go_sem]⟩ hb
  have B : Rat2 w1 (w.heap.size + 1) bn bd := Rat2.below ⟨by simp [go_sem], by simp [go_sem]⟩ hb
  have C : Rat2 w1 (w.heap.size + 1 + 1) cn cd := Rat2.below ⟨by simp [go_sem], by simp [go_sem]⟩ hb
  clear hb he
  have zAc0 := A.c0
  have zAc1 := A.c1
  go_wp2_with fail
  refine (valid_any an ad _).mono ?_
  rintro e w2 ⟨rfl, hb⟩
  replace A := A.below hb
  replace B := B.below hb
  replace C := C.below hb
  replace HB := below_up HB hb HB.size
  clear hb
  clear zAc0 zAc1
  have zBc0 := B.c0
  have zBc1 := B.c1
  go_wp2_with fail
  refine (valid_any bn bd _).mono ?_
  rintro e w3 ⟨rfl, hb⟩
  replace A := A.below hb
  replace B := B.below hb
  replace C := C.below hb
  replace HB := below_up HB hb HB.size
  clear hb
  clear zBc0 zBc1
  have zCc0 := C.c0
  have zCc1 := C.c1
  go_wp2_with fail
  refine (valid_any cn cd _).mono ?_
  rintro e w4 ⟨rfl, hb⟩
  replace A := A.below hb
  replace B := B.below hb
  replace C := C.below hb
  replace HB := below_up HB hb HB.size
  clear hb
  clear zCc0 zCc1
  go_wp2_with fail
  go_ret
  exact ⟨rfl, HB⟩

set_option maxRecDepth 100000 in
set_option maxHeartbeats 3200000 in
theorem field_11 (an ad bn bd cn cd : Int) (sn sd pn pd un ud eu vn vd ev wn wd ew : Int) (hv : vldB an ad = true) (hu : vldB bn bd = true) (ht : vldB cn cd = true)
    (hS : opr (vldB an ad && vldB bn bd) (an * bd + bn * ad) (ad * bd) = (sn, sd, 0)) (hT : opr (vldB bn bd && vldB an ad) (bn * ad + an * bd) (bd * ad) = (sn, sd, 0)) (hP : opr (vldB an ad && vldB bn bd) (an * bn) (ad * bd) = (pn, pd, 0)) (hQ : opr (vldB bn bd && vldB an ad) (bn * an) (bd * ad) = (pn, pd, 0))
    (hU : opr (vldB bn bd && vldB cn cd) (bn * cd + cn * bd) (bd * cd) = (un, ud, eu)) (hV : opr (vldB bn bd && vldB cn cd) (bn * cn) (bd * cd) = (vn, vd, ev)) (hW : opr (vldB an ad && vldB cn cd) (an * cn) (ad * cd) = (wn, wd, ew))
    (xn xd ex : Int) (k1 : opr (vldB sn sd && vldB bn bd) (sn * bd - bn * sd) (sd * bd) = (an, ad, 0)) (k3 : eu = 0 → opr (vldB sn sd && vldB cn cd) (sn * cd + cn * sd) (sd * cd) = (xn, xd, ex)) (k3' : eu = 0 → opr (vldB an ad && vldB un ud) (an * ud + un * ad) (ad * ud) = (xn, xd, ex))
    (yn yd ey zn zd ez : Int) (k2 : bn ≠ 0 → opr (vldB pn pd && vldB bn bd) (pn * bd) (pd * bn) = (an, ad, 0)) (k4 : ev = 0 → opr (vldB pn pd && vldB cn cd) (pn * cn) (pd * cd) = (yn, yd, ey)) (k4' : ev = 0 → opr (vldB an ad && vldB vn vd) (an * vn) (ad * vd) = (yn, yd, ey)) (k5 : eu = 0 → ew = 0 → opr (vldB an ad && vldB un ud) (an * un) (ad * ud) = (zn, zd, ez)) (k5' : eu = 0 → ew = 0 → opr (vldB pn pd && vldB wn wd) (pn * wd + wn * pd) (pd * wd) = (zn, zd, ez)) (w : World) (he : Env w) :
    Calls Tryd.prog 5 #[.agg #[.int .i64 an, .int .i64 ad], .agg #[.int .i64 bn, .int .i64 bd], .agg #[.int .i64 cn, .int .i64 cd]] w fun e w' => e = .returned (.bool true) ∧ Below w.heap.size w w' := by
  have HhS := Lib.hid hS
  have HhT := Lib.hid hT
  have HhP := Lib.hid hP
  have HhQ := Lib.hid hQ
  have HhU := Lib.hid hU
  have HhV := Lib.hid hV
  have HhW := Lib.hid hW
  have Hk1 := Lib.hid k1
  have Hk3 := Lib.hid k3
  have Hk3' := Lib.hid k3'
  have Hk2 := Lib.hid k2
  have Hk4 := Lib.hid k4
  have Hk4' := Lib.hid k4'
  have Hk5 := Lib.hid k5
  have Hk5' := Lib.hid k5'
  clear hS hT hP hQ hU hV hW k1 k3 k3' k2 k4 k4' k5 k5'
  go_enter Tryd.func5, Tryd.ntmps5
  go_wp2_with fail
  refine (head_any _ (((he.alloc _).alloc _).alloc _)).mono ?_
  rintro e w1 ⟨rfl, hb⟩
  have HB := below_up (boxes3 w _ _ _) hb (by simp; omega)
  have A : Rat2 w1 w.heap.size an ad := Rat2.below ⟨by simp [go_sem], by simp [go_sem]⟩ hb
  have B : Rat2 w1 (w.heap.size + 1) bn bd := Rat2.below ⟨by simp [go_sem], by simp [go_sem]⟩ hb
  have C : Rat2 w1 (w.heap.size + 1 + 1) cn cd := Rat2.below ⟨by simp [go_sem], by simp [go_sem]⟩ hb
  clear hb he
  have zAc0 := A.c0
  have zAc1 := A.c1
  go_wp2_with fail
  refine (valid_any an ad _).mono ?_
  rintro e w2 ⟨rfl, hb⟩
  replace A := A.below hb
  replace B := B.below hb
  replace C := C.below hb
  replace HB := below_up HB hb HB.size
  clear hb
  clear zAc0 zAc1
  have zBc0 := B.c0
  have zBc1 := B.c1
  go_wp2_with fail
  refine (valid_any bn bd _).mono ?_
  rintro e w3 ⟨rfl, hb⟩
  replace A := A.below hb
  replace B := B.below hb
  replace C := C.below hb
  replace HB := below_up HB hb HB.size
  clear hb
  clear zBc0 zBc1
  have zCc0 := C.c0
  have zCc1 := C.c1
  go_wp2_with fail
  refine (valid_any cn cd _).mono ?_
  rintro e w4 ⟨rfl, hb⟩
  replace A := A.below hb
  replace B := B.below hb
  replace C := C.below hb
  replace HB := below_up HB hb HB.size
  clear hb
  clear zCc0 zCc1
  have zAc0 := A.c0
  have zAc1 := A.c1
  have zBc0 := B.c0
  have zBc1 := B.c1
  go_wp2_with fail
  have K := fun W => add_any an ad bn bd W
  rw [HhS.out] at K
  refine (K _).mono ?_
  clear K
  rintro e w5 ⟨rfl, hb⟩
  replace A := A.below hb
  replace B := B.below hb
  replace C := C.below hb
  replace HB := below_up HB hb HB.size
  clear hb
  clear zAc0 zAc1 zBc0 zBc1
  have yAc0 := fun o => (A.alloc o).c0
  have yAc1 := fun o => (A.alloc o).c1
  have yBc0 := fun o => (B.alloc o).c0
  have yBc1 := fun o => (B.alloc o).c1
  go_wp2_with fail
  have K := fun W => add_any bn bd an ad W
  rw [HhT.out] at K
  refine (K _).mono ?_
  clear K
  rintro e w6 ⟨rfl, hb⟩
  replace A := (A.alloc _).below hb
  replace B := (B.alloc _).below hb
  replace C := (C.alloc _).below hb
  have S : Rat2 w6 w5.heap.size (sn) (sd) := Rat2.below ⟨by simp [go_sem], by simp [go_sem]⟩ hb
  replace HB := below_next HB HB.size hb
  clear hb
  clear yAc0 yAc1 yBc0 yBc1
  have yAc0 := fun o => (A.alloc o).c0
  have yAc1 := fun o => (A.alloc o).c1
  have yBc0 := fun o => (B.alloc o).c0
  have yBc1 := fun o => (B.alloc o).c1
  go_wp2_with fail
  have K := fun W => mul_any an ad bn bd W
  rw [HhP.out] at K
  refine (K _).mono ?_
  clear K
  rintro e w7 ⟨rfl, hb⟩
  replace A := (A.alloc _).below hb
  replace B := (B.alloc _).below hb
  replace C := (C.alloc _).below hb
  replace S := (S.alloc _).below hb
  have T : Rat2 w7 w6.heap.size (sn) (sd) := Rat2.below ⟨by simp [go_sem], by simp [go_sem]⟩ hb
  replace HB := below_next HB HB.size hb
  clear hb
  clear yAc0 yAc1 yBc0 yBc1
  have yAc0 := fun o => (A.alloc o).c0
  have yAc1 := fun o => (A.alloc o).c1
  have yBc0 := fun o => (B.alloc o).c0
  have yBc1 := fun o => (B.alloc o).c1
  go_wp2_with fail
  have K := fun W => mul_any bn bd an ad W
  rw [HhQ.out] at K
  refine (K _).mono ?_
  clear K
  rintro e w8 ⟨rfl, hb⟩
  replace A := (A.alloc _).below hb
  replace B := (B.alloc _).below hb
  replace C := (C.alloc _).below hb
  replace S := (S.alloc _).below hb
  replace T := (T.alloc _).below hb
  have P : Rat2 w8 w7.heap.size (pn) (pd) := Rat2.below ⟨by simp [go_sem], by simp [go_sem]⟩ hb
  replace HB := below_next HB HB.size hb
  clear hb
  clear yAc0 yAc1 yBc0 yBc1
  have ySc0 := fun o => (S.alloc o).c0
  have ySc1 := fun o => (S.alloc o).c1
  have yTc0 := fun o => (T.alloc o).c0
  have yTc1 := fun o => (T.alloc o).c1
  have yPc0 := fun o => (P.alloc o).c0
  have yPc1 := fun o => (P.alloc o).c1
  have yBc0 := fun o => (B.alloc o).c0
  have yBc1 := fun o => (B.alloc o).c1
  have yCc0 := fun o => (C.alloc o).c0
  have yCc1 := fun o => (C.alloc o).c1
  go_wp2_with fail
  have K := fun W => sub_any sn sd bn bd W
  rw [Hk1.out] at K
  refine (K _).mono ?_
  clear K
  rintro e w9 ⟨rfl, hb⟩
  replace A := (A.alloc _).below hb
  replace B := (B.alloc _).below hb
  replace C := (C.alloc _).below hb
  replace S := (S.alloc _).below hb
  replace T := (T.alloc _).below hb
  replace P := (P.alloc _).below hb
  have Q : Rat2 w9 w8.heap.size (pn) (pd) := Rat2.below ⟨by simp [go_sem], by simp [go_sem]⟩ hb
  replace HB := below_next HB HB.size hb
  clear hb
  clear ySc0 ySc1 yTc0 yTc1 yPc0 yPc1 yBc0 yBc1 yCc0 yCc1
  have yAc0 := fun o => (A.alloc o).c0
  have yAc1 := fun o => (A.alloc o).c1
  have yBc0 := fun o => (B.alloc o).c0
  have yBc1 := fun o => (B.alloc o).c1
  have yCc0 := fun o => (C.alloc o).c0
  have yCc1 := fun o => (C.alloc o).c1
  clear T Q
  go_upto_if 116 with fail
  go_cut [] (fun wx => Below w.heap.size w wx ∧ Rat2 wx w.heap.size (an) (ad) ∧ Rat2 wx (w.heap.size + 1) (bn) (bd) ∧ Rat2 wx (w.heap.size + 1 + 1) (cn) (cd) ∧ Rat2 wx w5.heap.size (sn) (sd) ∧ Rat2 wx w7.heap.size (pn) (pd))
  case first =>
    clear yAc0 yAc1 yBc0 yBc1 yCc0 yCc1
    replace HB := HB.alloc HB.size (Obj.cells #[Value.int IntKind.i64 (an), Value.int IntKind.i64 (ad)] 23)
    replace A := A.alloc (Obj.cells #[Value.int IntKind.i64 (an), Value.int IntKind.i64 (ad)] 23)
    replace B := B.alloc (Obj.cells #[Value.int IntKind.i64 (an), Value.int IntKind.i64 (ad)] 23)
    replace C := C.alloc (Obj.cells #[Value.int IntKind.i64 (an), Value.int IntKind.i64 (ad)] 23)
    replace S := S.alloc (Obj.cells #[Value.int IntKind.i64 (an), Value.int IntKind.i64 (ad)] 23)
    replace P := P.alloc (Obj.cells #[Value.int IntKind.i64 (an), Value.int IntKind.i64 (ad)] 23)
    have R : Rat2 (w9.alloc (Obj.cells #[Value.int IntKind.i64 (an), Value.int IntKind.i64 (ad)] 23)) w9.heap.size (an) (ad) := ⟨by simp [go_sem], by simp [go_sem]⟩
    generalize w9.alloc (Obj.cells #[Value.int IntKind.i64 (an), Value.int IntKind.i64 (ad)] 23) = w10 at *
    by_cases h3 : bn ≠ 0
    · have h3b : (bn != 0) = true := by simpa using h3
      have zPc0 := P.c0
      have zPc1 := P.c1
      have zBc0 := B.c0
      have zBc1 := B.c1
      go_wp2_with fail
      have K := fun W => div_any pn pd bn bd W
      rw [Hk2.out h3] at K
      refine (K _).mono ?_
      clear K
      rintro e w11 ⟨rfl, hb⟩
      replace A := A.below hb
      replace B := B.below hb
      replace C := C.below hb
      replace S := S.below hb
      replace P := P.below hb
      replace R := R.below hb
      replace HB := below_up HB hb HB.size
      clear hb
      clear zPc0 zPc1 zBc0 zBc1
      have yAc0 := fun o => (A.alloc o).c0
      have yAc1 := fun o => (A.alloc o).c1
      go_wp2_with fail
      clear yAc0 yAc1
      replace HB := HB.alloc HB.size (Obj.cells #[Value.int IntKind.i64 (an), Value.int IntKind.i64 (ad)] 23)
      replace A := A.alloc (Obj.cells #[Value.int IntKind.i64 (an), Value.int IntKind.i64 (ad)] 23)
      replace B := B.alloc (Obj.cells #[Value.int IntKind.i64 (an), Value.int IntKind.i64 (ad)] 23)
      replace C := C.alloc (Obj.cells #[Value.int IntKind.i64 (an), Value.int IntKind.i64 (ad)] 23)
      replace S := S.alloc (Obj.cells #[Value.int IntKind.i64 (an), Value.int IntKind.i64 (ad)] 23)
      replace P := P.alloc (Obj.cells #[Value.int IntKind.i64 (an), Value.int IntKind.i64 (ad)] 23)
      replace R := R.alloc (Obj.cells #[Value.int IntKind.i64 (an), Value.int IntKind.i64 (ad)] 23)
      have R : Rat2 (w11.alloc (Obj.cells #[Value.int IntKind.i64 (an), Value.int IntKind.i64 (ad)] 23)) w11.heap.size (an) (ad) := ⟨by simp [go_sem], by simp [go_sem]⟩
      generalize w11.alloc (Obj.cells #[Value.int IntKind.i64 (an), Value.int IntKind.i64 (ad)] 23) = w12 at *
      go_meet
      case rel => exact ⟨HB, A, B, C, S, P⟩
    · have h3b : (bn != 0) = false := by simpa using h3
      go_wp2_with fail
      go_meet
      case rel => exact ⟨HB, A, B, C, S, P⟩
  case rest =>
    obtain ⟨HB, A, B, C, S, P⟩ := hcut
    rename World => w13
    have zBc0 := B.c0
    have zBc1 := B.c1
    have zCc0 := C.c0
    have zCc1 := C.c1
    go_wp2_with fail
    have K := fun W => add_any bn bd cn cd W
    rw [HhU.out] at K
    refine (K _).mono ?_
    clear K
    rintro e w14 ⟨rfl, hb⟩
    replace A := A.below hb
    replace B := B.below hb
    replace C := C.below hb
    replace S := S.below hb
    replace P := P.below hb
    replace HB := below_up HB hb HB.size
    clear hb
    clear zBc0 zBc1 zCc0 zCc1
    have yBc0 := fun o => (B.alloc o).c0
    have yBc1 := fun o => (B.alloc o).c1
    have yCc0 := fun o => (C.alloc o).c0
    have yCc1 := fun o => (C.alloc o).c1
    go_wp2_with fail
    have K := fun W => mul_any bn bd cn cd W
    rw [HhV.out] at K
    refine (K _).mono ?_
    clear K
    rintro e w15 ⟨rfl, hb⟩
    replace A := (A.alloc _).below hb
    replace B := (B.alloc _).below hb
    replace C := (C.alloc _).below hb
    replace S := (S.alloc _).below hb
    replace P := (P.alloc _).below hb
    have U : Rat2 w15 w14.heap.size (un) (ud) := Rat2.below ⟨by simp [go_sem], by simp [go_sem]⟩ hb
    replace HB := below_next HB HB.size hb
    clear hb
    clear yBc0 yBc1 yCc0 yCc1
    have yAc0 := fun o => (A.alloc o).c0
    have yAc1 := fun o => (A.alloc o).c1
    have yCc0 := fun o => (C.alloc o).c0
    have yCc1 := fun o => (C.alloc o).c1
    go_wp2_with fail
    have K := fun W => mul_any an ad cn cd W
    rw [HhW.out] at K
    refine (K _).mono ?_
    clear K
    rintro e w16 ⟨rfl, hb⟩
    replace A := (A.alloc _).below hb
    replace B := (B.alloc _).below hb
    replace C := (C.alloc _).below hb
    replace S := (S.alloc _).below hb
    replace P := (P.alloc _).below hb
    replace U := (U.alloc _).below hb
    have V : Rat2 w16 w15.heap.size (vn) (vd) := Rat2.below ⟨by simp [go_sem], by simp [go_sem]⟩ hb
    replace HB := below_next HB HB.size hb
    clear hb
    clear yAc0 yAc1 yCc0 yCc1
    go_upto_if 153 with fail
    go_cut [] (fun wx => Below w.heap.size w wx ∧ Rat2 wx w.heap.size (an) (ad) ∧ Rat2 wx (w.heap.size + 1 + 1) (cn) (cd) ∧ Rat2 wx w7.heap.size (pn) (pd) ∧ Rat2 wx w14.heap.size (un) (ud) ∧ Rat2 wx w15.heap.size (vn) (vd) ∧ Rat2 wx w16.heap.size (wn) (wd))
    case first =>
      replace HB := HB.alloc HB.size (Obj.cells #[Value.int IntKind.i64 (wn), Value.int IntKind.i64 (wd)] 23)
      replace A := A.alloc (Obj.cells #[Value.int IntKind.i64 (wn), Value.int IntKind.i64 (wd)] 23)
      replace B := B.alloc (Obj.cells #[Value.int IntKind.i64 (wn), Value.int IntKind.i64 (wd)] 23)
      replace C := C.alloc (Obj.cells #[Value.int IntKind.i64 (wn), Value.int IntKind.i64 (wd)] 23)
      replace S := S.alloc (Obj.cells #[Value.int IntKind.i64 (wn), Value.int IntKind.i64 (wd)] 23)
      replace P := P.alloc (Obj.cells #[Value.int IntKind.i64 (wn), Value.int IntKind.i64 (wd)] 23)
      replace U := U.alloc (Obj.cells #[Value.int IntKind.i64 (wn), Value.int IntKind.i64 (wd)] 23)
      replace V := V.alloc (Obj.cells #[Value.int IntKind.i64 (wn), Value.int IntKind.i64 (wd)] 23)
      have W : Rat2 (w16.alloc (Obj.cells #[Value.int IntKind.i64 (wn), Value.int IntKind.i64 (wd)] 23)) w16.heap.size (wn) (wd) := ⟨by simp [go_sem], by simp [go_sem]⟩
      generalize w16.alloc (Obj.cells #[Value.int IntKind.i64 (wn), Value.int IntKind.i64 (wd)] 23) = w17 at *
      by_cases h4 : eu = 0
      · subst h4
        have zSc0 := S.c0
        have zSc1 := S.c1
        have zCc0 := C.c0
        have zCc1 := C.c1
        go_wp2_with fail
        have K := fun W => add_any sn sd cn cd W
        rw [Hk3.out (by simp)] at K
        refine (K _).mono ?_
        clear K
        rintro e w18 ⟨rfl, hb⟩
        replace A := A.below hb
        replace B := B.below hb
        replace C := C.below hb
        replace S := S.below hb
        replace P := P.below hb
        replace U := U.below hb
        replace V := V.below hb
        replace W := W.below hb
        replace HB := below_up HB hb HB.size
        clear hb
        clear zSc0 zSc1 zCc0 zCc1
        have yAc0 := fun o => (A.alloc o).c0
        have yAc1 := fun o => (A.alloc o).c1
        have yUc0 := fun o => (U.alloc o).c0
        have yUc1 := fun o => (U.alloc o).c1
        go_wp2_with fail
        have K := fun W => add_any an ad un ud W
        rw [Hk3'.out (by simp)] at K
        refine (K _).mono ?_
        clear K
        rintro e w19 ⟨rfl, hb⟩
        replace A := (A.alloc _).below hb
        replace B := (B.alloc _).below hb
        replace C := (C.alloc _).below hb
        replace S := (S.alloc _).below hb
        replace P := (P.alloc _).below hb
        replace U := (U.alloc _).below hb
        replace V := (V.alloc _).below hb
        replace W := (W.alloc _).below hb
        have X : Rat2 w19 w18.heap.size (xn) (xd) := Rat2.below ⟨by simp [go_sem], by simp [go_sem]⟩ hb
        replace HB := below_next HB HB.size hb
        clear hb
        clear yAc0 yAc1 yUc0 yUc1
        have yXc0 := fun o => (X.alloc o).c0
        have yXc1 := fun o => (X.alloc o).c1
        go_wp2_with fail
        clear yXc0 yXc1
        replace HB := HB.alloc HB.size (Obj.cells #[Value.int IntKind.i64 (xn), Value.int IntKind.i64 (xd)] 23)
        replace A := A.alloc (Obj.cells #[Value.int IntKind.i64 (xn), Value.int IntKind.i64 (xd)] 23)
        replace B := B.alloc (Obj.cells #[Value.int IntKind.i64 (xn), Value.int IntKind.i64 (xd)] 23)
        replace C := C.alloc (Obj.cells #[Value.int IntKind.i64 (xn), Value.int IntKind.i64 (xd)] 23)
        replace S := S.alloc (Obj.cells #[Value.int IntKind.i64 (xn), Value.int IntKind.i64 (xd)] 23)
        replace P := P.alloc (Obj.cells #[Value.int IntKind.i64 (xn), Value.int IntKind.i64 (xd)] 23)
        replace U := U.alloc (Obj.cells #[Value.int IntKind.i64 (xn), Value.int IntKind.i64 (xd)] 23)
        replace V := V.alloc (Obj.cells #[Value.int IntKind.i64 (xn), Value.int IntKind.i64 (xd)] 23)
        replace W := W.alloc (Obj.cells #[Value.int IntKind.i64 (xn), Value.int IntKind.i64 (xd)] 23)
        replace X := X.alloc (Obj.cells #[Value.int IntKind.i64 (xn), Value.int IntKind.i64 (xd)] 23)
        have Y : Rat2 (w19.alloc (Obj.cells #[Value.int IntKind.i64 (xn), Value.int IntKind.i64 (xd)] 23)) w19.heap.size (xn) (xd) := ⟨by simp [go_sem], by simp [go_sem]⟩
        generalize w19.alloc (Obj.cells #[Value.int IntKind.i64 (xn), Value.int IntKind.i64 (xd)] 23) = w20 at *
        go_meet
        case rel => exact ⟨HB, A, C, P, U, V, W⟩
      · have h4b : (eu == 0) = false := by simpa using h4
        go_wp2_with fail
        go_meet
        case rel => exact ⟨HB, A, C, P, U, V, W⟩
    case rest =>
      obtain ⟨HB, A, C, P, U, V, W⟩ := hcut
      rename World => w21
      go_upto_if 179 with fail
      go_cut [] (fun wx => Below w.heap.size w wx ∧ Rat2 wx w.heap.size (an) (ad) ∧ Rat2 wx w7.heap.size (pn) (pd) ∧ Rat2 wx w14.heap.size (un) (ud) ∧ Rat2 wx w16.heap.size (wn) (wd))
      case first =>
        by_cases h5 : ev = 0
        · subst h5
          have zPc0 := P.c0
          have zPc1 := P.c1
          have zCc0 := C.c0
          have zCc1 := C.c1
          go_wp2_with fail
          have K := fun W => mul_any pn pd cn cd W
          rw [Hk4.out (by simp)] at K
          refine (K _).mono ?_
          clear K
          rintro e w22 ⟨rfl, hb⟩
          replace A := A.below hb
          replace C := C.below hb
          replace P := P.below hb
          replace U := U.below hb
          replace V := V.below hb
          replace W := W.below hb
          replace HB := below_up HB hb HB.size
          clear hb
          clear zPc0 zPc1 zCc0 zCc1
          have yAc0 := fun o => (A.alloc o).c0
          have yAc1 := fun o => (A.alloc o).c1
          have yVc0 := fun o => (V.alloc o).c0
          have yVc1 := fun o => (V.alloc o).c1
          go_wp2_with fail
          have K := fun W => mul_any an ad vn vd W
          rw [Hk4'.out (by simp)] at K
          refine (K _).mono ?_
          clear K
          rintro e w23 ⟨rfl, hb⟩
          replace A := (A.alloc _).below hb
          replace C := (C.alloc _).below hb
          replace P := (P.alloc _).below hb
          replace U := (U.alloc _).below hb
          replace V := (V.alloc _).below hb
          replace W := (W.alloc _).below hb
          have X : Rat2 w23 w22.heap.size (yn) (yd) := Rat2.below ⟨by simp [go_sem], by simp [go_sem]⟩ hb
          replace HB := below_next HB HB.size hb
          clear hb
          clear yAc0 yAc1 yVc0 yVc1
          have yXc0 := fun o => (X.alloc o).c0
          have yXc1 := fun o => (X.alloc o).c1
          go_wp2_with fail
          clear yXc0 yXc1
          replace HB := HB.alloc HB.size (Obj.cells #[Value.int IntKind.i64 (yn), Value.int IntKind.i64 (yd)] 23)
          replace A := A.alloc (Obj.cells #[Value.int IntKind.i64 (yn), Value.int IntKind.i64 (yd)] 23)
          replace C := C.alloc (Obj.cells #[Value.int IntKind.i64 (yn), Value.int IntKind.i64 (yd)] 23)
          replace P := P.alloc (Obj.cells #[Value.int IntKind.i64 (yn), Value.int IntKind.i64 (yd)] 23)
          replace U := U.alloc (Obj.cells #[Value.int IntKind.i64 (yn), Value.int IntKind.i64 (yd)] 23)
          replace V := V.alloc (Obj.cells #[Value.int IntKind.i64 (yn), Value.int IntKind.i64 (yd)] 23)
          replace W := W.alloc (Obj.cells #[Value.int IntKind.i64 (yn), Value.int IntKind.i64 (yd)] 23)
          replace X := X.alloc (Obj.cells #[Value.int IntKind.i64 (yn), Value.int IntKind.i64 (yd)] 23)
          have Y : Rat2 (w23.alloc (Obj.cells #[Value.int IntKind.i64 (yn), Value.int IntKind.i64 (yd)] 23)) w23.heap.size (yn) (yd) := ⟨by simp [go_sem], by simp [go_sem]⟩
          generalize w23.alloc (Obj.cells #[Value.int IntKind.i64 (yn), Value.int IntKind.i64 (yd)] 23) = w24 at *
          go_meet
          case rel => exact ⟨HB, A, P, U, W⟩
        · have h5b : (ev == 0) = false := by simpa using h5
          go_wp2_with fail
          go_meet
          case rel => exact ⟨HB, A, P, U, W⟩
      case rest =>
        obtain ⟨HB, A, P, U, W⟩ := hcut
        rename World => w25
        by_cases h6 : eu = 0 ∧ ew = 0
        · obtain ⟨rfl, rfl⟩ := h6
          have zAc0 := A.c0
          have zAc1 := A.c1
          have zUc0 := U.c0
          have zUc1 := U.c1
          go_wp2_with fail
          have K := fun W => mul_any an ad un ud W
          rw [Hk5.out (by simp) (by simp)] at K
          refine (K _).mono ?_
          clear K
          rintro e w26 ⟨rfl, hb⟩
          replace A := A.below hb
          replace P := P.below hb
          replace U := U.below hb
          replace W := W.below hb
          replace HB := below_up HB hb HB.size
          clear hb
          clear zAc0 zAc1 zUc0 zUc1
          have yPc0 := fun o => (P.alloc o).c0
          have yPc1 := fun o => (P.alloc o).c1
          have yWc0 := fun o => (W.alloc o).c0
          have yWc1 := fun o => (W.alloc o).c1
          go_wp2_with fail
          have K := fun W => add_any pn pd wn wd W
          rw [Hk5'.out (by simp) (by simp)] at K
          refine (K _).mono ?_
          clear K
          rintro e w27 ⟨rfl, hb⟩
          replace A := (A.alloc _).below hb
          replace P := (P.alloc _).below hb
          replace U := (U.alloc _).below hb
          replace W := (W.alloc _).below hb
          have X : Rat2 w27 w26.heap.size (zn) (zd) := Rat2.below ⟨by simp [go_sem], by simp [go_sem]⟩ hb
          replace HB := below_next HB HB.size hb
          clear hb
          clear yPc0 yPc1 yWc0 yWc1
          have yXc0 := fun o => (X.alloc o).c0
          have yXc1 := fun o => (X.alloc o).c1
          go_wp2_with fail
          go_ret
          exact ⟨rfl, HB.alloc HB.size _⟩
        · by_cases h7 : eu = 0
          · have h8 : (ew == 0) = false := by simpa [h7] using h6
            subst h7
            clear h6
            go_wp2_with fail
            go_ret
            exact ⟨rfl, HB⟩
          · have h8 : (eu == 0) = false := by simpa using h7
            clear h6 h7
            go_wp2_with fail
            go_ret
            exact ⟨rfl, HB⟩

set_option maxRecDepth 100000 in
set_option maxHeartbeats 3200000 in
theorem field_10 (an ad bn bd cn cd : Int) (sn sd pn pd un ud eu vn vd ev wn wd ew : Int) (ep : Int) (hep : (ep == 0) = false) (hv : vldB an ad = true) (hu : vldB bn bd = true) (ht : vldB cn cd = true)
    (hS : opr (vldB an ad && vldB bn bd) (an * bd + bn * ad) (ad * bd) = (sn, sd, 0)) (hT : opr (vldB bn bd && vldB an ad) (bn * ad + an * bd) (bd * ad) = (sn, sd, 0)) (hP : opr (vldB an ad && vldB bn bd) (an * bn) (ad * bd) = (pn, pd, ep)) (hQ : opr (vldB bn bd && vldB an ad) (bn * an) (bd * ad) = (pn, pd, ep))
    (hU : opr (vldB bn bd && vldB cn cd) (bn * cd + cn * bd) (bd * cd) = (un, ud, eu)) (hV : opr (vldB bn bd && vldB cn cd) (bn * cn) (bd * cd) = (vn, vd, ev)) (hW : opr (vldB an ad && vldB cn cd) (an * cn) (ad * cd) = (wn, wd, ew))
    (xn xd ex : Int) (k1 : opr (vldB sn sd && vldB bn bd) (sn * bd - bn * sd) (sd * bd) = (an, ad, 0)) (k3 : eu = 0 → opr (vldB sn sd && vldB cn cd) (sn * cd + cn * sd) (sd * cd) = (xn, xd, ex)) (k3' : eu = 0 → opr (vldB an ad && vldB un ud) (an * ud + un * ad) (ad * ud) = (xn, xd, ex)) (w : World) (he : Env w) :
    Calls Tryd.prog 5 #[.agg #[.int .i64 an, .int .i64 ad], .agg #[.int .i64 bn, .int .i64 bd], .agg #[.int .i64 cn, .int .i64 cd]] w fun e w' => e = .returned (.bool true) ∧ Below w.heap.size w w' := by
  have HhS := Lib.hid hS
  have HhT := Lib.hid hT
  have HhP := Lib.hid hP
  have HhQ := Lib.hid hQ
  have HhU := Lib.hid hU
  have HhV := Lib.hid hV
  have HhW := Lib.hid hW
  have Hk1 := Lib.hid k1
  have Hk3 := Lib.hid k3
  have Hk3' := Lib.hid k3'
  clear hS hT hP hQ hU hV hW k1 k3 k3'
  go_enter Tryd.func5, Tryd.ntmps5
  go_wp2_with fail
  refine (head_any _ (((he.alloc _).alloc _).alloc _)).mono ?_
  rintro e w1 ⟨rfl, hb⟩
  have HB := below_up (boxes3 w _ _ _) hb (by simp; omega)
  have A : Rat2 w1 w.heap.size an ad := Rat2.below ⟨by simp [go_sem], by simp [go_sem]⟩ hb
  have B : Rat2 w1 (w.heap.size + 1) bn bd := Rat2.below ⟨by simp [go_sem], by simp [go_sem]⟩ hb
  have C : Rat2 w1 (w.heap.size + 1 + 1) cn cd := Rat2.below ⟨by simp [go_sem], by simp [go_sem]⟩ hb
  clear hb he
  have zAc0 := A.c0
  have zAc1 := A.c1
  go_wp2_with fail
  refine (valid_any an ad _).mono ?_
  rintro e w2 ⟨rfl, hb⟩
  replace A := A.below hb
  replace B := B.below hb
  replace C := C.below hb
  replace HB := below_up HB hb HB.size
  clear hb
  clear zAc0 zAc1
  have zBc0 := B.c0
  have zBc1 := B.c1
  go_wp2_with fail
  refine (valid_any bn bd _).mono ?_
  rintro e w3 ⟨rfl, hb⟩
  replace A := A.below hb
  replace B := B.below hb
  replace C := C.below hb
  replace HB := below_up HB hb HB.size
  clear hb
  clear zBc0 zBc1
  have zCc0 := C.c0
  have zCc1 := C.c1
  go_wp2_with fail
  refine (valid_any cn cd _).mono ?_
  rintro e w4 ⟨rfl, hb⟩
  replace A := A.below hb
  replace B := B.below hb
  replace C := C.below hb
  replace HB := below_up HB hb HB.size
  clear hb
  clear zCc0 zCc1
  have zAc0 := A.c0
  have zAc1 := A.c1
  have zBc0 := B.c0
  have zBc1 := B.c1
  go_wp2_with fail
  have K := fun W => add_any an ad bn bd W
  rw [HhS.out] at K
  refine (K _).mono ?_
  clear K
  rintro e w5 ⟨rfl, hb⟩
  replace A := A.below hb
  replace B := B.below hb
  replace C := C.below hb
  replace HB := below_up HB hb HB.size
  clear hb
  clear zAc0 zAc1 zBc0 zBc1
  have yAc0 := fun o => (A.alloc o).c0
  have yAc1 := fun o => (A.alloc o).c1
  have yBc0 := fun o => (B.alloc o).c0
  have yBc1 := fun o => (B.alloc o).c1
  go_wp2_with fail
  have K := fun W => add_any bn bd an ad W
  rw [HhT.out] at K
  refine (K _).mono ?_
  clear K
  rintro e w6 ⟨rfl, hb⟩
  replace A := (A.alloc _).below hb
  replace B := (B.alloc _).below hb
  replace C := (C.alloc _).below hb
  have S : Rat2 w6 w5.heap.size (sn) (sd) := Rat2.below ⟨by simp [go_sem], by simp [go_sem]⟩ hb
  replace HB := below_next HB HB.size hb
  clear hb
  clear yAc0 yAc1 yBc0 yBc1
  have yAc0 := fun o => (A.alloc o).c0
  have yAc1 := fun o => (A.alloc o).c1
  have yBc0 := fun o => (B.alloc o).c0
  have yBc1 := fun o => (B.alloc o).c1
  go_wp2_with fail
  have K := fun W => mul_any an ad bn bd W
  rw [HhP.out] at K
  refine (K _).mono ?_
  clear K
  rintro e w7 ⟨rfl, hb⟩
  replace A := (A.alloc _).below hb
  replace B := (B.alloc _).below hb
  replace C := (C.alloc _).below hb
  replace S := (S.alloc _).below hb
  have T : Rat2 w7 w6.heap.size (sn) (sd) := Rat2.below ⟨by simp [go_sem], by simp [go_sem]⟩ hb
  replace HB := below_next HB HB.size hb
  clear hb
  clear yAc0 yAc1 yBc0 yBc1
  have yAc0 := fun o => (A.alloc o).c0
  have yAc1 := fun o => (A.alloc o).c1
  have yBc0 := fun o => (B.alloc o).c0
  have yBc1 := fun o => (B.alloc o).c1
  go_wp2_with fail
  have K := fun W => mul_any bn bd an ad W
  rw [HhQ.out] at K
  refine (K _).mono ?_
  clear K
  rintro e w8 ⟨rfl, hb⟩
  replace A := (A.alloc _).below hb
  replace B := (B.alloc _).below hb
  replace C := (C.alloc _).below hb
  replace S := (S.alloc _).below hb
  replace T := (T.alloc _).below hb
  have P : Rat2 w8 w7.heap.size (pn) (pd) := Rat2.below ⟨by simp [go_sem], by simp [go_sem]⟩ hb
  replace HB := below_next HB HB.size hb
  clear hb
  clear yAc0 yAc1 yBc0 yBc1
  have ySc0 := fun o => (S.alloc o).c0
  have ySc1 := fun o => (S.alloc o).c1
  have yTc0 := fun o => (T.alloc o).c0
  have yTc1 := fun o => (T.alloc o).c1
  have yPc0 := fun o => (P.alloc o).c0
  have yPc1 := fun o => (P.alloc o).c1
  have yBc0 := fun o => (B.alloc o).c0
  have yBc1 := fun o => (B.alloc o).c1
  have yCc0 := fun o => (C.alloc o).c0
  have yCc1 := fun o => (C.alloc o).c1
  go_wp2_with fail
  have K := fun W => sub_any sn sd bn bd W
  rw [Hk1.out] at K
  refine (K _).mono ?_
  clear K
  rintro e w9 ⟨rfl, hb⟩
  replace A := (A.alloc _).below hb
  replace B := (B.alloc _).below hb
  replace C := (C.alloc _).below hb
  replace S := (S.alloc _).below hb
  replace T := (T.alloc _).below hb
  replace P := (P.alloc _).below hb
  have Q : Rat2 w9 w8.heap.size (pn) (pd) := Rat2.below ⟨by simp [go_sem], by simp [go_sem]⟩ hb
  replace HB := below_next HB HB.size hb
  clear hb
  clear ySc0 ySc1 yTc0 yTc1 yPc0 yPc1 yBc0 yBc1 yCc0 yCc1
  have yAc0 := fun o => (A.alloc o).c0
  have yAc1 := fun o => (A.alloc o).c1
  have yBc0 := fun o => (B.alloc o).c0
  have yBc1 := fun o => (B.alloc o).c1
  have yCc0 := fun o => (C.alloc o).c0
  have yCc1 := fun o => (C.alloc o).c1
  clear T Q
  go_wp2_with fail
  have K := fun W => add_any bn bd cn cd W
  rw [HhU.out] at K
  refine (K _).mono ?_
  clear K
  rintro e w10 ⟨rfl, hb⟩
  replace A := (A.alloc _).below hb
  replace B := (B.alloc _).below hb
  replace C := (C.alloc _).below hb
  replace S := (S.alloc _).below hb
  replace P := (P.alloc _).below hb
  have R : Rat2 w10 w9.heap.size (an) (ad) := Rat2.below ⟨by simp [go_sem], by simp [go_sem]⟩ hb
  replace HB := below_next HB HB.size hb
  clear hb
  clear yAc0 yAc1 yBc0 yBc1 yCc0 yCc1
  have yBc0 := fun o => (B.alloc o).c0
  have yBc1 := fun o => (B.alloc o).c1
  have yCc0 := fun o => (C.alloc o).c0
  have yCc1 := fun o => (C.alloc o).c1
  go_wp2_with fail
  have K := fun W => mul_any bn bd cn cd W
  rw [HhV.out] at K
  refine (K _).mono ?_
  clear K
  rintro e w11 ⟨rfl, hb⟩
  replace A := (A.alloc _).below hb
  replace B := (B.alloc _).below hb
  replace C := (C.alloc _).below hb
  replace S := (S.alloc _).below hb
  replace P := (P.alloc _).below hb
  replace R := (R.alloc _).below hb
  have U : Rat2 w11 w10.heap.size (un) (ud) := Rat2.below ⟨by simp [go_sem], by simp [go_sem]⟩ hb
  replace HB := below_next HB HB.size hb
  clear hb
  clear yBc0 yBc1 yCc0 yCc1
  have yAc0 := fun o => (A.alloc o).c0
  have yAc1 := fun o => (A.alloc o).c1
  have yCc0 := fun o => (C.alloc o).c0
  have yCc1 := fun o => (C.alloc o).c1
  go_wp2_with fail
  have K := fun W => mul_any an ad cn cd W
  rw [HhW.out] at K
  refine (K _).mono ?_
  clear K
  rintro e w12 ⟨rfl, hb⟩
  replace A := (A.alloc _).below hb
  replace B := (B.alloc _).below hb
  replace C := (C.alloc _).below hb
  replace S := (S.alloc _).below hb
  replace P := (P.alloc _).below hb
  replace R := (R.alloc _).below hb
  replace U := (U.alloc _).below hb
  have V : Rat2 w12 w11.heap.size (vn) (vd) := Rat2.below ⟨by simp [go_sem], by simp [go_sem]⟩ hb
  replace HB := below_next HB HB.size hb
  clear hb
  clear yAc0 yAc1 yCc0 yCc1
  clear R
  go_upto_if 153 with fail
  go_cut [] (fun wx => Below w.heap.size w wx ∧ Rat2 wx w.heap.size (an) (ad) ∧ Rat2 wx (w.heap.size + 1 + 1) (cn) (cd) ∧ Rat2 wx w7.heap.size (pn) (pd) ∧ Rat2 wx w10.heap.size (un) (ud) ∧ Rat2 wx w11.heap.size (vn) (vd) ∧ Rat2 wx w12.heap.size (wn) (wd))
  case first =>
    replace HB := HB.alloc HB.size (Obj.cells #[Value.int IntKind.i64 (wn), Value.int IntKind.i64 (wd)] 23)
    replace A := A.alloc (Obj.cells #[Value.int IntKind.i64 (wn), Value.int IntKind.i64 (wd)] 23)
    replace B := B.alloc (Obj.cells #[Value.int IntKind.i64 (wn), Value.int IntKind.i64 (wd)] 23)
    replace C := C.alloc (Obj.cells #[Value.int IntKind.i64 (wn), Value.int IntKind.i64 (wd)] 23)
    replace S := S.alloc (Obj.cells #[Value.int IntKind.i64 (wn), Value.int IntKind.i64 (wd)] 23)
    replace P := P.alloc (Obj.cells #[Value.int IntKind.i64 (wn), Value.int IntKind.i64 (wd)] 23)
    replace U := U.alloc (Obj.cells #[Value.int IntKind.i64 (wn), Value.int IntKind.i64 (wd)] 23)
    replace V := V.alloc (Obj.cells #[Value.int IntKind.i64 (wn), Value.int IntKind.i64 (wd)] 23)
    have W : Rat2 (w12.alloc (Obj.cells #[Value.int IntKind.i64 (wn), Value.int IntKind.i64 (wd)] 23)) w12.heap.size (wn) (wd) := ⟨by simp [go_sem], by simp [go_sem]⟩
    generalize w12.alloc (Obj.cells #[Value.int IntKind.i64 (wn), Value.int IntKind.i64 (wd)] 23) = w13 at *
    by_cases h4 : eu = 0
    · subst h4
      have zSc0 := S.c0
      have zSc1 := S.c1
      have zCc0 := C.c0
      have zCc1 := C.c1
      go_wp2_with fail
      have K := fun W => add_any sn sd cn cd W
      rw [Hk3.out (by simp)] at K
      refine (K _).mono ?_
      clear K
      rintro e w14 ⟨rfl, hb⟩
      replace A := A.below hb
      replace B := B.below hb
      replace C := C.below hb
      replace S := S.below hb
      replace P := P.below hb
      replace U := U.below hb
      replace V := V.below hb
      replace W := W.below hb
      replace HB := below_up HB hb HB.size
      clear hb
      clear zSc0 zSc1 zCc0 zCc1
      have yAc0 := fun o => (A.alloc o).c0
      have yAc1 := fun o => (A.alloc o).c1
      have yUc0 := fun o => (U.alloc o).c0
      have yUc1 := fun o => (U.alloc o).c1
      go_wp2_with fail
      have K := fun W => add_any an ad un ud W
      rw [Hk3'.out (by simp)] at K
      refine (K _).mono ?_
      clear K
      rintro e w15 ⟨rfl, hb⟩
      replace A := (A.alloc _).below hb
      replace B := (B.alloc _).below hb
      replace C := (C.alloc _).below hb
      replace S := (S.alloc _).below hb
      replace P := (P.alloc _).below hb
      replace U := (U.alloc _).below hb
      replace V := (V.alloc _).below hb
      replace W := (W.alloc _).below hb
      have X : Rat2 w15 w14.heap.size (xn) (xd) := Rat2.below ⟨by simp [go_sem], by simp [go_sem]⟩ hb
      replace HB := below_next HB HB.size hb
      clear hb
      clear yAc0 yAc1 yUc0 yUc1
      have yXc0 := fun o => (X.alloc o).c0
      have yXc1 := fun o => (X.alloc o).c1
      go_wp2_with fail
      clear yXc0 yXc1
      replace HB := HB.alloc HB.size (Obj.cells #[Value.int IntKind.i64 (xn), Value.int IntKind.i64 (xd)] 23)
      replace A := A.alloc (Obj.cells #[Value.int IntKind.i64 (xn), Value.int IntKind.i64 (xd)] 23)
      replace B := B.alloc (Obj.cells #[Value.int IntKind.i64 (xn), Value.int IntKind.i64 (xd)] 23)
      replace C := C.alloc (Obj.cells #[Value.int IntKind.i64 (xn), Value.int IntKind.i64 (xd)] 23)
      replace S := S.alloc (Obj.cells #[Value.int IntKind.i64 (xn), Value.int IntKind.i64 (xd)] 23)
      replace P := P.alloc (Obj.cells #[Value.int IntKind.i64 (xn), Value.int IntKind.i64 (xd)] 23)
      replace U := U.alloc (Obj.cells #[Value.int IntKind.i64 (xn), Value.int IntKind.i64 (xd)] 23)
      replace V := V.alloc (Obj.cells #[Value.int IntKind.i64 (xn), Value.int IntKind.i64 (xd)] 23)
      replace W := W.alloc (Obj.cells #[Value.int IntKind.i64 (xn), Value.int IntKind.i64 (xd)] 23)
      replace X := X.alloc (Obj.cells #[Value.int IntKind.i64 (xn), Value.int IntKind.i64 (xd)] 23)
      have Y : Rat2 (w15.alloc (Obj.cells #[Value.int IntKind.i64 (xn), Value.int IntKind.i64 (xd)] 23)) w15.heap.size (xn) (xd) := ⟨by simp [go_sem], by simp [go_sem]⟩
      generalize w15.alloc (Obj.cells #[Value.int IntKind.i64 (xn), Value.int IntKind.i64 (xd)] 23) = w16 at *
      go_meet
      case rel => exact ⟨HB, A, C, P, U, V, W⟩
    · have h4b : (eu == 0) = false := by simpa using h4
      go_wp2_with fail
      go_meet
      case rel => exact ⟨HB, A, C, P, U, V, W⟩
  case rest =>
    obtain ⟨HB, A, C, P, U, V, W⟩ := hcut
    rename World => w17
    go_wp2_with fail
    go_ret
    exact ⟨rfl, HB⟩

set_option maxRecDepth 100000 in
set_option maxHeartbeats 3200000 in
theorem field_01 (an ad bn bd cn cd : Int) (sn sd pn pd un ud eu vn vd ev wn wd ew : Int) (es : Int) (hes : (es == 0) = false) (hv : vldB an ad = true) (hu : vldB bn bd = true) (ht : vldB cn cd = true)
    (hS : opr (vldB an ad && vldB bn bd) (an * bd + bn * ad) (ad * bd) = (sn, sd, es)) (hT : opr (vldB bn bd && vldB an ad) (bn * ad + an * bd) (bd * ad) = (sn, sd, es)) (hP : opr (vldB an ad && vldB bn bd) (an * bn) (ad * bd) = (pn, pd, 0)) (hQ : opr (vldB bn bd && vldB an ad) (bn * an) (bd * ad) = (pn, pd, 0))
    (hU : opr (vldB bn bd && vldB cn cd) (bn * cd + cn * bd) (bd * cd) = (un, ud, eu)) (hV : opr (vldB bn bd && vldB cn cd) (bn * cn) (bd * cd) = (vn, vd, ev)) (hW : opr (vldB an ad && vldB cn cd) (an * cn) (ad * cd) = (wn, wd, ew))
    (yn yd ey zn zd ez : Int) (k2 : bn ≠ 0 → opr (vldB pn pd && vldB bn bd) (pn * bd) (pd * bn) = (an, ad, 0)) (k4 : ev = 0 → opr (vldB pn pd && vldB cn cd) (pn * cn) (pd * cd) = (yn, yd, ey)) (k4' : ev = 0 → opr (vldB an ad && vldB vn vd) (an * vn) (ad * vd) = (yn, yd, ey)) (k5 : eu = 0 → ew = 0 → opr (vldB an ad && vldB un ud) (an * un) (ad * ud) = (zn, zd, ez)) (k5' : eu = 0 → ew = 0 → opr (vldB pn pd && vldB wn wd) (pn * wd + wn * pd) (pd * wd) = (zn, zd, ez)) (w : World) (he : Env w) :
    Calls Tryd.prog 5 #[.agg #[.int .i64 an, .int .i64 ad], .agg #[.int .i64 bn, .int .i64 bd], .agg #[.int .i64 cn, .int .i64 cd]] w fun e w' => e = .returned (.bool true) ∧ Below w.heap.size w w' := by
  have HhS := Lib.hid hS
  have HhT := Lib.hid hT
  have HhP := Lib.hid hP
  have HhQ := Lib.hid hQ
  have HhU := Lib.hid hU
  have HhV := Lib.hid hV
  have HhW := Lib.hid hW
  have Hk2 := Lib.hid k2
  have Hk4 := Lib.hid k4
  have Hk4' := Lib.hid k4'
  have Hk5 := Lib.hid k5
  have Hk5' := Lib.hid k5'
  clear hS hT hP hQ hU hV hW k2 k4 k4' k5 k5'
  go_enter Tryd.func5, Tryd.ntmps5
  go_wp2_with fail
  refine (head_any _ (((he.alloc _).alloc _).alloc _)).mono ?_
  rintro e w1 ⟨rfl, hb⟩
  have HB := below_up (boxes3 w _ _ _) hb (by simp; omega)
  have A : Rat2 w1 w.heap.size an ad := Rat2.below ⟨by simp [go_sem], by simp [go_sem]⟩ hb
  have B : Rat2 w1 (w.heap.size + 1) bn bd := Rat2.below ⟨by simp [go_sem], by simp [go_sem]⟩ hb
  have C : Rat2 w1 (w.heap.size + 1 + 1) cn cd := Rat2.below ⟨by simp [go_sem], by simp [go_sem]⟩ hb
  clear hb he
  have zAc0 := A.c0
  have zAc1 := A.c1
  go_wp2_with fail
  refine (valid_any an ad _).mono ?_
  rintro e w2 ⟨rfl, hb⟩
  replace A := A.below hb
  replace B := B.below hb
  replace C := C.below hb
  replace HB := below_up HB hb HB.size
  clear hb
  clear zAc0 zAc1
  have zBc0 := B.c0
  have zBc1 := B.c1
  go_wp2_with fail
  refine (valid_any bn bd _).mono ?_
  rintro e w3 ⟨rfl, hb⟩
  replace A := A.below hb
  replace B := B.below hb
  replace C := C.below hb
  replace HB := below_up HB hb HB.size
  clear hb
  clear zBc0 zBc1
  have zCc0 := C.c0
  have zCc1 := C.c1
  go_wp2_with fail
  refine (valid_any cn cd _).mono ?_
  rintro e w4 ⟨rfl, hb⟩
  replace A := A.below hb
  replace B := B.below hb
  replace C := C.below hb
  replace HB := below_up HB hb HB.size
  clear hb
  clear zCc0 zCc1
  have zAc0 := A.c0
  have zAc1 := A.c1
  have zBc0 := B.c0
  have zBc1 := B.c1
  go_wp2_with fail
  have K := fun W => add_any an ad bn bd W
  rw [HhS.out] at K
  refine (K _).mono ?_
  clear K
  rintro e w5 ⟨rfl, hb⟩
  replace A := A.below hb
  replace B := B.below hb
  replace C := C.below hb
  replace HB := below_up HB hb HB.size
  clear hb
  clear zAc0 zAc1 zBc0 zBc1
  have yAc0 := fun o => (A.alloc o).c0
  have yAc1 := fun o => (A.alloc o).c1
  have yBc0 := fun o => (B.alloc o).c0
  have yBc1 := fun o => (B.alloc o).c1
  go_wp2_with fail
  have K := fun W => add_any bn bd an ad W
  rw [HhT.out] at K
  refine (K _).mono ?_
  clear K
  rintro e w6 ⟨rfl, hb⟩
  replace A := (A.alloc _).below hb
  replace B := (B.alloc _).below hb
  replace C := (C.alloc _).below hb
  have S : Rat2 w6 w5.heap.size (sn) (sd) := Rat2.below ⟨by simp [go_sem], by simp [go_sem]⟩ hb
  replace HB := below_next HB HB.size hb
  clear hb
  clear yAc0 yAc1 yBc0 yBc1
  have yAc0 := fun o => (A.alloc o).c0
  have yAc1 := fun o => (A.alloc o).c1
  have yBc0 := fun o => (B.alloc o).c0
  have yBc1 := fun o => (B.alloc o).c1
  go_wp2_with fail
  have K := fun W => mul_any an ad bn bd W
  rw [HhP.out] at K
  refine (K _).mono ?_
  clear K
  rintro e w7 ⟨rfl, hb⟩
  replace A := (A.alloc _).below hb
  replace B := (B.alloc _).below hb
  replace C := (C.alloc _).below hb
  replace S := (S.alloc _).below hb
  have T : Rat2 w7 w6.heap.size (sn) (sd) := Rat2.below ⟨by simp [go_sem], by simp [go_sem]⟩ hb
  replace HB := below_next HB HB.size hb
  clear hb
  clear yAc0 yAc1 yBc0 yBc1
  have yAc0 := fun o => (A.alloc o).c0
  have yAc1 := fun o => (A.alloc o).c1
  have yBc0 := fun o => (B.alloc o).c0
  have yBc1 := fun o => (B.alloc o).c1
  go_wp2_with fail
  have K := fun W => mul_any bn bd an ad W
  rw [HhQ.out] at K
  refine (K _).mono ?_
  clear K
  rintro e w8 ⟨rfl, hb⟩
  replace A := (A.alloc _).below hb
  replace B := (B.alloc _).below hb
  replace C := (C.alloc _).below hb
  replace S := (S.alloc _).below hb
  replace T := (T.alloc _).below hb
  have P : Rat2 w8 w7.heap.size (pn) (pd) := Rat2.below ⟨by simp [go_sem], by simp [go_sem]⟩ hb
  replace HB := below_next HB HB.size hb
  clear hb
  clear yAc0 yAc1 yBc0 yBc1
  have ySc0 := fun o => (S.alloc o).c0
  have ySc1 := fun o => (S.alloc o).c1
  have yTc0 := fun o => (T.alloc o).c0
  have yTc1 := fun o => (T.alloc o).c1
  have yPc0 := fun o => (P.alloc o).c0
  have yPc1 := fun o => (P.alloc o).c1
  have yBc0 := fun o => (B.alloc o).c0
  have yBc1 := fun o => (B.alloc o).c1
  have yCc0 := fun o => (C.alloc o).c0
  have yCc1 := fun o => (C.alloc o).c1
  clear T
  go_upto_if 116 with fail
  go_cut [] (fun wx => Below w.heap.size w wx ∧ Rat2 wx w.heap.size (an) (ad) ∧ Rat2 wx (w.heap.size + 1) (bn) (bd) ∧ Rat2 wx (w.heap.size + 1 + 1) (cn) (cd) ∧ Rat2 wx w5.heap.size (sn) (sd) ∧ Rat2 wx w7.heap.size (pn) (pd))
  case first =>
    clear ySc0 ySc1 yTc0 yTc1 yPc0 yPc1 yBc0 yBc1 yCc0 yCc1
    replace HB := HB.alloc HB.size (Obj.cells #[Value.int IntKind.i64 (pn), Value.int IntKind.i64 (pd)] 23)
    replace A := A.alloc (Obj.cells #[Value.int IntKind.i64 (pn), Value.int IntKind.i64 (pd)] 23)
    replace B := B.alloc (Obj.cells #[Value.int IntKind.i64 (pn), Value.int IntKind.i64 (pd)] 23)
    replace C := C.alloc (Obj.cells #[Value.int IntKind.i64 (pn), Value.int IntKind.i64 (pd)] 23)
    replace S := S.alloc (Obj.cells #[Value.int IntKind.i64 (pn), Value.int IntKind.i64 (pd)] 23)
    replace P := P.alloc (Obj.cells #[Value.int IntKind.i64 (pn), Value.int IntKind.i64 (pd)] 23)
    have Q : Rat2 (w8.alloc (Obj.cells #[Value.int IntKind.i64 (pn), Value.int IntKind.i64 (pd)] 23)) w8.heap.size (pn) (pd) := ⟨by simp [go_sem], by simp [go_sem]⟩
    generalize w8.alloc (Obj.cells #[Value.int IntKind.i64 (pn), Value.int IntKind.i64 (pd)] 23) = w9 at *
    by_cases h3 : bn ≠ 0
    · have h3b : (bn != 0) = true := by simpa using h3
      have zPc0 := P.c0
      have zPc1 := P.c1
      have zBc0 := B.c0
      have zBc1 := B.c1
      go_wp2_with fail
      have K := fun W => div_any pn pd bn bd W
      rw [Hk2.out h3] at K
      refine (K _).mono ?_
      clear K
      rintro e w10 ⟨rfl, hb⟩
      replace A := A.below hb
      replace B := B.below hb
      replace C := C.below hb
      replace S := S.below hb
      replace P := P.below hb
      replace Q := Q.below hb
      replace HB := below_up HB hb HB.size
      clear hb
      clear zPc0 zPc1 zBc0 zBc1
      have yAc0 := fun o => (A.alloc o).c0
      have yAc1 := fun o => (A.alloc o).c1
      go_wp2_with fail
      clear yAc0 yAc1
      replace HB := HB.alloc HB.size (Obj.cells #[Value.int IntKind.i64 (an), Value.int IntKind.i64 (ad)] 23)
      replace A := A.alloc (Obj.cells #[Value.int IntKind.i64 (an), Value.int IntKind.i64 (ad)] 23)
      replace B := B.alloc (Obj.cells #[Value.int IntKind.i64 (an), Value.int IntKind.i64 (ad)] 23)
      replace C := C.alloc (Obj.cells #[Value.int IntKind.i64 (an), Value.int IntKind.i64 (ad)] 23)
      replace S := S.alloc (Obj.cells #[Value.int IntKind.i64 (an), Value.int IntKind.i64 (ad)] 23)
      replace P := P.alloc (Obj.cells #[Value.int IntKind.i64 (an), Value.int IntKind.i64 (ad)] 23)
      replace Q := Q.alloc (Obj.cells #[Value.int IntKind.i64 (an), Value.int IntKind.i64 (ad)] 23)
      have R : Rat2 (w10.alloc (Obj.cells #[Value.int IntKind.i64 (an), Value.int IntKind.i64 (ad)] 23)) w10.heap.size (an) (ad) := ⟨by simp [go_sem], by simp [go_sem]⟩
      generalize w10.alloc (Obj.cells #[Value.int IntKind.i64 (an), Value.int IntKind.i64 (ad)] 23) = w11 at *
      go_meet
      case rel => exact ⟨HB, A, B, C, S, P⟩
    · have h3b : (bn != 0) = false := by simpa using h3
      go_wp2_with fail
      go_meet
      case rel => exact ⟨HB, A, B, C, S, P⟩
  case rest =>
    obtain ⟨HB, A, B, C, S, P⟩ := hcut
    rename World => w12
    have zBc0 := B.c0
    have zBc1 := B.c1
    have zCc0 := C.c0
    have zCc1 := C.c1
    go_wp2_with fail
    have K := fun W => add_any bn bd cn cd W
    rw [HhU.out] at K
    refine (K _).mono ?_
    clear K
    rintro e w13 ⟨rfl, hb⟩
    replace A := A.below hb
    replace B := B.below hb
    replace C := C.below hb
    replace S := S.below hb
    replace P := P.below hb
    replace HB := below_up HB hb HB.size
    clear hb
    clear zBc0 zBc1 zCc0 zCc1
    have yBc0 := fun o => (B.alloc o).c0
    have yBc1 := fun o => (B.alloc o).c1
    have yCc0 := fun o => (C.alloc o).c0
    have yCc1 := fun o => (C.alloc o).c1
    go_wp2_with fail
    have K := fun W => mul_any bn bd cn cd W
    rw [HhV.out] at K
    refine (K _).mono ?_
    clear K
    rintro e w14 ⟨rfl, hb⟩
    replace A := (A.alloc _).below hb
    replace B := (B.alloc _).below hb
    replace C := (C.alloc _).below hb
    replace S := (S.alloc _).below hb
    replace P := (P.alloc _).below hb
    have U : Rat2 w14 w13.heap.size (un) (ud) := Rat2.below ⟨by simp [go_sem], by simp [go_sem]⟩ hb
    replace HB := below_next HB HB.size hb
    clear hb
    clear yBc0 yBc1 yCc0 yCc1
    have yAc0 := fun o => (A.alloc o).c0
    have yAc1 := fun o => (A.alloc o).c1
    have yCc0 := fun o => (C.alloc o).c0
    have yCc1 := fun o => (C.alloc o).c1
    go_wp2_with fail
    have K := fun W => mul_any an ad cn cd W
    rw [HhW.out] at K
    refine (K _).mono ?_
    clear K
    rintro e w15 ⟨rfl, hb⟩
    replace A := (A.alloc _).below hb
    replace B := (B.alloc _).below hb
    replace C := (C.alloc _).below hb
    replace S := (S.alloc _).below hb
    replace P := (P.alloc _).below hb
    replace U := (U.alloc _).below hb
    have V : Rat2 w15 w14.heap.size (vn) (vd) := Rat2.below ⟨by simp [go_sem], by simp [go_sem]⟩ hb
    replace HB := below_next HB HB.size hb
    clear hb
    clear yAc0 yAc1 yCc0 yCc1
    go_upto_if 179 with fail
    go_cut [] (fun wx => Below w.heap.size w wx ∧ Rat2 wx w.heap.size (an) (ad) ∧ Rat2 wx w7.heap.size (pn) (pd) ∧ Rat2 wx w13.heap.size (un) (ud) ∧ Rat2 wx w15.heap.size (wn) (wd))
    case first =>
      replace HB := HB.alloc HB.size (Obj.cells #[Value.int IntKind.i64 (wn), Value.int IntKind.i64 (wd)] 23)
      replace A := A.alloc (Obj.cells #[Value.int IntKind.i64 (wn), Value.int IntKind.i64 (wd)] 23)
      replace B := B.alloc (Obj.cells #[Value.int IntKind.i64 (wn), Value.int IntKind.i64 (wd)] 23)
      replace C := C.alloc (Obj.cells #[Value.int IntKind.i64 (wn), Value.int IntKind.i64 (wd)] 23)
      replace S := S.alloc (Obj.cells #[Value.int IntKind.i64 (wn), Value.int IntKind.i64 (wd)] 23)
      replace P := P.alloc (Obj.cells #[Value.int IntKind.i64 (wn), Value.int IntKind.i64 (wd)] 23)
      replace U := U.alloc (Obj.cells #[Value.int IntKind.i64 (wn), Value.int IntKind.i64 (wd)] 23)
      replace V := V.alloc (Obj.cells #[Value.int IntKind.i64 (wn), Value.int IntKind.i64 (wd)] 23)
      have W : Rat2 (w15.alloc (Obj.cells #[Value.int IntKind.i64 (wn), Value.int IntKind.i64 (wd)] 23)) w15.heap.size (wn) (wd) := ⟨by simp [go_sem], by simp [go_sem]⟩
      generalize w15.alloc (Obj.cells #[Value.int IntKind.i64 (wn), Value.int IntKind.i64 (wd)] 23) = w16 at *
      by_cases h5 : ev = 0
      · subst h5
        have zPc0 := P.c0
        have zPc1 := P.c1
        have zCc0 := C.c0
        have zCc1 := C.c1
        go_wp2_with fail
        have K := fun W => mul_any pn pd cn cd W
        rw [Hk4.out (by simp)] at K
        refine (K _).mono ?_
        clear K
        rintro e w17 ⟨rfl, hb⟩
        replace A := A.below hb
        replace B := B.below hb
        replace C := C.below hb
        replace S := S.below hb
        replace P := P.below hb
        replace U := U.below hb
        replace V := V.below hb
        replace W := W.below hb
        replace HB := below_up HB hb HB.size
        clear hb
        clear zPc0 zPc1 zCc0 zCc1
        have yAc0 := fun o => (A.alloc o).c0
        have yAc1 := fun o => (A.alloc o).c1
        have yVc0 := fun o => (V.alloc o).c0
        have yVc1 := fun o => (V.alloc o).c1
        go_wp2_with fail
        have K := fun W => mul_any an ad vn vd W
        rw [Hk4'.out (by simp)] at K
        refine (K _).mono ?_
        clear K
        rintro e w18 ⟨rfl, hb⟩
        replace A := (A.alloc _).below hb
        replace B := (B.alloc _).below hb
        replace C := (C.alloc _).below hb
        replace S := (S.alloc _).below hb
        replace P := (P.alloc _).below hb
        replace U := (U.alloc _).below hb
        replace V := (V.alloc _).below hb
        replace W := (W.alloc _).below hb
        have X : Rat2 w18 w17.heap.size (yn) (yd) := Rat2.below ⟨by simp [go_sem], by simp [go_sem]⟩ hb
        replace HB := below_next HB HB.size hb
        clear hb
        clear yAc0 yAc1 yVc0 yVc1
        have yXc0 := fun o => (X.alloc o).c0
        have yXc1 := fun o => (X.alloc o).c1
        go_wp2_with fail
        clear yXc0 yXc1
        replace HB := HB.alloc HB.size (Obj.cells #[Value.int IntKind.i64 (yn), Value.int IntKind.i64 (yd)] 23)
        replace A := A.alloc (Obj.cells #[Value.int IntKind.i64 (yn), Value.int IntKind.i64 (yd)] 23)
        replace B := B.alloc (Obj.cells #[Value.int IntKind.i64 (yn), Value.int IntKind.i64 (yd)] 23)
        replace C := C.alloc (Obj.cells #[Value.int IntKind.i64 (yn), Value.int IntKind.i64 (yd)] 23)
        replace S := S.alloc (Obj.cells #[Value.int IntKind.i64 (yn), Value.int IntKind.i64 (yd)] 23)
        replace P := P.alloc (Obj.cells #[Value.int IntKind.i64 (yn), Value.int IntKind.i64 (yd)] 23)
        replace U := U.alloc (Obj.cells #[Value.int IntKind.i64 (yn), Value.int IntKind.i64 (yd)] 23)
        replace V := V.alloc (Obj.cells #[Value.int IntKind.i64 (yn), Value.int IntKind.i64 (yd)] 23)
        replace W := W.alloc (Obj.cells #[Value.int IntKind.i64 (yn), Value.int IntKind.i64 (yd)] 23)
        replace X := X.alloc (Obj.cells #[Value.int IntKind.i64 (yn), Value.int IntKind.i64 (yd)] 23)
        have Y : Rat2 (w18.alloc (Obj.cells #[Value.int IntKind.i64 (yn), Value.int IntKind.i64 (yd)] 23)) w18.heap.size (yn) (yd) := ⟨by simp [go_sem], by simp [go_sem]⟩
        generalize w18.alloc (Obj.cells #[Value.int IntKind.i64 (yn), Value.int IntKind.i64 (yd)] 23) = w19 at *
        go_meet
        case rel => exact ⟨HB, A, P, U, W⟩
      · have h5b : (ev == 0) = false := by simpa using h5
        go_wp2_with fail
        go_meet
        case rel => exact ⟨HB, A, P, U, W⟩
    case rest =>
      obtain ⟨HB, A, P, U, W⟩ := hcut
      rename World => w20
      by_cases h6 : eu = 0 ∧ ew = 0
      · obtain ⟨rfl, rfl⟩ := h6
        have zAc0 := A.c0
        have zAc1 := A.c1
        have zUc0 := U.c0
        have zUc1 := U.c1
        go_wp2_with fail
        have K := fun W => mul_any an ad un ud W
        rw [Hk5.out (by simp) (by simp)] at K
        refine (K _).mono ?_
        clear K
        rintro e w21 ⟨rfl, hb⟩
        replace A := A.below hb
        replace P := P.below hb
        replace U := U.below hb
        replace W := W.below hb
        replace HB := below_up HB hb HB.size
        clear hb
        clear zAc0 zAc1 zUc0 zUc1
        have yPc0 := fun o => (P.alloc o).c0
        have yPc1 := fun o => (P.alloc o).c1
        have yWc0 := fun o => (W.alloc o).c0
        have yWc1 := fun o => (W.alloc o).c1
        go_wp2_with fail
        have K := fun W => add_any pn pd wn wd W
        rw [Hk5'.out (by simp) (by simp)] at K
        refine (K _).mono ?_
        clear K
        rintro e w22 ⟨rfl, hb⟩
        replace A := (A.alloc _).below hb
        replace P := (P.alloc _).below hb
        replace U := (U.alloc _).below hb
        replace W := (W.alloc _).below hb
        have X : Rat2 w22 w21.heap.size (zn) (zd) := Rat2.below ⟨by simp [go_sem], by simp [go_sem]⟩ hb
        replace HB := below_next HB HB.size hb
        clear hb
        clear yPc0 yPc1 yWc0 yWc1
        have yXc0 := fun o => (X.alloc o).c0
        have yXc1 := fun o => (X.alloc o).c1
        go_wp2_with fail
        go_ret
        exact ⟨rfl, HB.alloc HB.size _⟩
      · by_cases h7 : eu = 0
        · have h8 : (ew == 0) = false := by simpa [h7] using h6
          subst h7
          clear h6
          go_wp2_with fail
          go_ret
          exact ⟨rfl, HB⟩
        · have h8 : (eu == 0) = false := by simpa using h7
          clear h6 h7
          go_wp2_with fail
          go_ret
          exact ⟨rfl, HB⟩

set_option maxRecDepth 100000 in
set_option maxHeartbeats 3200000 in
theorem field_00 (an ad bn bd cn cd : Int) (sn sd pn pd un ud eu vn vd ev wn wd ew : Int) (es : Int) (hes : (es == 0) = false) (ep : Int) (hep : (ep == 0) = false) (hv : vldB an ad = true) (hu : vldB bn bd = true) (ht : vldB cn cd = true)
    (hS : opr (vldB an ad && vldB bn bd) (an * bd + bn * ad) (ad * bd) = (sn, sd, es)) (hT : opr (vldB bn bd && vldB an ad) (bn * ad + an * bd) (bd * ad) = (sn, sd, es)) (hP : opr (vldB an ad && vldB bn bd) (an * bn) (ad * bd) = (pn, pd, ep)) (hQ : opr (vldB bn bd && vldB an ad) (bn * an) (bd * ad) = (pn, pd, ep))
    (hU : opr (vldB bn bd && vldB cn cd) (bn * cd + cn * bd) (bd * cd) = (un, ud, eu)) (hV : opr (vldB bn bd && vldB cn cd) (bn * cn) (bd * cd) = (vn, vd, ev)) (hW : opr (vldB an ad && vldB cn cd) (an * cn) (ad * cd) = (wn, wd, ew)) (w : World) (he : Env w) :
    Calls Tryd.prog 5 #[.agg #[.int .i64 an, .int .i64 ad], .agg #[.int .i64 bn, .int .i64 bd], .agg #[.int .i64 cn, .int .i64 cd]] w fun e w' => e = .returned (.bool true) ∧ Below w.heap.size w w' := by
  have HhS := Lib.hid hS
  have HhT := Lib.hid hT
  have HhP := Lib.hid hP
  have HhQ := Lib.hid hQ
  have HhU := Lib.hid hU
  have HhV := Lib.hid hV
  have HhW := Lib.hid hW
  clear hS hT hP hQ hU hV hW
  go_enter Tryd.func5, Tryd.ntmps5
  go_wp2_with fail
  refine (head_any _ (((he.alloc _).alloc _).alloc _)).mono ?_
  rintro e w1 ⟨rfl, hb⟩
  have HB := below_up (boxes3 w _ _ _) hb (by simp; omega)
  have A : Rat2 w1 w.heap.size an ad := Rat2.below ⟨by simp [go_sem], by simp [go_sem]⟩ hb
  have B : Rat2 w1 (w.heap.size + 1) bn bd := Rat2.below ⟨by simp [go_sem], by simp [go_sem]⟩ hb
  have C : Rat2 w1 (w.heap.size + 1 + 1) cn cd := Rat2.below ⟨by simp [go_sem], by simp [go_sem]⟩ hb
  clear hb he
  have zAc0 := A.c0
  have zAc1 := A.c1
  go_wp2_with fail
  refine (valid_any an ad _).mono ?_
  rintro e w2 ⟨rfl, hb⟩
  replace A := A.below hb
  replace B := B.below hb
  replace C := C.below hb
  replace HB := below_up HB hb HB.size
  clear hb
  clear zAc0 zAc1
  have zBc0 := B.c0
  have zBc1 := B.c1
  go_wp2_with fail
  refine (valid_any bn bd _).mono ?_
  rintro e w3 ⟨rfl, hb⟩
  replace A := A.below hb
  replace B := B.below hb
  replace C := C.below hb
  replace HB := below_up HB hb HB.size
  clear hb
  clear zBc0 zBc1
  have zCc0 := C.c0
  have zCc1 := C.c1
  go_wp2_with fail
  refine (valid_any cn cd _).mono ?_
  rintro e w4 ⟨rfl, hb⟩
  replace A := A.below hb
  replace B := B.below hb
  replace C := C.below hb
  replace HB := below_up HB hb HB.size
  clear hb
  clear zCc0 zCc1
  have zAc0 := A.c0
  have zAc1 := A.c1
  have zBc0 := B.c0
  have zBc1 := B.c1
  go_wp2_with fail
  have K := fun W => add_any an ad bn bd W
  rw [HhS.out] at K
  refine (K _).mono ?_
  clear K
  rintro e w5 ⟨rfl, hb⟩
  replace A := A.below hb
  replace B := B.below hb
  replace C := C.below hb
  replace HB := below_up HB hb HB.size
  clear hb
  clear zAc0 zAc1 zBc0 zBc1
  have yAc0 := fun o => (A.alloc o).c0
  have yAc1 := fun o => (A.alloc o).c1
  have yBc0 := fun o => (B.alloc o).c0
  have yBc1 := fun o => (B.alloc o).c1
  go_wp2_with fail
  have K := fun W => add_any bn bd an ad W
  rw [HhT.out] at K
  refine (K _).mono ?_
  clear K
  rintro e w6 ⟨rfl, hb⟩
  replace A := (A.alloc _).below hb
  replace B := (B.alloc _).below hb
  replace C := (C.alloc _).below hb
  have S : Rat2 w6 w5.heap.size (sn) (sd) := Rat2.below ⟨by simp [go_sem], by simp [go_sem]⟩ hb
  replace HB := below_next HB HB.size hb
  clear hb
  clear yAc0 yAc1 yBc0 yBc1
  have yAc0 := fun o => (A.alloc o).c0
  have yAc1 := fun o => (A.alloc o).c1
  have yBc0 := fun o => (B.alloc o).c0
  have yBc1 := fun o => (B.alloc o).c1
  go_wp2_with fail
  have K := fun W => mul_any an ad bn bd W
  rw [HhP.out] at K
  refine (K _).mono ?_
  clear K
  rintro e w7 ⟨rfl, hb⟩
  replace A := (A.alloc _).below hb
  replace B := (B.alloc _).below hb
  replace C := (C.alloc _).below hb
  replace S := (S.alloc _).below hb
  have T : Rat2 w7 w6.heap.size (sn) (sd) := Rat2.below ⟨by simp [go_sem], by simp [go_sem]⟩ hb
  replace HB := below_next HB HB.size hb
  clear hb
  clear yAc0 yAc1 yBc0 yBc1
  have yAc0 := fun o => (A.alloc o).c0
  have yAc1 := fun o => (A.alloc o).c1
  have yBc0 := fun o => (B.alloc o).c0
  have yBc1 := fun o => (B.alloc o).c1
  go_wp2_with fail
  have K := fun W => mul_any bn bd an ad W
  rw [HhQ.out] at K
  refine (K _).mono ?_
  clear K
  rintro e w8 ⟨rfl, hb⟩
  replace A := (A.alloc _).below hb
  replace B := (B.alloc _).below hb
  replace C := (C.alloc _).below hb
  replace S := (S.alloc _).below hb
  replace T := (T.alloc _).below hb
  have P : Rat2 w8 w7.heap.size (pn) (pd) := Rat2.below ⟨by simp [go_sem], by simp [go_sem]⟩ hb
  replace HB := below_next HB HB.size hb
  clear hb
  clear yAc0 yAc1 yBc0 yBc1
  have ySc0 := fun o => (S.alloc o).c0
  have ySc1 := fun o => (S.alloc o).c1
  have yTc0 := fun o => (T.alloc o).c0
  have yTc1 := fun o => (T.alloc o).c1
  have yPc0 := fun o => (P.alloc o).c0
  have yPc1 := fun o => (P.alloc o).c1
  have yBc0 := fun o => (B.alloc o).c0
  have yBc1 := fun o => (B.alloc o).c1
  have yCc0 := fun o => (C.alloc o).c0
  have yCc1 := fun o => (C.alloc o).c1
  clear T
  go_wp2_with fail
  have K := fun W => add_any bn bd cn cd W
  rw [HhU.out] at K
  refine (K _).mono ?_
  clear K
  rintro e w9 ⟨rfl, hb⟩
  replace A := (A.alloc _).below hb
  replace B := (B.alloc _).below hb
  replace C := (C.alloc _).below hb
  replace S := (S.alloc _).below hb
  replace P := (P.alloc _).below hb
  have Q : Rat2 w9 w8.heap.size (pn) (pd) := Rat2.below ⟨by simp [go_sem], by simp [go_sem]⟩ hb
  replace HB := below_next HB HB.size hb
  clear hb
  clear ySc0 ySc1 yTc0 yTc1 yPc0 yPc1 yBc0 yBc1 yCc0 yCc1
  have yBc0 := fun o => (B.alloc o).c0
  have yBc1 := fun o => (B.alloc o).c1
  have yCc0 := fun o => (C.alloc o).c0
  have yCc1 := fun o => (C.alloc o).c1
  go_wp2_with fail
  have K := fun W => mul_any bn bd cn cd W
  rw [HhV.out] at K
  refine (K _).mono ?_
  clear K
  rintro e w10 ⟨rfl, hb⟩
  replace A := (A.alloc _).below hb
  replace B := (B.alloc _).below hb
  replace C := (C.alloc _).below hb
  replace S := (S.alloc _).below hb
  replace P := (P.alloc _).below hb
  replace Q := (Q.alloc _).below hb
  have U : Rat2 w10 w9.heap.size (un) (ud) := Rat2.below ⟨by simp [go_sem], by simp [go_sem]⟩ hb
  replace HB := below_next HB HB.size hb
  clear hb
  clear yBc0 yBc1 yCc0 yCc1
  have yAc0 := fun o => (A.alloc o).c0
  have yAc1 := fun o => (A.alloc o).c1
  have yCc0 := fun o => (C.alloc o).c0
  have yCc1 := fun o => (C.alloc o).c1
  go_wp2_with fail
  have K := fun W => mul_any an ad cn cd W
  rw [HhW.out] at K
  refine (K _).mono ?_
  clear K
  rintro e w11 ⟨rfl, hb⟩
  replace A := (A.alloc _).below hb
  replace B := (B.alloc _).below hb
  replace C := (C.alloc _).below hb
  replace S := (S.alloc _).below hb
  replace P := (P.alloc _).below hb
  replace Q := (Q.alloc _).below hb
  replace U := (U.alloc _).below hb
  have V : Rat2 w11 w10.heap.size (vn) (vd) := Rat2.below ⟨by simp [go_sem], by simp [go_sem]⟩ hb
  replace HB := below_next HB HB.size hb
  clear hb
  clear yAc0 yAc1 yCc0 yCc1
  clear Q
  go_wp2_with fail
  go_ret
  exact ⟨rfl, HB.alloc HB.size _⟩

end Go.Proofs.YtpmggfmhkjafkaaDoor
