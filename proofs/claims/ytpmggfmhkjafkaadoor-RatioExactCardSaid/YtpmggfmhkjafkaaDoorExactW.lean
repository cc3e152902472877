/- The walk of RatioExact. -/
import Derived.Test.YtpmggfmhkjafkaaDoorHead
import Derived.WalkLawsBesides
namespace Go.Proofs.YtpmggfmhkjafkaaDoor
open Go.RowKit

/-- The greatest of four. -/
def max4 (a b c d : Int) : Int := max (max (max a b) c) d
theorem max4_le {a b c d k : Int} (h : a ≤ k ∧ b ≤ k ∧ c ≤ k ∧ d ≤ k) : max4 a b c d ≤ k := by unfold max4; omega
theorem max4_gt {a b c d k : Int} (h : k < a ∨ k < b ∨ k < c ∨ k < d) : k < max4 a b c d := by unfold max4; omega
theorem max_if (a b : Int) : (if a < b then b else a) = max a b := by split <;> omega
theorem run_max4 {P : Program} (ts : Array TypeId) (t : TypeId) (a b c d : Int) (w : World) :
    (Builtin.max_ ts t #[.int .i64 a, .int .i64 b, .int .i64 c, .int .i64 d]).run P w = .ok (.int .i64 (max4 a b c d)) w := by
  simp [Builtin.max_, Builtin.max2, max_if, max4]

set_option maxRecDepth 100000 in
set_option maxHeartbeats 800000 in
theorem exact_a1 (an ad bn bd : Int) (hv : vldB an ad = false) (w : World) (he : Env w) :
    Calls Tryd.prog 8 #[.agg #[.int .i64 an, .int .i64 ad], .agg #[.int .i64 bn, .int .i64 bd]] w fun e w' => e = .returned (.bool true) ∧ Below w.heap.size w w' := by
  go_enter Tryd.func8, Tryd.ntmps8
  go_wp2_with fail
  refine (head_any _ ((he.alloc _).alloc _)).mono ?_
  rintro e w1 ⟨rfl, hb⟩
  have HB := below_up (boxes2 w _ _) hb (by simp; omega)
  have HE := Lib.hid (((he.alloc _).alloc _).below hb)
  have A : Rat2 w1 w.heap.size an ad := Rat2.below ⟨by simp [go_sem], by simp [go_sem]⟩ hb
  have B : Rat2 w1 (w.heap.size + 1) bn bd := Rat2.below ⟨by simp [go_sem], by simp [go_sem]⟩ hb
  clear hb he
  have zAc0 := A.c0
  have zAc1 := A.c1
  go_wp2_with fail
  refine (valid_any an ad _).mono ?_
  rintro e w2 ⟨rfl, hb⟩
  replace A := A.below hb
  replace B := B.below hb
  replace HE := Lib.hid (HE.out.below hb)
  replace HB := below_up HB hb HB.size
  clear hb
  clear zAc0 zAc1
  go_wp2_with fail
  go_ret
  exact ⟨rfl, HB⟩

set_option maxRecDepth 100000 in
set_option maxHeartbeats 800000 in
theorem exact_a2 (an ad bn bd : Int) (hv : vldB an ad = true) (hu : vldB bn bd = false) (w : World) (he : Env w) :
    Calls Tryd.prog 8 #[.agg #[.int .i64 an, .int .i64 ad], .agg #[.int .i64 bn, .int .i64 bd]] w fun e w' => e = .returned (.bool true) ∧ Below w.heap.size w w' := by
  go_enter Tryd.func8, Tryd.ntmps8
  go_wp2_with fail
  refine (head_any _ ((he.alloc _).alloc _)).mono ?_
  rintro e w1 ⟨rfl, hb⟩
  have HB := below_up (boxes2 w _ _) hb (by simp; omega)
  have HE := Lib.hid (((he.alloc _).alloc _).below hb)
  have A : Rat2 w1 w.heap.size an ad := Rat2.below ⟨by simp [go_sem], by simp [go_sem]⟩ hb
  have B : Rat2 w1 (w.heap.size + 1) bn bd := Rat2.below ⟨by simp [go_sem], by simp [go_sem]⟩ hb
  clear hb he
  have zAc0 := A.c0
  have zAc1 := A.c1
  go_wp2_with fail
  refine (valid_any an ad _).mono ?_
  rintro e w2 ⟨rfl, hb⟩
  replace A := A.below hb
  replace B := B.below hb
  replace HE := Lib.hid (HE.out.below hb)
  replace HB := below_up HB hb HB.size
  clear hb
  clear zAc0 zAc1
  have zBc0 := B.c0
  have zBc1 := B.c1
  go_wp2_with fail
  refine (valid_any bn bd _).mono ?_
  rintro e w3 ⟨rfl, hb⟩
  replace A := A.below hb
  replace B := B.below hb
  replace HE := Lib.hid (HE.out.below hb)
  replace HB := below_up HB hb HB.size
  clear hb
  clear zBc0 zBc1
  go_wp2_with fail
  go_ret
  exact ⟨rfl, HB⟩

set_option maxRecDepth 100000 in
set_option maxHeartbeats 800000 in
theorem exact_a3 (an ad bn bd : Int) (hv : vldB an ad = true) (hu : vldB bn bd = true) (h1 : -1000000000 ≤ an ∧ an ≤ 1000000000) (h2 : -1000000000 ≤ bn ∧ bn ≤ 1000000000) (hm : 1000 < max4 an (-an) bn (-bn)) (w : World) (he : Env w) :
    Calls Tryd.prog 8 #[.agg #[.int .i64 an, .int .i64 ad], .agg #[.int .i64 bn, .int .i64 bd]] w fun e w' => e = .returned (.bool true) ∧ Below w.heap.size w w' := by
  go_enter Tryd.func8, Tryd.ntmps8
  go_wp2_with fail
  refine (head_any _ ((he.alloc _).alloc _)).mono ?_
  rintro e w1 ⟨rfl, hb⟩
  have HB := below_up (boxes2 w _ _) hb (by simp; omega)
  have HE := Lib.hid (((he.alloc _).alloc _).below hb)
  have A : Rat2 w1 w.heap.size an ad := Rat2.below ⟨by simp [go_sem], by simp [go_sem]⟩ hb
  have B : Rat2 w1 (w.heap.size + 1) bn bd := Rat2.below ⟨by simp [go_sem], by simp [go_sem]⟩ hb
  clear hb he
  have zAc0 := A.c0
  have zAc1 := A.c1
  go_wp2_with fail
  refine (valid_any an ad _).mono ?_
  rintro e w2 ⟨rfl, hb⟩
  replace A := A.below hb
  replace B := B.below hb
  replace HE := Lib.hid (HE.out.below hb)
  replace HB := below_up HB hb HB.size
  clear hb
  clear zAc0 zAc1
  have zBc0 := B.c0
  have zBc1 := B.c1
  go_wp2_with fail
  refine (valid_any bn bd _).mono ?_
  rintro e w3 ⟨rfl, hb⟩
  replace A := A.below hb
  replace B := B.below hb
  replace HE := Lib.hid (HE.out.below hb)
  replace HB := below_up HB hb HB.size
  clear hb
  clear zBc0 zBc1
  have zAc0 := A.c0
  have zAc1 := A.c1
  have zBc0 := B.c0
  have zBc1 := B.c1
  have q4 := fun W => run_max4 (P := Tryd.prog) #[3, 3, 3, 3] 3 an (-an) bn (-bn) W
  go_wp2_with fail
  go_ret
  exact ⟨rfl, HB⟩

set_option maxRecDepth 100000 in
set_option maxHeartbeats 800000 in
theorem exact_a4 (an ad bn bd : Int) (hv : vldB an ad = true) (hu : vldB bn bd = true) (h1 : -1000000000 ≤ an ∧ an ≤ 1000000000) (h2 : -1000000000 ≤ bn ∧ bn ≤ 1000000000) (hm : max4 an (-an) bn (-bn) ≤ 1000) (hx : 1000 < max ad bd) (w : World) (he : Env w) :
    Calls Tryd.prog 8 #[.agg #[.int .i64 an, .int .i64 ad], .agg #[.int .i64 bn, .int .i64 bd]] w fun e w' => e = .returned (.bool true) ∧ Below w.heap.size w w' := by
  go_enter Tryd.func8, Tryd.ntmps8
  go_wp2_with fail
  refine (head_any _ ((he.alloc _).alloc _)).mono ?_
  rintro e w1 ⟨rfl, hb⟩
  have HB := below_up (boxes2 w _ _) hb (by simp; omega)
  have HE := Lib.hid (((he.alloc _).alloc _).below hb)
  have A : Rat2 w1 w.heap.size an ad := Rat2.below ⟨by simp [go_sem], by simp [go_sem]⟩ hb
  have B : Rat2 w1 (w.heap.size + 1) bn bd := Rat2.below ⟨by simp [go_sem], by simp [go_sem]⟩ hb
  clear hb he
  have zAc0 := A.c0
  have zAc1 := A.c1
  go_wp2_with fail
  refine (valid_any an ad _).mono ?_
  rintro e w2 ⟨rfl, hb⟩
  replace A := A.below hb
  replace B := B.below hb
  replace HE := Lib.hid (HE.out.below hb)
  replace HB := below_up HB hb HB.size
  clear hb
  clear zAc0 zAc1
  have zBc0 := B.c0
  have zBc1 := B.c1
  go_wp2_with fail
  refine (valid_any bn bd _).mono ?_
  rintro e w3 ⟨rfl, hb⟩
  replace A := A.below hb
  replace B := B.below hb
  replace HE := Lib.hid (HE.out.below hb)
  replace HB := below_up HB hb HB.size
  clear hb
  clear zBc0 zBc1
  have zAc0 := A.c0
  have zAc1 := A.c1
  have zBc0 := B.c0
  have zBc1 := B.c1
  have q4 := fun W => run_max4 (P := Tryd.prog) #[3, 3, 3, 3] 3 an (-an) bn (-bn) W
  go_wp2_with fail
  go_ret
  exact ⟨rfl, HB⟩

set_option maxRecDepth 100000 in
set_option maxHeartbeats 800000 in
theorem exact_b0 (an ad bn bd : Int) (sn sd dn dd pn pd : Int) (hv : vldB an ad = true) (hu : vldB bn bd = true) (h1 : -1000 ≤ an ∧ an ≤ 1000) (h2 : -1000 ≤ bn ∧ bn ≤ 1000) (hm : max4 an (-an) bn (-bn) ≤ 1000) (hx : max ad bd ≤ 1000) (hS : opr (vldB an ad && vldB bn bd) (an * bd + bn * ad) (ad * bd) = (sn, sd, 0)) (hD : opr (vldB an ad && vldB bn bd) (an * bd - bn * ad) (ad * bd) = (dn, dd, 0)) (hP : opr (vldB an ad && vldB bn bd) (an * bn) (ad * bd) = (pn, pd, 0)) (hQ : opr (vldB an ad && vldB bn bd) (an * bd) (ad * bn) = (0, 0, 1)) (vS : vldB sn sd = true) (vD : vldB dn dd = true) (vP : vldB pn pd = true) (eS : sn * (ad * bd) = (an * bd + bn * ad) * sd) (eD : dn * (ad * bd) = (an * bd - bn * ad) * dd) (eP : pn * (ad * bd) = (an * bn) * pd) (p1 : -1000000 ≤ an * bd ∧ an * bd ≤ 1000000) (p2 : -1000000 ≤ bn * ad ∧ bn * ad ≤ 1000000) (p3 : -1000000 ≤ ad * bd ∧ ad * bd ≤ 1000000) (p4 : -1000000 ≤ an * bn ∧ an * bn ≤ 1000000) (_p5 : -1000000 ≤ ad * bn ∧ ad * bn ≤ 1000000) (hz : (bn == 0) = true) (w : World) (he : Env w) :
    Calls Tryd.prog 8 #[.agg #[.int .i64 an, .int .i64 ad], .agg #[.int .i64 bn, .int .i64 bd]] w fun e w' => e = .returned (.bool true) ∧ Below w.heap.size w w' := by
  have HhS := Lib.hid hS
  have HhD := Lib.hid hD
  have HhP := Lib.hid hP
  have HhQ := Lib.hid hQ
  have HeS := Lib.hid eS
  have HeD := Lib.hid eD
  have HeP := Lib.hid eP
  clear hS hD hP hQ eS eD eP
  go_enter Tryd.func8, Tryd.ntmps8
  go_wp2_with fail
  refine (head_any _ ((he.alloc _).alloc _)).mono ?_
  rintro e w1 ⟨rfl, hb⟩
  have HB := below_up (boxes2 w _ _) hb (by simp; omega)
  have HE := Lib.hid (((he.alloc _).alloc _).below hb)
  have A : Rat2 w1 w.heap.size an ad := Rat2.below ⟨by simp [go_sem], by simp [go_sem]⟩ hb
  have B : Rat2 w1 (w.heap.size + 1) bn bd := Rat2.below ⟨by simp [go_sem], by simp [go_sem]⟩ hb
  clear hb he
  have zAc0 := A.c0
  have zAc1 := A.c1
  go_wp2_with fail
  refine (valid_any an ad _).mono ?_
  rintro e w2 ⟨rfl, hb⟩
  replace A := A.below hb
  replace B := B.below hb
  replace HE := Lib.hid (HE.out.below hb)
  replace HB := below_up HB hb HB.size
  clear hb
  clear zAc0 zAc1
  have zBc0 := B.c0
  have zBc1 := B.c1
  go_wp2_with fail
  refine (valid_any bn bd _).mono ?_
  rintro e w3 ⟨rfl, hb⟩
  replace A := A.below hb
  replace B := B.below hb
  replace HE := Lib.hid (HE.out.below hb)
  replace HB := below_up HB hb HB.size
  clear hb
  clear zBc0 zBc1
  have zAc0 := A.c0
  have zAc1 := A.c1
  have zBc0 := B.c0
  have zBc1 := B.c1
  have q4 := fun W => run_max4 (P := Tryd.prog) #[3, 3, 3, 3] 3 an (-an) bn (-bn) W
  go_wp2_with fail
  clear q4
  have C := fun W => add_any an ad bn bd W
  rw [HhS.out] at C
  refine (C _).mono ?_
  clear C
  rintro e w4 ⟨rfl, hb⟩
  replace A := A.below hb
  replace B := B.below hb
  replace HE := Lib.hid (HE.out.below hb)
  replace HB := below_up HB hb HB.size
  clear hb
  clear zAc0 zAc1 zBc0 zBc1
  have zAc0 := fun o => (A.alloc o).c0
  have zAc1 := fun o => (A.alloc o).c1
  have zBc0 := fun o => (B.alloc o).c0
  have zBc1 := fun o => (B.alloc o).c1
  go_wp2_with fail
  have C := fun W => sub_any an ad bn bd W
  rw [HhD.out] at C
  refine (C _).mono ?_
  clear C
  rintro e w5 ⟨rfl, hb⟩
  replace A := (A.alloc _).below hb
  replace B := (B.alloc _).below hb
  have S : Rat2 w5 w4.heap.size (sn) (sd) := Rat2.below ⟨by simp [go_sem], by simp [go_sem]⟩ hb
  replace HE := Lib.hid ((HE.out.alloc _).below hb)
  replace HB := below_next HB HB.size hb
  clear hb
  clear zAc0 zAc1 zBc0 zBc1
  have zAc0 := fun o => (A.alloc o).c0
  have zAc1 := fun o => (A.alloc o).c1
  have zBc0 := fun o => (B.alloc o).c0
  have zBc1 := fun o => (B.alloc o).c1
  go_wp2_with fail
  have C := fun W => mul_any an ad bn bd W
  rw [HhP.out] at C
  refine (C _).mono ?_
  clear C
  rintro e w6 ⟨rfl, hb⟩
  replace A := (A.alloc _).below hb
  replace B := (B.alloc _).below hb
  replace S := (S.alloc _).below hb
  have D : Rat2 w6 w5.heap.size (dn) (dd) := Rat2.below ⟨by simp [go_sem], by simp [go_sem]⟩ hb
  replace HE := Lib.hid ((HE.out.alloc _).below hb)
  replace HB := below_next HB HB.size hb
  clear hb
  clear zAc0 zAc1 zBc0 zBc1
  have zAc0 := fun o => (A.alloc o).c0
  have zAc1 := fun o => (A.alloc o).c1
  have zBc0 := fun o => (B.alloc o).c0
  have zBc1 := fun o => (B.alloc o).c1
  go_wp2_with fail
  have C := fun W => div_any an ad bn bd W
  rw [HhQ.out] at C
  refine (C _).mono ?_
  clear C
  rintro e w7 ⟨rfl, hb⟩
  replace A := (A.alloc _).below hb
  replace B := (B.alloc _).below hb
  replace S := (S.alloc _).below hb
  replace D := (D.alloc _).below hb
  have P : Rat2 w7 w6.heap.size (pn) (pd) := Rat2.below ⟨by simp [go_sem], by simp [go_sem]⟩ hb
  replace HE := Lib.hid ((HE.out.alloc _).below hb)
  replace HB := below_next HB HB.size hb
  clear hb
  clear zAc0 zAc1 zBc0 zBc1
  have zAc0 := fun o => (A.alloc o).c0
  have zAc1 := fun o => (A.alloc o).c1
  have zBc0 := fun o => (B.alloc o).c0
  have zBc1 := fun o => (B.alloc o).c1
  have zSc0 := fun o => (S.alloc o).c0
  have zSc1 := fun o => (S.alloc o).c1
  go_wp2_with fail
  refine (valid_any sn sd _).mono ?_
  rintro e w8 ⟨rfl, hb⟩
  replace A := (A.alloc _).below hb
  replace B := (B.alloc _).below hb
  replace S := (S.alloc _).below hb
  replace D := (D.alloc _).below hb
  replace P := (P.alloc _).below hb
  have Q : Rat2 w8 w7.heap.size (0) (0) := Rat2.below ⟨by simp [go_sem], by simp [go_sem]⟩ hb
  replace HE := Lib.hid ((HE.out.alloc _).below hb)
  replace HB := below_next HB HB.size hb
  clear hb
  clear zAc0 zAc1 zBc0 zBc1 zSc0 zSc1
  have zDc0 := D.c0
  have zDc1 := D.c1
  go_wp2_with fail
  refine (valid_any dn dd _).mono ?_
  rintro e w9 ⟨rfl, hb⟩
  replace A := A.below hb
  replace B := B.below hb
  replace S := S.below hb
  replace D := D.below hb
  replace P := P.below hb
  replace Q := Q.below hb
  replace HE := Lib.hid (HE.out.below hb)
  replace HB := below_up HB hb HB.size
  clear hb
  clear zDc0 zDc1
  have zPc0 := P.c0
  have zPc1 := P.c1
  go_wp2_with fail
  refine (valid_any pn pd _).mono ?_
  rintro e w10 ⟨rfl, hb⟩
  replace A := A.below hb
  replace B := B.below hb
  replace S := S.below hb
  replace D := D.below hb
  replace P := P.below hb
  replace Q := Q.below hb
  replace HE := Lib.hid (HE.out.below hb)
  replace HB := below_up HB hb HB.size
  clear hb
  clear zPc0 zPc1
  have zAc0 := A.c0
  have zAc1 := A.c1
  have zBc0 := B.c0
  have zBc1 := B.c1
  have zSc0 := S.c0
  have zSc1 := S.c1
  have zDc0 := D.c0
  have zDc1 := D.c1
  have zPc0 := P.c0
  have zPc1 := P.c1
  have eS := HeS.out; have eD := HeD.out; have eP := HeP.out
  go_wp2_with fail
  go_ret
  exact ⟨rfl, HB⟩

set_option maxRecDepth 100000 in
set_option maxHeartbeats 800000 in
theorem exact_b1 (an ad bn bd : Int) (sn sd dn dd pn pd qn qd : Int) (hv : vldB an ad = true) (hu : vldB bn bd = true) (h1 : -1000 ≤ an ∧ an ≤ 1000) (h2 : -1000 ≤ bn ∧ bn ≤ 1000) (hm : max4 an (-an) bn (-bn) ≤ 1000) (hx : max ad bd ≤ 1000) (hS : opr (vldB an ad && vldB bn bd) (an * bd + bn * ad) (ad * bd) = (sn, sd, 0)) (hD : opr (vldB an ad && vldB bn bd) (an * bd - bn * ad) (ad * bd) = (dn, dd, 0)) (hP : opr (vldB an ad && vldB bn bd) (an * bn) (ad * bd) = (pn, pd, 0)) (hQ : opr (vldB an ad && vldB bn bd) (an * bd) (ad * bn) = (qn, qd, 0)) (vS : vldB sn sd = true) (vD : vldB dn dd = true) (vP : vldB pn pd = true) (vQ : vldB qn qd = true) (eS : sn * (ad * bd) = (an * bd + bn * ad) * sd) (eD : dn * (ad * bd) = (an * bd - bn * ad) * dd) (eP : pn * (ad * bd) = (an * bn) * pd) (eQ : qn * (ad * bn) = (an * bd) * qd) (p1 : -1000000 ≤ an * bd ∧ an * bd ≤ 1000000) (p2 : -1000000 ≤ bn * ad ∧ bn * ad ≤ 1000000) (p3 : -1000000 ≤ ad * bd ∧ ad * bd ≤ 1000000) (p4 : -1000000 ≤ an * bn ∧ an * bn ≤ 1000000) (p5 : -1000000 ≤ ad * bn ∧ ad * bn ≤ 1000000) (hz : (bn == 0) = false) (w : World) (he : Env w) :
    Calls Tryd.prog 8 #[.agg #[.int .i64 an, .int .i64 ad], .agg #[.int .i64 bn, .int .i64 bd]] w fun e w' => e = .returned (.bool true) ∧ Below w.heap.size w w' := by
  have HhS := Lib.hid hS
  have HhD := Lib.hid hD
  have HhP := Lib.hid hP
  have HhQ := Lib.hid hQ
  have HeS := Lib.hid eS
  have HeD := Lib.hid eD
  have HeP := Lib.hid eP
  have HeQ := Lib.hid eQ
  clear hS hD hP hQ eS eD eP eQ
  go_enter Tryd.func8, Tryd.ntmps8
  go_wp2_with fail
  refine (head_any _ ((he.alloc _).alloc _)).mono ?_
  rintro e w1 ⟨rfl, hb⟩
  have HB := below_up (boxes2 w _ _) hb (by simp; omega)
  have HE := Lib.hid (((he.alloc _).alloc _).below hb)
  have A : Rat2 w1 w.heap.size an ad := Rat2.below ⟨by simp [go_sem], by simp [go_sem]⟩ hb
  have B : Rat2 w1 (w.heap.size + 1) bn bd := Rat2.below ⟨by simp [go_sem], by simp [go_sem]⟩ hb
  clear hb he
  have zAc0 := A.c0
  have zAc1 := A.c1
  go_wp2_with fail
  refine (valid_any an ad _).mono ?_
  rintro e w2 ⟨rfl, hb⟩
  replace A := A.below hb
  replace B := B.below hb
  replace HE := Lib.hid (HE.out.below hb)
  replace HB := below_up HB hb HB.size
  clear hb
  clear zAc0 zAc1
  have zBc0 := B.c0
  have zBc1 := B.c1
  go_wp2_with fail
  refine (valid_any bn bd _).mono ?_
  rintro e w3 ⟨rfl, hb⟩
  replace A := A.below hb
  replace B := B.below hb
  replace HE := Lib.hid (HE.out.below hb)
  replace HB := below_up HB hb HB.size
  clear hb
  clear zBc0 zBc1
  have zAc0 := A.c0
  have zAc1 := A.c1
  have zBc0 := B.c0
  have zBc1 := B.c1
  have q4 := fun W => run_max4 (P := Tryd.prog) #[3, 3, 3, 3] 3 an (-an) bn (-bn) W
  go_wp2_with fail
  clear q4
  have C := fun W => add_any an ad bn bd W
  rw [HhS.out] at C
  refine (C _).mono ?_
  clear C
  rintro e w4 ⟨rfl, hb⟩
  replace A := A.below hb
  replace B := B.below hb
  replace HE := Lib.hid (HE.out.below hb)
  replace HB := below_up HB hb HB.size
  clear hb
  clear zAc0 zAc1 zBc0 zBc1
  have zAc0 := fun o => (A.alloc o).c0
  have zAc1 := fun o => (A.alloc o).c1
  have zBc0 := fun o => (B.alloc o).c0
  have zBc1 := fun o => (B.alloc o).c1
  go_wp2_with fail
  have C := fun W => sub_any an ad bn bd W
  rw [HhD.out] at C
  refine (C _).mono ?_
  clear C
  rintro e w5 ⟨rfl, hb⟩
  replace A := (A.alloc _).below hb
  replace B := (B.alloc _).below hb
  have S : Rat2 w5 w4.heap.size (sn) (sd) := Rat2.below ⟨by simp [go_sem], by simp [go_sem]⟩ hb
  replace HE := Lib.hid ((HE.out.alloc _).below hb)
  replace HB := below_next HB HB.size hb
  clear hb
  clear zAc0 zAc1 zBc0 zBc1
  have zAc0 := fun o => (A.alloc o).c0
  have zAc1 := fun o => (A.alloc o).c1
  have zBc0 := fun o => (B.alloc o).c0
  have zBc1 := fun o => (B.alloc o).c1
  go_wp2_with fail
  have C := fun W => mul_any an ad bn bd W
  rw [HhP.out] at C
  refine (C _).mono ?_
  clear C
  rintro e w6 ⟨rfl, hb⟩
  replace A := (A.alloc _).below hb
  replace B := (B.alloc _).below hb
  replace S := (S.alloc _).below hb
  have D : Rat2 w6 w5.heap.size (dn) (dd) := Rat2.below ⟨by simp [go_sem], by simp [go_sem]⟩ hb
  replace HE := Lib.hid ((HE.out.alloc _).below hb)
  replace HB := below_next HB HB.size hb
  clear hb
  clear zAc0 zAc1 zBc0 zBc1
  have zAc0 := fun o => (A.alloc o).c0
  have zAc1 := fun o => (A.alloc o).c1
  have zBc0 := fun o => (B.alloc o).c0
  have zBc1 := fun o => (B.alloc o).c1
  go_wp2_with fail
  have C := fun W => div_any an ad bn bd W
  rw [HhQ.out] at C
  refine (C _).mono ?_
  clear C
  rintro e w7 ⟨rfl, hb⟩
  replace A := (A.alloc _).below hb
  replace B := (B.alloc _).below hb
  replace S := (S.alloc _).below hb
  replace D := (D.alloc _).below hb
  have P : Rat2 w7 w6.heap.size (pn) (pd) := Rat2.below ⟨by simp [go_sem], by simp [go_sem]⟩ hb
  replace HE := Lib.hid ((HE.out.alloc _).below hb)
  replace HB := below_next HB HB.size hb
  clear hb
  clear zAc0 zAc1 zBc0 zBc1
  have zAc0 := fun o => (A.alloc o).c0
  have zAc1 := fun o => (A.alloc o).c1
  have zBc0 := fun o => (B.alloc o).c0
  have zBc1 := fun o => (B.alloc o).c1
  have zSc0 := fun o => (S.alloc o).c0
  have zSc1 := fun o => (S.alloc o).c1
  go_wp2_with fail
  refine (valid_any sn sd _).mono ?_
  rintro e w8 ⟨rfl, hb⟩
  replace A := (A.alloc _).below hb
  replace B := (B.alloc _).below hb
  replace S := (S.alloc _).below hb
  replace D := (D.alloc _).below hb
  replace P := (P.alloc _).below hb
  have Q : Rat2 w8 w7.heap.size (qn) (qd) := Rat2.below ⟨by simp [go_sem], by simp [go_sem]⟩ hb
  replace HE := Lib.hid ((HE.out.alloc _).below hb)
  replace HB := below_next HB HB.size hb
  clear hb
  clear zAc0 zAc1 zBc0 zBc1 zSc0 zSc1
  have zDc0 := D.c0
  have zDc1 := D.c1
  go_wp2_with fail
  refine (valid_any dn dd _).mono ?_
  rintro e w9 ⟨rfl, hb⟩
  replace A := A.below hb
  replace B := B.below hb
  replace S := S.below hb
  replace D := D.below hb
  replace P := P.below hb
  replace Q := Q.below hb
  replace HE := Lib.hid (HE.out.below hb)
  replace HB := below_up HB hb HB.size
  clear hb
  clear zDc0 zDc1
  have zPc0 := P.c0
  have zPc1 := P.c1
  go_wp2_with fail
  refine (valid_any pn pd _).mono ?_
  rintro e w10 ⟨rfl, hb⟩
  replace A := A.below hb
  replace B := B.below hb
  replace S := S.below hb
  replace D := D.below hb
  replace P := P.below hb
  replace Q := Q.below hb
  replace HE := Lib.hid (HE.out.below hb)
  replace HB := below_up HB hb HB.size
  clear hb
  clear zPc0 zPc1
  have zAc0 := A.c0
  have zAc1 := A.c1
  have zBc0 := B.c0
  have zBc1 := B.c1
  have zSc0 := S.c0
  have zSc1 := S.c1
  have zDc0 := D.c0
  have zDc1 := D.c1
  have zPc0 := P.c0
  have zPc1 := P.c1
  have zQc0 := Q.c0
  have zQc1 := Q.c1
  have eS := HeS.out; have eD := HeD.out; have eP := HeP.out
  go_wp2_with fail
  clear eS eD eP
  refine (valid_any qn qd _).mono ?_
  rintro e w11 ⟨rfl, hb⟩
  replace A := A.below hb
  replace B := B.below hb
  replace S := S.below hb
  replace D := D.below hb
  replace P := P.below hb
  replace Q := Q.below hb
  replace HE := Lib.hid (HE.out.below hb)
  replace HB := below_up HB hb HB.size
  clear hb
  clear zAc0 zAc1 zBc0 zBc1 zSc0 zSc1 zDc0 zDc1 zPc0 zPc1 zQc0 zQc1
  have zAc0 := A.c0
  have zAc1 := A.c1
  have zBc0 := B.c0
  have zBc1 := B.c1
  have zQc0 := Q.c0
  have zQc1 := Q.c1
  have eQ := HeQ.out
  go_wp2_with fail
  go_ret
  exact ⟨rfl, HB⟩

end Go.Proofs.YtpmggfmhkjafkaaDoor
