/- The walk of RatioOrder. -/
import Derived.Test.YtpmggfmhkjafkaaDoorHead
import Derived.WalkLawsBesides
import Derived.Deep.DeepCutAuto
namespace Go.Proofs.YtpmggfmhkjafkaaDoor
open Go.RowKit

theorem Rat2.set {w : World} {b c : Nat} {n d : Int} (h : Rat2 w b n d) (hne : b ≠ c) (o : Nat) (v : Value) : Rat2 (w.setCell ⟨c, o, none⟩ v) b n d :=
  ⟨(World.cell?_setCell_far w ⟨c, o, none⟩ _ v (Ne.symm hne)).trans h.c0, (World.cell?_setCell_far w ⟨c, o, none⟩ _ v (Ne.symm hne)).trans h.c1⟩
theorem Own2.set {w : World} {b c : Nat} {n d : Int} (h : Own2 w b n d) (hne : b ≠ c) (o : Nat) (v : Value) : Own2 (w.setCell ⟨c, o, none⟩ v) b n d :=
  { h.toRat2.set hne o v with f0 := by rw [World.frozen?_setCell]; exact h.f0, f1 := by rw [World.frozen?_setCell]; exact h.f1 }
theorem Own2.both {w : World} {b : Nat} {n d : Int} (h : Own2 w b n d) (n' d' : Int) : Own2 ((w.setCell ⟨b, 0, none⟩ (.int .i64 n')).setCell ⟨b, 1, none⟩ (.int .i64 d')) b n' d' :=
  { c0 := by rw [World.cell?_setCell_other _ _ _ _ (by simp)]; exact World.cell?_setCell_same _ _ _ h.c0
    c1 := World.cell?_setCell_same _ _ _ (by rw [World.cell?_setCell_other _ _ _ _ (by simp)]; exact h.c1)
    f0 := by rw [World.frozen?_setCell, World.frozen?_setCell]; exact h.f0
    f1 := by rw [World.frozen?_setCell, World.frozen?_setCell]; exact h.f1 }
theorem Own2.ne {w : World} {b : Nat} {n d : Int} (h : Own2 w b n d) : b ≠ w.heap.size := h.toRat2.ne
theorem Own2.alloc {w : World} {b : Nat} {n d : Int} (h : Own2 w b n d) (o : Obj) : Own2 (w.alloc o) b n d := h.below ((Below.refl _ _).alloc (Nat.le_refl _) _)
theorem below_store {c : Nat} {a w w1 : World} {v1 v2 : Value} (h : Below a.heap.size a w) (g : a.heap.size ≤ c) (hb : Below ((w.setCell ⟨c, 0, none⟩ v1).setCell ⟨c, 1, none⟩ v2).heap.size ((w.setCell ⟨c, 0, none⟩ v1).setCell ⟨c, 1, none⟩ v2) w1) : Below a.heap.size a w1 :=
  below_up ((h.setCell (p := ⟨c, 0, none⟩) g v1).setCell (p := ⟨c, 1, none⟩) g v2) hb (((h.setCell (p := ⟨c, 0, none⟩) g v1).setCell (p := ⟨c, 1, none⟩) g v2).size)

set_option maxRecDepth 100000 in
set_option maxHeartbeats 3200000 in
theorem order_a1 (an ad bn bd cn cd : Int) (hv : vldB an ad = false) (w : World) (he : Env w) :
    Calls Tryd.prog 6 #[.agg #[.int .i64 an, .int .i64 ad], .agg #[.int .i64 bn, .int .i64 bd], .agg #[.int .i64 cn, .int .i64 cd]] w fun e w' => e = .returned (.bool true) ∧ Below w.heap.size w w' := by
  go_enter Tryd.func6, Tryd.ntmps6
  go_wp2_with fail
  refine (head_any _ (((he.alloc _).alloc _).alloc _)).mono ?_
  rintro e w1 ⟨rfl, hb⟩
  have HB := below_up (boxes3 w _ _ _) hb (by simp; omega)
  have A : Rat2 w1 w.heap.size an ad := Rat2.below ⟨by simp [go_sem], by simp [go_sem]⟩ hb
  have B : Rat2 w1 (w.heap.size + 1) bn bd := Rat2.below ⟨by simp [go_sem], by simp [go_sem]⟩ hb
  have C : Rat2 w1 (w.heap.size + 1 + 1) cn cd := Rat2.below ⟨by simp [go_sem], by simp [go_sem]⟩ hb
  clear hb he
  have zAc0 := A.c0
  have zAc1 := A.c1
  go_wp2_with fail
  refine (valid_any an ad _).mono ?_
  rintro e w2 ⟨rfl, hb⟩
  replace A := A.below hb
  replace B := B.below hb
  replace C := C.below hb
  replace HB := below_up HB hb HB.size
  clear hb
  clear zAc0 zAc1
  go_wp2_with fail
  go_ret
  exact ⟨rfl, HB⟩

set_option maxRecDepth 100000 in
set_option maxHeartbeats 3200000 in
theorem order_a2 (an ad bn bd cn cd : Int) (hv : vldB an ad = true) (hu : vldB bn bd = false) (w : World) (he : Env w) :
    Calls Tryd.prog 6 #[.agg #[.int .i64 an, .int .i64 ad], .agg #[.int .i64 bn, .int .i64 bd], .agg #[.int .i64 cn, .int .i64 cd]] w fun e w' => e = .returned (.bool true) ∧ Below w.heap.size w w' := by
  go_enter Tryd.func6, Tryd.ntmps6
  go_wp2_with fail
  refine (head_any _ (((he.alloc _).alloc _).alloc _)).mono ?_
  rintro e w1 ⟨rfl, hb⟩
  have HB := below_up (boxes3 w _ _ _) hb (by simp; omega)
  have A : Rat2 w1 w.heap.size an ad := Rat2.below ⟨by simp [go_sem], by simp [go_sem]⟩ hb
  have B : Rat2 w1 (w.heap.size + 1) bn bd := Rat2.below ⟨by simp [go_sem], by simp [go_sem]⟩ hb
  have C : Rat2 w1 (w.heap.size + 1 + 1) cn cd := Rat2.below ⟨by simp [go_sem], by simp [go_sem]⟩ hb
  clear hb he
  have zAc0 := A.c0
  have zAc1 := A.c1
  go_wp2_with fail
  refine (valid_any an ad _).mono ?_
  rintro e w2 ⟨rfl, hb⟩
  replace A := A.below hb
  replace B := B.below hb
  replace C := C.below hb
  replace HB := below_up HB hb HB.size
  clear hb
  clear zAc0 zAc1
  have zBc0 := B.c0
  have zBc1 := B.c1
  go_wp2_with fail
  refine (valid_any bn bd _).mono ?_
  rintro e w3 ⟨rfl, hb⟩
  replace A := A.below hb
  replace B := B.below hb
  replace C := C.below hb
  replace HB := below_up HB hb HB.size
  clear hb
  clear zBc0 zBc1
  go_wp2_with fail
  go_ret
  exact ⟨rfl, HB⟩

set_option maxRecDepth 100000 in
set_option maxHeartbeats 3200000 in
theorem order_a3 (an ad bn bd cn cd : Int) (hv : vldB an ad = true) (hu : vldB bn bd = true) (ht : vldB cn cd = false) (w : World) (he : Env w) :
    Calls Tryd.prog 6 #[.agg #[.int .i64 an, .int .i64 ad], .agg #[.int .i64 bn, .int .i64 bd], .agg #[.int .i64 cn, .int .i64 cd]] w fun e w' => e = .returned (.bool true) ∧ Below w.heap.size w w' := by
  go_enter Tryd.func6, Tryd.ntmps6
  go_wp2_with fail
  refine (head_any _ (((he.alloc _).alloc _).alloc _)).mono ?_
  rintro e w1 ⟨rfl, hb⟩
  have HB := below_up (boxes3 w _ _ _) hb (by simp; omega)
  have A : Rat2 w1 w.heap.size an ad := Rat2.below ⟨by simp [go_sem], by simp [go_sem]⟩ hb
  have B : Rat2 w1 (w.heap.size + 1) bn bd := Rat2.below ⟨by simp [go_sem], by simp [go_sem]⟩ hb
  have C : Rat2 w1 (w.heap.size + 1 + 1) cn cd := Rat2.below ⟨by simp [go_sem], by simp [go_sem]⟩ hb
  clear hb he
  have zAc0 := A.c0
  have zAc1 := A.c1
  go_wp2_with fail
  refine (valid_any an ad _).mono ?_
  rintro e w2 ⟨rfl, hb⟩
  replace A := A.below hb
  replace B := B.below hb
  replace C := C.below hb
  replace HB := below_up HB hb HB.size
  clear hb
  clear zAc0 zAc1
  have zBc0 := B.c0
  have zBc1 := B.c1
  go_wp2_with fail
  refine (valid_any bn bd _).mono ?_
  rintro e w3 ⟨rfl, hb⟩
  replace A := A.below hb
  replace B := B.below hb
  replace C := C.below hb
  replace HB := below_up HB hb HB.size
  clear hb
  clear zBc0 zBc1
  have zCc0 := C.c0
  have zCc1 := C.c1
  go_wp2_with fail
  refine (valid_any cn cd _).mono ?_
  rintro e w4 ⟨rfl, hb⟩
  replace A := A.below hb
  replace B := B.below hb
  replace C := C.below hb
  replace HB := below_up HB hb HB.size
  clear hb
  clear zCc0 zCc1
  go_wp2_with fail
  go_ret
  exact ⟨rfl, HB⟩

set_option maxRecDepth 100000 in
set_option maxHeartbeats 3200000 in
theorem order_b (an ad bn bd cn cd : Int) (k m n sn sd es tn td et pn pd ep qn qd eq : Int) (hv : vldB an ad = true) (hu : vldB bn bd = true) (ht : vldB cn cd = true)
    (hk : k = -1 ∨ k = 0 ∨ k = 1) (hK : cmpR an ad bn bd = k) (hJ : cmpR bn bd an ad = -k) (hM : cmpR bn bd cn cd = m) (hN : cmpR an ad cn cd = n) (htr : k ≤ 0 → m ≤ 0 → n ≤ 0) (hE : k = 0 → an = bn ∧ ad = bd) (hE' : k ≠ 0 → an = bn → ad ≠ bd)
    (hS : opr (vldB an ad && vldB cn cd) (an * cd + cn * ad) (ad * cd) = (sn, sd, es)) (hT : opr (vldB bn bd && vldB cn cd) (bn * cd + cn * bd) (bd * cd) = (tn, td, et)) (hX : es = 0 → et = 0 → cmpR sn sd tn td = k)
    (hP : opr (vldB an ad && vldB cn cd) (an * cn) (ad * cd) = (pn, pd, ep)) (hQ : opr (vldB bn bd && vldB cn cd) (bn * cn) (bd * cd) = (qn, qd, eq)) (hY : 0 < cn → ep = 0 → eq = 0 → cmpR pn pd qn qd = k) (w : World) (he : Env w) :
    Calls Tryd.prog 6 #[.agg #[.int .i64 an, .int .i64 ad], .agg #[.int .i64 bn, .int .i64 bd], .agg #[.int .i64 cn, .int .i64 cd]] w fun e w' => e = .returned (.bool true) ∧ Below w.heap.size w w' := by
  have Hhk := Lib.hid hk
  have HhK := Lib.hid hK
  have HhJ := Lib.hid hJ
  have HhM := Lib.hid hM
  have HhN := Lib.hid hN
  have Hhtr := Lib.hid htr
  have HhE := Lib.hid hE
  have HhE' := Lib.hid hE'
  have HhS := Lib.hid hS
  have HhT := Lib.hid hT
  have HhX := Lib.hid hX
  have HhP := Lib.hid hP
  have HhQ := Lib.hid hQ
  have HhY := Lib.hid hY
  clear hk hK hJ hM hN htr hE hE' hS hT hX hP hQ hY
  go_enter Tryd.func6, Tryd.ntmps6
  go_wp2_with fail
  refine (head_any _ (((he.alloc _).alloc _).alloc _)).mono ?_
  rintro e w1 ⟨rfl, hb⟩
  have HB := below_up (boxes3 w _ _ _) hb (by simp; omega)
  have A : Rat2 w1 w.heap.size an ad := Rat2.below ⟨by simp [go_sem], by simp [go_sem]⟩ hb
  have B : Rat2 w1 (w.heap.size + 1) bn bd := Rat2.below ⟨by simp [go_sem], by simp [go_sem]⟩ hb
  have C : Rat2 w1 (w.heap.size + 1 + 1) cn cd := Rat2.below ⟨by simp [go_sem], by simp [go_sem]⟩ hb
  clear hb he
  have zAc0 := A.c0
  have zAc1 := A.c1
  go_wp2_with fail
  refine (valid_any an ad _).mono ?_
  rintro e w2 ⟨rfl, hb⟩
  replace A := A.below hb
  replace B := B.below hb
  replace C := C.below hb
  replace HB := below_up HB hb HB.size
  clear hb
  clear zAc0 zAc1
  have zBc0 := B.c0
  have zBc1 := B.c1
  go_wp2_with fail
  refine (valid_any bn bd _).mono ?_
  rintro e w3 ⟨rfl, hb⟩
  replace A := A.below hb
  replace B := B.below hb
  replace C := C.below hb
  replace HB := below_up HB hb HB.size
  clear hb
  clear zBc0 zBc1
  have zCc0 := C.c0
  have zCc1 := C.c1
  go_wp2_with fail
  refine (valid_any cn cd _).mono ?_
  rintro e w4 ⟨rfl, hb⟩
  replace A := A.below hb
  replace B := B.below hb
  replace C := C.below hb
  replace HB := below_up HB hb HB.size
  clear hb
  clear zCc0 zCc1
  have zAc0 := A.c0
  have zAc1 := A.c1
  have zBc0 := B.c0
  have zBc1 := B.c1
  go_wp2_with fail
  have K := fun W => cmp_any an ad bn bd W
  rw [HhK.out] at K
  refine (K _).mono ?_
  clear K
  rintro e w5 ⟨rfl, hb⟩
  replace A := A.below hb
  replace B := B.below hb
  replace C := C.below hb
  replace HB := below_up HB hb HB.size
  clear hb
  clear zAc0 zAc1 zBc0 zBc1
  go_upto_region 5 with fail
  go_cut [68] (fun sx wx => sx = .bool false ∧ Below w.heap.size w wx ∧ Rat2 wx w.heap.size (an) (ad) ∧ Rat2 wx (w.heap.size + 1) (bn) (bd) ∧ Rat2 wx (w.heap.size + 1 + 1) (cn) (cd))
  case first =>
    rcases Hhk.out with rfl | rfl | rfl
    · by_cases q : an = bn
      · have q2 : (ad == bd) = false := by simpa using HhE'.out (by decide) q
        have q1 : (an == bn) = true := by simpa using q
        clear q
        have zAc0 := A.c0
        have zAc1 := A.c1
        have zBc0 := B.c0
        have zBc1 := B.c1
        go_wp2_with fail
        have K := fun W => cmp_any bn bd an ad W
        rw [HhJ.out] at K
        refine (K _).mono ?_
        clear K
        rintro e w6 ⟨rfl, hb⟩
        replace A := A.below hb
        replace B := B.below hb
        replace C := C.below hb
        replace HB := below_up HB hb HB.size
        clear hb
        clear zAc0 zAc1 zBc0 zBc1
        have zBc0 := B.c0
        have zBc1 := B.c1
        have zCc0 := C.c0
        have zCc1 := C.c1
        go_wp2_with fail
        have K := fun W => cmp_any bn bd cn cd W
        rw [HhM.out] at K
        refine (K _).mono ?_
        clear K
        rintro e w7 ⟨rfl, hb⟩
        replace A := A.below hb
        replace B := B.below hb
        replace C := C.below hb
        replace HB := below_up HB hb HB.size
        clear hb
        clear zBc0 zBc1 zCc0 zCc1
        by_cases hm : m ≤ 0
        · have hn := Hhtr.out (by decide) hm
          have zAc0 := A.c0
          have zAc1 := A.c1
          have zCc0 := C.c0
          have zCc1 := C.c1
          go_wp2_with fail
          have K := fun W => cmp_any an ad cn cd W
          rw [HhN.out] at K
          refine (K _).mono ?_
          clear K
          rintro e w8 ⟨rfl, hb⟩
          replace A := A.below hb
          replace B := B.below hb
          replace C := C.below hb
          replace HB := below_up HB hb HB.size
          clear hb
          clear zAc0 zAc1 zCc0 zCc1
          go_wp2_with fail
          go_meet
          case rel => exact ⟨by first | rfl | exact congrArg Value.bool (decide_eq_false (by omega)), HB, A, B, C⟩
        · replace hm : 0 < m := by omega
          go_wp2_with fail
          go_meet
          case rel => exact ⟨by first | rfl | exact congrArg Value.bool (decide_eq_false (by omega)), HB, A, B, C⟩
      · have q1 : (an == bn) = false := by simpa using q
        clear q
        have zAc0 := A.c0
        have zAc1 := A.c1
        have zBc0 := B.c0
        have zBc1 := B.c1
        go_wp2_with fail
        have K := fun W => cmp_any bn bd an ad W
        rw [HhJ.out] at K
        refine (K _).mono ?_
        clear K
        rintro e w9 ⟨rfl, hb⟩
        replace A := A.below hb
        replace B := B.below hb
        replace C := C.below hb
        replace HB := below_up HB hb HB.size
        clear hb
        clear zAc0 zAc1 zBc0 zBc1
        have zBc0 := B.c0
        have zBc1 := B.c1
        have zCc0 := C.c0
        have zCc1 := C.c1
        go_wp2_with fail
        have K := fun W => cmp_any bn bd cn cd W
        rw [HhM.out] at K
        refine (K _).mono ?_
        clear K
        rintro e w10 ⟨rfl, hb⟩
        replace A := A.below hb
        replace B := B.below hb
        replace C := C.below hb
        replace HB := below_up HB hb HB.size
        clear hb
        clear zBc0 zBc1 zCc0 zCc1
        by_cases hm : m ≤ 0
        · have hn := Hhtr.out (by decide) hm
          have zAc0 := A.c0
          have zAc1 := A.c1
          have zCc0 := C.c0
          have zCc1 := C.c1
          go_wp2_with fail
          have K := fun W => cmp_any an ad cn cd W
          rw [HhN.out] at K
          refine (K _).mono ?_
          clear K
          rintro e w11 ⟨rfl, hb⟩
          replace A := A.below hb
          replace B := B.below hb
          replace C := C.below hb
          replace HB := below_up HB hb HB.size
          clear hb
          clear zAc0 zAc1 zCc0 zCc1
          go_wp2_with fail
          go_meet
          case rel => exact ⟨by first | rfl | exact congrArg Value.bool (decide_eq_false (by omega)), HB, A, B, C⟩
        · replace hm : 0 < m := by omega
          go_wp2_with fail
          go_meet
          case rel => exact ⟨by first | rfl | exact congrArg Value.bool (decide_eq_false (by omega)), HB, A, B, C⟩
    · obtain ⟨q3, q4⟩ := HhE.out rfl
      have q1 : (an == bn) = true := by simpa using q3
      have q2 : (ad == bd) = true := by simpa using q4
      clear q3 q4
      have zAc0 := A.c0
      have zAc1 := A.c1
      have zBc0 := B.c0
      have zBc1 := B.c1
      go_wp2_with fail
      have K := fun W => cmp_any bn bd an ad W
      rw [HhJ.out] at K
      refine (K _).mono ?_
      clear K
      rintro e w12 ⟨rfl, hb⟩
      replace A := A.below hb
      replace B := B.below hb
      replace C := C.below hb
      replace HB := below_up HB hb HB.size
      clear hb
      clear zAc0 zAc1 zBc0 zBc1
      have zBc0 := B.c0
      have zBc1 := B.c1
      have zCc0 := C.c0
      have zCc1 := C.c1
      go_wp2_with fail
      have K := fun W => cmp_any bn bd cn cd W
      rw [HhM.out] at K
      refine (K _).mono ?_
      clear K
      rintro e w13 ⟨rfl, hb⟩
      replace A := A.below hb
      replace B := B.below hb
      replace C := C.below hb
      replace HB := below_up HB hb HB.size
      clear hb
      clear zBc0 zBc1 zCc0 zCc1
      by_cases hm : m ≤ 0
      · have hn := Hhtr.out (by decide) hm
        have zAc0 := A.c0
        have zAc1 := A.c1
        have zCc0 := C.c0
        have zCc1 := C.c1
        go_wp2_with fail
        have K := fun W => cmp_any an ad cn cd W
        rw [HhN.out] at K
        refine (K _).mono ?_
        clear K
        rintro e w14 ⟨rfl, hb⟩
        replace A := A.below hb
        replace B := B.below hb
        replace C := C.below hb
        replace HB := below_up HB hb HB.size
        clear hb
        clear zAc0 zAc1 zCc0 zCc1
        go_wp2_with fail
        go_meet
        case rel => exact ⟨by first | rfl | exact congrArg Value.bool (decide_eq_false (by omega)), HB, A, B, C⟩
      · replace hm : 0 < m := by omega
        go_wp2_with fail
        go_meet
        case rel => exact ⟨by first | rfl | exact congrArg Value.bool (decide_eq_false (by omega)), HB, A, B, C⟩
    · by_cases q : an = bn
      · have q2 : (ad == bd) = false := by simpa using HhE'.out (by decide) q
        have q1 : (an == bn) = true := by simpa using q
        clear q
        have zAc0 := A.c0
        have zAc1 := A.c1
        have zBc0 := B.c0
        have zBc1 := B.c1
        go_wp2_with fail
        have K := fun W => cmp_any bn bd an ad W
        rw [HhJ.out] at K
        refine (K _).mono ?_
        clear K
        rintro e w15 ⟨rfl, hb⟩
        replace A := A.below hb
        replace B := B.below hb
        replace C := C.below hb
        replace HB := below_up HB hb HB.size
        clear hb
        clear zAc0 zAc1 zBc0 zBc1
        have zBc0 := B.c0
        have zBc1 := B.c1
        have zCc0 := C.c0
        have zCc1 := C.c1
        go_wp2_with fail
        go_meet
        case rel => exact ⟨by first | rfl | exact congrArg Value.bool (decide_eq_false (by omega)), HB, A, B, C⟩
      · have q1 : (an == bn) = false := by simpa using q
        clear q
        have zAc0 := A.c0
        have zAc1 := A.c1
        have zBc0 := B.c0
        have zBc1 := B.c1
        go_wp2_with fail
        have K := fun W => cmp_any bn bd an ad W
        rw [HhJ.out] at K
        refine (K _).mono ?_
        clear K
        rintro e w16 ⟨rfl, hb⟩
        replace A := A.below hb
        replace B := B.below hb
        replace C := C.below hb
        replace HB := below_up HB hb HB.size
        clear hb
        clear zAc0 zAc1 zBc0 zBc1
        have zBc0 := B.c0
        have zBc1 := B.c1
        have zCc0 := C.c0
        have zCc1 := C.c1
        go_wp2_with fail
        go_meet
        case rel => exact ⟨by first | rfl | exact congrArg Value.bool (decide_eq_false (by omega)), HB, A, B, C⟩
  case rest =>
    obtain ⟨rfl, HB, A, B, C⟩ := hcut
    rename World => w17
    have zAc0 := A.c0
    have zAc1 := A.c1
    have zCc0 := C.c0
    have zCc1 := C.c1
    go_wp2_with fail
    have K := fun W => add_any an ad cn cd W
    rw [HhS.out] at K
    refine (K _).mono ?_
    clear K
    rintro e w18 ⟨rfl, hb⟩
    replace A := A.below hb
    replace B := B.below hb
    replace C := C.below hb
    replace HB := below_up HB hb HB.size
    clear hb
    clear zAc0 zAc1 zCc0 zCc1
    have nAS := A.ne
    have nSA := nAS.symm
    have nBS := B.ne
    have nSB := nBS.symm
    have nCS := C.ne
    have nSC := nCS.symm
    have gS := HB.size
    have yBc0 := fun o => (B.alloc o).c0
    have yBc1 := fun o => (B.alloc o).c1
    have yCc0 := fun o => (C.alloc o).c0
    have yCc1 := fun o => (C.alloc o).c1
    go_wp2_with fail
    have K := fun W => add_any bn bd cn cd W
    rw [HhT.out] at K
    refine (K _).mono ?_
    clear K
    rintro e w19 ⟨rfl, hb⟩
    replace A := (A.alloc _).below hb
    replace B := (B.alloc _).below hb
    replace C := (C.alloc _).below hb
    have S : Own2 w19 w18.heap.size (sn) (sd) := Own2.below ⟨⟨by simp [go_sem], by simp [go_sem]⟩, by simp [go_sem], by simp [go_sem]⟩ hb
    replace HB := below_next HB HB.size hb
    clear hb
    clear yBc0 yBc1 yCc0 yCc1
    have nAT := A.ne
    have nTA := nAT.symm
    have nBT := B.ne
    have nTB := nBT.symm
    have nCT := C.ne
    have nTC := nCT.symm
    have nST := S.ne
    have nTS := nST.symm
    have gT := HB.size
    go_upto_region 9 with fail
    go_cut [93] (fun sx wx => sx = .bool false ∧ Below w.heap.size w wx ∧ Rat2 wx w.heap.size (an) (ad) ∧ Rat2 wx (w.heap.size + 1) (bn) (bd) ∧ Rat2 wx (w.heap.size + 1 + 1) (cn) (cd) ∧ Own2 wx w18.heap.size (sn) (sd) ∧ Own2 wx w19.heap.size (tn) (td))
    case first =>
      replace HB := HB.alloc HB.size (Obj.cells #[Value.int IntKind.i64 (tn), Value.int IntKind.i64 (td)] 23)
      replace A := A.alloc (Obj.cells #[Value.int IntKind.i64 (tn), Value.int IntKind.i64 (td)] 23)
      replace B := B.alloc (Obj.cells #[Value.int IntKind.i64 (tn), Value.int IntKind.i64 (td)] 23)
      replace C := C.alloc (Obj.cells #[Value.int IntKind.i64 (tn), Value.int IntKind.i64 (td)] 23)
      replace S := S.alloc (Obj.cells #[Value.int IntKind.i64 (tn), Value.int IntKind.i64 (td)] 23)
      have T : Own2 (w19.alloc (Obj.cells #[Value.int IntKind.i64 (tn), Value.int IntKind.i64 (td)] 23)) w19.heap.size (tn) (td) := ⟨⟨by simp [go_sem], by simp [go_sem]⟩, by simp [go_sem], by simp [go_sem]⟩
      generalize w19.alloc (Obj.cells #[Value.int IntKind.i64 (tn), Value.int IntKind.i64 (td)] 23) = w20 at *
      by_cases h1 : es = 0
      · subst h1
        by_cases h2 : et = 0
        · subst h2
          have zSc0 := S.c0
          have zSc1 := S.c1
          have zTc0 := T.c0
          have zTc1 := T.c1
          go_wp2_with fail
          have K := fun W => cmp_any sn sd tn td W
          rw [HhX.out (by simp) (by simp)] at K
          refine (K _).mono ?_
          clear K
          rintro e w21 ⟨rfl, hb⟩
          replace A := A.below hb
          replace B := B.below hb
          replace C := C.below hb
          replace S := S.below hb
          replace T := T.below hb
          replace HB := below_up HB hb HB.size
          clear hb
          clear zSc0 zSc1 zTc0 zTc1
          go_wp2_with fail
          go_meet
          case rel => exact ⟨by first | rfl | exact congrArg Value.bool (decide_eq_false (by omega)), HB, A, B, C, S, T⟩
        · have h2b : (et == 0) = false := by simpa using h2
          clear h2
          go_wp2_with fail
          go_meet
          case rel => exact ⟨by first | rfl | exact congrArg Value.bool (decide_eq_false (by omega)), HB, A, B, C, S, T⟩
      · have h1b : (es == 0) = false := by simpa using h1
        clear h1
        go_wp2_with fail
        go_meet
        case rel => exact ⟨by first | rfl | exact congrArg Value.bool (decide_eq_false (by omega)), HB, A, B, C, S, T⟩
    case rest =>
      obtain ⟨rfl, HB, A, B, C, S, T⟩ := hcut
      rename World => w22
      have zAc0 := A.c0
      have zAc1 := A.c1
      have zCc0 := C.c0
      have zCc1 := C.c1
      go_wp2_with fail
      have K := fun W => mul_any an ad cn cd W
      rw [HhP.out] at K
      refine (K _).mono ?_
      clear K
      rintro e w23 ⟨rfl, hb⟩
      replace A := A.below hb
      replace B := B.below hb
      replace C := C.below hb
      replace S := S.below hb
      replace T := T.below hb
      replace HB := below_up HB hb HB.size
      clear hb
      clear zAc0 zAc1 zCc0 zCc1
      have yBc0 := fun v1 v2 => ((B.set nBS 0 v1).set nBS 1 v2).c0
      have yBc1 := fun v1 v2 => ((B.set nBS 0 v1).set nBS 1 v2).c1
      have yCc0 := fun v1 v2 => ((C.set nCS 0 v1).set nCS 1 v2).c0
      have yCc1 := fun v1 v2 => ((C.set nCS 0 v1).set nCS 1 v2).c1
      have xc0 := S.c0
      have xc1 := S.c1
      have xf0 := S.f0
      have xf1 := S.f1
      go_wp2_with fail
      have K := fun W => mul_any bn bd cn cd W
      rw [HhQ.out] at K
      refine (K _).mono ?_
      clear K
      rintro e w24 ⟨rfl, hb⟩
      replace A := ((A.set nAS 0 _).set nAS 1 _).below hb
      replace B := ((B.set nBS 0 _).set nBS 1 _).below hb
      replace C := ((C.set nCS 0 _).set nCS 1 _).below hb
      replace S := (S.both _ _).below hb
      replace T := ((T.set nTS 0 _).set nTS 1 _).below hb
      replace HB := below_store HB gS hb
      clear hb
      clear yBc0 yBc1 yCc0 yCc1 xc0 xc1 xf0 xf1
      have yCc0 := fun v1 v2 => ((C.set nCT 0 v1).set nCT 1 v2).c0
      have yCc1 := fun v1 v2 => ((C.set nCT 0 v1).set nCT 1 v2).c1
      have ySc0 := fun v1 v2 => ((S.set nST 0 v1).set nST 1 v2).c0
      have ySc1 := fun v1 v2 => ((S.set nST 0 v1).set nST 1 v2).c1
      have yTc0 := fun v1 v2 => (T.both v1 v2).c0
      have yTc1 := fun v1 v2 => (T.both v1 v2).c1
      have xc0 := T.c0
      have xc1 := T.c1
      have xf0 := T.f0
      have xf1 := T.f1
      by_cases h3 : cn ≤ 0
      · go_wp2_with fail
        go_ret
        exact ⟨rfl, (HB.setCell gT _).setCell gT _⟩
      · have h3b : 0 < cn := by omega
        by_cases h4 : ep = 0
        · subst h4
          by_cases h5 : eq = 0
          · subst h5
            go_wp2_with fail
            have K := fun W => cmp_any pn pd qn qd W
            rw [HhY.out h3b (by simp) (by simp)] at K
            refine (K _).mono ?_
            clear K
            rintro e w25 ⟨rfl, hb⟩
            replace A := ((A.set nAT 0 _).set nAT 1 _).below hb
            replace B := ((B.set nBT 0 _).set nBT 1 _).below hb
            replace C := ((C.set nCT 0 _).set nCT 1 _).below hb
            replace S := ((S.set nST 0 _).set nST 1 _).below hb
            replace T := (T.both _ _).below hb
            replace HB := below_store HB gT hb
            clear hb
            clear yCc0 yCc1 ySc0 ySc1 yTc0 yTc1 xc0 xc1 xf0 xf1
            go_wp2_with fail
            go_ret
            exact ⟨rfl, HB⟩
          · have h5b : (eq != 0) = true := by simpa using h5
            clear h5
            go_wp2_with fail
            go_ret
            exact ⟨rfl, (HB.setCell gT _).setCell gT _⟩
        · have h4b : (ep != 0) = true := by simpa using h4
          clear h4
          go_wp2_with fail
          go_ret
          exact ⟨rfl, (HB.setCell gT _).setCell gT _⟩

end Go.Proofs.YtpmggfmhkjafkaaDoor
