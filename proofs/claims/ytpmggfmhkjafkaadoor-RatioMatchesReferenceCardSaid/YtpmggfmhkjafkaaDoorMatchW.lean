/- The walk of RatioMatchesReference. -/
import Derived.Test.YtpmggfmhkjafkaaDoorHead
import Derived.Test.YtpmggfmhkjafkaaDoorRefMul
import Derived.Test.YtpmggfmhkjafkaaDoorRefCmp
import Derived.Test.YtpmggfmhkjafkaaDoorRefParseM
import Derived.WalkLawsBesides
namespace Go.Proofs.YtpmggfmhkjafkaaDoor
open Go.RowKit

/-- Block b holds two ints and a text. -/
structure Raw3 (w : World) (b : Nat) (n d : Int) (s : ByteArray) : Prop where
  c0 : w.cell? ⟨b, 0, none⟩ = some (.int .i64 n)
  c1 : w.cell? ⟨b, 1, none⟩ = some (.int .i64 d)
  c2 : w.cell? ⟨b, 2, none⟩ = some (.string s)
theorem Raw3.below {w w1 : World} {b : Nat} {n d : Int} {s : ByteArray} (h : Raw3 w b n d s) (hb : Below w.heap.size w w1) : Raw3 w1 b n d s := ⟨cellB hb h.c0, cellB hb h.c1, cellB hb h.c2⟩
theorem Raw3.alloc {w : World} {b : Nat} {n d : Int} {s : ByteArray} (h : Raw3 w b n d s) (o : Obj) : Raw3 (w.alloc o) b n d s := h.below ((Below.refl _ _).alloc (Nat.le_refl _) _)

theorem refmake_at {n d : Int} {r : Int × Int × Int} (h : mk n d = r) (w : World) (hn0 : -9223372036854775808 ≤ n) (hn1 : n ≤ 9223372036854775807) (hd0 : -9223372036854775808 ≤ d) (hd1 : d ≤ 9223372036854775807) :
    Calls Tryd.prog 12 #[.int .i64 n, .int .i64 d] w (RatioPost w r) := h ▸ refmake_any n d w hn0 hn1 hd0 hd1
theorem parse_at {l : List UInt8} {r : Int × Int × Int} (h : parse l = r) (hl : l.length ≤ 1000) (w : World) (he : Env w) :
    Calls Tryd.prog 13 #[.string ⟨l.toArray⟩] w (RatioPost w r) := h ▸ parse_any l hl w he
theorem refparse_at {l : List UInt8} {r : Int × Int × Int} (h : parse l = r) (hl : l.length ≤ 1000) (w : World) :
    Calls Tryd.prog 14 #[.string ⟨l.toArray⟩] w (RatioPost w r) := h ▸ refparse_any l hl w

set_option linter.unusedVariables false

set_option maxRecDepth 100000 in
set_option maxHeartbeats 3200000 in
theorem match_long (an ad bn bd n d : Int) (l : List UInt8) (hl : 1000 < l.length) (w : World) (he : Env w) :
    Calls Tryd.prog 3 #[.agg #[.int .i64 an, .int .i64 ad], .agg #[.int .i64 bn, .int .i64 bd], .agg #[.int .i64 n, .int .i64 d, .string ⟨l.toArray⟩]] w fun e w' => e = .returned (.bool true) ∧ Below w.heap.size w w' := by
  go_enter Tryd.func3, Tryd.ntmps3
  go_wp2_with fail
  refine (head_any _ (((he.alloc _).alloc _).alloc _)).mono ?_
  rintro e w1 ⟨rfl, hb⟩
  have HB := below_up (boxes3 w _ _ _) hb (by simp; omega)
  have HE := Lib.hid ((((he.alloc _).alloc _).alloc _).below hb)
  have A : Rat2 w1 w.heap.size an ad := Rat2.below ⟨by simp [go_sem], by simp [go_sem]⟩ hb
  have B : Rat2 w1 (w.heap.size + 1) bn bd := Rat2.below ⟨by simp [go_sem], by simp [go_sem]⟩ hb
  have X : Raw3 w1 (w.heap.size + 1 + 1) n d ⟨l.toArray⟩ := Raw3.below ⟨by simp [go_sem], by simp [go_sem], by simp [go_sem]⟩ hb
  clear hb he
  have zXc0 := X.c0
  have zXc1 := X.c1
  have zXc2 := X.c2
  go_wp2_with fail
  go_ret
  exact ⟨rfl, HB⟩

set_option maxRecDepth 100000 in
set_option maxHeartbeats 3200000 in
theorem match_ok (an ad bn bd n d : Int) (l : List UInt8) (mn md me pn pd pe sn sd se dn dd de un ud ue qn qd qe : Int) (t : List UInt8) (hl : l.length ≤ 1000) (b1 : -9223372036854775808 ≤ n) (b2 : n ≤ 9223372036854775807) (b3 : -9223372036854775808 ≤ d) (b4 : d ≤ 9223372036854775807)
    (hM : mk n d = (mn, md, me)) (hP : parse l = (pn, pd, pe)) (hS : opr (vldB an ad && vldB bn bd) (an * bd + bn * ad) (ad * bd) = (sn, sd, se)) (hD : opr (vldB an ad && vldB bn bd) (an * bd - bn * ad) (ad * bd) = (dn, dd, de)) (hU : opr (vldB an ad && vldB bn bd) (an * bn) (ad * bd) = (un, ud, ue)) (hQ : opr (vldB an ad && vldB bn bd) (an * bd) (ad * bn) = (qn, qd, qe)) (hT : txt an ad = t) (w : World) (he : Env w) :
    Calls Tryd.prog 3 #[.agg #[.int .i64 an, .int .i64 ad], .agg #[.int .i64 bn, .int .i64 bd], .agg #[.int .i64 n, .int .i64 d, .string ⟨l.toArray⟩]] w fun e w' => e = .returned (.bool true) ∧ Below w.heap.size w w' := by
  have HhM := Lib.hid hM
  have HhP := Lib.hid hP
  have HhS := Lib.hid hS
  have HhD := Lib.hid hD
  have HhU := Lib.hid hU
  have HhQ := Lib.hid hQ
  have HhT := Lib.hid hT
  clear hM hP hS hD hU hQ hT
  go_enter Tryd.func3, Tryd.ntmps3
  go_wp2_with fail
  refine (head_any _ (((he.alloc _).alloc _).alloc _)).mono ?_
  rintro e w1 ⟨rfl, hb⟩
  have HB := below_up (boxes3 w _ _ _) hb (by simp; omega)
  have HE := Lib.hid ((((he.alloc _).alloc _).alloc _).below hb)
  have A : Rat2 w1 w.heap.size an ad := Rat2.below ⟨by simp [go_sem], by simp [go_sem]⟩ hb
  have B : Rat2 w1 (w.heap.size + 1) bn bd := Rat2.below ⟨by simp [go_sem], by simp [go_sem]⟩ hb
  have X : Raw3 w1 (w.heap.size + 1 + 1) n d ⟨l.toArray⟩ := Raw3.below ⟨by simp [go_sem], by simp [go_sem], by simp [go_sem]⟩ hb
  clear hb he
  have zXc0 := X.c0
  have zXc1 := X.c1
  have zXc2 := X.c2
  go_wp2_with fail
  refine (make_at HhM.out _ b1 b2 b3 b4).mono ?_
  rintro e w2 ⟨rfl, hb⟩
  replace A := A.below hb
  replace B := B.below hb
  replace X := X.below hb
  replace HE := Lib.hid (HE.out.below hb)
  replace HB := below_up HB hb HB.size
  clear hb
  clear zXc0 zXc1 zXc2
  have zXc0 := X.c0
  have yXc0 := fun o => (X.alloc o).c0
  have zXc1 := X.c1
  have yXc1 := fun o => (X.alloc o).c1
  have zXc2 := X.c2
  have yXc2 := fun o => (X.alloc o).c2
  go_wp2_with fail
  refine (refmake_at HhM.out _ b1 b2 b3 b4).mono ?_
  rintro e w3 ⟨rfl, hb⟩
  replace A := (A.alloc _).below hb
  replace B := (B.alloc _).below hb
  replace X := (X.alloc _).below hb
  have M : Rat2 w3 w2.heap.size (mn) (md) := Rat2.below ⟨by simp [go_sem], by simp [go_sem]⟩ hb
  replace HE := Lib.hid ((HE.out.alloc _).below hb)
  replace HB := below_next HB HB.size hb
  clear hb
  clear zXc0 yXc0 zXc1 yXc1 zXc2 yXc2
  have zXc0 := X.c0
  have yXc0 := fun o => (X.alloc o).c0
  have zXc1 := X.c1
  have yXc1 := fun o => (X.alloc o).c1
  have zXc2 := X.c2
  have yXc2 := fun o => (X.alloc o).c2
  go_wp2_with fail
  refine (parse_at HhP.out hl _ (HE.out.alloc _)).mono ?_
  rintro e w4 ⟨rfl, hb⟩
  replace A := (A.alloc _).below hb
  replace B := (B.alloc _).below hb
  replace X := (X.alloc _).below hb
  replace M := (M.alloc _).below hb
  have N : Rat2 w4 w3.heap.size (mn) (md) := Rat2.below ⟨by simp [go_sem], by simp [go_sem]⟩ hb
  replace HE := Lib.hid ((HE.out.alloc _).below hb)
  replace HB := below_next HB HB.size hb
  clear hb
  clear zXc0 yXc0 zXc1 yXc1 zXc2 yXc2
  have zXc0 := X.c0
  have yXc0 := fun o => (X.alloc o).c0
  have zXc1 := X.c1
  have yXc1 := fun o => (X.alloc o).c1
  have zXc2 := X.c2
  have yXc2 := fun o => (X.alloc o).c2
  go_wp2_with fail
  refine (refparse_at HhP.out hl _).mono ?_
  rintro e w5 ⟨rfl, hb⟩
  replace A := (A.alloc _).below hb
  replace B := (B.alloc _).below hb
  replace X := (X.alloc _).below hb
  replace M := (M.alloc _).below hb
  replace N := (N.alloc _).below hb
  have P : Rat2 w5 w4.heap.size (pn) (pd) := Rat2.below ⟨by simp [go_sem], by simp [go_sem]⟩ hb
  replace HE := Lib.hid ((HE.out.alloc _).below hb)
  replace HB := below_next HB HB.size hb
  clear hb
  clear zXc0 yXc0 zXc1 yXc1 zXc2 yXc2
  clear X
  have zMc0 := M.c0
  have yMc0 := fun o => (M.alloc o).c0
  have zMc1 := M.c1
  have yMc1 := fun o => (M.alloc o).c1
  have zNc0 := N.c0
  have yNc0 := fun o => (N.alloc o).c0
  have zNc1 := N.c1
  have yNc1 := fun o => (N.alloc o).c1
  have zPc0 := P.c0
  have yPc0 := fun o => (P.alloc o).c0
  have zPc1 := P.c1
  have yPc1 := fun o => (P.alloc o).c1
  have zAc0 := A.c0
  have yAc0 := fun o => (A.alloc o).c0
  have zAc1 := A.c1
  have yAc1 := fun o => (A.alloc o).c1
  have zBc0 := B.c0
  have yBc0 := fun o => (B.alloc o).c0
  have zBc1 := B.c1
  have yBc1 := fun o => (B.alloc o).c1
  go_wp2_with fail
  have K := fun W => add_any an ad bn bd W
  rw [HhS.out] at K
  refine (K _).mono ?_
  clear K
  rintro e w6 ⟨rfl, hb⟩
  replace A := (A.alloc _).below hb
  replace B := (B.alloc _).below hb
  replace M := (M.alloc _).below hb
  replace N := (N.alloc _).below hb
  replace P := (P.alloc _).below hb
  have R : Rat2 w6 w5.heap.size (pn) (pd) := Rat2.below ⟨by simp [go_sem], by simp [go_sem]⟩ hb
  replace HE := Lib.hid ((HE.out.alloc _).below hb)
  replace HB := below_next HB HB.size hb
  clear hb
  clear zMc0 yMc0 zMc1 yMc1 zNc0 yNc0 zNc1 yNc1 zPc0 yPc0 zPc1 yPc1 zAc0 yAc0 zAc1 yAc1 zBc0 yBc0 zBc1 yBc1
  clear M N P R
  have zAc0 := A.c0
  have yAc0 := fun o => (A.alloc o).c0
  have zAc1 := A.c1
  have yAc1 := fun o => (A.alloc o).c1
  have zBc0 := B.c0
  have yBc0 := fun o => (B.alloc o).c0
  have zBc1 := B.c1
  have yBc1 := fun o => (B.alloc o).c1
  go_wp2_with fail
  have K := fun W => refadd_any an ad bn bd W
  rw [HhS.out] at K
  refine (K _).mono ?_
  clear K
  rintro e w7 ⟨rfl, hb⟩
  replace A := (A.alloc _).below hb
  replace B := (B.alloc _).below hb
  have S : Rat2 w7 w6.heap.size (sn) (sd) := Rat2.below ⟨by simp [go_sem], by simp [go_sem]⟩ hb
  replace HE := Lib.hid ((HE.out.alloc _).below hb)
  replace HB := below_next HB HB.size hb
  clear hb
  clear zAc0 yAc0 zAc1 yAc1 zBc0 yBc0 zBc1 yBc1
  have zAc0 := A.c0
  have yAc0 := fun o => (A.alloc o).c0
  have zAc1 := A.c1
  have yAc1 := fun o => (A.alloc o).c1
  have zBc0 := B.c0
  have yBc0 := fun o => (B.alloc o).c0
  have zBc1 := B.c1
  have yBc1 := fun o => (B.alloc o).c1
  go_wp2_with fail
  have K := fun W => sub_any an ad bn bd W
  rw [HhD.out] at K
  refine (K _).mono ?_
  clear K
  rintro e w8 ⟨rfl, hb⟩
  replace A := (A.alloc _).below hb
  replace B := (B.alloc _).below hb
  replace S := (S.alloc _).below hb
  have Sr : Rat2 w8 w7.heap.size (sn) (sd) := Rat2.below ⟨by simp [go_sem], by simp [go_sem]⟩ hb
  replace HE := Lib.hid ((HE.out.alloc _).below hb)
  replace HB := below_next HB HB.size hb
  clear hb
  clear zAc0 yAc0 zAc1 yAc1 zBc0 yBc0 zBc1 yBc1
  have zAc0 := A.c0
  have yAc0 := fun o => (A.alloc o).c0
  have zAc1 := A.c1
  have yAc1 := fun o => (A.alloc o).c1
  have zBc0 := B.c0
  have yBc0 := fun o => (B.alloc o).c0
  have zBc1 := B.c1
  have yBc1 := fun o => (B.alloc o).c1
  go_wp2_with fail
  have K := fun W => refsub_any an ad bn bd W
  rw [HhD.out] at K
  refine (K _).mono ?_
  clear K
  rintro e w9 ⟨rfl, hb⟩
  replace A := (A.alloc _).below hb
  replace B := (B.alloc _).below hb
  replace S := (S.alloc _).below hb
  replace Sr := (Sr.alloc _).below hb
  have D : Rat2 w9 w8.heap.size (dn) (dd) := Rat2.below ⟨by simp [go_sem], by simp [go_sem]⟩ hb
  replace HE := Lib.hid ((HE.out.alloc _).below hb)
  replace HB := below_next HB HB.size hb
  clear hb
  clear zAc0 yAc0 zAc1 yAc1 zBc0 yBc0 zBc1 yBc1
  have zAc0 := A.c0
  have yAc0 := fun o => (A.alloc o).c0
  have zAc1 := A.c1
  have yAc1 := fun o => (A.alloc o).c1
  have zBc0 := B.c0
  have yBc0 := fun o => (B.alloc o).c0
  have zBc1 := B.c1
  have yBc1 := fun o => (B.alloc o).c1
  go_wp2_with fail
  have K := fun W => mul_any an ad bn bd W
  rw [HhU.out] at K
  refine (K _).mono ?_
  clear K
  rintro e w10 ⟨rfl, hb⟩
  replace A := (A.alloc _).below hb
  replace B := (B.alloc _).below hb
  replace S := (S.alloc _).below hb
  replace Sr := (Sr.alloc _).below hb
  replace D := (D.alloc _).below hb
  have Dr : Rat2 w10 w9.heap.size (dn) (dd) := Rat2.below ⟨by simp [go_sem], by simp [go_sem]⟩ hb
  replace HE := Lib.hid ((HE.out.alloc _).below hb)
  replace HB := below_next HB HB.size hb
  clear hb
  clear zAc0 yAc0 zAc1 yAc1 zBc0 yBc0 zBc1 yBc1
  have zAc0 := A.c0
  have yAc0 := fun o => (A.alloc o).c0
  have zAc1 := A.c1
  have yAc1 := fun o => (A.alloc o).c1
  have zBc0 := B.c0
  have yBc0 := fun o => (B.alloc o).c0
  have zBc1 := B.c1
  have yBc1 := fun o => (B.alloc o).c1
  go_wp2_with fail
  have K := fun W => refmul_any an ad bn bd W
  rw [HhU.out] at K
  refine (K _).mono ?_
  clear K
  rintro e w11 ⟨rfl, hb⟩
  replace A := (A.alloc _).below hb
  replace B := (B.alloc _).below hb
  replace S := (S.alloc _).below hb
  replace Sr := (Sr.alloc _).below hb
  replace D := (D.alloc _).below hb
  replace Dr := (Dr.alloc _).below hb
  have U : Rat2 w11 w10.heap.size (un) (ud) := Rat2.below ⟨by simp [go_sem], by simp [go_sem]⟩ hb
  replace HE := Lib.hid ((HE.out.alloc _).below hb)
  replace HB := below_next HB HB.size hb
  clear hb
  clear zAc0 yAc0 zAc1 yAc1 zBc0 yBc0 zBc1 yBc1
  have zAc0 := A.c0
  have yAc0 := fun o => (A.alloc o).c0
  have zAc1 := A.c1
  have yAc1 := fun o => (A.alloc o).c1
  have zBc0 := B.c0
  have yBc0 := fun o => (B.alloc o).c0
  have zBc1 := B.c1
  have yBc1 := fun o => (B.alloc o).c1
  clear zAc0 yAc0 zAc1 yAc1 zBc0 yBc0 zBc1 yBc1
  have zAc0 := A.c0
  have yAc0 := fun o => (A.alloc o).c0
  have zAc1 := A.c1
  have yAc1 := fun o => (A.alloc o).c1
  have zBc0 := B.c0
  have yBc0 := fun o => (B.alloc o).c0
  have zBc1 := B.c1
  have yBc1 := fun o => (B.alloc o).c1
  have zSc0 := S.c0
  have ySc0 := fun o => (S.alloc o).c0
  have zSc1 := S.c1
  have ySc1 := fun o => (S.alloc o).c1
  have zSrc0 := Sr.c0
  have ySrc0 := fun o => (Sr.alloc o).c0
  have zSrc1 := Sr.c1
  have ySrc1 := fun o => (Sr.alloc o).c1
  have zDc0 := D.c0
  have yDc0 := fun o => (D.alloc o).c0
  have zDc1 := D.c1
  have yDc1 := fun o => (D.alloc o).c1
  have zDrc0 := Dr.c0
  have yDrc0 := fun o => (Dr.alloc o).c0
  have zDrc1 := Dr.c1
  have yDrc1 := fun o => (Dr.alloc o).c1
  have zUc0 := U.c0
  have yUc0 := fun o => (U.alloc o).c0
  have zUc1 := U.c1
  have yUc1 := fun o => (U.alloc o).c1
  go_wp2_with fail
  have K := fun W => div_any an ad bn bd W
  rw [HhQ.out] at K
  refine (K _).mono ?_
  clear K
  rintro e w12 ⟨rfl, hb⟩
  replace A := (A.alloc _).below hb
  replace B := (B.alloc _).below hb
  replace S := (S.alloc _).below hb
  replace Sr := (Sr.alloc _).below hb
  replace D := (D.alloc _).below hb
  replace Dr := (Dr.alloc _).below hb
  replace U := (U.alloc _).below hb
  have Ur : Rat2 w12 w11.heap.size (un) (ud) := Rat2.below ⟨by simp [go_sem], by simp [go_sem]⟩ hb
  replace HE := Lib.hid ((HE.out.alloc _).below hb)
  replace HB := below_next HB HB.size hb
  clear hb
  clear zAc0 yAc0 zAc1 yAc1 zBc0 yBc0 zBc1 yBc1 zSc0 ySc0 zSc1 ySc1 zSrc0 ySrc0 zSrc1 ySrc1 zDc0 yDc0 zDc1 yDc1 zDrc0 yDrc0 zDrc1 yDrc1 zUc0 yUc0 zUc1 yUc1
  clear S Sr D Dr U Ur
  have zAc0 := A.c0
  have yAc0 := fun o => (A.alloc o).c0
  have zAc1 := A.c1
  have yAc1 := fun o => (A.alloc o).c1
  have zBc0 := B.c0
  have yBc0 := fun o => (B.alloc o).c0
  have zBc1 := B.c1
  have yBc1 := fun o => (B.alloc o).c1
  go_wp2_with fail
  have K := fun W => refdiv_any an ad bn bd W
  rw [HhQ.out] at K
  refine (K _).mono ?_
  clear K
  rintro e w13 ⟨rfl, hb⟩
  replace A := (A.alloc _).below hb
  replace B := (B.alloc _).below hb
  have Q : Rat2 w13 w12.heap.size (qn) (qd) := Rat2.below ⟨by simp [go_sem], by simp [go_sem]⟩ hb
  replace HE := Lib.hid ((HE.out.alloc _).below hb)
  replace HB := below_next HB HB.size hb
  clear hb
  clear zAc0 yAc0 zAc1 yAc1 zBc0 yBc0 zBc1 yBc1
  have zAc0 := A.c0
  have yAc0 := fun o => (A.alloc o).c0
  have zAc1 := A.c1
  have yAc1 := fun o => (A.alloc o).c1
  have zBc0 := B.c0
  have yBc0 := fun o => (B.alloc o).c0
  have zBc1 := B.c1
  have yBc1 := fun o => (B.alloc o).c1
  go_wp2_with fail
  clear zAc0 yAc0 zAc1 yAc1 zBc0 yBc0 zBc1 yBc1
  replace HE := Lib.hid (HE.out.alloc (Obj.cells #[Value.int IntKind.i64 (qn), Value.int IntKind.i64 (qd)] 23))
  replace HB := HB.alloc HB.size (Obj.cells #[Value.int IntKind.i64 (qn), Value.int IntKind.i64 (qd)] 23)
  replace A := A.alloc (Obj.cells #[Value.int IntKind.i64 (qn), Value.int IntKind.i64 (qd)] 23)
  replace B := B.alloc (Obj.cells #[Value.int IntKind.i64 (qn), Value.int IntKind.i64 (qd)] 23)
  replace Q := Q.alloc (Obj.cells #[Value.int IntKind.i64 (qn), Value.int IntKind.i64 (qd)] 23)
  have Qr : Rat2 (w13.alloc (Obj.cells #[Value.int IntKind.i64 (qn), Value.int IntKind.i64 (qd)] 23)) w13.heap.size (qn) (qd) := ⟨by simp [go_sem], by simp [go_sem]⟩
  generalize w13.alloc (Obj.cells #[Value.int IntKind.i64 (qn), Value.int IntKind.i64 (qd)] 23) = w14 at *
  have G0 := HB
  have HE1 := Lib.hid (HE.out.drewN 1)
  have A1 := A.below (below_drewN _ w14 1)
  have zA0 := A.c0; have zA1 := A.c1
  have B1 := B.below (below_drewN _ w14 1)
  have zB0 := B.c0; have zB1 := B.c1
  have Q1 := Q.below (below_drewN _ w14 1)
  have zQ0 := Q.c0; have zQ1 := Q.c1
  have Qr1 := Qr.below (below_drewN _ w14 1)
  have zQr0 := Qr.c0; have zQr1 := Qr.c1
  go_region_held3 (fun w' => w'.cell? ⟨w.heap.size, 0, none⟩ = some (.int .i64 (an)) ∧ w'.cell? ⟨w.heap.size, 1, none⟩ = some (.int .i64 (ad)) ∧ w'.cell? ⟨(w.heap.size + 1), 0, none⟩ = some (.int .i64 (bn)) ∧ w'.cell? ⟨(w.heap.size + 1), 1, none⟩ = some (.int .i64 (bd)) ∧ w'.cell? ⟨w12.heap.size, 0, none⟩ = some (.int .i64 (qn)) ∧ w'.cell? ⟨w12.heap.size, 1, none⟩ = some (.int .i64 (qd)) ∧ w'.cell? ⟨w13.heap.size, 0, none⟩ = some (.int .i64 (qn)) ∧ w'.cell? ⟨w13.heap.size, 1, none⟩ = some (.int .i64 (qd))) (go_keep)
    (first | (go_at_call 23; refine (valid_any an ad _).mono ?_; rintro e v1 ⟨rfl, h1⟩; have HE2 := Lib.hid (HE1.out.below h1); have A2 := A1.below h1; have A2c := A2.c0; have A2d := A2.c1; have B2 := B1.below h1; have B2c := B2.c0; have B2d := B2.c1; have Q2 := Q1.below h1; have Q2c := Q2.c0; have Q2d := Q2.c1; have Qr2 := Qr1.below h1; have Qr2c := Qr2.c0; have Qr2d := Qr2.c1) | (go_at_call 24; refine (refvalid_any an ad _).mono ?_; rintro e v2 ⟨rfl, h2⟩; have HE3 := Lib.hid (HE2.out.below h2); have A3 := A2.below h2; have A3c := A3.c0; have A3d := A3.c1; have B3 := B2.below h2; have B3c := B3.c0; have B3d := B3.c1; have Q3 := Q2.below h2; have Q3c := Q3.c0; have Q3d := Q3.c1; have Qr3 := Qr2.below h2; have Qr3c := Qr3.c0; have Qr3d := Qr3.c1) | (go_at_call 25; refine (cmp_any an ad bn bd _).mono ?_; rintro e v3 ⟨rfl, h3⟩; have HE4 := Lib.hid (HE3.out.below h3); have A4 := A3.below h3; have A4c := A4.c0; have A4d := A4.c1; have B4 := B3.below h3; have B4c := B4.c0; have B4d := B4.c1; have Q4 := Q3.below h3; have Q4c := Q4.c0; have Q4d := Q4.c1; have Qr4 := Qr3.below h3; have Qr4c := Qr4.c0; have Qr4d := Qr4.c1) | (go_at_call 26; refine (refcmp_any an ad bn bd _).mono ?_; rintro e v4 ⟨rfl, h4⟩; have HE5 := Lib.hid (HE4.out.below h4); have A5 := A4.below h4; have A5c := A5.c0; have A5d := A5.c1; have B5 := B4.below h4; have B5c := B5.c0; have B5d := B5.c1; have Q5 := Q4.below h4; have Q5c := Q5.c0; have Q5d := Q5.c1; have Qr5 := Qr4.below h4; have Qr5c := Qr5.c0; have Qr5d := Qr5.c1) | (go_at_call 27; refine (text_any an ad _ HE5.out).mono ?_; rintro e v5 ⟨rfl, h5⟩; have HE6 := Lib.hid (HE5.out.below h5); have A6 := A5.below h5; have A6c := A6.c0; have A6d := A6.c1; have B6 := B5.below h5; have B6c := B6.c0; have B6d := B6.c1; have Q6 := Q5.below h5; have Q6c := Q6.c0; have Q6d := Q6.c1; have Qr6 := Qr5.below h5; have Qr6c := Qr6.c0; have Qr6d := Qr6.c1) | (go_at_call 28; refine (reftext_any an ad _).mono ?_; rintro e v6 ⟨rfl, h6⟩; have HE7 := Lib.hid (HE6.out.below h6); have A7 := A6.below h6; have A7c := A7.c0; have A7d := A7.c1; have B7 := B6.below h6; have B7c := B7.c0; have B7d := B7.c1; have Q7 := Q6.below h6; have Q7c := Q7.c0; have Q7d := Q7.c1; have Qr7 := Qr6.below h6; have Qr7c := Qr7.c0; have Qr7d := Qr7.c1))
  replace HB := below_up HB (below_drewN w14.heap.size w14 1) HB.size
  replace HB := below_up HB h1 HB.size
  replace HB := below_up HB h2 HB.size
  replace HB := below_up HB h3 HB.size
  replace HB := below_up HB h4 HB.size
  replace HB := below_up HB h5 HB.size
  replace HB := below_up HB h6 HB.size
  go_wp2_with fail
  go_ret
  exact ⟨rfl, HB⟩

end Go.Proofs.YtpmggfmhkjafkaaDoor
