/- The walk of RatioTexts. -/
import Derived.Test.YtpmggfmhkjafkaaDoorOrderW
namespace Go.Proofs.YtpmggfmhkjafkaaDoor
open Go.RowKit

set_option maxRecDepth 100000 in
set_option maxHeartbeats 1600000 in
theorem texts_long (an ad : Int) (l : List UInt8) (hl : 1000 < l.length) (w : World) (he : Env w) :
    Calls Tryd.prog 7 #[.agg #[.int .i64 an, .int .i64 ad], .string ⟨l.toArray⟩] w fun e w' => e = .returned (.bool true) ∧ Below w.heap.size w w' := by
  go_enter Tryd.func7, Tryd.ntmps7
  go_wp2_with fail
  refine (head_any _ (he.alloc _)).mono ?_
  rintro e w1 ⟨rfl, hb⟩
  have HB := below_up ((Below.refl _ _).alloc (Nat.le_refl _) _) hb (by simp)
  have HE := Lib.hid ((he.alloc _).below hb)
  have A : Rat2 w1 w.heap.size an ad := Rat2.below ⟨by simp [go_sem], by simp [go_sem]⟩ hb
  clear hb he
  go_wp2_with fail
  go_ret
  exact ⟨rfl, HB⟩

set_option maxRecDepth 100000 in
set_option maxHeartbeats 1600000 in
theorem texts_11 (an ad : Int) (l : List UInt8) (hl : l.length ≤ 1000) (t : List UInt8) (hv : vldB an ad = true) (ht : txt an ad = t) (hne : t ≠ []) (hlen : t.length ≤ 1000) (hp : parse t = (an, ad, 0)) (n d : Int) (hq : parse l = (n, d, 0)) (hw : vldB n d = true) (hu : txt n d = l) (w : World) (he : Env w) :
    Calls Tryd.prog 7 #[.agg #[.int .i64 an, .int .i64 ad], .string ⟨l.toArray⟩] w fun e w' => e = .returned (.bool true) ∧ Below w.heap.size w w' := by
  have Hht := Lib.hid ht
  have Hhp := Lib.hid hp
  have Hhq := Lib.hid hq
  have Hhlen := Lib.hid hlen
  have Hhu := Lib.hid hu
  have Hhl := Lib.hid hl
  clear ht hp hq hlen hu hl
  go_enter Tryd.func7, Tryd.ntmps7
  go_wp2_with fail
  refine (head_any _ (he.alloc _)).mono ?_
  rintro e w1 ⟨rfl, hb⟩
  have HB := below_up ((Below.refl _ _).alloc (Nat.le_refl _) _) hb (by simp)
  have HE := Lib.hid ((he.alloc _).below hb)
  have A : Rat2 w1 w.heap.size an ad := Rat2.below ⟨by simp [go_sem], by simp [go_sem]⟩ hb
  clear hb he
  have hl := Hhl.out
  have zAc0 := A.c0
  have zAc1 := A.c1
  go_wp2_with fail
  have K := fun W hW => text_any an ad W hW
  rw [Hht.out] at K
  refine (K _ HE.out).mono ?_
  clear K
  rintro e w2 ⟨rfl, hb⟩
  replace A := A.below hb
  replace HE := Lib.hid (HE.out.below hb)
  replace HB := below_up HB hb HB.size
  clear hb
  clear zAc0 zAc1
  clear hl
  have e1 : t.isEmpty = false := by simpa using hne
  have e2 : (t == []) = false := by simpa using hne
  have e3 : (t != []) = true := by simpa using hne
  have zAc0 := A.c0
  have zAc1 := A.c1
  go_wp2_with fail
  have K := fun W => valid_any an ad W
  refine (K _).mono ?_
  clear K
  rintro e w3 ⟨rfl, hb⟩
  replace A := A.below hb
  replace HE := Lib.hid (HE.out.below hb)
  replace HB := below_up HB hb HB.size
  clear hb
  clear zAc0 zAc1
  go_wp2_with fail
  have K := fun W hW => parse_any t Hhlen.out W hW
  rw [Hhp.out] at K
  refine (K _ HE.out).mono ?_
  clear K
  rintro e w4 ⟨rfl, hb⟩
  replace A := A.below hb
  replace HE := Lib.hid (HE.out.below hb)
  replace HB := below_up HB hb HB.size
  clear hb
  have yAc0 := fun o => (A.alloc o).c0
  have yAc1 := fun o => (A.alloc o).c1
  go_wp2_with fail
  have K := fun W hW => parse_any l Hhl.out W hW
  rw [Hhq.out] at K
  refine (K _ (HE.out.alloc _)).mono ?_
  clear K
  rintro e w5 ⟨rfl, hb⟩
  replace A := (A.alloc _).below hb
  have B : Rat2 w5 w4.heap.size (an) (ad) := Rat2.below ⟨by simp [go_sem], by simp [go_sem]⟩ hb
  replace HE := Lib.hid ((HE.out.alloc _).below hb)
  replace HB := below_next HB HB.size hb
  clear hb
  clear yAc0 yAc1
  have yAc0 := fun o => (A.alloc o).c0
  have yAc1 := fun o => (A.alloc o).c1
  go_wp2_with fail
  have K := fun W => valid_any n d W
  refine (K _).mono ?_
  clear K
  rintro e w6 ⟨rfl, hb⟩
  replace A := (A.alloc _).below hb
  replace B := (B.alloc _).below hb
  have C : Rat2 w6 w5.heap.size (n) (d) := Rat2.below ⟨by simp [go_sem], by simp [go_sem]⟩ hb
  replace HE := Lib.hid ((HE.out.alloc _).below hb)
  replace HB := below_next HB HB.size hb
  clear hb
  clear yAc0 yAc1
  have zCc0 := C.c0
  have zCc1 := C.c1
  go_wp2_with fail
  have K := fun W hW => text_any n d W hW
  rw [Hhu.out] at K
  refine (K _ HE.out).mono ?_
  clear K
  rintro e w7 ⟨rfl, hb⟩
  replace A := A.below hb
  replace B := B.below hb
  replace C := C.below hb
  replace HE := Lib.hid (HE.out.below hb)
  replace HB := below_up HB hb HB.size
  clear hb
  clear zCc0 zCc1
  go_wp2_with fail
  go_ret
  exact ⟨rfl, HB⟩

set_option maxRecDepth 100000 in
set_option maxHeartbeats 1600000 in
theorem texts_10 (an ad : Int) (l : List UInt8) (hl : l.length ≤ 1000) (t : List UInt8) (hv : vldB an ad = true) (ht : txt an ad = t) (hne : t ≠ []) (hlen : t.length ≤ 1000) (hp : parse t = (an, ad, 0)) (hq : parse l = (0, 0, 6)) (w : World) (he : Env w) :
    Calls Tryd.prog 7 #[.agg #[.int .i64 an, .int .i64 ad], .string ⟨l.toArray⟩] w fun e w' => e = .returned (.bool true) ∧ Below w.heap.size w w' := by
  have Hht := Lib.hid ht
  have Hhp := Lib.hid hp
  have Hhq := Lib.hid hq
  have Hhlen := Lib.hid hlen
  have Hhl := Lib.hid hl
  clear ht hp hq hlen hl
  go_enter Tryd.func7, Tryd.ntmps7
  go_wp2_with fail
  refine (head_any _ (he.alloc _)).mono ?_
  rintro e w1 ⟨rfl, hb⟩
  have HB := below_up ((Below.refl _ _).alloc (Nat.le_refl _) _) hb (by simp)
  have HE := Lib.hid ((he.alloc _).below hb)
  have A : Rat2 w1 w.heap.size an ad := Rat2.below ⟨by simp [go_sem], by simp [go_sem]⟩ hb
  clear hb he
  have hl := Hhl.out
  have zAc0 := A.c0
  have zAc1 := A.c1
  go_wp2_with fail
  have K := fun W hW => text_any an ad W hW
  rw [Hht.out] at K
  refine (K _ HE.out).mono ?_
  clear K
  rintro e w2 ⟨rfl, hb⟩
  replace A := A.below hb
  replace HE := Lib.hid (HE.out.below hb)
  replace HB := below_up HB hb HB.size
  clear hb
  clear zAc0 zAc1
  clear hl
  have e1 : t.isEmpty = false := by simpa using hne
  have e2 : (t == []) = false := by simpa using hne
  have e3 : (t != []) = true := by simpa using hne
  have zAc0 := A.c0
  have zAc1 := A.c1
  go_wp2_with fail
  have K := fun W => valid_any an ad W
  refine (K _).mono ?_
  clear K
  rintro e w3 ⟨rfl, hb⟩
  replace A := A.below hb
  replace HE := Lib.hid (HE.out.below hb)
  replace HB := below_up HB hb HB.size
  clear hb
  clear zAc0 zAc1
  go_wp2_with fail
  have K := fun W hW => parse_any t Hhlen.out W hW
  rw [Hhp.out] at K
  refine (K _ HE.out).mono ?_
  clear K
  rintro e w4 ⟨rfl, hb⟩
  replace A := A.below hb
  replace HE := Lib.hid (HE.out.below hb)
  replace HB := below_up HB hb HB.size
  clear hb
  have yAc0 := fun o => (A.alloc o).c0
  have yAc1 := fun o => (A.alloc o).c1
  go_wp2_with fail
  have K := fun W hW => parse_any l Hhl.out W hW
  rw [Hhq.out] at K
  refine (K _ (HE.out.alloc _)).mono ?_
  clear K
  rintro e w5 ⟨rfl, hb⟩
  replace A := (A.alloc _).below hb
  have B : Rat2 w5 w4.heap.size (an) (ad) := Rat2.below ⟨by simp [go_sem], by simp [go_sem]⟩ hb
  replace HE := Lib.hid ((HE.out.alloc _).below hb)
  replace HB := below_next HB HB.size hb
  clear hb
  clear yAc0 yAc1
  have yAc0 := fun o => (A.alloc o).c0
  have yAc1 := fun o => (A.alloc o).c1
  go_wp2_with fail
  go_ret
  exact ⟨rfl, HB.alloc HB.size _⟩

set_option maxRecDepth 100000 in
set_option maxHeartbeats 1600000 in
theorem texts_01 (an ad : Int) (l : List UInt8) (hl : l.length ≤ 1000) (hv : vldB an ad = false) (ht : txt an ad = []) (hp : parse [] = (0, 0, 6)) (n d : Int) (hq : parse l = (n, d, 0)) (hw : vldB n d = true) (hu : txt n d = l) (w : World) (he : Env w) :
    Calls Tryd.prog 7 #[.agg #[.int .i64 an, .int .i64 ad], .string ⟨l.toArray⟩] w fun e w' => e = .returned (.bool true) ∧ Below w.heap.size w w' := by
  have Hht := Lib.hid ht
  have Hhp := Lib.hid hp
  have Hhq := Lib.hid hq
  have Hhu := Lib.hid hu
  have Hhl := Lib.hid hl
  clear ht hp hq hu hl
  go_enter Tryd.func7, Tryd.ntmps7
  go_wp2_with fail
  refine (head_any _ (he.alloc _)).mono ?_
  rintro e w1 ⟨rfl, hb⟩
  have HB := below_up ((Below.refl _ _).alloc (Nat.le_refl _) _) hb (by simp)
  have HE := Lib.hid ((he.alloc _).below hb)
  have A : Rat2 w1 w.heap.size an ad := Rat2.below ⟨by simp [go_sem], by simp [go_sem]⟩ hb
  clear hb he
  have hl := Hhl.out
  have zAc0 := A.c0
  have zAc1 := A.c1
  go_wp2_with fail
  have K := fun W hW => text_any an ad W hW
  rw [Hht.out] at K
  refine (K _ HE.out).mono ?_
  clear K
  rintro e w2 ⟨rfl, hb⟩
  replace A := A.below hb
  replace HE := Lib.hid (HE.out.below hb)
  replace HB := below_up HB hb HB.size
  clear hb
  clear zAc0 zAc1
  clear hl
  have zAc0 := A.c0
  have zAc1 := A.c1
  go_wp2_with fail
  have K := fun W => valid_any an ad W
  refine (K _).mono ?_
  clear K
  rintro e w3 ⟨rfl, hb⟩
  replace A := A.below hb
  replace HE := Lib.hid (HE.out.below hb)
  replace HB := below_up HB hb HB.size
  clear hb
  clear zAc0 zAc1
  go_wp2_with fail
  have K := fun W hW => parse_any [] (by simp) W hW
  rw [Hhp.out] at K
  refine (K _ HE.out).mono ?_
  clear K
  rintro e w4 ⟨rfl, hb⟩
  replace A := A.below hb
  replace HE := Lib.hid (HE.out.below hb)
  replace HB := below_up HB hb HB.size
  clear hb
  have yAc0 := fun o => (A.alloc o).c0
  have yAc1 := fun o => (A.alloc o).c1
  go_wp2_with fail
  have K := fun W hW => parse_any l Hhl.out W hW
  rw [Hhq.out] at K
  refine (K _ (HE.out.alloc _)).mono ?_
  clear K
  rintro e w5 ⟨rfl, hb⟩
  replace A := (A.alloc _).below hb
  have B : Rat2 w5 w4.heap.size (0) (0) := Rat2.below ⟨by simp [go_sem], by simp [go_sem]⟩ hb
  replace HE := Lib.hid ((HE.out.alloc _).below hb)
  replace HB := below_next HB HB.size hb
  clear hb
  clear yAc0 yAc1
  have yAc0 := fun o => (A.alloc o).c0
  have yAc1 := fun o => (A.alloc o).c1
  go_wp2_with fail
  have K := fun W => valid_any n d W
  refine (K _).mono ?_
  clear K
  rintro e w6 ⟨rfl, hb⟩
  replace A := (A.alloc _).below hb
  replace B := (B.alloc _).below hb
  have C : Rat2 w6 w5.heap.size (n) (d) := Rat2.below ⟨by simp [go_sem], by simp [go_sem]⟩ hb
  replace HE := Lib.hid ((HE.out.alloc _).below hb)
  replace HB := below_next HB HB.size hb
  clear hb
  clear yAc0 yAc1
  have zCc0 := C.c0
  have zCc1 := C.c1
  go_wp2_with fail
  have K := fun W hW => text_any n d W hW
  rw [Hhu.out] at K
  refine (K _ HE.out).mono ?_
  clear K
  rintro e w7 ⟨rfl, hb⟩
  replace A := A.below hb
  replace B := B.below hb
  replace C := C.below hb
  replace HE := Lib.hid (HE.out.below hb)
  replace HB := below_up HB hb HB.size
  clear hb
  clear zCc0 zCc1
  go_wp2_with fail
  go_ret
  exact ⟨rfl, HB⟩

set_option maxRecDepth 100000 in
set_option maxHeartbeats 1600000 in
theorem texts_00 (an ad : Int) (l : List UInt8) (hl : l.length ≤ 1000) (hv : vldB an ad = false) (ht : txt an ad = []) (hp : parse [] = (0, 0, 6)) (hq : parse l = (0, 0, 6)) (w : World) (he : Env w) :
    Calls Tryd.prog 7 #[.agg #[.int .i64 an, .int .i64 ad], .string ⟨l.toArray⟩] w fun e w' => e = .returned (.bool true) ∧ Below w.heap.size w w' := by
  have Hht := Lib.hid ht
  have Hhp := Lib.hid hp
  have Hhq := Lib.hid hq
  have Hhl := Lib.hid hl
  clear ht hp hq hl
  go_enter Tryd.func7, Tryd.ntmps7
  go_wp2_with fail
  refine (head_any _ (he.alloc _)).mono ?_
  rintro e w1 ⟨rfl, hb⟩
  have HB := below_up ((Below.refl _ _).alloc (Nat.le_refl _) _) hb (by simp)
  have HE := Lib.hid ((he.alloc _).below hb)
  have A : Rat2 w1 w.heap.size an ad := Rat2.below ⟨by simp [go_sem], by simp [go_sem]⟩ hb
  clear hb he
  have hl := Hhl.out
  have zAc0 := A.c0
  have zAc1 := A.c1
  go_wp2_with fail
  have K := fun W hW => text_any an ad W hW
  rw [Hht.out] at K
  refine (K _ HE.out).mono ?_
  clear K
  rintro e w2 ⟨rfl, hb⟩
  replace A := A.below hb
  replace HE := Lib.hid (HE.out.below hb)
  replace HB := below_up HB hb HB.size
  clear hb
  clear zAc0 zAc1
  clear hl
  have zAc0 := A.c0
  have zAc1 := A.c1
  go_wp2_with fail
  have K := fun W => valid_any an ad W
  refine (K _).mono ?_
  clear K
  rintro e w3 ⟨rfl, hb⟩
  replace A := A.below hb
  replace HE := Lib.hid (HE.out.below hb)
  replace HB := below_up HB hb HB.size
  clear hb
  clear zAc0 zAc1
  go_wp2_with fail
  have K := fun W hW => parse_any [] (by simp) W hW
  rw [Hhp.out] at K
  refine (K _ HE.out).mono ?_
  clear K
  rintro e w4 ⟨rfl, hb⟩
  replace A := A.below hb
  replace HE := Lib.hid (HE.out.below hb)
  replace HB := below_up HB hb HB.size
  clear hb
  have yAc0 := fun o => (A.alloc o).c0
  have yAc1 := fun o => (A.alloc o).c1
  go_wp2_with fail
  have K := fun W hW => parse_any l Hhl.out W hW
  rw [Hhq.out] at K
  refine (K _ (HE.out.alloc _)).mono ?_
  clear K
  rintro e w5 ⟨rfl, hb⟩
  replace A := (A.alloc _).below hb
  have B : Rat2 w5 w4.heap.size (0) (0) := Rat2.below ⟨by simp [go_sem], by simp [go_sem]⟩ hb
  replace HE := Lib.hid ((HE.out.alloc _).below hb)
  replace HB := below_next HB HB.size hb
  clear hb
  clear yAc0 yAc1
  have yAc0 := fun o => (A.alloc o).c0
  have yAc1 := fun o => (A.alloc o).c1
  go_wp2_with fail
  go_ret
  exact ⟨rfl, HB.alloc HB.size _⟩

end Go.Proofs.YtpmggfmhkjafkaaDoor
