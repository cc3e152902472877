/- The walk of RatioShares. -/
import Derived.Test.YtpmggfmhkjafkaaDoorOrderW
namespace Go.Proofs.YtpmggfmhkjafkaaDoor
open Go.RowKit

set_option maxRecDepth 100000 in
set_option maxHeartbeats 3200000 in
theorem shares_a1 (an ad bn bd : Int) (hv : vldB an ad = false) (w : World) (he : Env w) :
    Calls Tryd.prog 9 #[.agg #[.int .i64 an, .int .i64 ad], .agg #[.int .i64 bn, .int .i64 bd]] w fun e w' => e = .returned (.bool true) ∧ Below w.heap.size w w' := by
  go_enter Tryd.func9, Tryd.ntmps9
  go_wp2_with fail
  refine (head_any _ ((he.alloc _).alloc _)).mono ?_
  rintro e w1 ⟨rfl, hb⟩
  have HB := below_up (boxes2 w _ _) hb (by simp; omega)
  have A : Own2 w1 w.heap.size an ad := Own2.below ⟨⟨by simp [go_sem], by simp [go_sem]⟩, by simp [go_sem], by simp [go_sem]⟩ hb
  have B : Own2 w1 (w.heap.size + 1) bn bd := Own2.below ⟨⟨by simp [go_sem], by simp [go_sem]⟩, by simp [go_sem], by simp [go_sem]⟩ hb
  clear hb he
  have nAB : w.heap.size ≠ w.heap.size + 1 := by omega
  have nBA := nAB.symm
  go_wp2_with fail
  refine (of_below 0 1 _).mono ?_
  rintro e w2 ⟨rfl, hb⟩
  replace A := A.below hb
  replace B := B.below hb
  replace HB := below_up HB hb HB.size
  clear hb
  have nAN := A.ne
  have nNA := nAN.symm
  have nBN := B.ne
  have nNB := nBN.symm
  go_wp2_with fail
  refine (of_below 1 1 _).mono ?_
  rintro e w3 ⟨rfl, hb⟩
  replace A := (A.alloc _).below hb
  replace B := (B.alloc _).below hb
  have N : Rat2 w3 w2.heap.size (0) (1) := Rat2.below ⟨by simp [go_sem], by simp [go_sem]⟩ hb
  replace HB := below_next HB HB.size hb
  clear hb
  have nAO := A.ne
  have nOA := nAO.symm
  have nBO := B.ne
  have nOB := nBO.symm
  have yAc0 := fun o => (A.alloc o).c0
  have yAc1 := fun o => (A.alloc o).c1
  go_wp2_with fail
  refine (valid_any an ad _).mono ?_
  rintro e w4 ⟨rfl, hb⟩
  replace A := (A.alloc _).below hb
  replace B := (B.alloc _).below hb
  replace N := (N.alloc _).below hb
  have O : Rat2 w4 w3.heap.size (1) (1) := Rat2.below ⟨by simp [go_sem], by simp [go_sem]⟩ hb
  replace HB := below_next HB HB.size hb
  clear hb
  clear yAc0 yAc1
  go_wp2_with fail
  go_ret
  exact ⟨rfl, HB⟩

set_option maxRecDepth 100000 in
set_option maxHeartbeats 3200000 in
theorem shares_a2 (an ad bn bd : Int) (hv : vldB an ad = true) (hu : vldB bn bd = false) (w : World) (he : Env w) :
    Calls Tryd.prog 9 #[.agg #[.int .i64 an, .int .i64 ad], .agg #[.int .i64 bn, .int .i64 bd]] w fun e w' => e = .returned (.bool true) ∧ Below w.heap.size w w' := by
  go_enter Tryd.func9, Tryd.ntmps9
  go_wp2_with fail
  refine (head_any _ ((he.alloc _).alloc _)).mono ?_
  rintro e w1 ⟨rfl, hb⟩
  have HB := below_up (boxes2 w _ _) hb (by simp; omega)
  have A : Own2 w1 w.heap.size an ad := Own2.below ⟨⟨by simp [go_sem], by simp [go_sem]⟩, by simp [go_sem], by simp [go_sem]⟩ hb
  have B : Own2 w1 (w.heap.size + 1) bn bd := Own2.below ⟨⟨by simp [go_sem], by simp [go_sem]⟩, by simp [go_sem], by simp [go_sem]⟩ hb
  clear hb he
  have nAB : w.heap.size ≠ w.heap.size + 1 := by omega
  have nBA := nAB.symm
  go_wp2_with fail
  refine (of_below 0 1 _).mono ?_
  rintro e w2 ⟨rfl, hb⟩
  replace A := A.below hb
  replace B := B.below hb
  replace HB := below_up HB hb HB.size
  clear hb
  have nAN := A.ne
  have nNA := nAN.symm
  have nBN := B.ne
  have nNB := nBN.symm
  go_wp2_with fail
  refine (of_below 1 1 _).mono ?_
  rintro e w3 ⟨rfl, hb⟩
  replace A := (A.alloc _).below hb
  replace B := (B.alloc _).below hb
  have N : Rat2 w3 w2.heap.size (0) (1) := Rat2.below ⟨by simp [go_sem], by simp [go_sem]⟩ hb
  replace HB := below_next HB HB.size hb
  clear hb
  have nAO := A.ne
  have nOA := nAO.symm
  have nBO := B.ne
  have nOB := nBO.symm
  have yAc0 := fun o => (A.alloc o).c0
  have yAc1 := fun o => (A.alloc o).c1
  go_wp2_with fail
  refine (valid_any an ad _).mono ?_
  rintro e w4 ⟨rfl, hb⟩
  replace A := (A.alloc _).below hb
  replace B := (B.alloc _).below hb
  replace N := (N.alloc _).below hb
  have O : Rat2 w4 w3.heap.size (1) (1) := Rat2.below ⟨by simp [go_sem], by simp [go_sem]⟩ hb
  replace HB := below_next HB HB.size hb
  clear hb
  clear yAc0 yAc1
  have zBc0 := B.c0
  have zBc1 := B.c1
  go_wp2_with fail
  refine (valid_any bn bd _).mono ?_
  rintro e w5 ⟨rfl, hb⟩
  replace A := A.below hb
  replace B := B.below hb
  replace N := N.below hb
  replace O := O.below hb
  replace HB := below_up HB hb HB.size
  clear hb
  clear zBc0 zBc1
  go_wp2_with fail
  go_ret
  exact ⟨rfl, HB⟩

set_option maxRecDepth 100000 in
set_option maxHeartbeats 3200000 in
theorem shares_a3 (an ad bn bd : Int) (hv : vldB an ad = true) (hu : vldB bn bd = true) (ka : Int) (h1 : cmpR an ad 0 1 = ka) (g1 : ka < 0) (w : World) (he : Env w) :
    Calls Tryd.prog 9 #[.agg #[.int .i64 an, .int .i64 ad], .agg #[.int .i64 bn, .int .i64 bd]] w fun e w' => e = .returned (.bool true) ∧ Below w.heap.size w w' := by
  have Hh1 := Lib.hid h1
  clear h1
  go_enter Tryd.func9, Tryd.ntmps9
  go_wp2_with fail
  refine (head_any _ ((he.alloc _).alloc _)).mono ?_
  rintro e w1 ⟨rfl, hb⟩
  have HB := below_up (boxes2 w _ _) hb (by simp; omega)
  have A : Own2 w1 w.heap.size an ad := Own2.below ⟨⟨by simp [go_sem], by simp [go_sem]⟩, by simp [go_sem], by simp [go_sem]⟩ hb
  have B : Own2 w1 (w.heap.size + 1) bn bd := Own2.below ⟨⟨by simp [go_sem], by simp [go_sem]⟩, by simp [go_sem], by simp [go_sem]⟩ hb
  clear hb he
  have nAB : w.heap.size ≠ w.heap.size + 1 := by omega
  have nBA := nAB.symm
  go_wp2_with fail
  refine (of_below 0 1 _).mono ?_
  rintro e w2 ⟨rfl, hb⟩
  replace A := A.below hb
  replace B := B.below hb
  replace HB := below_up HB hb HB.size
  clear hb
  have nAN := A.ne
  have nNA := nAN.symm
  have nBN := B.ne
  have nNB := nBN.symm
  go_wp2_with fail
  refine (of_below 1 1 _).mono ?_
  rintro e w3 ⟨rfl, hb⟩
  replace A := (A.alloc _).below hb
  replace B := (B.alloc _).below hb
  have N : Rat2 w3 w2.heap.size (0) (1) := Rat2.below ⟨by simp [go_sem], by simp [go_sem]⟩ hb
  replace HB := below_next HB HB.size hb
  clear hb
  have nAO := A.ne
  have nOA := nAO.symm
  have nBO := B.ne
  have nOB := nBO.symm
  have yAc0 := fun o => (A.alloc o).c0
  have yAc1 := fun o => (A.alloc o).c1
  go_wp2_with fail
  refine (valid_any an ad _).mono ?_
  rintro e w4 ⟨rfl, hb⟩
  replace A := (A.alloc _).below hb
  replace B := (B.alloc _).below hb
  replace N := (N.alloc _).below hb
  have O : Rat2 w4 w3.heap.size (1) (1) := Rat2.below ⟨by simp [go_sem], by simp [go_sem]⟩ hb
  replace HB := below_next HB HB.size hb
  clear hb
  clear yAc0 yAc1
  have zBc0 := B.c0
  have zBc1 := B.c1
  go_wp2_with fail
  refine (valid_any bn bd _).mono ?_
  rintro e w5 ⟨rfl, hb⟩
  replace A := A.below hb
  replace B := B.below hb
  replace N := N.below hb
  replace O := O.below hb
  replace HB := below_up HB hb HB.size
  clear hb
  clear zBc0 zBc1
  have zAc0 := A.c0
  have zAc1 := A.c1
  have zNc0 := N.c0
  have zNc1 := N.c1
  go_wp2_with fail
  have K := fun W => cmp_any an ad 0 1 W
  rw [Hh1.out] at K
  refine (K _).mono ?_
  clear K
  rintro e w6 ⟨rfl, hb⟩
  replace A := A.below hb
  replace B := B.below hb
  replace N := N.below hb
  replace O := O.below hb
  replace HB := below_up HB hb HB.size
  clear hb
  clear zAc0 zAc1 zNc0 zNc1
  go_wp2_with fail
  go_ret
  exact ⟨rfl, HB⟩

set_option maxRecDepth 100000 in
set_option maxHeartbeats 3200000 in
theorem shares_a4 (an ad bn bd : Int) (hv : vldB an ad = true) (hu : vldB bn bd = true) (ka : Int) (h1 : cmpR an ad 0 1 = ka) (g1 : 0 ≤ ka) (kb : Int) (h2 : cmpR bn bd 0 1 = kb) (g2 : kb < 0) (w : World) (he : Env w) :
    Calls Tryd.prog 9 #[.agg #[.int .i64 an, .int .i64 ad], .agg #[.int .i64 bn, .int .i64 bd]] w fun e w' => e = .returned (.bool true) ∧ Below w.heap.size w w' := by
  have Hh1 := Lib.hid h1
  have Hh2 := Lib.hid h2
  clear h1 h2
  go_enter Tryd.func9, Tryd.ntmps9
  go_wp2_with fail
  refine (head_any _ ((he.alloc _).alloc _)).mono ?_
  rintro e w1 ⟨rfl, hb⟩
  have HB := below_up (boxes2 w _ _) hb (by simp; omega)
  have A : Own2 w1 w.heap.size an ad := Own2.below ⟨⟨by simp [go_sem], by simp [go_sem]⟩, by simp [go_sem], by simp [go_sem]⟩ hb
  have B : Own2 w1 (w.heap.size + 1) bn bd := Own2.below ⟨⟨by simp [go_sem], by simp [go_sem]⟩, by simp [go_sem], by simp [go_sem]⟩ hb
  clear hb he
  have nAB : w.heap.size ≠ w.heap.size + 1 := by omega
  have nBA := nAB.symm
  go_wp2_with fail
  refine (of_below 0 1 _).mono ?_
  rintro e w2 ⟨rfl, hb⟩
  replace A := A.below hb
  replace B := B.below hb
  replace HB := below_up HB hb HB.size
  clear hb
  have nAN := A.ne
  have nNA := nAN.symm
  have nBN := B.ne
  have nNB := nBN.symm
  go_wp2_with fail
  refine (of_below 1 1 _).mono ?_
  rintro e w3 ⟨rfl, hb⟩
  replace A := (A.alloc _).below hb
  replace B := (B.alloc _).below hb
  have N : Rat2 w3 w2.heap.size (0) (1) := Rat2.below ⟨by simp [go_sem], by simp [go_sem]⟩ hb
  replace HB := below_next HB HB.size hb
  clear hb
  have nAO := A.ne
  have nOA := nAO.symm
  have nBO := B.ne
  have nOB := nBO.symm
  have yAc0 := fun o => (A.alloc o).c0
  have yAc1 := fun o => (A.alloc o).c1
  go_wp2_with fail
  refine (valid_any an ad _).mono ?_
  rintro e w4 ⟨rfl, hb⟩
  replace A := (A.alloc _).below hb
  replace B := (B.alloc _).below hb
  replace N := (N.alloc _).below hb
  have O : Rat2 w4 w3.heap.size (1) (1) := Rat2.below ⟨by simp [go_sem], by simp [go_sem]⟩ hb
  replace HB := below_next HB HB.size hb
  clear hb
  clear yAc0 yAc1
  have zBc0 := B.c0
  have zBc1 := B.c1
  go_wp2_with fail
  refine (valid_any bn bd _).mono ?_
  rintro e w5 ⟨rfl, hb⟩
  replace A := A.below hb
  replace B := B.below hb
  replace N := N.below hb
  replace O := O.below hb
  replace HB := below_up HB hb HB.size
  clear hb
  clear zBc0 zBc1
  have zAc0 := A.c0
  have zAc1 := A.c1
  have zNc0 := N.c0
  have zNc1 := N.c1
  go_wp2_with fail
  have K := fun W => cmp_any an ad 0 1 W
  rw [Hh1.out] at K
  refine (K _).mono ?_
  clear K
  rintro e w6 ⟨rfl, hb⟩
  replace A := A.below hb
  replace B := B.below hb
  replace N := N.below hb
  replace O := O.below hb
  replace HB := below_up HB hb HB.size
  clear hb
  clear zAc0 zAc1 zNc0 zNc1
  have zBc0 := B.c0
  have zBc1 := B.c1
  have zNc0 := N.c0
  have zNc1 := N.c1
  go_wp2_with fail
  have K := fun W => cmp_any bn bd 0 1 W
  rw [Hh2.out] at K
  refine (K _).mono ?_
  clear K
  rintro e w7 ⟨rfl, hb⟩
  replace A := A.below hb
  replace B := B.below hb
  replace N := N.below hb
  replace O := O.below hb
  replace HB := below_up HB hb HB.size
  clear hb
  clear zBc0 zBc1 zNc0 zNc1
  go_wp2_with fail
  go_ret
  exact ⟨rfl, HB⟩

set_option maxRecDepth 100000 in
set_option maxHeartbeats 3200000 in
theorem shares_a5 (an ad bn bd : Int) (hv : vldB an ad = true) (hu : vldB bn bd = true) (ka : Int) (h1 : cmpR an ad 0 1 = ka) (g1 : 0 ≤ ka) (kb : Int) (h2 : cmpR bn bd 0 1 = kb) (g2 : 0 ≤ kb) (ja : Int) (h3 : cmpR an ad 1 1 = ja) (g3 : 0 < ja) (w : World) (he : Env w) :
    Calls Tryd.prog 9 #[.agg #[.int .i64 an, .int .i64 ad], .agg #[.int .i64 bn, .int .i64 bd]] w fun e w' => e = .returned (.bool true) ∧ Below w.heap.size w w' := by
  have Hh1 := Lib.hid h1
  have Hh2 := Lib.hid h2
  have Hh3 := Lib.hid h3
  clear h1 h2 h3
  go_enter Tryd.func9, Tryd.ntmps9
  go_wp2_with fail
  refine (head_any _ ((he.alloc _).alloc _)).mono ?_
  rintro e w1 ⟨rfl, hb⟩
  have HB := below_up (boxes2 w _ _) hb (by simp; omega)
  have A : Own2 w1 w.heap.size an ad := Own2.below ⟨⟨by simp [go_sem], by simp [go_sem]⟩, by simp [go_sem], by simp [go_sem]⟩ hb
  have B : Own2 w1 (w.heap.size + 1) bn bd := Own2.below ⟨⟨by simp [go_sem], by simp [go_sem]⟩, by simp [go_sem], by simp [go_sem]⟩ hb
  clear hb he
  have nAB : w.heap.size ≠ w.heap.size + 1 := by omega
  have nBA := nAB.symm
  go_wp2_with fail
  refine (of_below 0 1 _).mono ?_
  rintro e w2 ⟨rfl, hb⟩
  replace A := A.below hb
  replace B := B.below hb
  replace HB := below_up HB hb HB.size
  clear hb
  have nAN := A.ne
  have nNA := nAN.symm
  have nBN := B.ne
  have nNB := nBN.symm
  go_wp2_with fail
  refine (of_below 1 1 _).mono ?_
  rintro e w3 ⟨rfl, hb⟩
  replace A := (A.alloc _).below hb
  replace B := (B.alloc _).below hb
  have N : Rat2 w3 w2.heap.size (0) (1) := Rat2.below ⟨by simp [go_sem], by simp [go_sem]⟩ hb
  replace HB := below_next HB HB.size hb
  clear hb
  have nAO := A.ne
  have nOA := nAO.symm
  have nBO := B.ne
  have nOB := nBO.symm
  have yAc0 := fun o => (A.alloc o).c0
  have yAc1 := fun o => (A.alloc o).c1
  go_wp2_with fail
  refine (valid_any an ad _).mono ?_
  rintro e w4 ⟨rfl, hb⟩
  replace A := (A.alloc _).below hb
  replace B := (B.alloc _).below hb
  replace N := (N.alloc _).below hb
  have O : Rat2 w4 w3.heap.size (1) (1) := Rat2.below ⟨by simp [go_sem], by simp [go_sem]⟩ hb
  replace HB := below_next HB HB.size hb
  clear hb
  clear yAc0 yAc1
  have zBc0 := B.c0
  have zBc1 := B.c1
  go_wp2_with fail
  refine (valid_any bn bd _).mono ?_
  rintro e w5 ⟨rfl, hb⟩
  replace A := A.below hb
  replace B := B.below hb
  replace N := N.below hb
  replace O := O.below hb
  replace HB := below_up HB hb HB.size
  clear hb
  clear zBc0 zBc1
  have zAc0 := A.c0
  have zAc1 := A.c1
  have zNc0 := N.c0
  have zNc1 := N.c1
  go_wp2_with fail
  have K := fun W => cmp_any an ad 0 1 W
  rw [Hh1.out] at K
  refine (K _).mono ?_
  clear K
  rintro e w6 ⟨rfl, hb⟩
  replace A := A.below hb
  replace B := B.below hb
  replace N := N.below hb
  replace O := O.below hb
  replace HB := below_up HB hb HB.size
  clear hb
  clear zAc0 zAc1 zNc0 zNc1
  have zBc0 := B.c0
  have zBc1 := B.c1
  have zNc0 := N.c0
  have zNc1 := N.c1
  go_wp2_with fail
  have K := fun W => cmp_any bn bd 0 1 W
  rw [Hh2.out] at K
  refine (K _).mono ?_
  clear K
  rintro e w7 ⟨rfl, hb⟩
  replace A := A.below hb
  replace B := B.below hb
  replace N := N.below hb
  replace O := O.below hb
  replace HB := below_up HB hb HB.size
  clear hb
  clear zBc0 zBc1 zNc0 zNc1
  have zAc0 := A.c0
  have zAc1 := A.c1
  have zOc0 := O.c0
  have zOc1 := O.c1
  go_wp2_with fail
  have K := fun W => cmp_any an ad 1 1 W
  rw [Hh3.out] at K
  refine (K _).mono ?_
  clear K
  rintro e w8 ⟨rfl, hb⟩
  replace A := A.below hb
  replace B := B.below hb
  replace N := N.below hb
  replace O := O.below hb
  replace HB := below_up HB hb HB.size
  clear hb
  clear zAc0 zAc1 zOc0 zOc1
  go_wp2_with fail
  go_ret
  exact ⟨rfl, HB⟩

set_option maxRecDepth 100000 in
set_option maxHeartbeats 3200000 in
theorem shares_a6 (an ad bn bd : Int) (hv : vldB an ad = true) (hu : vldB bn bd = true) (ka : Int) (h1 : cmpR an ad 0 1 = ka) (g1 : 0 ≤ ka) (kb : Int) (h2 : cmpR bn bd 0 1 = kb) (g2 : 0 ≤ kb) (ja : Int) (h3 : cmpR an ad 1 1 = ja) (g3 : ja ≤ 0) (jb : Int) (h4 : cmpR bn bd 1 1 = jb) (g4 : 0 < jb) (w : World) (he : Env w) :
    Calls Tryd.prog 9 #[.agg #[.int .i64 an, .int .i64 ad], .agg #[.int .i64 bn, .int .i64 bd]] w fun e w' => e = .returned (.bool true) ∧ Below w.heap.size w w' := by
  have Hh1 := Lib.hid h1
  have Hh2 := Lib.hid h2
  have Hh3 := Lib.hid h3
  have Hh4 := Lib.hid h4
  clear h1 h2 h3 h4
  go_enter Tryd.func9, Tryd.ntmps9
  go_wp2_with fail
  refine (head_any _ ((he.alloc _).alloc _)).mono ?_
  rintro e w1 ⟨rfl, hb⟩
  have HB := below_up (boxes2 w _ _) hb (by simp; omega)
  have A : Own2 w1 w.heap.size an ad := Own2.below ⟨⟨by simp [go_sem], by simp [go_sem]⟩, by simp [go_sem], by simp [go_sem]⟩ hb
  have B : Own2 w1 (w.heap.size + 1) bn bd := Own2.below ⟨⟨by simp [go_sem], by simp [go_sem]⟩, by simp [go_sem], by simp [go_sem]⟩ hb
  clear hb he
  have nAB : w.heap.size ≠ w.heap.size + 1 := by omega
  have nBA := nAB.symm
  go_wp2_with fail
  refine (of_below 0 1 _).mono ?_
  rintro e w2 ⟨rfl, hb⟩
  replace A := A.below hb
  replace B := B.below hb
  replace HB := below_up HB hb HB.size
  clear hb
  have nAN := A.ne
  have nNA := nAN.symm
  have nBN := B.ne
  have nNB := nBN.symm
  go_wp2_with fail
  refine (of_below 1 1 _).mono ?_
  rintro e w3 ⟨rfl, hb⟩
  replace A := (A.alloc _).below hb
  replace B := (B.alloc _).below hb
  have N : Rat2 w3 w2.heap.size (0) (1) := Rat2.below ⟨by simp [go_sem], by simp [go_sem]⟩ hb
  replace HB := below_next HB HB.size hb
  clear hb
  have nAO := A.ne
  have nOA := nAO.symm
  have nBO := B.ne
  have nOB := nBO.symm
  have yAc0 := fun o => (A.alloc o).c0
  have yAc1 := fun o => (A.alloc o).c1
  go_wp2_with fail
  refine (valid_any an ad _).mono ?_
  rintro e w4 ⟨rfl, hb⟩
  replace A := (A.alloc _).below hb
  replace B := (B.alloc _).below hb
  replace N := (N.alloc _).below hb
  have O : Rat2 w4 w3.heap.size (1) (1) := Rat2.below ⟨by simp [go_sem], by simp [go_sem]⟩ hb
  replace HB := below_next HB HB.size hb
  clear hb
  clear yAc0 yAc1
  have zBc0 := B.c0
  have zBc1 := B.c1
  go_wp2_with fail
  refine (valid_any bn bd _).mono ?_
  rintro e w5 ⟨rfl, hb⟩
  replace A := A.below hb
  replace B := B.below hb
  replace N := N.below hb
  replace O := O.below hb
  replace HB := below_up HB hb HB.size
  clear hb
  clear zBc0 zBc1
  have zAc0 := A.c0
  have zAc1 := A.c1
  have zNc0 := N.c0
  have zNc1 := N.c1
  go_wp2_with fail
  have K := fun W => cmp_any an ad 0 1 W
  rw [Hh1.out] at K
  refine (K _).mono ?_
  clear K
  rintro e w6 ⟨rfl, hb⟩
  replace A := A.below hb
  replace B := B.below hb
  replace N := N.below hb
  replace O := O.below hb
  replace HB := below_up HB hb HB.size
  clear hb
  clear zAc0 zAc1 zNc0 zNc1
  have zBc0 := B.c0
  have zBc1 := B.c1
  have zNc0 := N.c0
  have zNc1 := N.c1
  go_wp2_with fail
  have K := fun W => cmp_any bn bd 0 1 W
  rw [Hh2.out] at K
  refine (K _).mono ?_
  clear K
  rintro e w7 ⟨rfl, hb⟩
  replace A := A.below hb
  replace B := B.below hb
  replace N := N.below hb
  replace O := O.below hb
  replace HB := below_up HB hb HB.size
  clear hb
  clear zBc0 zBc1 zNc0 zNc1
  have zAc0 := A.c0
  have zAc1 := A.c1
  have zOc0 := O.c0
  have zOc1 := O.c1
  go_wp2_with fail
  have K := fun W => cmp_any an ad 1 1 W
  rw [Hh3.out] at K
  refine (K _).mono ?_
  clear K
  rintro e w8 ⟨rfl, hb⟩
  replace A := A.below hb
  replace B := B.below hb
  replace N := N.below hb
  replace O := O.below hb
  replace HB := below_up HB hb HB.size
  clear hb
  clear zAc0 zAc1 zOc0 zOc1
  have zBc0 := B.c0
  have zBc1 := B.c1
  have zOc0 := O.c0
  have zOc1 := O.c1
  go_wp2_with fail
  have K := fun W => cmp_any bn bd 1 1 W
  rw [Hh4.out] at K
  refine (K _).mono ?_
  clear K
  rintro e w9 ⟨rfl, hb⟩
  replace A := A.below hb
  replace B := B.below hb
  replace N := N.below hb
  replace O := O.below hb
  replace HB := below_up HB hb HB.size
  clear hb
  clear zBc0 zBc1 zOc0 zOc1
  go_wp2_with fail
  go_ret
  exact ⟨rfl, HB⟩

set_option maxRecDepth 100000 in
set_option maxHeartbeats 3200000 in
theorem shares_b (an ad bn bd : Int) (hv : vldB an ad = true) (hu : vldB bn bd = true) (ka : Int) (h1 : cmpR an ad 0 1 = ka) (g1 : 0 ≤ ka) (kb : Int) (h2 : cmpR bn bd 0 1 = kb) (g2 : 0 ≤ kb) (ja : Int) (h3 : cmpR an ad 1 1 = ja) (g3 : ja ≤ 0) (jb : Int) (h4 : cmpR bn bd 1 1 = jb) (g4 : jb ≤ 0)
    (k xn xd yn yd pn pd e qn qd f u1 u2 u3 u4 : Int) (hk : cmpR an ad bn bd = k) (hx : k ≤ 0 → xn = an ∧ xd = ad ∧ yn = bn ∧ yd = bd) (hx' : 0 < k → xn = bn ∧ xd = bd ∧ yn = an ∧ yd = ad)
    (hP : opr (vldB xn xd && vldB yn yd) (xn * yn) (xd * yd) = (pn, pd, e)) (hQ : opr (vldB xn xd && vldB yn yd) (xn * yd) (xd * yn) = (qn, qd, f)) (he' : e = 0 ∨ e = 2) (hf : f = 0 ∨ f = 2 ∨ (f = 1 ∧ yn = 0 ∧ yd = 1))
    (c1 : e = 0 → cmpR pn pd 0 1 = u1 ∧ 0 ≤ u1) (c2 : e = 0 → cmpR pn pd xn xd = u2 ∧ u2 ≤ 0) (c3 : f = 0 → cmpR qn qd 0 1 = u3 ∧ 0 ≤ u3) (c4 : f = 0 → cmpR qn qd 1 1 = u4 ∧ u4 ≤ 0) (w : World) (he : Env w) :
    Calls Tryd.prog 9 #[.agg #[.int .i64 an, .int .i64 ad], .agg #[.int .i64 bn, .int .i64 bd]] w fun e w' => e = .returned (.bool true) ∧ Below w.heap.size w w' := by
  have Hh1 := Lib.hid h1
  have Hh2 := Lib.hid h2
  have Hh3 := Lib.hid h3
  have Hh4 := Lib.hid h4
  have Hhk := Lib.hid hk
  have Hhx := Lib.hid hx
  have Hhx' := Lib.hid hx'
  have HhP := Lib.hid hP
  have HhQ := Lib.hid hQ
  have Hhe' := Lib.hid he'
  have Hhf := Lib.hid hf
  have Hc1 := Lib.hid c1
  have Hc2 := Lib.hid c2
  have Hc3 := Lib.hid c3
  have Hc4 := Lib.hid c4
  clear h1 h2 h3 h4 hk hx hx' hP hQ he' hf c1 c2 c3 c4
  go_enter Tryd.func9, Tryd.ntmps9
  go_wp2_with fail
  refine (head_any _ ((he.alloc _).alloc _)).mono ?_
  rintro e w1 ⟨rfl, hb⟩
  have HB := below_up (boxes2 w _ _) hb (by simp; omega)
  have A : Own2 w1 w.heap.size an ad := Own2.below ⟨⟨by simp [go_sem], by simp [go_sem]⟩, by simp [go_sem], by simp [go_sem]⟩ hb
  have B : Own2 w1 (w.heap.size + 1) bn bd := Own2.below ⟨⟨by simp [go_sem], by simp [go_sem]⟩, by simp [go_sem], by simp [go_sem]⟩ hb
  clear hb he
  have nAB : w.heap.size ≠ w.heap.size + 1 := by omega
  have nBA := nAB.symm
  go_wp2_with fail
  refine (of_below 0 1 _).mono ?_
  rintro e w2 ⟨rfl, hb⟩
  replace A := A.below hb
  replace B := B.below hb
  replace HB := below_up HB hb HB.size
  clear hb
  have nAN := A.ne
  have nNA := nAN.symm
  have nBN := B.ne
  have nNB := nBN.symm
  go_wp2_with fail
  refine (of_below 1 1 _).mono ?_
  rintro e w3 ⟨rfl, hb⟩
  replace A := (A.alloc _).below hb
  replace B := (B.alloc _).below hb
  have N : Rat2 w3 w2.heap.size (0) (1) := Rat2.below ⟨by simp [go_sem], by simp [go_sem]⟩ hb
  replace HB := below_next HB HB.size hb
  clear hb
  have nAO := A.ne
  have nOA := nAO.symm
  have nBO := B.ne
  have nOB := nBO.symm
  have yAc0 := fun o => (A.alloc o).c0
  have yAc1 := fun o => (A.alloc o).c1
  go_wp2_with fail
  refine (valid_any an ad _).mono ?_
  rintro e w4 ⟨rfl, hb⟩
  replace A := (A.alloc _).below hb
  replace B := (B.alloc _).below hb
  replace N := (N.alloc _).below hb
  have O : Rat2 w4 w3.heap.size (1) (1) := Rat2.below ⟨by simp [go_sem], by simp [go_sem]⟩ hb
  replace HB := below_next HB HB.size hb
  clear hb
  clear yAc0 yAc1
  have zBc0 := B.c0
  have zBc1 := B.c1
  go_wp2_with fail
  refine (valid_any bn bd _).mono ?_
  rintro e w5 ⟨rfl, hb⟩
  replace A := A.below hb
  replace B := B.below hb
  replace N := N.below hb
  replace O := O.below hb
  replace HB := below_up HB hb HB.size
  clear hb
  clear zBc0 zBc1
  have zAc0 := A.c0
  have zAc1 := A.c1
  have zNc0 := N.c0
  have zNc1 := N.c1
  go_wp2_with fail
  have K := fun W => cmp_any an ad 0 1 W
  rw [Hh1.out] at K
  refine (K _).mono ?_
  clear K
  rintro e w6 ⟨rfl, hb⟩
  replace A := A.below hb
  replace B := B.below hb
  replace N := N.below hb
  replace O := O.below hb
  replace HB := below_up HB hb HB.size
  clear hb
  clear zAc0 zAc1 zNc0 zNc1
  have zBc0 := B.c0
  have zBc1 := B.c1
  have zNc0 := N.c0
  have zNc1 := N.c1
  go_wp2_with fail
  have K := fun W => cmp_any bn bd 0 1 W
  rw [Hh2.out] at K
  refine (K _).mono ?_
  clear K
  rintro e w7 ⟨rfl, hb⟩
  replace A := A.below hb
  replace B := B.below hb
  replace N := N.below hb
  replace O := O.below hb
  replace HB := below_up HB hb HB.size
  clear hb
  clear zBc0 zBc1 zNc0 zNc1
  have zAc0 := A.c0
  have zAc1 := A.c1
  have zOc0 := O.c0
  have zOc1 := O.c1
  go_wp2_with fail
  have K := fun W => cmp_any an ad 1 1 W
  rw [Hh3.out] at K
  refine (K _).mono ?_
  clear K
  rintro e w8 ⟨rfl, hb⟩
  replace A := A.below hb
  replace B := B.below hb
  replace N := N.below hb
  replace O := O.below hb
  replace HB := below_up HB hb HB.size
  clear hb
  clear zAc0 zAc1 zOc0 zOc1
  have zBc0 := B.c0
  have zBc1 := B.c1
  have zOc0 := O.c0
  have zOc1 := O.c1
  go_wp2_with fail
  have K := fun W => cmp_any bn bd 1 1 W
  rw [Hh4.out] at K
  refine (K _).mono ?_
  clear K
  rintro e w9 ⟨rfl, hb⟩
  replace A := A.below hb
  replace B := B.below hb
  replace N := N.below hb
  replace O := O.below hb
  replace HB := below_up HB hb HB.size
  clear hb
  clear zBc0 zBc1 zOc0 zOc1
  have zAc0 := A.c0
  have zAc1 := A.c1
  have zBc0 := B.c0
  have zBc1 := B.c1
  go_wp2_with fail
  have K := fun W => cmp_any an ad bn bd W
  rw [Hhk.out] at K
  refine (K _).mono ?_
  clear K
  rintro e w10 ⟨rfl, hb⟩
  replace A := A.below hb
  replace B := B.below hb
  replace N := N.below hb
  replace O := O.below hb
  replace HB := below_up HB hb HB.size
  clear hb
  clear zAc0 zAc1 zBc0 zBc1
  have zAc0 := A.c0
  have zAc1 := A.c1
  have zBc0 := B.c0
  have zBc1 := B.c1
  have xfa0 := A.f0; have xfa1 := A.f1; have xfb0 := B.f0; have xfb1 := B.f1
  go_upto_if 51 with fail
  go_cut [] (fun wx => Below w.heap.size w wx ∧ Rat2 wx w.heap.size (xn) (xd) ∧ Rat2 wx (w.heap.size + 1) (yn) (yd) ∧ Rat2 wx w2.heap.size (0) (1) ∧ Rat2 wx w3.heap.size (1) (1))
  case first =>
    by_cases hk0 : 0 < k
    · obtain ⟨rfl, rfl, rfl, rfl⟩ := Hhx'.out hk0
      go_wp2_with fail
      go_meet
      case rel => exact ⟨(((HB.setCell (Nat.le_refl _) _).setCell (Nat.le_refl _) _).setCell (Nat.le_succ _) _).setCell (Nat.le_succ _) _, ((A.both _ _).set nAB 0 _).set nAB 1 _ |>.toRat2, ((B.set nBA 0 _).set nBA 1 _).both _ _ |>.toRat2, (((N.set nNA 0 _).set nNA 1 _).set nNB 0 _).set nNB 1 _, (((O.set nOA 0 _).set nOA 1 _).set nOB 0 _).set nOB 1 _⟩
    · obtain ⟨rfl, rfl, rfl, rfl⟩ := Hhx.out (by omega)
      replace hk0 : k ≤ 0 := by omega
      go_wp2_with fail
      go_meet
      case rel => exact ⟨HB, A.toRat2, B.toRat2, N, O⟩
  case rest =>
    obtain ⟨HB, A, B, N, O⟩ := hcut
    rename World => w11
    have zAc0 := A.c0
    have zAc1 := A.c1
    have zBc0 := B.c0
    have zBc1 := B.c1
    go_wp2_with fail
    have K := fun W => mul_any xn xd yn yd W
    rw [HhP.out] at K
    refine (K _).mono ?_
    clear K
    rintro e w12 ⟨rfl, hb⟩
    replace A := A.below hb
    replace B := B.below hb
    replace N := N.below hb
    replace O := O.below hb
    replace HB := below_up HB hb HB.size
    clear hb
    clear zAc0 zAc1 zBc0 zBc1
    have yAc0 := fun o => (A.alloc o).c0
    have yAc1 := fun o => (A.alloc o).c1
    have yBc0 := fun o => (B.alloc o).c0
    have yBc1 := fun o => (B.alloc o).c1
    go_wp2_with fail
    have K := fun W => div_any xn xd yn yd W
    rw [HhQ.out] at K
    refine (K _).mono ?_
    clear K
    rintro e w13 ⟨rfl, hb⟩
    replace A := (A.alloc _).below hb
    replace B := (B.alloc _).below hb
    replace N := (N.alloc _).below hb
    replace O := (O.alloc _).below hb
    have P : Rat2 w13 w12.heap.size (pn) (pd) := Rat2.below ⟨by simp [go_sem], by simp [go_sem]⟩ hb
    replace HB := below_next HB HB.size hb
    clear hb
    clear yAc0 yAc1 yBc0 yBc1
    have yAc0 := fun o => (A.alloc o).c0
    have yAc1 := fun o => (A.alloc o).c1
    have yBc0 := fun o => (B.alloc o).c0
    have yBc1 := fun o => (B.alloc o).c1
    have yNc0 := fun o => (N.alloc o).c0
    have yNc1 := fun o => (N.alloc o).c1
    have yOc0 := fun o => (O.alloc o).c0
    have yOc1 := fun o => (O.alloc o).c1
    have yPc0 := fun o => (P.alloc o).c0
    have yPc1 := fun o => (P.alloc o).c1
    rcases Hhe'.out with rfl | rfl
    · obtain ⟨d1, g5⟩ := Hc1.out (by simp)
      obtain ⟨d2, g6⟩ := Hc2.out (by simp)
      have D1 := Lib.hid d1; have D2 := Lib.hid d2
      clear d1 d2
      go_wp2_with fail
      have K := fun W => cmp_any pn pd 0 1 W
      rw [D1.out] at K
      refine (K _).mono ?_
      clear K
      rintro e w14 ⟨rfl, hb⟩
      replace A := (A.alloc _).below hb
      replace B := (B.alloc _).below hb
      replace N := (N.alloc _).below hb
      replace O := (O.alloc _).below hb
      replace P := (P.alloc _).below hb
      have Q : Rat2 w14 w13.heap.size (qn) (qd) := Rat2.below ⟨by simp [go_sem], by simp [go_sem]⟩ hb
      replace HB := below_next HB HB.size hb
      clear hb
      clear yAc0 yAc1 yBc0 yBc1 yNc0 yNc1 yOc0 yOc1 yPc0 yPc1
      have zPc0 := P.c0
      have zPc1 := P.c1
      have zAc0 := A.c0
      have zAc1 := A.c1
      go_wp2_with fail
      have K := fun W => cmp_any pn pd xn xd W
      rw [D2.out] at K
      refine (K _).mono ?_
      clear K
      rintro e w15 ⟨rfl, hb⟩
      replace A := A.below hb
      replace B := B.below hb
      replace N := N.below hb
      replace O := O.below hb
      replace P := P.below hb
      replace Q := Q.below hb
      replace HB := below_up HB hb HB.size
      clear hb
      clear zPc0 zPc1 zAc0 zAc1
      have zNc0 := N.c0
      have zNc1 := N.c1
      have zOc0 := O.c0
      have zOc1 := O.c1
      have zQc0 := Q.c0
      have zQc1 := Q.c1
      have zBc0 := B.c0
      have zBc1 := B.c1
      rcases Hhf.out with rfl | rfl | ⟨rfl, ry1, ry2⟩
      · obtain ⟨d3, g7⟩ := Hc3.out (by simp)
        obtain ⟨d4, g8⟩ := Hc4.out (by simp)
        have D3 := Lib.hid d3; have D4 := Lib.hid d4
        clear d3 d4
        go_wp2_with fail
        have K := fun W => cmp_any qn qd 0 1 W
        rw [D3.out] at K
        refine (K _).mono ?_
        clear K
        rintro e w16 ⟨rfl, hb⟩
        replace A := A.below hb
        replace B := B.below hb
        replace N := N.below hb
        replace O := O.below hb
        replace P := P.below hb
        replace Q := Q.below hb
        replace HB := below_up HB hb HB.size
        clear hb
        clear zNc0 zNc1 zOc0 zOc1 zQc0 zQc1 zBc0 zBc1
        have zQc0 := Q.c0
        have zQc1 := Q.c1
        have zOc0 := O.c0
        have zOc1 := O.c1
        go_wp2_with fail
        have K := fun W => cmp_any qn qd 1 1 W
        rw [D4.out] at K
        refine (K _).mono ?_
        clear K
        rintro e w17 ⟨rfl, hb⟩
        replace A := A.below hb
        replace B := B.below hb
        replace N := N.below hb
        replace O := O.below hb
        replace P := P.below hb
        replace Q := Q.below hb
        replace HB := below_up HB hb HB.size
        clear hb
        clear zQc0 zQc1 zOc0 zOc1
        go_wp2_with fail
        go_ret
        exact ⟨rfl, HB⟩
      · go_wp2_with fail
        go_ret
        exact ⟨rfl, HB⟩
      · have q1 : (yn == 0) = true := by simpa using ry1
        have q2 : (yd == 1) = true := by simpa using ry2
        clear ry1 ry2
        go_wp2_with fail
        go_ret
        exact ⟨rfl, HB⟩
    · rcases Hhf.out with rfl | rfl | ⟨rfl, ry1, ry2⟩
      · obtain ⟨d3, g7⟩ := Hc3.out (by simp)
        obtain ⟨d4, g8⟩ := Hc4.out (by simp)
        have D3 := Lib.hid d3; have D4 := Lib.hid d4
        clear d3 d4
        go_wp2_with fail
        have K := fun W => cmp_any qn qd 0 1 W
        rw [D3.out] at K
        refine (K _).mono ?_
        clear K
        rintro e w18 ⟨rfl, hb⟩
        replace A := (A.alloc _).below hb
        replace B := (B.alloc _).below hb
        replace N := (N.alloc _).below hb
        replace O := (O.alloc _).below hb
        replace P := (P.alloc _).below hb
        have Q : Rat2 w18 w13.heap.size (qn) (qd) := Rat2.below ⟨by simp [go_sem], by simp [go_sem]⟩ hb
        replace HB := below_next HB HB.size hb
        clear hb
        clear yAc0 yAc1 yBc0 yBc1 yNc0 yNc1 yOc0 yOc1 yPc0 yPc1
        have zQc0 := Q.c0
        have zQc1 := Q.c1
        have zOc0 := O.c0
        have zOc1 := O.c1
        go_wp2_with fail
        have K := fun W => cmp_any qn qd 1 1 W
        rw [D4.out] at K
        refine (K _).mono ?_
        clear K
        rintro e w19 ⟨rfl, hb⟩
        replace A := A.below hb
        replace B := B.below hb
        replace N := N.below hb
        replace O := O.below hb
        replace P := P.below hb
        replace Q := Q.below hb
        replace HB := below_up HB hb HB.size
        clear hb
        clear zQc0 zQc1 zOc0 zOc1
        go_wp2_with fail
        go_ret
        exact ⟨rfl, HB⟩
      · go_wp2_with fail
        go_ret
        exact ⟨rfl, HB.alloc HB.size _⟩
      · have q1 : (yn == 0) = true := by simpa using ry1
        have q2 : (yd == 1) = true := by simpa using ry2
        clear ry1 ry2
        go_wp2_with fail
        go_ret
        exact ⟨rfl, HB.alloc HB.size _⟩

end Go.Proofs.YtpmggfmhkjafkaaDoor
