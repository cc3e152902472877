/- The contract of the reference's Of. -/
import Derived.Test.YtendkghifcjffaaGreatDoorFRef
import Derived.Test.YtendkghifcjffaaGreatDoorFJaro
import Derived.Test.YtendkghifcjffaaGreatDoorMOfF
import Derived.Test.YtendkghifcjffaaGreatDoorTRef
namespace Go.Proofs.YtendkghifcjffaaGreatDoor.L2
open Go.RowKit
theorem refvalid_any (k n : Int) (t : List UInt8) (w : World) :
    Calls Tryz.prog 36 #[V k n t] w fun e w' => e = .returned (.bool (vldB k n t)) ∧ Below w.heap.size w w' := by
  go_enter Tryz.func36, Tryz.ntmps36
  go_wp2_with fail
  all_goals
    go_ret
    refine ⟨bool_ret (vldB_iff ?_), by go_grown⟩
    simp only [beq_iff_eq, beq_eq_false_iff_ne, ne_eq] at *
    unfold Vld
    by_cases ht : t = [] <;> simp [ht] <;> omega
end Go.Proofs.YtendkghifcjffaaGreatDoor.L2
namespace Go.Proofs.YtendkghifcjffaaGreatDoor
open Go.RowKit

theorem eql_val (k n : Int) (x : List UInt8) (k2 n2 : Int) (y : List UInt8) (W : World) : (binOp .eql 26 (V k n x) (V k2 n2 y)).run Tryz.prog W = .ok (.bool (decide (k = k2 ∧ n = n2 ∧ x = y))) W := by
  by_cases h1 : k = k2
  · by_cases h2 : n = n2
    · by_cases h3 : x = y
      · subst h1 h2 h3
        simp [go_sem]
      · have e3 : (x == y) = false := by simpa using h3
        subst h1 h2
        simp [go_sem, e3, h3]
    · have e2 : (n == n2) = false := by simpa using h2
      subst h1
      simp [go_sem, e2, h2]
  · have e1 : (k == k2) = false := by simpa using h1
    simp [go_sem, e1, h1]
theorem neq_f {a b : Int} (h : a ≠ b) : (a != b) = true := by rw [bne, beq_f h]; rfl
theorem neq_t {a b : Int} (h : a = b) : (a != b) = false := by rw [bne, beq_t h]; rfl

set_option linter.unusedSimpArgs false in
set_option maxRecDepth 100000 in
set_option maxHeartbeats 800000 in
theorem ofr_lo (m t : Int) (k n : Int) (x : List UInt8) (k2 n2 : Int) (y : List UInt8) (h : m < 1) (w : World) :
    Calls Tryz.prog 15 #[.int .i64 m, .int .i64 t, V k n x, V k2 n2 y] w fun e w' => e = .returned (.tuple #[rat (0, 0), .int .i64 1]) ∧ Below w.heap.size w w' := by
  have A : L2.Val3 (((w.alloc (.cells #[.int .i64 k, .int .i64 n, .string ⟨x.toArray⟩] 26)).alloc (.cells #[.int .i64 k2, .int .i64 n2, .string ⟨y.toArray⟩] 26)).alloc (.cells #[.int .i64 0, .int .i64 0] 32)) w.heap.size k n x := ⟨by simp [go_sem], by simp [go_sem], by simp [go_sem]⟩
  have B : L2.Val3 (((w.alloc (.cells #[.int .i64 k, .int .i64 n, .string ⟨x.toArray⟩] 26)).alloc (.cells #[.int .i64 k2, .int .i64 n2, .string ⟨y.toArray⟩] 26)).alloc (.cells #[.int .i64 0, .int .i64 0] 32)) (w.heap.size + 1) k2 n2 y := ⟨by simp [go_sem], by simp [go_sem], by simp [go_sem]⟩
  have R : Own2 (((w.alloc (.cells #[.int .i64 k, .int .i64 n, .string ⟨x.toArray⟩] 26)).alloc (.cells #[.int .i64 k2, .int .i64 n2, .string ⟨y.toArray⟩] 26)).alloc (.cells #[.int .i64 0, .int .i64 0] 32)) (w.heap.size + 1 + 1) 0 0 := ⟨by simp [go_sem], by simp [go_sem], by simp [go_sem], by simp [go_sem]⟩
  have HB := Lib.hid (L2.boxes3 w (.cells #[.int .i64 k, .int .i64 n, .string ⟨x.toArray⟩] 26) (.cells #[.int .i64 k2, .int .i64 n2, .string ⟨y.toArray⟩] 26) (.cells #[.int .i64 0, .int .i64 0] 32))
  have r0 := R.c0
  have r1 := R.c1
  have f0 := R.f0
  have f1 := R.f1
  have q0 := fun o => (R.alloc o).c0
  have q1 := fun o => (R.alloc o).c1
  have g0 := fun o => (R.alloc o).f0
  have g1 := fun o => (R.alloc o).f1
  go_enter Tryz.func15, Tryz.ntmps15
  go_wp2_with fail
  refine bodyPost_ret (v := .tuple #[rat (0, 0), .int .i64 1]) (by simp [results, Tryz.results15, go_sem, r0, r1, q0, q1]) rfl ?_
  first | exact ⟨rfl, below_two HB.out (by omega)⟩ | exact ⟨rfl, L2.boxes3 w _ _ _⟩ | exact ⟨rfl, below_two (HB.out.alloc HB.out.size _) (by omega)⟩

set_option linter.unusedSimpArgs false in
set_option maxRecDepth 100000 in
set_option maxHeartbeats 800000 in
theorem ofr_hi (m t : Int) (k n : Int) (x : List UInt8) (k2 n2 : Int) (y : List UInt8) (h : 5 < m) (w : World) :
    Calls Tryz.prog 15 #[.int .i64 m, .int .i64 t, V k n x, V k2 n2 y] w fun e w' => e = .returned (.tuple #[rat (0, 0), .int .i64 1]) ∧ Below w.heap.size w w' := by
  have A : L2.Val3 (((w.alloc (.cells #[.int .i64 k, .int .i64 n, .string ⟨x.toArray⟩] 26)).alloc (.cells #[.int .i64 k2, .int .i64 n2, .string ⟨y.toArray⟩] 26)).alloc (.cells #[.int .i64 0, .int .i64 0] 32)) w.heap.size k n x := ⟨by simp [go_sem], by simp [go_sem], by simp [go_sem]⟩
  have B : L2.Val3 (((w.alloc (.cells #[.int .i64 k, .int .i64 n, .string ⟨x.toArray⟩] 26)).alloc (.cells #[.int .i64 k2, .int .i64 n2, .string ⟨y.toArray⟩] 26)).alloc (.cells #[.int .i64 0, .int .i64 0] 32)) (w.heap.size + 1) k2 n2 y := ⟨by simp [go_sem], by simp [go_sem], by simp [go_sem]⟩
  have R : Own2 (((w.alloc (.cells #[.int .i64 k, .int .i64 n, .string ⟨x.toArray⟩] 26)).alloc (.cells #[.int .i64 k2, .int .i64 n2, .string ⟨y.toArray⟩] 26)).alloc (.cells #[.int .i64 0, .int .i64 0] 32)) (w.heap.size + 1 + 1) 0 0 := ⟨by simp [go_sem], by simp [go_sem], by simp [go_sem], by simp [go_sem]⟩
  have HB := Lib.hid (L2.boxes3 w (.cells #[.int .i64 k, .int .i64 n, .string ⟨x.toArray⟩] 26) (.cells #[.int .i64 k2, .int .i64 n2, .string ⟨y.toArray⟩] 26) (.cells #[.int .i64 0, .int .i64 0] 32))
  have r0 := R.c0
  have r1 := R.c1
  have f0 := R.f0
  have f1 := R.f1
  have q0 := fun o => (R.alloc o).c0
  have q1 := fun o => (R.alloc o).c1
  have g0 := fun o => (R.alloc o).f0
  have g1 := fun o => (R.alloc o).f1
  go_enter Tryz.func15, Tryz.ntmps15
  go_wp2_with fail
  refine bodyPost_ret (v := .tuple #[rat (0, 0), .int .i64 1]) (by simp [results, Tryz.results15, go_sem, r0, r1, q0, q1]) rfl ?_
  first | exact ⟨rfl, below_two HB.out (by omega)⟩ | exact ⟨rfl, L2.boxes3 w _ _ _⟩ | exact ⟨rfl, below_two (HB.out.alloc HB.out.size _) (by omega)⟩

set_option linter.unusedSimpArgs false in
set_option maxRecDepth 100000 in
set_option maxHeartbeats 800000 in
theorem ofr_bada (m t : Int) (k n : Int) (x : List UInt8) (k2 n2 : Int) (y : List UInt8) (h1 : 1 ≤ m) (h2 : m ≤ 5) (va : L2.vldB k n x = false) (w : World) :
    Calls Tryz.prog 15 #[.int .i64 m, .int .i64 t, V k n x, V k2 n2 y] w fun e w' => e = .returned (.tuple #[rat (0, 0), .int .i64 1]) ∧ Below w.heap.size w w' := by
  have A : L2.Val3 (((w.alloc (.cells #[.int .i64 k, .int .i64 n, .string ⟨x.toArray⟩] 26)).alloc (.cells #[.int .i64 k2, .int .i64 n2, .string ⟨y.toArray⟩] 26)).alloc (.cells #[.int .i64 0, .int .i64 0] 32)) w.heap.size k n x := ⟨by simp [go_sem], by simp [go_sem], by simp [go_sem]⟩
  have B : L2.Val3 (((w.alloc (.cells #[.int .i64 k, .int .i64 n, .string ⟨x.toArray⟩] 26)).alloc (.cells #[.int .i64 k2, .int .i64 n2, .string ⟨y.toArray⟩] 26)).alloc (.cells #[.int .i64 0, .int .i64 0] 32)) (w.heap.size + 1) k2 n2 y := ⟨by simp [go_sem], by simp [go_sem], by simp [go_sem]⟩
  have R : Own2 (((w.alloc (.cells #[.int .i64 k, .int .i64 n, .string ⟨x.toArray⟩] 26)).alloc (.cells #[.int .i64 k2, .int .i64 n2, .string ⟨y.toArray⟩] 26)).alloc (.cells #[.int .i64 0, .int .i64 0] 32)) (w.heap.size + 1 + 1) 0 0 := ⟨by simp [go_sem], by simp [go_sem], by simp [go_sem], by simp [go_sem]⟩
  have HB := Lib.hid (L2.boxes3 w (.cells #[.int .i64 k, .int .i64 n, .string ⟨x.toArray⟩] 26) (.cells #[.int .i64 k2, .int .i64 n2, .string ⟨y.toArray⟩] 26) (.cells #[.int .i64 0, .int .i64 0] 32))
  have HVA := Lib.hid va
  clear va
  have a0 := A.c0
  have a1 := A.c1
  have a2 := A.c2
  go_enter Tryz.func15, Tryz.ntmps15
  go_wp2_with fail
  clear a0 a1 a2
  refine (L2.refvalid_any k n x _).mono ?_
  rw [HVA.out]
  rintro e w2 ⟨rfl, hb⟩
  have A2 := A.below hb
  have B2 := B.below hb
  have R2 := R.below hb
  have HB2 := Lib.hid (below_up HB.out hb HB.out.size)
  clear A B R hb
  have r0 := R2.c0
  have r1 := R2.c1
  have f0 := R2.f0
  have f1 := R2.f1
  have q0 := fun o => (R2.alloc o).c0
  have q1 := fun o => (R2.alloc o).c1
  have g0 := fun o => (R2.alloc o).f0
  have g1 := fun o => (R2.alloc o).f1
  go_wp2_with fail
  refine bodyPost_ret (v := .tuple #[rat (0, 0), .int .i64 1]) (by simp [results, Tryz.results15, go_sem, r0, r1, q0, q1]) rfl ?_
  first | exact ⟨rfl, below_two HB2.out (by omega)⟩ | exact ⟨rfl, L2.boxes3 w _ _ _⟩ | exact ⟨rfl, below_two (HB2.out.alloc HB2.out.size _) (by omega)⟩

set_option linter.unusedSimpArgs false in
set_option maxRecDepth 100000 in
set_option maxHeartbeats 800000 in
theorem ofr_badb (m t : Int) (k n : Int) (x : List UInt8) (k2 n2 : Int) (y : List UInt8) (h1 : 1 ≤ m) (h2 : m ≤ 5) (va : L2.vldB k n x = true) (vb : L2.vldB k2 n2 y = false) (w : World) :
    Calls Tryz.prog 15 #[.int .i64 m, .int .i64 t, V k n x, V k2 n2 y] w fun e w' => e = .returned (.tuple #[rat (0, 0), .int .i64 1]) ∧ Below w.heap.size w w' := by
  have A : L2.Val3 (((w.alloc (.cells #[.int .i64 k, .int .i64 n, .string ⟨x.toArray⟩] 26)).alloc (.cells #[.int .i64 k2, .int .i64 n2, .string ⟨y.toArray⟩] 26)).alloc (.cells #[.int .i64 0, .int .i64 0] 32)) w.heap.size k n x := ⟨by simp [go_sem], by simp [go_sem], by simp [go_sem]⟩
  have B : L2.Val3 (((w.alloc (.cells #[.int .i64 k, .int .i64 n, .string ⟨x.toArray⟩] 26)).alloc (.cells #[.int .i64 k2, .int .i64 n2, .string ⟨y.toArray⟩] 26)).alloc (.cells #[.int .i64 0, .int .i64 0] 32)) (w.heap.size + 1) k2 n2 y := ⟨by simp [go_sem], by simp [go_sem], by simp [go_sem]⟩
  have R : Own2 (((w.alloc (.cells #[.int .i64 k, .int .i64 n, .string ⟨x.toArray⟩] 26)).alloc (.cells #[.int .i64 k2, .int .i64 n2, .string ⟨y.toArray⟩] 26)).alloc (.cells #[.int .i64 0, .int .i64 0] 32)) (w.heap.size + 1 + 1) 0 0 := ⟨by simp [go_sem], by simp [go_sem], by simp [go_sem], by simp [go_sem]⟩
  have HB := Lib.hid (L2.boxes3 w (.cells #[.int .i64 k, .int .i64 n, .string ⟨x.toArray⟩] 26) (.cells #[.int .i64 k2, .int .i64 n2, .string ⟨y.toArray⟩] 26) (.cells #[.int .i64 0, .int .i64 0] 32))
  have HVA := Lib.hid va
  clear va
  have HVB := Lib.hid vb
  clear vb
  have a0 := A.c0
  have a1 := A.c1
  have a2 := A.c2
  go_enter Tryz.func15, Tryz.ntmps15
  go_wp2_with fail
  clear a0 a1 a2
  refine (L2.refvalid_any k n x _).mono ?_
  rw [HVA.out]
  rintro e w2 ⟨rfl, hb⟩
  have A2 := A.below hb
  have B2 := B.below hb
  have R2 := R.below hb
  have HB2 := Lib.hid (below_up HB.out hb HB.out.size)
  clear A B R hb
  have b0 := B2.c0
  have b1 := B2.c1
  have b2 := B2.c2
  go_wp2_with fail
  clear b0 b1 b2
  refine (L2.refvalid_any k2 n2 y _).mono ?_
  rw [HVB.out]
  rintro e w3 ⟨rfl, hb⟩
  have A3 := A2.below hb
  have B3 := B2.below hb
  have R3 := R2.below hb
  have HB3 := Lib.hid (below_up HB2.out hb HB2.out.size)
  clear A2 B2 R2 hb
  have r0 := R3.c0
  have r1 := R3.c1
  have f0 := R3.f0
  have f1 := R3.f1
  have q0 := fun o => (R3.alloc o).c0
  have q1 := fun o => (R3.alloc o).c1
  have g0 := fun o => (R3.alloc o).f0
  have g1 := fun o => (R3.alloc o).f1
  go_wp2_with fail
  refine bodyPost_ret (v := .tuple #[rat (0, 0), .int .i64 1]) (by simp [results, Tryz.results15, go_sem, r0, r1, q0, q1]) rfl ?_
  first | exact ⟨rfl, below_two HB3.out (by omega)⟩ | exact ⟨rfl, L2.boxes3 w _ _ _⟩ | exact ⟨rfl, below_two (HB3.out.alloc HB3.out.size _) (by omega)⟩

set_option linter.unusedSimpArgs false in
set_option maxRecDepth 100000 in
set_option maxHeartbeats 800000 in
theorem ofr_tlo (t : Int) (k n : Int) (x : List UInt8) (k2 n2 : Int) (y : List UInt8) (va : L2.vldB k n x = true) (vb : L2.vldB k2 n2 y = true) (ht : t < 0) (w : World) :
    Calls Tryz.prog 15 #[.int .i64 5, .int .i64 t, V k n x, V k2 n2 y] w fun e w' => e = .returned (.tuple #[rat (0, 0), .int .i64 1]) ∧ Below w.heap.size w w' := by
  have A : L2.Val3 (((w.alloc (.cells #[.int .i64 k, .int .i64 n, .string ⟨x.toArray⟩] 26)).alloc (.cells #[.int .i64 k2, .int .i64 n2, .string ⟨y.toArray⟩] 26)).alloc (.cells #[.int .i64 0, .int .i64 0] 32)) w.heap.size k n x := ⟨by simp [go_sem], by simp [go_sem], by simp [go_sem]⟩
  have B : L2.Val3 (((w.alloc (.cells #[.int .i64 k, .int .i64 n, .string ⟨x.toArray⟩] 26)).alloc (.cells #[.int .i64 k2, .int .i64 n2, .string ⟨y.toArray⟩] 26)).alloc (.cells #[.int .i64 0, .int .i64 0] 32)) (w.heap.size + 1) k2 n2 y := ⟨by simp [go_sem], by simp [go_sem], by simp [go_sem]⟩
  have R : Own2 (((w.alloc (.cells #[.int .i64 k, .int .i64 n, .string ⟨x.toArray⟩] 26)).alloc (.cells #[.int .i64 k2, .int .i64 n2, .string ⟨y.toArray⟩] 26)).alloc (.cells #[.int .i64 0, .int .i64 0] 32)) (w.heap.size + 1 + 1) 0 0 := ⟨by simp [go_sem], by simp [go_sem], by simp [go_sem], by simp [go_sem]⟩
  have HB := Lib.hid (L2.boxes3 w (.cells #[.int .i64 k, .int .i64 n, .string ⟨x.toArray⟩] 26) (.cells #[.int .i64 k2, .int .i64 n2, .string ⟨y.toArray⟩] 26) (.cells #[.int .i64 0, .int .i64 0] 32))
  have HVA := Lib.hid va
  clear va
  have HVB := Lib.hid vb
  clear vb
  have a0 := A.c0
  have a1 := A.c1
  have a2 := A.c2
  go_enter Tryz.func15, Tryz.ntmps15
  go_wp2_with fail
  clear a0 a1 a2
  refine (L2.refvalid_any k n x _).mono ?_
  rw [HVA.out]
  rintro e w2 ⟨rfl, hb⟩
  have A2 := A.below hb
  have B2 := B.below hb
  have R2 := R.below hb
  have HB2 := Lib.hid (below_up HB.out hb HB.out.size)
  clear A B R hb
  have b0 := B2.c0
  have b1 := B2.c1
  have b2 := B2.c2
  go_wp2_with fail
  clear b0 b1 b2
  refine (L2.refvalid_any k2 n2 y _).mono ?_
  rw [HVB.out]
  rintro e w3 ⟨rfl, hb⟩
  have A3 := A2.below hb
  have B3 := B2.below hb
  have R3 := R2.below hb
  have HB3 := Lib.hid (below_up HB2.out hb HB2.out.size)
  clear A2 B2 R2 hb
  have r0 := R3.c0
  have r1 := R3.c1
  have f0 := R3.f0
  have f1 := R3.f1
  have q0 := fun o => (R3.alloc o).c0
  have q1 := fun o => (R3.alloc o).c1
  have g0 := fun o => (R3.alloc o).f0
  have g1 := fun o => (R3.alloc o).f1
  go_wp2_with fail
  refine bodyPost_ret (v := .tuple #[rat (0, 0), .int .i64 1]) (by simp [results, Tryz.results15, go_sem, r0, r1, q0, q1]) rfl ?_
  first | exact ⟨rfl, below_two HB3.out (by omega)⟩ | exact ⟨rfl, L2.boxes3 w _ _ _⟩ | exact ⟨rfl, below_two (HB3.out.alloc HB3.out.size _) (by omega)⟩

set_option linter.unusedSimpArgs false in
set_option maxRecDepth 100000 in
set_option maxHeartbeats 800000 in
theorem ofr_thi (t : Int) (k n : Int) (x : List UInt8) (k2 n2 : Int) (y : List UInt8) (va : L2.vldB k n x = true) (vb : L2.vldB k2 n2 y = true) (ht : 999999999 < t) (w : World) :
    Calls Tryz.prog 15 #[.int .i64 5, .int .i64 t, V k n x, V k2 n2 y] w fun e w' => e = .returned (.tuple #[rat (0, 0), .int .i64 1]) ∧ Below w.heap.size w w' := by
  have A : L2.Val3 (((w.alloc (.cells #[.int .i64 k, .int .i64 n, .string ⟨x.toArray⟩] 26)).alloc (.cells #[.int .i64 k2, .int .i64 n2, .string ⟨y.toArray⟩] 26)).alloc (.cells #[.int .i64 0, .int .i64 0] 32)) w.heap.size k n x := ⟨by simp [go_sem], by simp [go_sem], by simp [go_sem]⟩
  have B : L2.Val3 (((w.alloc (.cells #[.int .i64 k, .int .i64 n, .string ⟨x.toArray⟩] 26)).alloc (.cells #[.int .i64 k2, .int .i64 n2, .string ⟨y.toArray⟩] 26)).alloc (.cells #[.int .i64 0, .int .i64 0] 32)) (w.heap.size + 1) k2 n2 y := ⟨by simp [go_sem], by simp [go_sem], by simp [go_sem]⟩
  have R : Own2 (((w.alloc (.cells #[.int .i64 k, .int .i64 n, .string ⟨x.toArray⟩] 26)).alloc (.cells #[.int .i64 k2, .int .i64 n2, .string ⟨y.toArray⟩] 26)).alloc (.cells #[.int .i64 0, .int .i64 0] 32)) (w.heap.size + 1 + 1) 0 0 := ⟨by simp [go_sem], by simp [go_sem], by simp [go_sem], by simp [go_sem]⟩
  have HB := Lib.hid (L2.boxes3 w (.cells #[.int .i64 k, .int .i64 n, .string ⟨x.toArray⟩] 26) (.cells #[.int .i64 k2, .int .i64 n2, .string ⟨y.toArray⟩] 26) (.cells #[.int .i64 0, .int .i64 0] 32))
  have HVA := Lib.hid va
  clear va
  have HVB := Lib.hid vb
  clear vb
  have a0 := A.c0
  have a1 := A.c1
  have a2 := A.c2
  go_enter Tryz.func15, Tryz.ntmps15
  go_wp2_with fail
  clear a0 a1 a2
  refine (L2.refvalid_any k n x _).mono ?_
  rw [HVA.out]
  rintro e w2 ⟨rfl, hb⟩
  have A2 := A.below hb
  have B2 := B.below hb
  have R2 := R.below hb
  have HB2 := Lib.hid (below_up HB.out hb HB.out.size)
  clear A B R hb
  have b0 := B2.c0
  have b1 := B2.c1
  have b2 := B2.c2
  go_wp2_with fail
  clear b0 b1 b2
  refine (L2.refvalid_any k2 n2 y _).mono ?_
  rw [HVB.out]
  rintro e w3 ⟨rfl, hb⟩
  have A3 := A2.below hb
  have B3 := B2.below hb
  have R3 := R2.below hb
  have HB3 := Lib.hid (below_up HB2.out hb HB2.out.size)
  clear A2 B2 R2 hb
  have r0 := R3.c0
  have r1 := R3.c1
  have f0 := R3.f0
  have f1 := R3.f1
  have q0 := fun o => (R3.alloc o).c0
  have q1 := fun o => (R3.alloc o).c1
  have g0 := fun o => (R3.alloc o).f0
  have g1 := fun o => (R3.alloc o).f1
  go_wp2_with fail
  refine bodyPost_ret (v := .tuple #[rat (0, 0), .int .i64 1]) (by simp [results, Tryz.results15, go_sem, r0, r1, q0, q1]) rfl ?_
  first | exact ⟨rfl, below_two HB3.out (by omega)⟩ | exact ⟨rfl, L2.boxes3 w _ _ _⟩ | exact ⟨rfl, below_two (HB3.out.alloc HB3.out.size _) (by omega)⟩

set_option linter.unusedSimpArgs false in
set_option maxRecDepth 100000 in
set_option maxHeartbeats 800000 in
theorem ofr_nulla (m t : Int) (k n : Int) (x : List UInt8) (k2 n2 : Int) (y : List UInt8) (h1 : 1 ≤ m) (h2 : m ≤ 5) (va : L2.vldB k n x = true) (vb : L2.vldB k2 n2 y = true) (h5 : (m == 5) = false) (hk : (k == 0) = true) (w : World) :
    Calls Tryz.prog 15 #[.int .i64 m, .int .i64 t, V k n x, V k2 n2 y] w fun e w' => e = .returned (.tuple #[rat (0, 1), .int .i64 0]) ∧ Below w.heap.size w w' := by
  have A : L2.Val3 (((w.alloc (.cells #[.int .i64 k, .int .i64 n, .string ⟨x.toArray⟩] 26)).alloc (.cells #[.int .i64 k2, .int .i64 n2, .string ⟨y.toArray⟩] 26)).alloc (.cells #[.int .i64 0, .int .i64 0] 32)) w.heap.size k n x := ⟨by simp [go_sem], by simp [go_sem], by simp [go_sem]⟩
  have B : L2.Val3 (((w.alloc (.cells #[.int .i64 k, .int .i64 n, .string ⟨x.toArray⟩] 26)).alloc (.cells #[.int .i64 k2, .int .i64 n2, .string ⟨y.toArray⟩] 26)).alloc (.cells #[.int .i64 0, .int .i64 0] 32)) (w.heap.size + 1) k2 n2 y := ⟨by simp [go_sem], by simp [go_sem], by simp [go_sem]⟩
  have R : Own2 (((w.alloc (.cells #[.int .i64 k, .int .i64 n, .string ⟨x.toArray⟩] 26)).alloc (.cells #[.int .i64 k2, .int .i64 n2, .string ⟨y.toArray⟩] 26)).alloc (.cells #[.int .i64 0, .int .i64 0] 32)) (w.heap.size + 1 + 1) 0 0 := ⟨by simp [go_sem], by simp [go_sem], by simp [go_sem], by simp [go_sem]⟩
  have HB := Lib.hid (L2.boxes3 w (.cells #[.int .i64 k, .int .i64 n, .string ⟨x.toArray⟩] 26) (.cells #[.int .i64 k2, .int .i64 n2, .string ⟨y.toArray⟩] 26) (.cells #[.int .i64 0, .int .i64 0] 32))
  have HVA := Lib.hid va
  clear va
  have HVB := Lib.hid vb
  clear vb
  have a0 := A.c0
  have a1 := A.c1
  have a2 := A.c2
  go_enter Tryz.func15, Tryz.ntmps15
  go_wp2_with fail
  clear a0 a1 a2
  refine (L2.refvalid_any k n x _).mono ?_
  rw [HVA.out]
  rintro e w2 ⟨rfl, hb⟩
  have A2 := A.below hb
  have B2 := B.below hb
  have R2 := R.below hb
  have HB2 := Lib.hid (below_up HB.out hb HB.out.size)
  clear A B R hb
  have b0 := B2.c0
  have b1 := B2.c1
  have b2 := B2.c2
  go_wp2_with fail
  clear b0 b1 b2
  refine (L2.refvalid_any k2 n2 y _).mono ?_
  rw [HVB.out]
  rintro e w3 ⟨rfl, hb⟩
  have A3 := A2.below hb
  have B3 := B2.below hb
  have R3 := R2.below hb
  have HB3 := Lib.hid (below_up HB2.out hb HB2.out.size)
  clear A2 B2 R2 hb
  have a0 := A3.c0
  have a1 := A3.c1
  have a2 := A3.c2
  have b0 := B3.c0
  have b1 := B3.c1
  have b2 := B3.c2
  have r0 := R3.c0
  have r1 := R3.c1
  have f0 := R3.f0
  have f1 := R3.f1
  have q0 := fun o => (R3.alloc o).c0
  have q1 := fun o => (R3.alloc o).c1
  have g0 := fun o => (R3.alloc o).f0
  have g1 := fun o => (R3.alloc o).f1
  go_wp2_with fail
  refine bodyPost_ret (v := .tuple #[rat (0, 1), .int .i64 0]) (by simp [results, Tryz.results15, go_sem, r0, r1, q0, q1]) rfl ?_
  first | exact ⟨rfl, below_two HB3.out (by omega)⟩ | exact ⟨rfl, L2.boxes3 w _ _ _⟩ | exact ⟨rfl, below_two (HB3.out.alloc HB3.out.size _) (by omega)⟩

set_option linter.unusedSimpArgs false in
set_option maxRecDepth 100000 in
set_option maxHeartbeats 800000 in
theorem ofr_nullb (m t : Int) (k n : Int) (x : List UInt8) (k2 n2 : Int) (y : List UInt8) (h1 : 1 ≤ m) (h2 : m ≤ 5) (va : L2.vldB k n x = true) (vb : L2.vldB k2 n2 y = true) (h5 : (m == 5) = false) (hk : (k == 0) = false) (hk2 : (k2 == 0) = true) (w : World) :
    Calls Tryz.prog 15 #[.int .i64 m, .int .i64 t, V k n x, V k2 n2 y] w fun e w' => e = .returned (.tuple #[rat (0, 1), .int .i64 0]) ∧ Below w.heap.size w w' := by
  have A : L2.Val3 (((w.alloc (.cells #[.int .i64 k, .int .i64 n, .string ⟨x.toArray⟩] 26)).alloc (.cells #[.int .i64 k2, .int .i64 n2, .string ⟨y.toArray⟩] 26)).alloc (.cells #[.int .i64 0, .int .i64 0] 32)) w.heap.size k n x := ⟨by simp [go_sem], by simp [go_sem], by simp [go_sem]⟩
  have B : L2.Val3 (((w.alloc (.cells #[.int .i64 k, .int .i64 n, .string ⟨x.toArray⟩] 26)).alloc (.cells #[.int .i64 k2, .int .i64 n2, .string ⟨y.toArray⟩] 26)).alloc (.cells #[.int .i64 0, .int .i64 0] 32)) (w.heap.size + 1) k2 n2 y := ⟨by simp [go_sem], by simp [go_sem], by simp [go_sem]⟩
  have R : Own2 (((w.alloc (.cells #[.int .i64 k, .int .i64 n, .string ⟨x.toArray⟩] 26)).alloc (.cells #[.int .i64 k2, .int .i64 n2, .string ⟨y.toArray⟩] 26)).alloc (.cells #[.int .i64 0, .int .i64 0] 32)) (w.heap.size + 1 + 1) 0 0 := ⟨by simp [go_sem], by simp [go_sem], by simp [go_sem], by simp [go_sem]⟩
  have HB := Lib.hid (L2.boxes3 w (.cells #[.int .i64 k, .int .i64 n, .string ⟨x.toArray⟩] 26) (.cells #[.int .i64 k2, .int .i64 n2, .string ⟨y.toArray⟩] 26) (.cells #[.int .i64 0, .int .i64 0] 32))
  have HVA := Lib.hid va
  clear va
  have HVB := Lib.hid vb
  clear vb
  have a0 := A.c0
  have a1 := A.c1
  have a2 := A.c2
  go_enter Tryz.func15, Tryz.ntmps15
  go_wp2_with fail
  clear a0 a1 a2
  refine (L2.refvalid_any k n x _).mono ?_
  rw [HVA.out]
  rintro e w2 ⟨rfl, hb⟩
  have A2 := A.below hb
  have B2 := B.below hb
  have R2 := R.below hb
  have HB2 := Lib.hid (below_up HB.out hb HB.out.size)
  clear A B R hb
  have b0 := B2.c0
  have b1 := B2.c1
  have b2 := B2.c2
  go_wp2_with fail
  clear b0 b1 b2
  refine (L2.refvalid_any k2 n2 y _).mono ?_
  rw [HVB.out]
  rintro e w3 ⟨rfl, hb⟩
  have A3 := A2.below hb
  have B3 := B2.below hb
  have R3 := R2.below hb
  have HB3 := Lib.hid (below_up HB2.out hb HB2.out.size)
  clear A2 B2 R2 hb
  have a0 := A3.c0
  have a1 := A3.c1
  have a2 := A3.c2
  have b0 := B3.c0
  have b1 := B3.c1
  have b2 := B3.c2
  have r0 := R3.c0
  have r1 := R3.c1
  have f0 := R3.f0
  have f1 := R3.f1
  have q0 := fun o => (R3.alloc o).c0
  have q1 := fun o => (R3.alloc o).c1
  have g0 := fun o => (R3.alloc o).f0
  have g1 := fun o => (R3.alloc o).f1
  go_wp2_with fail
  refine bodyPost_ret (v := .tuple #[rat (0, 1), .int .i64 0]) (by simp [results, Tryz.results15, go_sem, r0, r1, q0, q1]) rfl ?_
  first | exact ⟨rfl, below_two HB3.out (by omega)⟩ | exact ⟨rfl, L2.boxes3 w _ _ _⟩ | exact ⟨rfl, below_two (HB3.out.alloc HB3.out.size _) (by omega)⟩

set_option linter.unusedSimpArgs false in
set_option maxRecDepth 100000 in
set_option maxHeartbeats 800000 in
theorem ofr_nulla_5 (t : Int) (k n : Int) (x : List UInt8) (k2 n2 : Int) (y : List UInt8) (va : L2.vldB k n x = true) (vb : L2.vldB k2 n2 y = true) (t0 : 0 ≤ t) (t1 : t ≤ 999999999) (hk : (k == 0) = true) (w : World) :
    Calls Tryz.prog 15 #[.int .i64 5, .int .i64 t, V k n x, V k2 n2 y] w fun e w' => e = .returned (.tuple #[rat (0, 1), .int .i64 0]) ∧ Below w.heap.size w w' := by
  have A : L2.Val3 (((w.alloc (.cells #[.int .i64 k, .int .i64 n, .string ⟨x.toArray⟩] 26)).alloc (.cells #[.int .i64 k2, .int .i64 n2, .string ⟨y.toArray⟩] 26)).alloc (.cells #[.int .i64 0, .int .i64 0] 32)) w.heap.size k n x := ⟨by simp [go_sem], by simp [go_sem], by simp [go_sem]⟩
  have B : L2.Val3 (((w.alloc (.cells #[.int .i64 k, .int .i64 n, .string ⟨x.toArray⟩] 26)).alloc (.cells #[.int .i64 k2, .int .i64 n2, .string ⟨y.toArray⟩] 26)).alloc (.cells #[.int .i64 0, .int .i64 0] 32)) (w.heap.size + 1) k2 n2 y := ⟨by simp [go_sem], by simp [go_sem], by simp [go_sem]⟩
  have R : Own2 (((w.alloc (.cells #[.int .i64 k, .int .i64 n, .string ⟨x.toArray⟩] 26)).alloc (.cells #[.int .i64 k2, .int .i64 n2, .string ⟨y.toArray⟩] 26)).alloc (.cells #[.int .i64 0, .int .i64 0] 32)) (w.heap.size + 1 + 1) 0 0 := ⟨by simp [go_sem], by simp [go_sem], by simp [go_sem], by simp [go_sem]⟩
  have HB := Lib.hid (L2.boxes3 w (.cells #[.int .i64 k, .int .i64 n, .string ⟨x.toArray⟩] 26) (.cells #[.int .i64 k2, .int .i64 n2, .string ⟨y.toArray⟩] 26) (.cells #[.int .i64 0, .int .i64 0] 32))
  have HVA := Lib.hid va
  clear va
  have HVB := Lib.hid vb
  clear vb
  have a0 := A.c0
  have a1 := A.c1
  have a2 := A.c2
  go_enter Tryz.func15, Tryz.ntmps15
  go_wp2_with fail
  clear a0 a1 a2
  refine (L2.refvalid_any k n x _).mono ?_
  rw [HVA.out]
  rintro e w2 ⟨rfl, hb⟩
  have A2 := A.below hb
  have B2 := B.below hb
  have R2 := R.below hb
  have HB2 := Lib.hid (below_up HB.out hb HB.out.size)
  clear A B R hb
  have b0 := B2.c0
  have b1 := B2.c1
  have b2 := B2.c2
  go_wp2_with fail
  clear b0 b1 b2
  refine (L2.refvalid_any k2 n2 y _).mono ?_
  rw [HVB.out]
  rintro e w3 ⟨rfl, hb⟩
  have A3 := A2.below hb
  have B3 := B2.below hb
  have R3 := R2.below hb
  have HB3 := Lib.hid (below_up HB2.out hb HB2.out.size)
  clear A2 B2 R2 hb
  have a0 := A3.c0
  have a1 := A3.c1
  have a2 := A3.c2
  have b0 := B3.c0
  have b1 := B3.c1
  have b2 := B3.c2
  have r0 := R3.c0
  have r1 := R3.c1
  have f0 := R3.f0
  have f1 := R3.f1
  have q0 := fun o => (R3.alloc o).c0
  have q1 := fun o => (R3.alloc o).c1
  have g0 := fun o => (R3.alloc o).f0
  have g1 := fun o => (R3.alloc o).f1
  go_wp2_with fail
  refine bodyPost_ret (v := .tuple #[rat (0, 1), .int .i64 0]) (by simp [results, Tryz.results15, go_sem, r0, r1, q0, q1]) rfl ?_
  first | exact ⟨rfl, below_two HB3.out (by omega)⟩ | exact ⟨rfl, L2.boxes3 w _ _ _⟩ | exact ⟨rfl, below_two (HB3.out.alloc HB3.out.size _) (by omega)⟩

set_option linter.unusedSimpArgs false in
set_option maxRecDepth 100000 in
set_option maxHeartbeats 800000 in
theorem ofr_nullb_5 (t : Int) (k n : Int) (x : List UInt8) (k2 n2 : Int) (y : List UInt8) (va : L2.vldB k n x = true) (vb : L2.vldB k2 n2 y = true) (t0 : 0 ≤ t) (t1 : t ≤ 999999999) (hk : (k == 0) = false) (hk2 : (k2 == 0) = true) (w : World) :
    Calls Tryz.prog 15 #[.int .i64 5, .int .i64 t, V k n x, V k2 n2 y] w fun e w' => e = .returned (.tuple #[rat (0, 1), .int .i64 0]) ∧ Below w.heap.size w w' := by
  have A : L2.Val3 (((w.alloc (.cells #[.int .i64 k, .int .i64 n, .string ⟨x.toArray⟩] 26)).alloc (.cells #[.int .i64 k2, .int .i64 n2, .string ⟨y.toArray⟩] 26)).alloc (.cells #[.int .i64 0, .int .i64 0] 32)) w.heap.size k n x := ⟨by simp [go_sem], by simp [go_sem], by simp [go_sem]⟩
  have B : L2.Val3 (((w.alloc (.cells #[.int .i64 k, .int .i64 n, .string ⟨x.toArray⟩] 26)).alloc (.cells #[.int .i64 k2, .int .i64 n2, .string ⟨y.toArray⟩] 26)).alloc (.cells #[.int .i64 0, .int .i64 0] 32)) (w.heap.size + 1) k2 n2 y := ⟨by simp [go_sem], by simp [go_sem], by simp [go_sem]⟩
  have R : Own2 (((w.alloc (.cells #[.int .i64 k, .int .i64 n, .string ⟨x.toArray⟩] 26)).alloc (.cells #[.int .i64 k2, .int .i64 n2, .string ⟨y.toArray⟩] 26)).alloc (.cells #[.int .i64 0, .int .i64 0] 32)) (w.heap.size + 1 + 1) 0 0 := ⟨by simp [go_sem], by simp [go_sem], by simp [go_sem], by simp [go_sem]⟩
  have HB := Lib.hid (L2.boxes3 w (.cells #[.int .i64 k, .int .i64 n, .string ⟨x.toArray⟩] 26) (.cells #[.int .i64 k2, .int .i64 n2, .string ⟨y.toArray⟩] 26) (.cells #[.int .i64 0, .int .i64 0] 32))
  have HVA := Lib.hid va
  clear va
  have HVB := Lib.hid vb
  clear vb
  have a0 := A.c0
  have a1 := A.c1
  have a2 := A.c2
  go_enter Tryz.func15, Tryz.ntmps15
  go_wp2_with fail
  clear a0 a1 a2
  refine (L2.refvalid_any k n x _).mono ?_
  rw [HVA.out]
  rintro e w2 ⟨rfl, hb⟩
  have A2 := A.below hb
  have B2 := B.below hb
  have R2 := R.below hb
  have HB2 := Lib.hid (below_up HB.out hb HB.out.size)
  clear A B R hb
  have b0 := B2.c0
  have b1 := B2.c1
  have b2 := B2.c2
  go_wp2_with fail
  clear b0 b1 b2
  refine (L2.refvalid_any k2 n2 y _).mono ?_
  rw [HVB.out]
  rintro e w3 ⟨rfl, hb⟩
  have A3 := A2.below hb
  have B3 := B2.below hb
  have R3 := R2.below hb
  have HB3 := Lib.hid (below_up HB2.out hb HB2.out.size)
  clear A2 B2 R2 hb
  have a0 := A3.c0
  have a1 := A3.c1
  have a2 := A3.c2
  have b0 := B3.c0
  have b1 := B3.c1
  have b2 := B3.c2
  have r0 := R3.c0
  have r1 := R3.c1
  have f0 := R3.f0
  have f1 := R3.f1
  have q0 := fun o => (R3.alloc o).c0
  have q1 := fun o => (R3.alloc o).c1
  have g0 := fun o => (R3.alloc o).f0
  have g1 := fun o => (R3.alloc o).f1
  go_wp2_with fail
  refine bodyPost_ret (v := .tuple #[rat (0, 1), .int .i64 0]) (by simp [results, Tryz.results15, go_sem, r0, r1, q0, q1]) rfl ?_
  first | exact ⟨rfl, below_two HB3.out (by omega)⟩ | exact ⟨rfl, L2.boxes3 w _ _ _⟩ | exact ⟨rfl, below_two (HB3.out.alloc HB3.out.size _) (by omega)⟩

set_option linter.unusedSimpArgs false in
set_option maxRecDepth 100000 in
set_option maxHeartbeats 800000 in
theorem ofr_eq (t : Int) (k n : Int) (x : List UInt8) (k2 n2 : Int) (y : List UInt8) (va : L2.vldB k n x = true) (vb : L2.vldB k2 n2 y = true) (hk : (k == 0) = false) (hk2 : (k2 == 0) = false) (ev : ∀ W : World, (binOp .eql 26 (V k n x) (V k2 n2 y)).run Tryz.prog W = .ok (.bool true) W) (w : World) :
    Calls Tryz.prog 15 #[.int .i64 1, .int .i64 t, V k n x, V k2 n2 y] w fun e w' => e = .returned (.tuple #[rat (1, 1), .int .i64 0]) ∧ Below w.heap.size w w' := by
  have A : L2.Val3 (((w.alloc (.cells #[.int .i64 k, .int .i64 n, .string ⟨x.toArray⟩] 26)).alloc (.cells #[.int .i64 k2, .int .i64 n2, .string ⟨y.toArray⟩] 26)).alloc (.cells #[.int .i64 0, .int .i64 0] 32)) w.heap.size k n x := ⟨by simp [go_sem], by simp [go_sem], by simp [go_sem]⟩
  have B : L2.Val3 (((w.alloc (.cells #[.int .i64 k, .int .i64 n, .string ⟨x.toArray⟩] 26)).alloc (.cells #[.int .i64 k2, .int .i64 n2, .string ⟨y.toArray⟩] 26)).alloc (.cells #[.int .i64 0, .int .i64 0] 32)) (w.heap.size + 1) k2 n2 y := ⟨by simp [go_sem], by simp [go_sem], by simp [go_sem]⟩
  have R : Own2 (((w.alloc (.cells #[.int .i64 k, .int .i64 n, .string ⟨x.toArray⟩] 26)).alloc (.cells #[.int .i64 k2, .int .i64 n2, .string ⟨y.toArray⟩] 26)).alloc (.cells #[.int .i64 0, .int .i64 0] 32)) (w.heap.size + 1 + 1) 0 0 := ⟨by simp [go_sem], by simp [go_sem], by simp [go_sem], by simp [go_sem]⟩
  have HB := Lib.hid (L2.boxes3 w (.cells #[.int .i64 k, .int .i64 n, .string ⟨x.toArray⟩] 26) (.cells #[.int .i64 k2, .int .i64 n2, .string ⟨y.toArray⟩] 26) (.cells #[.int .i64 0, .int .i64 0] 32))
  have HVA := Lib.hid va
  clear va
  have HVB := Lib.hid vb
  clear vb
  have a0 := A.c0
  have a1 := A.c1
  have a2 := A.c2
  go_enter Tryz.func15, Tryz.ntmps15
  go_wp2_with fail
  clear a0 a1 a2
  refine (L2.refvalid_any k n x _).mono ?_
  rw [HVA.out]
  rintro e w2 ⟨rfl, hb⟩
  have A2 := A.below hb
  have B2 := B.below hb
  have R2 := R.below hb
  have HB2 := Lib.hid (below_up HB.out hb HB.out.size)
  clear A B R hb
  have b0 := B2.c0
  have b1 := B2.c1
  have b2 := B2.c2
  go_wp2_with fail
  clear b0 b1 b2
  refine (L2.refvalid_any k2 n2 y _).mono ?_
  rw [HVB.out]
  rintro e w3 ⟨rfl, hb⟩
  have A3 := A2.below hb
  have B3 := B2.below hb
  have R3 := R2.below hb
  have HB3 := Lib.hid (below_up HB2.out hb HB2.out.size)
  clear A2 B2 R2 hb
  have a0 := A3.c0
  have a1 := A3.c1
  have a2 := A3.c2
  have b0 := B3.c0
  have b1 := B3.c1
  have b2 := B3.c2
  have r0 := R3.c0
  have r1 := R3.c1
  have f0 := R3.f0
  have f1 := R3.f1
  have q0 := fun o => (R3.alloc o).c0
  have q1 := fun o => (R3.alloc o).c1
  have g0 := fun o => (R3.alloc o).f0
  have g1 := fun o => (R3.alloc o).f1
  go_wp2_with fail
  refine bodyPost_ret (v := .tuple #[rat (1, 1), .int .i64 0]) (by simp [results, Tryz.results15, go_sem, r0, r1, q0, q1]) rfl ?_
  first | exact ⟨rfl, below_two HB3.out (by omega)⟩ | exact ⟨rfl, L2.boxes3 w _ _ _⟩ | exact ⟨rfl, below_two (HB3.out.alloc HB3.out.size _) (by omega)⟩

set_option linter.unusedSimpArgs false in
set_option maxRecDepth 100000 in
set_option maxHeartbeats 800000 in
theorem ofr_ne (t : Int) (k n : Int) (x : List UInt8) (k2 n2 : Int) (y : List UInt8) (va : L2.vldB k n x = true) (vb : L2.vldB k2 n2 y = true) (hk : (k == 0) = false) (hk2 : (k2 == 0) = false) (ev : ∀ W : World, (binOp .eql 26 (V k n x) (V k2 n2 y)).run Tryz.prog W = .ok (.bool false) W) (w : World) :
    Calls Tryz.prog 15 #[.int .i64 1, .int .i64 t, V k n x, V k2 n2 y] w fun e w' => e = .returned (.tuple #[rat (0, 1), .int .i64 0]) ∧ Below w.heap.size w w' := by
  have A : L2.Val3 (((w.alloc (.cells #[.int .i64 k, .int .i64 n, .string ⟨x.toArray⟩] 26)).alloc (.cells #[.int .i64 k2, .int .i64 n2, .string ⟨y.toArray⟩] 26)).alloc (.cells #[.int .i64 0, .int .i64 0] 32)) w.heap.size k n x := ⟨by simp [go_sem], by simp [go_sem], by simp [go_sem]⟩
  have B : L2.Val3 (((w.alloc (.cells #[.int .i64 k, .int .i64 n, .string ⟨x.toArray⟩] 26)).alloc (.cells #[.int .i64 k2, .int .i64 n2, .string ⟨y.toArray⟩] 26)).alloc (.cells #[.int .i64 0, .int .i64 0] 32)) (w.heap.size + 1) k2 n2 y := ⟨by simp [go_sem], by simp [go_sem], by simp [go_sem]⟩
  have R : Own2 (((w.alloc (.cells #[.int .i64 k, .int .i64 n, .string ⟨x.toArray⟩] 26)).alloc (.cells #[.int .i64 k2, .int .i64 n2, .string ⟨y.toArray⟩] 26)).alloc (.cells #[.int .i64 0, .int .i64 0] 32)) (w.heap.size + 1 + 1) 0 0 := ⟨by simp [go_sem], by simp [go_sem], by simp [go_sem], by simp [go_sem]⟩
  have HB := Lib.hid (L2.boxes3 w (.cells #[.int .i64 k, .int .i64 n, .string ⟨x.toArray⟩] 26) (.cells #[.int .i64 k2, .int .i64 n2, .string ⟨y.toArray⟩] 26) (.cells #[.int .i64 0, .int .i64 0] 32))
  have HVA := Lib.hid va
  clear va
  have HVB := Lib.hid vb
  clear vb
  have a0 := A.c0
  have a1 := A.c1
  have a2 := A.c2
  go_enter Tryz.func15, Tryz.ntmps15
  go_wp2_with fail
  clear a0 a1 a2
  refine (L2.refvalid_any k n x _).mono ?_
  rw [HVA.out]
  rintro e w2 ⟨rfl, hb⟩
  have A2 := A.below hb
  have B2 := B.below hb
  have R2 := R.below hb
  have HB2 := Lib.hid (below_up HB.out hb HB.out.size)
  clear A B R hb
  have b0 := B2.c0
  have b1 := B2.c1
  have b2 := B2.c2
  go_wp2_with fail
  clear b0 b1 b2
  refine (L2.refvalid_any k2 n2 y _).mono ?_
  rw [HVB.out]
  rintro e w3 ⟨rfl, hb⟩
  have A3 := A2.below hb
  have B3 := B2.below hb
  have R3 := R2.below hb
  have HB3 := Lib.hid (below_up HB2.out hb HB2.out.size)
  clear A2 B2 R2 hb
  have a0 := A3.c0
  have a1 := A3.c1
  have a2 := A3.c2
  have b0 := B3.c0
  have b1 := B3.c1
  have b2 := B3.c2
  have r0 := R3.c0
  have r1 := R3.c1
  have f0 := R3.f0
  have f1 := R3.f1
  have q0 := fun o => (R3.alloc o).c0
  have q1 := fun o => (R3.alloc o).c1
  have g0 := fun o => (R3.alloc o).f0
  have g1 := fun o => (R3.alloc o).f1
  go_wp2_with fail
  refine bodyPost_ret (v := .tuple #[rat (0, 1), .int .i64 0]) (by simp [results, Tryz.results15, go_sem, r0, r1, q0, q1]) rfl ?_
  first | exact ⟨rfl, below_two HB3.out (by omega)⟩ | exact ⟨rfl, L2.boxes3 w _ _ _⟩ | exact ⟨rfl, below_two (HB3.out.alloc HB3.out.size _) (by omega)⟩

set_option linter.unusedSimpArgs false in
set_option maxRecDepth 100000 in
set_option maxHeartbeats 800000 in
theorem ofr_kne (t : Int) (k n : Int) (x : List UInt8) (k2 n2 : Int) (y : List UInt8) (va : L2.vldB k n x = true) (vb : L2.vldB k2 n2 y = true) (t0 : 0 ≤ t) (t1 : t ≤ 999999999) (hk : (k == 0) = false) (hk2 : (k2 == 0) = false) (e2 : (k != k2) = true) (w : World) :
    Calls Tryz.prog 15 #[.int .i64 5, .int .i64 t, V k n x, V k2 n2 y] w fun e w' => e = .returned (.tuple #[rat (0, 0), .int .i64 10]) ∧ Below w.heap.size w w' := by
  have A : L2.Val3 (((w.alloc (.cells #[.int .i64 k, .int .i64 n, .string ⟨x.toArray⟩] 26)).alloc (.cells #[.int .i64 k2, .int .i64 n2, .string ⟨y.toArray⟩] 26)).alloc (.cells #[.int .i64 0, .int .i64 0] 32)) w.heap.size k n x := ⟨by simp [go_sem], by simp [go_sem], by simp [go_sem]⟩
  have B : L2.Val3 (((w.alloc (.cells #[.int .i64 k, .int .i64 n, .string ⟨x.toArray⟩] 26)).alloc (.cells #[.int .i64 k2, .int .i64 n2, .string ⟨y.toArray⟩] 26)).alloc (.cells #[.int .i64 0, .int .i64 0] 32)) (w.heap.size + 1) k2 n2 y := ⟨by simp [go_sem], by simp [go_sem], by simp [go_sem]⟩
  have R : Own2 (((w.alloc (.cells #[.int .i64 k, .int .i64 n, .string ⟨x.toArray⟩] 26)).alloc (.cells #[.int .i64 k2, .int .i64 n2, .string ⟨y.toArray⟩] 26)).alloc (.cells #[.int .i64 0, .int .i64 0] 32)) (w.heap.size + 1 + 1) 0 0 := ⟨by simp [go_sem], by simp [go_sem], by simp [go_sem], by simp [go_sem]⟩
  have HB := Lib.hid (L2.boxes3 w (.cells #[.int .i64 k, .int .i64 n, .string ⟨x.toArray⟩] 26) (.cells #[.int .i64 k2, .int .i64 n2, .string ⟨y.toArray⟩] 26) (.cells #[.int .i64 0, .int .i64 0] 32))
  have HVA := Lib.hid va
  clear va
  have HVB := Lib.hid vb
  clear vb
  have a0 := A.c0
  have a1 := A.c1
  have a2 := A.c2
  go_enter Tryz.func15, Tryz.ntmps15
  go_wp2_with fail
  clear a0 a1 a2
  refine (L2.refvalid_any k n x _).mono ?_
  rw [HVA.out]
  rintro e w2 ⟨rfl, hb⟩
  have A2 := A.below hb
  have B2 := B.below hb
  have R2 := R.below hb
  have HB2 := Lib.hid (below_up HB.out hb HB.out.size)
  clear A B R hb
  have b0 := B2.c0
  have b1 := B2.c1
  have b2 := B2.c2
  go_wp2_with fail
  clear b0 b1 b2
  refine (L2.refvalid_any k2 n2 y _).mono ?_
  rw [HVB.out]
  rintro e w3 ⟨rfl, hb⟩
  have A3 := A2.below hb
  have B3 := B2.below hb
  have R3 := R2.below hb
  have HB3 := Lib.hid (below_up HB2.out hb HB2.out.size)
  clear A2 B2 R2 hb
  have a0 := A3.c0
  have a1 := A3.c1
  have a2 := A3.c2
  have b0 := B3.c0
  have b1 := B3.c1
  have b2 := B3.c2
  have r0 := R3.c0
  have r1 := R3.c1
  have f0 := R3.f0
  have f1 := R3.f1
  have q0 := fun o => (R3.alloc o).c0
  have q1 := fun o => (R3.alloc o).c1
  have g0 := fun o => (R3.alloc o).f0
  have g1 := fun o => (R3.alloc o).f1
  go_wp2_with fail
  refine bodyPost_ret (v := .tuple #[rat (0, 0), .int .i64 10]) (by simp [results, Tryz.results15, go_sem, r0, r1, q0, q1]) rfl ?_
  first | exact ⟨rfl, below_two HB3.out (by omega)⟩ | exact ⟨rfl, L2.boxes3 w _ _ _⟩ | exact ⟨rfl, below_two (HB3.out.alloc HB3.out.size _) (by omega)⟩

set_option linter.unusedSimpArgs false in
set_option maxRecDepth 100000 in
set_option maxHeartbeats 800000 in
theorem ofr_knum (t : Int) (k n : Int) (x : List UInt8) (n2 : Int) (y : List UInt8) (va : L2.vldB k n x = true) (vb : L2.vldB k n2 y = true) (t0 : 0 ≤ t) (t1 : t ≤ 999999999) (hk : (k == 0) = false) (e2 : (k != 2) = true) (e4 : (k != 3) = true) (w : World) :
    Calls Tryz.prog 15 #[.int .i64 5, .int .i64 t, V k n x, V k n2 y] w fun e w' => e = .returned (.tuple #[rat (0, 0), .int .i64 10]) ∧ Below w.heap.size w w' := by
  have A : L2.Val3 (((w.alloc (.cells #[.int .i64 k, .int .i64 n, .string ⟨x.toArray⟩] 26)).alloc (.cells #[.int .i64 k, .int .i64 n2, .string ⟨y.toArray⟩] 26)).alloc (.cells #[.int .i64 0, .int .i64 0] 32)) w.heap.size k n x := ⟨by simp [go_sem], by simp [go_sem], by simp [go_sem]⟩
  have B : L2.Val3 (((w.alloc (.cells #[.int .i64 k, .int .i64 n, .string ⟨x.toArray⟩] 26)).alloc (.cells #[.int .i64 k, .int .i64 n2, .string ⟨y.toArray⟩] 26)).alloc (.cells #[.int .i64 0, .int .i64 0] 32)) (w.heap.size + 1) k n2 y := ⟨by simp [go_sem], by simp [go_sem], by simp [go_sem]⟩
  have R : Own2 (((w.alloc (.cells #[.int .i64 k, .int .i64 n, .string ⟨x.toArray⟩] 26)).alloc (.cells #[.int .i64 k, .int .i64 n2, .string ⟨y.toArray⟩] 26)).alloc (.cells #[.int .i64 0, .int .i64 0] 32)) (w.heap.size + 1 + 1) 0 0 := ⟨by simp [go_sem], by simp [go_sem], by simp [go_sem], by simp [go_sem]⟩
  have HB := Lib.hid (L2.boxes3 w (.cells #[.int .i64 k, .int .i64 n, .string ⟨x.toArray⟩] 26) (.cells #[.int .i64 k, .int .i64 n2, .string ⟨y.toArray⟩] 26) (.cells #[.int .i64 0, .int .i64 0] 32))
  have HVA := Lib.hid va
  clear va
  have HVB := Lib.hid vb
  clear vb
  have a0 := A.c0
  have a1 := A.c1
  have a2 := A.c2
  go_enter Tryz.func15, Tryz.ntmps15
  go_wp2_with fail
  clear a0 a1 a2
  refine (L2.refvalid_any k n x _).mono ?_
  rw [HVA.out]
  rintro e w2 ⟨rfl, hb⟩
  have A2 := A.below hb
  have B2 := B.below hb
  have R2 := R.below hb
  have HB2 := Lib.hid (below_up HB.out hb HB.out.size)
  clear A B R hb
  have b0 := B2.c0
  have b1 := B2.c1
  have b2 := B2.c2
  go_wp2_with fail
  clear b0 b1 b2
  refine (L2.refvalid_any k n2 y _).mono ?_
  rw [HVB.out]
  rintro e w3 ⟨rfl, hb⟩
  have A3 := A2.below hb
  have B3 := B2.below hb
  have R3 := R2.below hb
  have HB3 := Lib.hid (below_up HB2.out hb HB2.out.size)
  clear A2 B2 R2 hb
  have a0 := A3.c0
  have a1 := A3.c1
  have a2 := A3.c2
  have b0 := B3.c0
  have b1 := B3.c1
  have b2 := B3.c2
  have r0 := R3.c0
  have r1 := R3.c1
  have f0 := R3.f0
  have f1 := R3.f1
  have q0 := fun o => (R3.alloc o).c0
  have q1 := fun o => (R3.alloc o).c1
  have g0 := fun o => (R3.alloc o).f0
  have g1 := fun o => (R3.alloc o).f1
  go_wp2_with fail
  refine bodyPost_ret (v := .tuple #[rat (0, 0), .int .i64 10]) (by simp [results, Tryz.results15, go_sem, r0, r1, q0, q1]) rfl ?_
  first | exact ⟨rfl, below_two HB3.out (by omega)⟩ | exact ⟨rfl, L2.boxes3 w _ _ _⟩ | exact ⟨rfl, below_two (HB3.out.alloc HB3.out.size _) (by omega)⟩

set_option linter.unusedSimpArgs false in
set_option maxRecDepth 100000 in
set_option maxHeartbeats 800000 in
theorem ofr_near_2 (t : Int) (n : Int) (x : List UInt8) (n2 : Int) (y : List UInt8) (va : L2.vldB 2 n x = true) (vb : L2.vldB 2 n2 y = true) (t0 : 0 ≤ t) (t1 : t ≤ 999999999) (r : Int × Int) (hG : ∀ W, Calls Tryz.prog 19 #[.int .i64 n, .int .i64 n2, .int .i64 t] W fun e w' => e = .returned (rat r) ∧ Below W.heap.size W w') (w : World) :
    Calls Tryz.prog 15 #[.int .i64 5, .int .i64 t, V 2 n x, V 2 n2 y] w fun e w' => e = .returned (.tuple #[rat r, .int .i64 0]) ∧ Below w.heap.size w w' := by
  have A : L2.Val3 (((w.alloc (.cells #[.int .i64 2, .int .i64 n, .string ⟨x.toArray⟩] 26)).alloc (.cells #[.int .i64 2, .int .i64 n2, .string ⟨y.toArray⟩] 26)).alloc (.cells #[.int .i64 0, .int .i64 0] 32)) w.heap.size 2 n x := ⟨by simp [go_sem], by simp [go_sem], by simp [go_sem]⟩
  have B : L2.Val3 (((w.alloc (.cells #[.int .i64 2, .int .i64 n, .string ⟨x.toArray⟩] 26)).alloc (.cells #[.int .i64 2, .int .i64 n2, .string ⟨y.toArray⟩] 26)).alloc (.cells #[.int .i64 0, .int .i64 0] 32)) (w.heap.size + 1) 2 n2 y := ⟨by simp [go_sem], by simp [go_sem], by simp [go_sem]⟩
  have R : Own2 (((w.alloc (.cells #[.int .i64 2, .int .i64 n, .string ⟨x.toArray⟩] 26)).alloc (.cells #[.int .i64 2, .int .i64 n2, .string ⟨y.toArray⟩] 26)).alloc (.cells #[.int .i64 0, .int .i64 0] 32)) (w.heap.size + 1 + 1) 0 0 := ⟨by simp [go_sem], by simp [go_sem], by simp [go_sem], by simp [go_sem]⟩
  have HB := Lib.hid (L2.boxes3 w (.cells #[.int .i64 2, .int .i64 n, .string ⟨x.toArray⟩] 26) (.cells #[.int .i64 2, .int .i64 n2, .string ⟨y.toArray⟩] 26) (.cells #[.int .i64 0, .int .i64 0] 32))
  have HVA := Lib.hid va
  clear va
  have HVB := Lib.hid vb
  clear vb
  have HG := Lib.hid hG
  clear hG
  have a0 := A.c0
  have a1 := A.c1
  have a2 := A.c2
  go_enter Tryz.func15, Tryz.ntmps15
  go_wp2_with fail
  clear a0 a1 a2
  refine (L2.refvalid_any 2 n x _).mono ?_
  rw [HVA.out]
  rintro e w2 ⟨rfl, hb⟩
  have A2 := A.below hb
  have B2 := B.below hb
  have R2 := R.below hb
  have HB2 := Lib.hid (below_up HB.out hb HB.out.size)
  clear A B R hb
  have b0 := B2.c0
  have b1 := B2.c1
  have b2 := B2.c2
  go_wp2_with fail
  clear b0 b1 b2
  refine (L2.refvalid_any 2 n2 y _).mono ?_
  rw [HVB.out]
  rintro e w3 ⟨rfl, hb⟩
  have A3 := A2.below hb
  have B3 := B2.below hb
  have R3 := R2.below hb
  have HB3 := Lib.hid (below_up HB2.out hb HB2.out.size)
  clear A2 B2 R2 hb
  have a0 := A3.c0
  have a1 := A3.c1
  have a2 := A3.c2
  have b0 := B3.c0
  have b1 := B3.c1
  have b2 := B3.c2
  go_wp2_with fail
  clear a0 a1 a2 b0 b1 b2
  refine (HG.out _).mono ?_
  rintro e w4 ⟨rfl, hb⟩
  have R4 := R3.below hb
  have HB4 := Lib.hid (below_up HB3.out hb HB3.out.size)
  clear A3 B3 R3 hb
  have r0 := R4.c0
  have r1 := R4.c1
  have f0 := R4.f0
  have f1 := R4.f1
  go_wp2_with fail
  refine bodyPost_ret (v := .tuple #[rat r, .int .i64 0]) (by simp [results, Tryz.results15, go_sem, r0, r1]) rfl ?_
  first | exact ⟨rfl, below_two HB4.out (by omega)⟩ | exact ⟨rfl, L2.boxes3 w _ _ _⟩ | exact ⟨rfl, below_two (HB4.out.alloc HB4.out.size _) (by omega)⟩

set_option linter.unusedSimpArgs false in
set_option maxRecDepth 100000 in
set_option maxHeartbeats 800000 in
theorem ofr_near_3 (t : Int) (n : Int) (x : List UInt8) (n2 : Int) (y : List UInt8) (va : L2.vldB 3 n x = true) (vb : L2.vldB 3 n2 y = true) (t0 : 0 ≤ t) (t1 : t ≤ 999999999) (r : Int × Int) (hG : ∀ W, Calls Tryz.prog 19 #[.int .i64 n, .int .i64 n2, .int .i64 t] W fun e w' => e = .returned (rat r) ∧ Below W.heap.size W w') (w : World) :
    Calls Tryz.prog 15 #[.int .i64 5, .int .i64 t, V 3 n x, V 3 n2 y] w fun e w' => e = .returned (.tuple #[rat r, .int .i64 0]) ∧ Below w.heap.size w w' := by
  have A : L2.Val3 (((w.alloc (.cells #[.int .i64 3, .int .i64 n, .string ⟨x.toArray⟩] 26)).alloc (.cells #[.int .i64 3, .int .i64 n2, .string ⟨y.toArray⟩] 26)).alloc (.cells #[.int .i64 0, .int .i64 0] 32)) w.heap.size 3 n x := ⟨by simp [go_sem], by simp [go_sem], by simp [go_sem]⟩
  have B : L2.Val3 (((w.alloc (.cells #[.int .i64 3, .int .i64 n, .string ⟨x.toArray⟩] 26)).alloc (.cells #[.int .i64 3, .int .i64 n2, .string ⟨y.toArray⟩] 26)).alloc (.cells #[.int .i64 0, .int .i64 0] 32)) (w.heap.size + 1) 3 n2 y := ⟨by simp [go_sem], by simp [go_sem], by simp [go_sem]⟩
  have R : Own2 (((w.alloc (.cells #[.int .i64 3, .int .i64 n, .string ⟨x.toArray⟩] 26)).alloc (.cells #[.int .i64 3, .int .i64 n2, .string ⟨y.toArray⟩] 26)).alloc (.cells #[.int .i64 0, .int .i64 0] 32)) (w.heap.size + 1 + 1) 0 0 := ⟨by simp [go_sem], by simp [go_sem], by simp [go_sem], by simp [go_sem]⟩
  have HB := Lib.hid (L2.boxes3 w (.cells #[.int .i64 3, .int .i64 n, .string ⟨x.toArray⟩] 26) (.cells #[.int .i64 3, .int .i64 n2, .string ⟨y.toArray⟩] 26) (.cells #[.int .i64 0, .int .i64 0] 32))
  have HVA := Lib.hid va
  clear va
  have HVB := Lib.hid vb
  clear vb
  have HG := Lib.hid hG
  clear hG
  have a0 := A.c0
  have a1 := A.c1
  have a2 := A.c2
  go_enter Tryz.func15, Tryz.ntmps15
  go_wp2_with fail
  clear a0 a1 a2
  refine (L2.refvalid_any 3 n x _).mono ?_
  rw [HVA.out]
  rintro e w2 ⟨rfl, hb⟩
  have A2 := A.below hb
  have B2 := B.below hb
  have R2 := R.below hb
  have HB2 := Lib.hid (below_up HB.out hb HB.out.size)
  clear A B R hb
  have b0 := B2.c0
  have b1 := B2.c1
  have b2 := B2.c2
  go_wp2_with fail
  clear b0 b1 b2
  refine (L2.refvalid_any 3 n2 y _).mono ?_
  rw [HVB.out]
  rintro e w3 ⟨rfl, hb⟩
  have A3 := A2.below hb
  have B3 := B2.below hb
  have R3 := R2.below hb
  have HB3 := Lib.hid (below_up HB2.out hb HB2.out.size)
  clear A2 B2 R2 hb
  have a0 := A3.c0
  have a1 := A3.c1
  have a2 := A3.c2
  have b0 := B3.c0
  have b1 := B3.c1
  have b2 := B3.c2
  go_wp2_with fail
  clear a0 a1 a2 b0 b1 b2
  refine (HG.out _).mono ?_
  rintro e w4 ⟨rfl, hb⟩
  have R4 := R3.below hb
  have HB4 := Lib.hid (below_up HB3.out hb HB3.out.size)
  clear A3 B3 R3 hb
  have r0 := R4.c0
  have r1 := R4.c1
  have f0 := R4.f0
  have f1 := R4.f1
  go_wp2_with fail
  refine bodyPost_ret (v := .tuple #[rat r, .int .i64 0]) (by simp [results, Tryz.results15, go_sem, r0, r1]) rfl ?_
  first | exact ⟨rfl, below_two HB4.out (by omega)⟩ | exact ⟨rfl, L2.boxes3 w _ _ _⟩ | exact ⟨rfl, below_two (HB4.out.alloc HB4.out.size _) (by omega)⟩

set_option linter.unusedSimpArgs false in
set_option maxRecDepth 100000 in
set_option maxHeartbeats 800000 in
theorem ofr_nta (m t : Int) (k n : Int) (x : List UInt8) (k2 n2 : Int) (y : List UInt8) (h1 : 1 ≤ m) (h2 : m ≤ 5) (va : L2.vldB k n x = true) (vb : L2.vldB k2 n2 y = true) (h5 : (m == 5) = false) (hm1 : (m == 1) = false) (hk : (k == 0) = false) (hk2 : (k2 == 0) = false) (e2 : (k != 1) = true) (w : World) :
    Calls Tryz.prog 15 #[.int .i64 m, .int .i64 t, V k n x, V k2 n2 y] w fun e w' => e = .returned (.tuple #[rat (0, 0), .int .i64 10]) ∧ Below w.heap.size w w' := by
  have A : L2.Val3 (((w.alloc (.cells #[.int .i64 k, .int .i64 n, .string ⟨x.toArray⟩] 26)).alloc (.cells #[.int .i64 k2, .int .i64 n2, .string ⟨y.toArray⟩] 26)).alloc (.cells #[.int .i64 0, .int .i64 0] 32)) w.heap.size k n x := ⟨by simp [go_sem], by simp [go_sem], by simp [go_sem]⟩
  have B : L2.Val3 (((w.alloc (.cells #[.int .i64 k, .int .i64 n, .string ⟨x.toArray⟩] 26)).alloc (.cells #[.int .i64 k2, .int .i64 n2, .string ⟨y.toArray⟩] 26)).alloc (.cells #[.int .i64 0, .int .i64 0] 32)) (w.heap.size + 1) k2 n2 y := ⟨by simp [go_sem], by simp [go_sem], by simp [go_sem]⟩
  have R : Own2 (((w.alloc (.cells #[.int .i64 k, .int .i64 n, .string ⟨x.toArray⟩] 26)).alloc (.cells #[.int .i64 k2, .int .i64 n2, .string ⟨y.toArray⟩] 26)).alloc (.cells #[.int .i64 0, .int .i64 0] 32)) (w.heap.size + 1 + 1) 0 0 := ⟨by simp [go_sem], by simp [go_sem], by simp [go_sem], by simp [go_sem]⟩
  have HB := Lib.hid (L2.boxes3 w (.cells #[.int .i64 k, .int .i64 n, .string ⟨x.toArray⟩] 26) (.cells #[.int .i64 k2, .int .i64 n2, .string ⟨y.toArray⟩] 26) (.cells #[.int .i64 0, .int .i64 0] 32))
  have HVA := Lib.hid va
  clear va
  have HVB := Lib.hid vb
  clear vb
  have a0 := A.c0
  have a1 := A.c1
  have a2 := A.c2
  go_enter Tryz.func15, Tryz.ntmps15
  go_wp2_with fail
  clear a0 a1 a2
  refine (L2.refvalid_any k n x _).mono ?_
  rw [HVA.out]
  rintro e w2 ⟨rfl, hb⟩
  have A2 := A.below hb
  have B2 := B.below hb
  have R2 := R.below hb
  have HB2 := Lib.hid (below_up HB.out hb HB.out.size)
  clear A B R hb
  have b0 := B2.c0
  have b1 := B2.c1
  have b2 := B2.c2
  go_wp2_with fail
  clear b0 b1 b2
  refine (L2.refvalid_any k2 n2 y _).mono ?_
  rw [HVB.out]
  rintro e w3 ⟨rfl, hb⟩
  have A3 := A2.below hb
  have B3 := B2.below hb
  have R3 := R2.below hb
  have HB3 := Lib.hid (below_up HB2.out hb HB2.out.size)
  clear A2 B2 R2 hb
  have a0 := A3.c0
  have a1 := A3.c1
  have a2 := A3.c2
  have b0 := B3.c0
  have b1 := B3.c1
  have b2 := B3.c2
  have r0 := R3.c0
  have r1 := R3.c1
  have f0 := R3.f0
  have f1 := R3.f1
  have q0 := fun o => (R3.alloc o).c0
  have q1 := fun o => (R3.alloc o).c1
  have g0 := fun o => (R3.alloc o).f0
  have g1 := fun o => (R3.alloc o).f1
  go_wp2_with fail
  refine bodyPost_ret (v := .tuple #[rat (0, 0), .int .i64 10]) (by simp [results, Tryz.results15, go_sem, r0, r1, q0, q1]) rfl ?_
  first | exact ⟨rfl, below_two HB3.out (by omega)⟩ | exact ⟨rfl, L2.boxes3 w _ _ _⟩ | exact ⟨rfl, below_two (HB3.out.alloc HB3.out.size _) (by omega)⟩

set_option linter.unusedSimpArgs false in
set_option maxRecDepth 100000 in
set_option maxHeartbeats 800000 in
theorem ofr_ntb (m t : Int) (n : Int) (x : List UInt8) (k2 n2 : Int) (y : List UInt8) (h1 : 1 ≤ m) (h2 : m ≤ 5) (va : L2.vldB 1 n x = true) (vb : L2.vldB k2 n2 y = true) (h5 : (m == 5) = false) (hm1 : (m == 1) = false) (hk2 : (k2 == 0) = false) (e2 : (k2 != 1) = true) (w : World) :
    Calls Tryz.prog 15 #[.int .i64 m, .int .i64 t, V 1 n x, V k2 n2 y] w fun e w' => e = .returned (.tuple #[rat (0, 0), .int .i64 10]) ∧ Below w.heap.size w w' := by
  have A : L2.Val3 (((w.alloc (.cells #[.int .i64 1, .int .i64 n, .string ⟨x.toArray⟩] 26)).alloc (.cells #[.int .i64 k2, .int .i64 n2, .string ⟨y.toArray⟩] 26)).alloc (.cells #[.int .i64 0, .int .i64 0] 32)) w.heap.size 1 n x := ⟨by simp [go_sem], by simp [go_sem], by simp [go_sem]⟩
  have B : L2.Val3 (((w.alloc (.cells #[.int .i64 1, .int .i64 n, .string ⟨x.toArray⟩] 26)).alloc (.cells #[.int .i64 k2, .int .i64 n2, .string ⟨y.toArray⟩] 26)).alloc (.cells #[.int .i64 0, .int .i64 0] 32)) (w.heap.size + 1) k2 n2 y := ⟨by simp [go_sem], by simp [go_sem], by simp [go_sem]⟩
  have R : Own2 (((w.alloc (.cells #[.int .i64 1, .int .i64 n, .string ⟨x.toArray⟩] 26)).alloc (.cells #[.int .i64 k2, .int .i64 n2, .string ⟨y.toArray⟩] 26)).alloc (.cells #[.int .i64 0, .int .i64 0] 32)) (w.heap.size + 1 + 1) 0 0 := ⟨by simp [go_sem], by simp [go_sem], by simp [go_sem], by simp [go_sem]⟩
  have HB := Lib.hid (L2.boxes3 w (.cells #[.int .i64 1, .int .i64 n, .string ⟨x.toArray⟩] 26) (.cells #[.int .i64 k2, .int .i64 n2, .string ⟨y.toArray⟩] 26) (.cells #[.int .i64 0, .int .i64 0] 32))
  have HVA := Lib.hid va
  clear va
  have HVB := Lib.hid vb
  clear vb
  have a0 := A.c0
  have a1 := A.c1
  have a2 := A.c2
  go_enter Tryz.func15, Tryz.ntmps15
  go_wp2_with fail
  clear a0 a1 a2
  refine (L2.refvalid_any 1 n x _).mono ?_
  rw [HVA.out]
  rintro e w2 ⟨rfl, hb⟩
  have A2 := A.below hb
  have B2 := B.below hb
  have R2 := R.below hb
  have HB2 := Lib.hid (below_up HB.out hb HB.out.size)
  clear A B R hb
  have b0 := B2.c0
  have b1 := B2.c1
  have b2 := B2.c2
  go_wp2_with fail
  clear b0 b1 b2
  refine (L2.refvalid_any k2 n2 y _).mono ?_
  rw [HVB.out]
  rintro e w3 ⟨rfl, hb⟩
  have A3 := A2.below hb
  have B3 := B2.below hb
  have R3 := R2.below hb
  have HB3 := Lib.hid (below_up HB2.out hb HB2.out.size)
  clear A2 B2 R2 hb
  have a0 := A3.c0
  have a1 := A3.c1
  have a2 := A3.c2
  have b0 := B3.c0
  have b1 := B3.c1
  have b2 := B3.c2
  have r0 := R3.c0
  have r1 := R3.c1
  have f0 := R3.f0
  have f1 := R3.f1
  have q0 := fun o => (R3.alloc o).c0
  have q1 := fun o => (R3.alloc o).c1
  have g0 := fun o => (R3.alloc o).f0
  have g1 := fun o => (R3.alloc o).f1
  go_wp2_with fail
  refine bodyPost_ret (v := .tuple #[rat (0, 0), .int .i64 10]) (by simp [results, Tryz.results15, go_sem, r0, r1, q0, q1]) rfl ?_
  first | exact ⟨rfl, below_two HB3.out (by omega)⟩ | exact ⟨rfl, L2.boxes3 w _ _ _⟩ | exact ⟨rfl, below_two (HB3.out.alloc HB3.out.size _) (by omega)⟩

set_option linter.unusedSimpArgs false in
set_option maxRecDepth 100000 in
set_option maxHeartbeats 800000 in
theorem ofr_alike (t : Int) (n : Int) (x : List UInt8) (n2 : Int) (y : List UInt8) (va : L2.vldB 1 n x = true) (vb : L2.vldB 1 n2 y = true) (fx fy : List UInt8) (r : Int × Int) (F1 : ∀ W, Calls Tryz.prog 38 #[str x] W fun e w' => e = .returned (str fx) ∧ Below W.heap.size W w') (F2 : ∀ W, Calls Tryz.prog 38 #[str y] W fun e w' => e = .returned (str fy) ∧ Below W.heap.size W w') (hG : ∀ W, Calls Tryz.prog 11 #[str fx, str fy] W fun e w' => e = .returned (rat r) ∧ Below W.heap.size W w') (w : World) :
    Calls Tryz.prog 15 #[.int .i64 2, .int .i64 t, V 1 n x, V 1 n2 y] w fun e w' => e = .returned (.tuple #[rat r, .int .i64 0]) ∧ Below w.heap.size w w' := by
  have A : L2.Val3 (((w.alloc (.cells #[.int .i64 1, .int .i64 n, .string ⟨x.toArray⟩] 26)).alloc (.cells #[.int .i64 1, .int .i64 n2, .string ⟨y.toArray⟩] 26)).alloc (.cells #[.int .i64 0, .int .i64 0] 32)) w.heap.size 1 n x := ⟨by simp [go_sem], by simp [go_sem], by simp [go_sem]⟩
  have B : L2.Val3 (((w.alloc (.cells #[.int .i64 1, .int .i64 n, .string ⟨x.toArray⟩] 26)).alloc (.cells #[.int .i64 1, .int .i64 n2, .string ⟨y.toArray⟩] 26)).alloc (.cells #[.int .i64 0, .int .i64 0] 32)) (w.heap.size + 1) 1 n2 y := ⟨by simp [go_sem], by simp [go_sem], by simp [go_sem]⟩
  have R : Own2 (((w.alloc (.cells #[.int .i64 1, .int .i64 n, .string ⟨x.toArray⟩] 26)).alloc (.cells #[.int .i64 1, .int .i64 n2, .string ⟨y.toArray⟩] 26)).alloc (.cells #[.int .i64 0, .int .i64 0] 32)) (w.heap.size + 1 + 1) 0 0 := ⟨by simp [go_sem], by simp [go_sem], by simp [go_sem], by simp [go_sem]⟩
  have HB := Lib.hid (L2.boxes3 w (.cells #[.int .i64 1, .int .i64 n, .string ⟨x.toArray⟩] 26) (.cells #[.int .i64 1, .int .i64 n2, .string ⟨y.toArray⟩] 26) (.cells #[.int .i64 0, .int .i64 0] 32))
  have HVA := Lib.hid va
  clear va
  have HVB := Lib.hid vb
  clear vb
  have HG := Lib.hid hG
  clear hG
  have HF1 := Lib.hid F1
  have HF2 := Lib.hid F2
  clear F1 F2
  have a0 := A.c0
  have a1 := A.c1
  have a2 := A.c2
  go_enter Tryz.func15, Tryz.ntmps15
  go_wp2_with fail
  clear a0 a1 a2
  refine (L2.refvalid_any 1 n x _).mono ?_
  rw [HVA.out]
  rintro e w2 ⟨rfl, hb⟩
  have A2 := A.below hb
  have B2 := B.below hb
  have R2 := R.below hb
  have HB2 := Lib.hid (below_up HB.out hb HB.out.size)
  clear A B R hb
  have b0 := B2.c0
  have b1 := B2.c1
  have b2 := B2.c2
  go_wp2_with fail
  clear b0 b1 b2
  refine (L2.refvalid_any 1 n2 y _).mono ?_
  rw [HVB.out]
  rintro e w3 ⟨rfl, hb⟩
  have A3 := A2.below hb
  have B3 := B2.below hb
  have R3 := R2.below hb
  have HB3 := Lib.hid (below_up HB2.out hb HB2.out.size)
  clear A2 B2 R2 hb
  have a0 := A3.c0
  have a1 := A3.c1
  have a2 := A3.c2
  have b0 := B3.c0
  have b1 := B3.c1
  have b2 := B3.c2
  go_wp2_with fail
  clear a0 a1 a2 b0 b1 b2
  refine (HF1.out _).mono ?_
  rintro e w4 ⟨rfl, hb⟩
  have A4 := A3.below hb
  have B4 := B3.below hb
  have R4 := R3.below hb
  have HB4 := Lib.hid (below_up HB3.out hb HB3.out.size)
  clear A3 B3 R3 hb
  have a0 := A4.c0
  have a1 := A4.c1
  have a2 := A4.c2
  have b0 := B4.c0
  have b1 := B4.c1
  have b2 := B4.c2
  go_wp2_with fail
  clear a0 a1 a2 b0 b1 b2
  refine (HF2.out _).mono ?_
  rintro e w5 ⟨rfl, hb⟩
  have A5 := A4.below hb
  have B5 := B4.below hb
  have R5 := R4.below hb
  have HB5 := Lib.hid (below_up HB4.out hb HB4.out.size)
  clear A4 B4 R4 hb
  go_wp2_with fail
  refine (HG.out _).mono ?_
  rintro e w6 ⟨rfl, hb⟩
  have R6 := R5.below hb
  have HB6 := Lib.hid (below_up HB5.out hb HB5.out.size)
  clear A5 B5 R5 hb
  have r0 := R6.c0
  have r1 := R6.c1
  have f0 := R6.f0
  have f1 := R6.f1
  go_wp2_with fail
  refine bodyPost_ret (v := .tuple #[rat r, .int .i64 0]) (by simp [results, Tryz.results15, go_sem, r0, r1]) rfl ?_
  first | exact ⟨rfl, below_two HB6.out (by omega)⟩ | exact ⟨rfl, L2.boxes3 w _ _ _⟩ | exact ⟨rfl, below_two (HB6.out.alloc HB6.out.size _) (by omega)⟩

set_option linter.unusedSimpArgs false in
set_option maxRecDepth 100000 in
set_option maxHeartbeats 800000 in
theorem ofr_jac (t : Int) (n : Int) (x : List UInt8) (n2 : Int) (y : List UInt8) (va : L2.vldB 1 n x = true) (vb : L2.vldB 1 n2 y = true) (hx : x.length ≤ 1000) (hy : y.length ≤ 1000) (w : World) :
    Calls Tryz.prog 15 #[.int .i64 3, .int .i64 t, V 1 n x, V 1 n2 y] w fun e w' => e = .returned (.tuple #[rat (jacT (toks x) (toks y)), .int .i64 0]) ∧ Below w.heap.size w w' := by
  have A : L2.Val3 (((w.alloc (.cells #[.int .i64 1, .int .i64 n, .string ⟨x.toArray⟩] 26)).alloc (.cells #[.int .i64 1, .int .i64 n2, .string ⟨y.toArray⟩] 26)).alloc (.cells #[.int .i64 0, .int .i64 0] 32)) w.heap.size 1 n x := ⟨by simp [go_sem], by simp [go_sem], by simp [go_sem]⟩
  have B : L2.Val3 (((w.alloc (.cells #[.int .i64 1, .int .i64 n, .string ⟨x.toArray⟩] 26)).alloc (.cells #[.int .i64 1, .int .i64 n2, .string ⟨y.toArray⟩] 26)).alloc (.cells #[.int .i64 0, .int .i64 0] 32)) (w.heap.size + 1) 1 n2 y := ⟨by simp [go_sem], by simp [go_sem], by simp [go_sem]⟩
  have R : Own2 (((w.alloc (.cells #[.int .i64 1, .int .i64 n, .string ⟨x.toArray⟩] 26)).alloc (.cells #[.int .i64 1, .int .i64 n2, .string ⟨y.toArray⟩] 26)).alloc (.cells #[.int .i64 0, .int .i64 0] 32)) (w.heap.size + 1 + 1) 0 0 := ⟨by simp [go_sem], by simp [go_sem], by simp [go_sem], by simp [go_sem]⟩
  have HB := Lib.hid (L2.boxes3 w (.cells #[.int .i64 1, .int .i64 n, .string ⟨x.toArray⟩] 26) (.cells #[.int .i64 1, .int .i64 n2, .string ⟨y.toArray⟩] 26) (.cells #[.int .i64 0, .int .i64 0] 32))
  have HVA := Lib.hid va
  clear va
  have HVB := Lib.hid vb
  clear vb
  have C1 := Lib.hid (L3.tokens_ref x (by omega))
  have C2 := Lib.hid (L3.tokens_ref y (by omega))
  have C3 := Lib.hid (fun u v W (h1 : Strs W u (toks x)) (h2 : Strs W v (toks y)) => jaccard_ref (toks x) (toks y) u v W (toks_len x hx) (toks_len y hy) h1 h2)
  obtain ⟨r, hr⟩ : ∃ r, jacT (toks x) (toks y) = r := ⟨_, rfl⟩
  rw [hr] at C3 ⊢
  clear hr hx hy
  have a0 := A.c0
  have a1 := A.c1
  have a2 := A.c2
  go_enter Tryz.func15, Tryz.ntmps15
  go_wp2_with fail
  clear a0 a1 a2
  refine (L2.refvalid_any 1 n x _).mono ?_
  rw [HVA.out]
  rintro e w2 ⟨rfl, hb⟩
  have A2 := A.below hb
  have B2 := B.below hb
  have R2 := R.below hb
  have HB2 := Lib.hid (below_up HB.out hb HB.out.size)
  clear A B R hb
  have b0 := B2.c0
  have b1 := B2.c1
  have b2 := B2.c2
  go_wp2_with fail
  clear b0 b1 b2
  refine (L2.refvalid_any 1 n2 y _).mono ?_
  rw [HVB.out]
  rintro e w3 ⟨rfl, hb⟩
  have A3 := A2.below hb
  have B3 := B2.below hb
  have R3 := R2.below hb
  have HB3 := Lib.hid (below_up HB2.out hb HB2.out.size)
  clear A2 B2 R2 hb
  have a0 := A3.c0
  have a1 := A3.c1
  have a2 := A3.c2
  have b0 := B3.c0
  have b1 := B3.c1
  have b2 := B3.c2
  have A := A3.c2
  have B := B3.c2
  have n1 : ¬ w.heap.size = w.heap.size + 1 + 1 := by omega
  have n2 : ¬ w.heap.size + 1 + 1 = w.heap.size := by omega
  have R := Lib.hid R3
  clear R3
  go_wp2_with fail
  clear a0 a1 a2 b0 b1 b2
  go_region_held3 (fun w' => w'.cell? ⟨w.heap.size, 2, none⟩ = some (str x) ∧ w'.cell? ⟨w.heap.size + 1, 2, none⟩ = some (str y)) (go_keep)
    (first | (go_at_call_of 37 (str x); refine (C1.out _).mono ?_; rintro e v1 ⟨u1, rfl, hs1, hv1⟩; have g1 := Lib.hid ((below_drewN _ w3 1).trans hv1); clear hv1; have A1 := cellB g1.out A; have B1 := cellB g1.out B; have S1 : Hid (Strs v1 u1 (toks x)) := Lib.hid hs1; clear hs1) | (go_at_call_of 37 (str y); refine (C2.out _).mono ?_; rintro e v2 ⟨u2, rfl, hs2, hv2⟩; have g2 := Lib.hid hv2; clear hv2; have A2 := cellB g2.out A1; have B2 := cellB g2.out B1; have S2 : Hid (Strs v2 u2 (toks y)) := Lib.hid hs2; clear hs2; have S12 := Lib.hid (S1.out.below g2.out)) | (go_at_call 13; refine (C3.out _ _ _ S12.out S2.out).mono ?_; rintro e v3 ⟨rfl, hv3⟩; have g3 := Lib.hid hv3; clear hv3; have A4 := cellB g3.out A2; have B4 := cellB g3.out B2; have A5 := cell_two (c := w.heap.size + 1 + 1) (by omega) A4; have B5 := cell_two (c := w.heap.size + 1 + 1) (by omega) B4; have R4 := ((R.out.below g1.out).below g2.out).below g3.out; have r0 := R4.c0; have r1 := R4.c1; have f0 := R4.f0; have f1 := R4.f1; clear R4))
  have HB4 := Lib.hid (below_up HB3.out g1.out HB3.out.size)
  have HB5 := Lib.hid (below_up HB4.out g2.out HB4.out.size)
  have HB6 := Lib.hid (below_up HB5.out g3.out HB5.out.size)
  clear g1 g2 g3 A A1 A2 A4 A5 B B1 B2 B4 B5 R HB3 HB4 HB5
  go_wp2_with fail
  refine bodyPost_ret (v := .tuple #[rat r, .int .i64 0]) (by simp [results, Tryz.results15, go_sem, r0, r1]) rfl ?_
  exact ⟨rfl, below_two HB6.out (by omega)⟩

set_option linter.unusedSimpArgs false in
set_option maxRecDepth 100000 in
set_option maxHeartbeats 800000 in
theorem ofr_jaro (t : Int) (n : Int) (x : List UInt8) (n2 : Int) (y : List UInt8) (va : L2.vldB 1 n x = true) (vb : L2.vldB 1 n2 y = true) (fx fy : List UInt8) (r : Int × Int) (F1 : ∀ W, Calls Tryz.prog 38 #[str x] W fun e w' => e = .returned (str fx) ∧ Below W.heap.size W w') (F2 : ∀ W, Calls Tryz.prog 38 #[str y] W fun e w' => e = .returned (str fy) ∧ Below W.heap.size W w') (hG : ∀ W, Calls Tryz.prog 17 #[str fx, str fy] W fun e w' => e = .returned (rat r) ∧ Below W.heap.size W w') (w : World) :
    Calls Tryz.prog 15 #[.int .i64 4, .int .i64 t, V 1 n x, V 1 n2 y] w fun e w' => e = .returned (.tuple #[rat r, .int .i64 0]) ∧ Below w.heap.size w w' := by
  have A : L2.Val3 (((w.alloc (.cells #[.int .i64 1, .int .i64 n, .string ⟨x.toArray⟩] 26)).alloc (.cells #[.int .i64 1, .int .i64 n2, .string ⟨y.toArray⟩] 26)).alloc (.cells #[.int .i64 0, .int .i64 0] 32)) w.heap.size 1 n x := ⟨by simp [go_sem], by simp [go_sem], by simp [go_sem]⟩
  have B : L2.Val3 (((w.alloc (.cells #[.int .i64 1, .int .i64 n, .string ⟨x.toArray⟩] 26)).alloc (.cells #[.int .i64 1, .int .i64 n2, .string ⟨y.toArray⟩] 26)).alloc (.cells #[.int .i64 0, .int .i64 0] 32)) (w.heap.size + 1) 1 n2 y := ⟨by simp [go_sem], by simp [go_sem], by simp [go_sem]⟩
  have R : Own2 (((w.alloc (.cells #[.int .i64 1, .int .i64 n, .string ⟨x.toArray⟩] 26)).alloc (.cells #[.int .i64 1, .int .i64 n2, .string ⟨y.toArray⟩] 26)).alloc (.cells #[.int .i64 0, .int .i64 0] 32)) (w.heap.size + 1 + 1) 0 0 := ⟨by simp [go_sem], by simp [go_sem], by simp [go_sem], by simp [go_sem]⟩
  have HB := Lib.hid (L2.boxes3 w (.cells #[.int .i64 1, .int .i64 n, .string ⟨x.toArray⟩] 26) (.cells #[.int .i64 1, .int .i64 n2, .string ⟨y.toArray⟩] 26) (.cells #[.int .i64 0, .int .i64 0] 32))
  have HVA := Lib.hid va
  clear va
  have HVB := Lib.hid vb
  clear vb
  have HG := Lib.hid hG
  clear hG
  have HF1 := Lib.hid F1
  have HF2 := Lib.hid F2
  clear F1 F2
  have a0 := A.c0
  have a1 := A.c1
  have a2 := A.c2
  go_enter Tryz.func15, Tryz.ntmps15
  go_wp2_with fail
  clear a0 a1 a2
  refine (L2.refvalid_any 1 n x _).mono ?_
  rw [HVA.out]
  rintro e w2 ⟨rfl, hb⟩
  have A2 := A.below hb
  have B2 := B.below hb
  have R2 := R.below hb
  have HB2 := Lib.hid (below_up HB.out hb HB.out.size)
  clear A B R hb
  have b0 := B2.c0
  have b1 := B2.c1
  have b2 := B2.c2
  go_wp2_with fail
  clear b0 b1 b2
  refine (L2.refvalid_any 1 n2 y _).mono ?_
  rw [HVB.out]
  rintro e w3 ⟨rfl, hb⟩
  have A3 := A2.below hb
  have B3 := B2.below hb
  have R3 := R2.below hb
  have HB3 := Lib.hid (below_up HB2.out hb HB2.out.size)
  clear A2 B2 R2 hb
  have a0 := A3.c0
  have a1 := A3.c1
  have a2 := A3.c2
  have b0 := B3.c0
  have b1 := B3.c1
  have b2 := B3.c2
  go_wp2_with fail
  clear a0 a1 a2 b0 b1 b2
  refine (HF1.out _).mono ?_
  rintro e w4 ⟨rfl, hb⟩
  have A4 := A3.below hb
  have B4 := B3.below hb
  have R4 := R3.below hb
  have HB4 := Lib.hid (below_up HB3.out hb HB3.out.size)
  clear A3 B3 R3 hb
  have a0 := A4.c0
  have a1 := A4.c1
  have a2 := A4.c2
  have b0 := B4.c0
  have b1 := B4.c1
  have b2 := B4.c2
  go_wp2_with fail
  clear a0 a1 a2 b0 b1 b2
  refine (HF2.out _).mono ?_
  rintro e w5 ⟨rfl, hb⟩
  have A5 := A4.below hb
  have B5 := B4.below hb
  have R5 := R4.below hb
  have HB5 := Lib.hid (below_up HB4.out hb HB4.out.size)
  clear A4 B4 R4 hb
  go_wp2_with fail
  refine (HG.out _).mono ?_
  rintro e w6 ⟨rfl, hb⟩
  have R6 := R5.below hb
  have HB6 := Lib.hid (below_up HB5.out hb HB5.out.size)
  clear A5 B5 R5 hb
  have r0 := R6.c0
  have r1 := R6.c1
  have f0 := R6.f0
  have f1 := R6.f1
  go_wp2_with fail
  refine bodyPost_ret (v := .tuple #[rat r, .int .i64 0]) (by simp [results, Tryz.results15, go_sem, r0, r1]) rfl ?_
  first | exact ⟨rfl, below_two HB6.out (by omega)⟩ | exact ⟨rfl, L2.boxes3 w _ _ _⟩ | exact ⟨rfl, below_two (HB6.out.alloc HB6.out.size _) (by omega)⟩

theorem of_ref (m t : Int) (k n : Int) (x : List UInt8) (k2 n2 : Int) (y : List UInt8) (w : World) :
    Calls Tryz.prog 15 #[.int .i64 m, .int .i64 t, V k n x, V k2 n2 y] w (OfPost (ofT m t k n x k2 n2 y) w) := by
  unfold ofT
  by_cases h1 : m < 1
  · rw [if_pos (Or.inl h1)]
    exact ofr_lo m t k n x k2 n2 y h1 w
  by_cases h2 : 5 < m
  · rw [if_pos (Or.inr h2)]
    exact ofr_hi m t k n x k2 n2 y h2 w
  rw [if_neg (by omega)]
  cases va : L2.vldB k n x
  · rw [if_pos (Or.inl rfl)]
    exact ofr_bada m t k n x k2 n2 y (by omega) (by omega) va w
  cases vb : L2.vldB k2 n2 y
  · rw [if_pos (Or.inr rfl)]
    exact ofr_badb m t k n x k2 n2 y (by omega) (by omega) va vb w
  rw [if_neg (by simp)]
  by_cases h5 : m = 5
  · subst h5
    by_cases t0 : t < 0
    · rw [if_pos ⟨rfl, by cases e : okTol t; rfl; rw [okTol_iff] at e; omega⟩]
      exact ofr_tlo t k n x k2 n2 y va vb t0 w
    by_cases t1 : 999999999 < t
    · rw [if_pos ⟨rfl, by cases e : okTol t; rfl; rw [okTol_iff] at e; omega⟩]
      exact ofr_thi t k n x k2 n2 y va vb t1 w
    rw [if_neg (fun e => by have h := okTol_iff.2 (show 0 ≤ t ∧ t ≤ 999999999 by omega); rw [h] at e; exact absurd e.2 (by decide))]
    by_cases hk : k = 0
    · rw [if_pos (Or.inl hk)]
      exact ofr_nulla_5 t k n x k2 n2 y va vb (by omega) (by omega) (beq_t hk) w
    by_cases hk2 : k2 = 0
    · rw [if_pos (Or.inr hk2)]
      exact ofr_nullb_5 t k n x k2 n2 y va vb (by omega) (by omega) (beq_f hk) (beq_t hk2) w
    rw [if_neg (by omega)]
    by_cases he : k = k2
    · subst he
      have hG := near_ref n n2 t (by have := vld_num va; omega) (by have := vld_num va; omega) (by have := vld_num vb; omega) (by have := vld_num vb; omega)
      by_cases e2 : k = 2
      · subst e2
        exact ofr_near_2 t n x n2 y va vb (by omega) (by omega) _ hG w
      by_cases e3 : k = 3
      · subst e3
        exact ofr_near_3 t n x n2 y va vb (by omega) (by omega) _ hG w
      have hc : cmpT 5 t k n x k n2 y = none := by
        unfold cmpT
        rw [if_neg (by decide), if_pos rfl, if_neg (by omega)]
      rw [hc]
      exact ofr_knum t k n x n2 y va vb (by omega) (by omega) (beq_f hk) (neq_f e2) (neq_f e3) w
    · have hc : cmpT 5 t k n x k2 n2 y = none := by
        unfold cmpT
        rw [if_neg (by decide), if_pos rfl, if_neg (by omega)]
      rw [hc]
      exact ofr_kne t k n x k2 n2 y va vb (by omega) (by omega) (beq_f hk) (beq_f hk2) (neq_f he) w
  rw [if_neg (by omega)]
  by_cases hk : k = 0
  · rw [if_pos (Or.inl hk)]
    exact ofr_nulla m t k n x k2 n2 y (by omega) (by omega) va vb (beq_f h5) (beq_t hk) w
  by_cases hk2 : k2 = 0
  · rw [if_pos (Or.inr hk2)]
    exact ofr_nullb m t k n x k2 n2 y (by omega) (by omega) va vb (beq_f h5) (beq_f hk) (beq_t hk2) w
  rw [if_neg (by omega)]
  by_cases hm1 : m = 1
  · subst hm1
    by_cases he : k = k2 ∧ n = n2 ∧ x = y
    · have hc : cmpT 1 t k n x k2 n2 y = some (1, 1) := by
        obtain ⟨rfl, rfl, rfl⟩ := he
        unfold cmpT eqT
        rw [if_pos rfl, if_pos (L2.cmpV_self _ _ _)]
      rw [hc]
      exact ofr_eq t k n x k2 n2 y va vb (beq_f hk) (beq_f hk2) (fun W => by rw [eql_val, decide_eq_true he]) w
    · have hc : cmpT 1 t k n x k2 n2 y = some (0, 1) := by
        unfold cmpT eqT
        rw [if_pos rfl, if_neg (fun e => he (L2.cmpV_zero e))]
      rw [hc]
      exact ofr_ne t k n x k2 n2 y va vb (beq_f hk) (beq_f hk2) (fun W => by rw [eql_val, decide_eq_false he]) w
  by_cases e1 : k = 1
  · subst e1
    by_cases e2 : k2 = 1
    · subst e2
      have lx := vld_len va
      have ly := vld_len vb
      have fx : (L3.foldT x).length ≤ 1000 := Nat.le_trans (L3.foldT_len x) lx
      have fy : (L3.foldT y).length ≤ 1000 := Nat.le_trans (L3.foldT_len y) ly
      rcases (by omega : m = 2 ∨ m = 3 ∨ m = 4) with rfl | rfl | rfl
      · exact ofr_alike t n x n2 y va vb (L3.foldT x) (L3.foldT y) _ (L3.fold_ref x (by omega)) (L3.fold_ref y (by omega)) (alike_ref _ _ fx fy) w
      · exact ofr_jac t n x n2 y va vb lx ly w
      · exact ofr_jaro t n x n2 y va vb (L3.foldT x) (L3.foldT y) _ (L3.fold_ref x (by omega)) (L3.fold_ref y (by omega)) (jaro_ref _ _) w
    · have hc : cmpT m t 1 n x k2 n2 y = none := by
        unfold cmpT
        rw [if_neg hm1, if_neg h5, if_neg (fun e => e2 e.2)]
      rw [hc]
      exact ofr_ntb m t n x k2 n2 y (by omega) (by omega) va vb (beq_f h5) (beq_f hm1) (beq_f hk2) (neq_f e2) w
  · have hc : cmpT m t k n x k2 n2 y = none := by
      unfold cmpT
      rw [if_neg hm1, if_neg h5, if_neg (fun e => e1 e.1)]
    rw [hc]
    exact ofr_nta m t k n x k2 n2 y (by omega) (by omega) va vb (beq_f h5) (beq_f hm1) (beq_f hk) (beq_f hk2) (neq_f e1) w
end Go.Proofs.YtendkghifcjffaaGreatDoor
