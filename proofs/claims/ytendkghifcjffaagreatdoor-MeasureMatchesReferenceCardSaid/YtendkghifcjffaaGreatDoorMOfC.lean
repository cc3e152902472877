/- Of, for a measure whose element of the table is known: every way through. -/
import Derived.Test.YtendkghifcjffaaGreatDoorMOfB
namespace Go.Proofs.YtendkghifcjffaaGreatDoor
open Go.RowKit

/-- Block b holds an element of the table. -/
structure Cho (w : World) (b f g : Nat) (cap : Array Value) : Prop where
  c0 : w.cell? ⟨b, 0, none⟩ = some (fnv f)
  c1 : w.cell? ⟨b, 1, none⟩ = some (.func (Fn.func g) #[] cap)
theorem Cho.below {w w1 : World} {b f g : Nat} {cap : Array Value} (h : Cho w b f g cap) (hb : Below w.heap.size w w1) : Cho w1 b f g cap := ⟨cellB hb h.c0, cellB hb h.c1⟩
theorem cho_new (w : World) (f g : Nat) (cap : Array Value) (T : TypeId) : Cho (w.alloc (.cells #[fnv f, .func (Fn.func g) #[] cap] T)) w.heap.size f g cap := ⟨by simp [go_sem], by simp [go_sem]⟩
/-- What methods gives: at a measure, an element of the table. -/
abbrev Gives (m t : Int) (f g : Nat) (cap : Nat → Array Value) : Prop :=
  ∀ W, Calls Tryz.prog 33 #[.int .i64 t] W fun e w' => ∃ b, e = .returned (.map (some b)) ∧ (Instr.lookup 59 (.map (some b)) (.int .i64 m) true).run Tryz.prog w' = .ok (.tuple #[.agg #[fnv f, .func (Fn.func g) #[] (cap W.heap.size)], .bool true]) w' ∧ w'.cell? ⟨W.heap.size, 0, none⟩ = some (.int .i64 t) ∧ Below W.heap.size W w'

set_option maxRecDepth 100000 in
set_option maxHeartbeats 800000 in
theorem of_bada (m t : Int) (k n : Int) (x : List UInt8) (k2 n2 : Int) (y : List UInt8) (f g : Nat) (cap : Nat → Array Value) (hL : Gives m t f g cap) (va : L2.vldB k n x = false) (w : World) :
    Calls Tryz.prog 14 #[.int .i64 m, .int .i64 t, V k n x, V k2 n2 y] w fun e w' => e = .returned (.tuple #[rat (0, 0), .int .i64 1]) ∧ Below w.heap.size w w' := by
  have HVA := Lib.hid va
  clear va
  go_enter Tryz.func14, Tryz.ntmps14
  go_wp2_with fail
  refine (hL _).mono ?_
  rintro e w1 ⟨b, rfl, hr, hc, hb⟩
  have A : L2.Val3 w1 w.heap.size k n x := L2.Val3.below ⟨by simp [go_sem], by simp [go_sem], by simp [go_sem]⟩ hb
  have B : L2.Val3 w1 (w.heap.size + 1) k2 n2 y := L2.Val3.below ⟨by simp [go_sem], by simp [go_sem], by simp [go_sem]⟩ hb
  have R : Own2 w1 (w.heap.size + 1 + 1) 0 0 := Own2.below ⟨by simp [go_sem], by simp [go_sem], by simp [go_sem], by simp [go_sem]⟩ hb
  have HB := Lib.hid (below_up (L2.boxes3 w _ _ _) hb (by simp <;> omega))
  obtain ⟨cb, hcb⟩ : ∃ cb, w.heap.size + 1 + 1 + 1 = cb := ⟨_, rfl⟩
  simp only [World.size_alloc, hcb] at hc hr
  obtain ⟨cp, hcp⟩ : ∃ cp, cap cb = cp := ⟨_, rfl⟩
  rw [hcp] at hr
  have HCP := Lib.hid hcp
  have HC := Lib.hid hc
  clear hb hc hcp hcb
  have a0 := fun o => (A.alloc o).c0
  have a1 := fun o => (A.alloc o).c1
  have a2 := fun o => (A.alloc o).c2
  go_wp2_with fail
  clear a0 a1 a2
  refine (L2.valid_any k n x _).mono ?_
  rw [HVA.out]
  rintro e w2 ⟨rfl, hb⟩
  have A2 := (A.alloc _).below hb
  have B2 := (B.alloc _).below hb
  have R2 := (R.alloc _).below hb
  have C2 := (cho_new w1 f g cp _).below hb
  have HC2 := Lib.hid (cellB hb (cellB (below_box w1 _) HC.out))
  have HB2 := Lib.hid (below_up (HB.out.alloc HB.out.size _) hb (by have := HB.out.size; simp <;> omega))
  clear A B R hb hr
  obtain ⟨ch, hch⟩ : ∃ ch, w1.heap.size = ch := ⟨_, rfl⟩
  rw [hch] at C2 ⊢
  clear hch
  have r0 := R2.c0
  have r1 := R2.c1
  have f0 := R2.f0
  have f1 := R2.f1
  go_wp2_with fail
  refine bodyPost_ret (v := .tuple #[rat (0, 0), .int .i64 1]) (by simp [results, Tryz.results14, go_sem, r0, r1]) rfl ?_
  exact ⟨rfl, below_two HB2.out (by omega)⟩

set_option maxRecDepth 100000 in
set_option maxHeartbeats 800000 in
theorem of_badb (m t : Int) (k n : Int) (x : List UInt8) (k2 n2 : Int) (y : List UInt8) (f g : Nat) (cap : Nat → Array Value) (hL : Gives m t f g cap) (va : L2.vldB k n x = true) (vb : L2.vldB k2 n2 y = false) (w : World) :
    Calls Tryz.prog 14 #[.int .i64 m, .int .i64 t, V k n x, V k2 n2 y] w fun e w' => e = .returned (.tuple #[rat (0, 0), .int .i64 1]) ∧ Below w.heap.size w w' := by
  have HVA := Lib.hid va
  clear va
  have HVB := Lib.hid vb
  clear vb
  go_enter Tryz.func14, Tryz.ntmps14
  go_wp2_with fail
  refine (hL _).mono ?_
  rintro e w1 ⟨b, rfl, hr, hc, hb⟩
  have A : L2.Val3 w1 w.heap.size k n x := L2.Val3.below ⟨by simp [go_sem], by simp [go_sem], by simp [go_sem]⟩ hb
  have B : L2.Val3 w1 (w.heap.size + 1) k2 n2 y := L2.Val3.below ⟨by simp [go_sem], by simp [go_sem], by simp [go_sem]⟩ hb
  have R : Own2 w1 (w.heap.size + 1 + 1) 0 0 := Own2.below ⟨by simp [go_sem], by simp [go_sem], by simp [go_sem], by simp [go_sem]⟩ hb
  have HB := Lib.hid (below_up (L2.boxes3 w _ _ _) hb (by simp <;> omega))
  obtain ⟨cb, hcb⟩ : ∃ cb, w.heap.size + 1 + 1 + 1 = cb := ⟨_, rfl⟩
  simp only [World.size_alloc, hcb] at hc hr
  obtain ⟨cp, hcp⟩ : ∃ cp, cap cb = cp := ⟨_, rfl⟩
  rw [hcp] at hr
  have HCP := Lib.hid hcp
  have HC := Lib.hid hc
  clear hb hc hcp hcb
  have a0 := fun o => (A.alloc o).c0
  have a1 := fun o => (A.alloc o).c1
  have a2 := fun o => (A.alloc o).c2
  go_wp2_with fail
  clear a0 a1 a2
  refine (L2.valid_any k n x _).mono ?_
  rw [HVA.out]
  rintro e w2 ⟨rfl, hb⟩
  have A2 := (A.alloc _).below hb
  have B2 := (B.alloc _).below hb
  have R2 := (R.alloc _).below hb
  have C2 := (cho_new w1 f g cp _).below hb
  have HC2 := Lib.hid (cellB hb (cellB (below_box w1 _) HC.out))
  have HB2 := Lib.hid (below_up (HB.out.alloc HB.out.size _) hb (by have := HB.out.size; simp <;> omega))
  clear A B R hb hr
  obtain ⟨ch, hch⟩ : ∃ ch, w1.heap.size = ch := ⟨_, rfl⟩
  rw [hch] at C2 ⊢
  clear hch
  have b0 := B2.c0
  have b1 := B2.c1
  have b2 := B2.c2
  go_wp2_with fail
  clear b0 b1 b2
  refine (L2.valid_any k2 n2 y _).mono ?_
  rw [HVB.out]
  rintro e w3 ⟨rfl, hb⟩
  have A3 := A2.below hb
  have B3 := B2.below hb
  have R3 := R2.below hb
  have C3 := C2.below hb
  have HC3 := Lib.hid (cellB hb HC2.out)
  have HB3 := Lib.hid (below_up HB2.out hb HB2.out.size)
  clear A2 B2 R2 C2 hb
  have r0 := R3.c0
  have r1 := R3.c1
  have f0 := R3.f0
  have f1 := R3.f1
  go_wp2_with fail
  refine bodyPost_ret (v := .tuple #[rat (0, 0), .int .i64 1]) (by simp [results, Tryz.results14, go_sem, r0, r1]) rfl ?_
  exact ⟨rfl, below_two HB3.out (by omega)⟩

set_option maxRecDepth 100000 in
set_option maxHeartbeats 800000 in
theorem of_nulla (m t : Int) (k n : Int) (x : List UInt8) (k2 n2 : Int) (y : List UInt8) (f g : Nat) (cap : Nat → Array Value) (hL : Gives m t f g cap) (hm : (m == 5) = false) (va : L2.vldB k n x = true) (vb : L2.vldB k2 n2 y = true) (hk : (k == 0) = true) (w : World) :
    Calls Tryz.prog 14 #[.int .i64 m, .int .i64 t, V k n x, V k2 n2 y] w fun e w' => e = .returned (.tuple #[rat (0, 1), .int .i64 0]) ∧ Below w.heap.size w w' := by
  have HVA := Lib.hid va
  clear va
  have HVB := Lib.hid vb
  clear vb
  go_enter Tryz.func14, Tryz.ntmps14
  go_wp2_with fail
  refine (hL _).mono ?_
  rintro e w1 ⟨b, rfl, hr, hc, hb⟩
  have A : L2.Val3 w1 w.heap.size k n x := L2.Val3.below ⟨by simp [go_sem], by simp [go_sem], by simp [go_sem]⟩ hb
  have B : L2.Val3 w1 (w.heap.size + 1) k2 n2 y := L2.Val3.below ⟨by simp [go_sem], by simp [go_sem], by simp [go_sem]⟩ hb
  have R : Own2 w1 (w.heap.size + 1 + 1) 0 0 := Own2.below ⟨by simp [go_sem], by simp [go_sem], by simp [go_sem], by simp [go_sem]⟩ hb
  have HB := Lib.hid (below_up (L2.boxes3 w _ _ _) hb (by simp <;> omega))
  obtain ⟨cb, hcb⟩ : ∃ cb, w.heap.size + 1 + 1 + 1 = cb := ⟨_, rfl⟩
  simp only [World.size_alloc, hcb] at hc hr
  obtain ⟨cp, hcp⟩ : ∃ cp, cap cb = cp := ⟨_, rfl⟩
  rw [hcp] at hr
  have HCP := Lib.hid hcp
  have HC := Lib.hid hc
  clear hb hc hcp hcb
  have a0 := fun o => (A.alloc o).c0
  have a1 := fun o => (A.alloc o).c1
  have a2 := fun o => (A.alloc o).c2
  go_wp2_with fail
  clear a0 a1 a2
  refine (L2.valid_any k n x _).mono ?_
  rw [HVA.out]
  rintro e w2 ⟨rfl, hb⟩
  have A2 := (A.alloc _).below hb
  have B2 := (B.alloc _).below hb
  have R2 := (R.alloc _).below hb
  have C2 := (cho_new w1 f g cp _).below hb
  have HC2 := Lib.hid (cellB hb (cellB (below_box w1 _) HC.out))
  have HB2 := Lib.hid (below_up (HB.out.alloc HB.out.size _) hb (by have := HB.out.size; simp <;> omega))
  clear A B R hb hr
  obtain ⟨ch, hch⟩ : ∃ ch, w1.heap.size = ch := ⟨_, rfl⟩
  rw [hch] at C2 ⊢
  clear hch
  have b0 := B2.c0
  have b1 := B2.c1
  have b2 := B2.c2
  go_wp2_with fail
  clear b0 b1 b2
  refine (L2.valid_any k2 n2 y _).mono ?_
  rw [HVB.out]
  rintro e w3 ⟨rfl, hb⟩
  have A3 := A2.below hb
  have B3 := B2.below hb
  have R3 := R2.below hb
  have C3 := C2.below hb
  have HC3 := Lib.hid (cellB hb HC2.out)
  have HB3 := Lib.hid (below_up HB2.out hb HB2.out.size)
  clear A2 B2 R2 C2 hb
  have a0 := A3.c0
  have b0 := B3.c0
  go_wp2_with fail
  refine (share_any 0 1 (by decide) (by decide) (by decide) (by decide) _).mono ?_
  rw [shr_01]
  rintro e w5 ⟨rfl, hb⟩
  have R5 := R3.below hb
  have HB5 := Lib.hid (below_up HB3.out hb HB3.out.size)
  clear hb a0 b0
  have r0 := R5.c0
  have r1 := R5.c1
  have f0 := R5.f0
  have f1 := R5.f1
  go_wp2_with fail
  refine bodyPost_ret (v := .tuple #[rat (0, 1), .int .i64 0]) (by simp [results, Tryz.results14, go_sem, r0, r1]) rfl ?_
  exact ⟨rfl, below_two HB5.out (by omega)⟩

set_option maxRecDepth 100000 in
set_option maxHeartbeats 800000 in
theorem of_nullb (m t : Int) (k n : Int) (x : List UInt8) (k2 n2 : Int) (y : List UInt8) (f g : Nat) (cap : Nat → Array Value) (hL : Gives m t f g cap) (hm : (m == 5) = false) (va : L2.vldB k n x = true) (vb : L2.vldB k2 n2 y = true) (hk : (k == 0) = false) (hk2 : (k2 == 0) = true) (w : World) :
    Calls Tryz.prog 14 #[.int .i64 m, .int .i64 t, V k n x, V k2 n2 y] w fun e w' => e = .returned (.tuple #[rat (0, 1), .int .i64 0]) ∧ Below w.heap.size w w' := by
  have HVA := Lib.hid va
  clear va
  have HVB := Lib.hid vb
  clear vb
  go_enter Tryz.func14, Tryz.ntmps14
  go_wp2_with fail
  refine (hL _).mono ?_
  rintro e w1 ⟨b, rfl, hr, hc, hb⟩
  have A : L2.Val3 w1 w.heap.size k n x := L2.Val3.below ⟨by simp [go_sem], by simp [go_sem], by simp [go_sem]⟩ hb
  have B : L2.Val3 w1 (w.heap.size + 1) k2 n2 y := L2.Val3.below ⟨by simp [go_sem], by simp [go_sem], by simp [go_sem]⟩ hb
  have R : Own2 w1 (w.heap.size + 1 + 1) 0 0 := Own2.below ⟨by simp [go_sem], by simp [go_sem], by simp [go_sem], by simp [go_sem]⟩ hb
  have HB := Lib.hid (below_up (L2.boxes3 w _ _ _) hb (by simp <;> omega))
  obtain ⟨cb, hcb⟩ : ∃ cb, w.heap.size + 1 + 1 + 1 = cb := ⟨_, rfl⟩
  simp only [World.size_alloc, hcb] at hc hr
  obtain ⟨cp, hcp⟩ : ∃ cp, cap cb = cp := ⟨_, rfl⟩
  rw [hcp] at hr
  have HCP := Lib.hid hcp
  have HC := Lib.hid hc
  clear hb hc hcp hcb
  have a0 := fun o => (A.alloc o).c0
  have a1 := fun o => (A.alloc o).c1
  have a2 := fun o => (A.alloc o).c2
  go_wp2_with fail
  clear a0 a1 a2
  refine (L2.valid_any k n x _).mono ?_
  rw [HVA.out]
  rintro e w2 ⟨rfl, hb⟩
  have A2 := (A.alloc _).below hb
  have B2 := (B.alloc _).below hb
  have R2 := (R.alloc _).below hb
  have C2 := (cho_new w1 f g cp _).below hb
  have HC2 := Lib.hid (cellB hb (cellB (below_box w1 _) HC.out))
  have HB2 := Lib.hid (below_up (HB.out.alloc HB.out.size _) hb (by have := HB.out.size; simp <;> omega))
  clear A B R hb hr
  obtain ⟨ch, hch⟩ : ∃ ch, w1.heap.size = ch := ⟨_, rfl⟩
  rw [hch] at C2 ⊢
  clear hch
  have b0 := B2.c0
  have b1 := B2.c1
  have b2 := B2.c2
  go_wp2_with fail
  clear b0 b1 b2
  refine (L2.valid_any k2 n2 y _).mono ?_
  rw [HVB.out]
  rintro e w3 ⟨rfl, hb⟩
  have A3 := A2.below hb
  have B3 := B2.below hb
  have R3 := R2.below hb
  have C3 := C2.below hb
  have HC3 := Lib.hid (cellB hb HC2.out)
  have HB3 := Lib.hid (below_up HB2.out hb HB2.out.size)
  clear A2 B2 R2 C2 hb
  have a0 := A3.c0
  have b0 := B3.c0
  go_wp2_with fail
  refine (share_any 0 1 (by decide) (by decide) (by decide) (by decide) _).mono ?_
  rw [shr_01]
  rintro e w5 ⟨rfl, hb⟩
  have R5 := R3.below hb
  have HB5 := Lib.hid (below_up HB3.out hb HB3.out.size)
  clear hb a0 b0
  have r0 := R5.c0
  have r1 := R5.c1
  have f0 := R5.f0
  have f1 := R5.f1
  go_wp2_with fail
  refine bodyPost_ret (v := .tuple #[rat (0, 1), .int .i64 0]) (by simp [results, Tryz.results14, go_sem, r0, r1]) rfl ?_
  exact ⟨rfl, below_two HB5.out (by omega)⟩

set_option maxRecDepth 100000 in
set_option maxHeartbeats 800000 in
theorem of_no (m t : Int) (k n : Int) (x : List UInt8) (k2 n2 : Int) (y : List UInt8) (f g : Nat) (cap : Nat → Array Value) (hL : Gives m t f g cap) (hm : (m == 5) = false) (va : L2.vldB k n x = true) (vb : L2.vldB k2 n2 y = true) (hk : (k == 0) = false) (hk2 : (k2 == 0) = false) (ef : ∀ args w, (callFunc f args).run Tryz.prog w = .ok (.enter f args) w) (hT : ∀ W, Calls Tryz.prog f #[.int .i64 k, .int .i64 k2] W fun e w' => e = .returned (.bool false) ∧ Below W.heap.size W w') (w : World) :
    Calls Tryz.prog 14 #[.int .i64 m, .int .i64 t, V k n x, V k2 n2 y] w fun e w' => e = .returned (.tuple #[rat (0, 0), .int .i64 10]) ∧ Below w.heap.size w w' := by
  have HT := Lib.hid hT
  clear hT
  have HVA := Lib.hid va
  clear va
  have HVB := Lib.hid vb
  clear vb
  go_enter Tryz.func14, Tryz.ntmps14
  go_wp2_with fail
  refine (hL _).mono ?_
  rintro e w1 ⟨b, rfl, hr, hc, hb⟩
  have A : L2.Val3 w1 w.heap.size k n x := L2.Val3.below ⟨by simp [go_sem], by simp [go_sem], by simp [go_sem]⟩ hb
  have B : L2.Val3 w1 (w.heap.size + 1) k2 n2 y := L2.Val3.below ⟨by simp [go_sem], by simp [go_sem], by simp [go_sem]⟩ hb
  have R : Own2 w1 (w.heap.size + 1 + 1) 0 0 := Own2.below ⟨by simp [go_sem], by simp [go_sem], by simp [go_sem], by simp [go_sem]⟩ hb
  have HB := Lib.hid (below_up (L2.boxes3 w _ _ _) hb (by simp <;> omega))
  obtain ⟨cb, hcb⟩ : ∃ cb, w.heap.size + 1 + 1 + 1 = cb := ⟨_, rfl⟩
  simp only [World.size_alloc, hcb] at hc hr
  obtain ⟨cp, hcp⟩ : ∃ cp, cap cb = cp := ⟨_, rfl⟩
  rw [hcp] at hr
  have HCP := Lib.hid hcp
  have HC := Lib.hid hc
  clear hb hc hcp hcb
  have a0 := fun o => (A.alloc o).c0
  have a1 := fun o => (A.alloc o).c1
  have a2 := fun o => (A.alloc o).c2
  go_wp2_with fail
  clear a0 a1 a2
  refine (L2.valid_any k n x _).mono ?_
  rw [HVA.out]
  rintro e w2 ⟨rfl, hb⟩
  have A2 := (A.alloc _).below hb
  have B2 := (B.alloc _).below hb
  have R2 := (R.alloc _).below hb
  have C2 := (cho_new w1 f g cp _).below hb
  have HC2 := Lib.hid (cellB hb (cellB (below_box w1 _) HC.out))
  have HB2 := Lib.hid (below_up (HB.out.alloc HB.out.size _) hb (by have := HB.out.size; simp <;> omega))
  clear A B R hb hr
  obtain ⟨ch, hch⟩ : ∃ ch, w1.heap.size = ch := ⟨_, rfl⟩
  rw [hch] at C2 ⊢
  clear hch
  have b0 := B2.c0
  have b1 := B2.c1
  have b2 := B2.c2
  go_wp2_with fail
  clear b0 b1 b2
  refine (L2.valid_any k2 n2 y _).mono ?_
  rw [HVB.out]
  rintro e w3 ⟨rfl, hb⟩
  have A3 := A2.below hb
  have B3 := B2.below hb
  have R3 := R2.below hb
  have C3 := C2.below hb
  have HC3 := Lib.hid (cellB hb HC2.out)
  have HB3 := Lib.hid (below_up HB2.out hb HB2.out.size)
  clear A2 B2 R2 C2 hb
  have a0 := A3.c0
  have b0 := B3.c0
  have q0 := C3.c0
  have q1 := C3.c1
  go_wp2_with fail
  refine (HT.out _).mono ?_
  rintro e w5 ⟨rfl, hb⟩
  have A5 := A3.below hb
  have B5 := B3.below hb
  have R5 := R3.below hb
  have C5 := C3.below hb
  have HC5 := Lib.hid (cellB hb HC3.out)
  have HB5 := Lib.hid (below_up HB3.out hb HB3.out.size)
  clear hb a0 b0 q0 q1
  have r0 := R5.c0
  have r1 := R5.c1
  have f0 := R5.f0
  have f1 := R5.f1
  go_wp2_with fail
  refine bodyPost_ret (v := .tuple #[rat (0, 0), .int .i64 10]) (by simp [results, Tryz.results14, go_sem, r0, r1]) rfl ?_
  exact ⟨rfl, below_two HB5.out (by omega)⟩

set_option maxRecDepth 100000 in
set_option maxHeartbeats 800000 in
theorem of_yes (m t : Int) (k n : Int) (x : List UInt8) (k2 n2 : Int) (y : List UInt8) (f g : Nat) (cap : Nat → Array Value) (hL : Gives m t f g cap) (hm : (m == 5) = false) (va : L2.vldB k n x = true) (vb : L2.vldB k2 n2 y = true) (hk : (k == 0) = false) (hk2 : (k2 == 0) = false) (ef : ∀ args w, (callFunc f args).run Tryz.prog w = .ok (.enter f args) w) (hT : ∀ W, Calls Tryz.prog f #[.int .i64 k, .int .i64 k2] W fun e w' => e = .returned (.bool true) ∧ Below W.heap.size W w') (eg : ∀ args w, (callFunc g args).run Tryz.prog w = .ok (.enter g args) w) (r : Int × Int) (hG : ∀ (b : Nat) (W : World), W.cell? ⟨b, 0, none⟩ = some (.int .i64 t) → Calls Tryz.prog g (#[V k n x, V k2 n2 y] ++ cap b) W fun e w' => e = .returned (rat r) ∧ Below W.heap.size W w') (w : World) :
    Calls Tryz.prog 14 #[.int .i64 m, .int .i64 t, V k n x, V k2 n2 y] w fun e w' => e = .returned (.tuple #[rat r, .int .i64 0]) ∧ Below w.heap.size w w' := by
  have HT := Lib.hid hT
  clear hT
  have HG := Lib.hid hG
  clear hG
  have HVA := Lib.hid va
  clear va
  have HVB := Lib.hid vb
  clear vb
  go_enter Tryz.func14, Tryz.ntmps14
  go_wp2_with fail
  refine (hL _).mono ?_
  rintro e w1 ⟨b, rfl, hr, hc, hb⟩
  have A : L2.Val3 w1 w.heap.size k n x := L2.Val3.below ⟨by simp [go_sem], by simp [go_sem], by simp [go_sem]⟩ hb
  have B : L2.Val3 w1 (w.heap.size + 1) k2 n2 y := L2.Val3.below ⟨by simp [go_sem], by simp [go_sem], by simp [go_sem]⟩ hb
  have R : Own2 w1 (w.heap.size + 1 + 1) 0 0 := Own2.below ⟨by simp [go_sem], by simp [go_sem], by simp [go_sem], by simp [go_sem]⟩ hb
  have HB := Lib.hid (below_up (L2.boxes3 w _ _ _) hb (by simp <;> omega))
  obtain ⟨cb, hcb⟩ : ∃ cb, w.heap.size + 1 + 1 + 1 = cb := ⟨_, rfl⟩
  simp only [World.size_alloc, hcb] at hc hr
  obtain ⟨cp, hcp⟩ : ∃ cp, cap cb = cp := ⟨_, rfl⟩
  rw [hcp] at hr
  have HCP := Lib.hid hcp
  have HC := Lib.hid hc
  clear hb hc hcp hcb
  have a0 := fun o => (A.alloc o).c0
  have a1 := fun o => (A.alloc o).c1
  have a2 := fun o => (A.alloc o).c2
  go_wp2_with fail
  clear a0 a1 a2
  refine (L2.valid_any k n x _).mono ?_
  rw [HVA.out]
  rintro e w2 ⟨rfl, hb⟩
  have A2 := (A.alloc _).below hb
  have B2 := (B.alloc _).below hb
  have R2 := (R.alloc _).below hb
  have C2 := (cho_new w1 f g cp _).below hb
  have HC2 := Lib.hid (cellB hb (cellB (below_box w1 _) HC.out))
  have HB2 := Lib.hid (below_up (HB.out.alloc HB.out.size _) hb (by have := HB.out.size; simp <;> omega))
  clear A B R hb hr
  obtain ⟨ch, hch⟩ : ∃ ch, w1.heap.size = ch := ⟨_, rfl⟩
  rw [hch] at C2 ⊢
  clear hch
  have b0 := B2.c0
  have b1 := B2.c1
  have b2 := B2.c2
  go_wp2_with fail
  clear b0 b1 b2
  refine (L2.valid_any k2 n2 y _).mono ?_
  rw [HVB.out]
  rintro e w3 ⟨rfl, hb⟩
  have A3 := A2.below hb
  have B3 := B2.below hb
  have R3 := R2.below hb
  have C3 := C2.below hb
  have HC3 := Lib.hid (cellB hb HC2.out)
  have HB3 := Lib.hid (below_up HB2.out hb HB2.out.size)
  clear A2 B2 R2 C2 hb
  have a0 := A3.c0
  have b0 := B3.c0
  have q0 := C3.c0
  have q1 := C3.c1
  go_wp2_with fail
  refine (HT.out _).mono ?_
  rintro e w5 ⟨rfl, hb⟩
  have A5 := A3.below hb
  have B5 := B3.below hb
  have R5 := R3.below hb
  have C5 := C3.below hb
  have HC5 := Lib.hid (cellB hb HC3.out)
  have HB5 := Lib.hid (below_up HB3.out hb HB3.out.size)
  clear hb a0 b0 q0 q1
  have a0 := A5.c0
  have a1 := A5.c1
  have a2 := A5.c2
  have b0 := B5.c0
  have b1 := B5.c1
  have b2 := B5.c2
  have q0 := C5.c0
  have q1 := C5.c1
  have HG5 := Lib.hid (HG.out cb w5 HC5.out)
  rw [HCP.out] at HG5
  go_wp2_with fail
  refine HG5.out.mono ?_
  rintro e w6 ⟨rfl, hb⟩
  have R6 := R5.below hb
  have HB6 := Lib.hid (below_up HB5.out hb HB5.out.size)
  clear hb a0 a1 a2 b0 b1 b2 q0 q1
  have r0 := R6.c0
  have r1 := R6.c1
  have f0 := R6.f0
  have f1 := R6.f1
  go_wp2_with fail
  refine bodyPost_ret (v := .tuple #[rat r, .int .i64 0]) (by simp [results, Tryz.results14, go_sem, r0, r1]) rfl ?_
  exact ⟨rfl, below_two HB6.out (by omega)⟩

set_option maxRecDepth 100000 in
set_option maxHeartbeats 800000 in
theorem of_badt5 (t : Int) (k n : Int) (x : List UInt8) (k2 n2 : Int) (y : List UInt8) (f g : Nat) (cap : Nat → Array Value) (hL : Gives 5 t f g cap) (va : L2.vldB k n x = true) (vb : L2.vldB k2 n2 y = true) (vt : okTol t = false) (w : World) :
    Calls Tryz.prog 14 #[.int .i64 5, .int .i64 t, V k n x, V k2 n2 y] w fun e w' => e = .returned (.tuple #[rat (0, 0), .int .i64 1]) ∧ Below w.heap.size w w' := by
  have HO := Lib.hid vt
  clear vt
  have HVA := Lib.hid va
  clear va
  have HVB := Lib.hid vb
  clear vb
  go_enter Tryz.func14, Tryz.ntmps14
  go_wp2_with fail
  refine (hL _).mono ?_
  rintro e w1 ⟨b, rfl, hr, hc, hb⟩
  have A : L2.Val3 w1 w.heap.size k n x := L2.Val3.below ⟨by simp [go_sem], by simp [go_sem], by simp [go_sem]⟩ hb
  have B : L2.Val3 w1 (w.heap.size + 1) k2 n2 y := L2.Val3.below ⟨by simp [go_sem], by simp [go_sem], by simp [go_sem]⟩ hb
  have R : Own2 w1 (w.heap.size + 1 + 1) 0 0 := Own2.below ⟨by simp [go_sem], by simp [go_sem], by simp [go_sem], by simp [go_sem]⟩ hb
  have HB := Lib.hid (below_up (L2.boxes3 w _ _ _) hb (by simp <;> omega))
  obtain ⟨cb, hcb⟩ : ∃ cb, w.heap.size + 1 + 1 + 1 = cb := ⟨_, rfl⟩
  simp only [World.size_alloc, hcb] at hc hr
  obtain ⟨cp, hcp⟩ : ∃ cp, cap cb = cp := ⟨_, rfl⟩
  rw [hcp] at hr
  have HCP := Lib.hid hcp
  have HC := Lib.hid hc
  clear hb hc hcp hcb
  have a0 := fun o => (A.alloc o).c0
  have a1 := fun o => (A.alloc o).c1
  have a2 := fun o => (A.alloc o).c2
  go_wp2_with fail
  clear a0 a1 a2
  refine (L2.valid_any k n x _).mono ?_
  rw [HVA.out]
  rintro e w2 ⟨rfl, hb⟩
  have A2 := (A.alloc _).below hb
  have B2 := (B.alloc _).below hb
  have R2 := (R.alloc _).below hb
  have C2 := (cho_new w1 f g cp _).below hb
  have HC2 := Lib.hid (cellB hb (cellB (below_box w1 _) HC.out))
  have HB2 := Lib.hid (below_up (HB.out.alloc HB.out.size _) hb (by have := HB.out.size; simp <;> omega))
  clear A B R hb hr
  obtain ⟨ch, hch⟩ : ∃ ch, w1.heap.size = ch := ⟨_, rfl⟩
  rw [hch] at C2 ⊢
  clear hch
  have b0 := B2.c0
  have b1 := B2.c1
  have b2 := B2.c2
  go_wp2_with fail
  clear b0 b1 b2
  refine (L2.valid_any k2 n2 y _).mono ?_
  rw [HVB.out]
  rintro e w3 ⟨rfl, hb⟩
  have A3 := A2.below hb
  have B3 := B2.below hb
  have R3 := R2.below hb
  have C3 := C2.below hb
  have HC3 := Lib.hid (cellB hb HC2.out)
  have HB3 := Lib.hid (below_up HB2.out hb HB2.out.size)
  clear A2 B2 R2 C2 hb
  go_wp2_with fail
  refine (okTol_any t _).mono ?_
  rw [HO.out]
  rintro e w4 ⟨rfl, hb⟩
  have A4 := A3.below hb
  have B4 := B3.below hb
  have R4 := R3.below hb
  have C4 := C3.below hb
  have HC4 := Lib.hid (cellB hb HC3.out)
  have HB4 := Lib.hid (below_up HB3.out hb HB3.out.size)
  clear A3 B3 R3 C3 hb
  have r0 := R4.c0
  have r1 := R4.c1
  have f0 := R4.f0
  have f1 := R4.f1
  go_wp2_with fail
  refine bodyPost_ret (v := .tuple #[rat (0, 0), .int .i64 1]) (by simp [results, Tryz.results14, go_sem, r0, r1]) rfl ?_
  exact ⟨rfl, below_two HB4.out (by omega)⟩

set_option maxRecDepth 100000 in
set_option maxHeartbeats 800000 in
theorem of_nulla5 (t : Int) (k n : Int) (x : List UInt8) (k2 n2 : Int) (y : List UInt8) (f g : Nat) (cap : Nat → Array Value) (hL : Gives 5 t f g cap) (va : L2.vldB k n x = true) (vb : L2.vldB k2 n2 y = true) (vt : okTol t = true) (hk : (k == 0) = true) (w : World) :
    Calls Tryz.prog 14 #[.int .i64 5, .int .i64 t, V k n x, V k2 n2 y] w fun e w' => e = .returned (.tuple #[rat (0, 1), .int .i64 0]) ∧ Below w.heap.size w w' := by
  have HO := Lib.hid vt
  clear vt
  have HVA := Lib.hid va
  clear va
  have HVB := Lib.hid vb
  clear vb
  go_enter Tryz.func14, Tryz.ntmps14
  go_wp2_with fail
  refine (hL _).mono ?_
  rintro e w1 ⟨b, rfl, hr, hc, hb⟩
  have A : L2.Val3 w1 w.heap.size k n x := L2.Val3.below ⟨by simp [go_sem], by simp [go_sem], by simp [go_sem]⟩ hb
  have B : L2.Val3 w1 (w.heap.size + 1) k2 n2 y := L2.Val3.below ⟨by simp [go_sem], by simp [go_sem], by simp [go_sem]⟩ hb
  have R : Own2 w1 (w.heap.size + 1 + 1) 0 0 := Own2.below ⟨by simp [go_sem], by simp [go_sem], by simp [go_sem], by simp [go_sem]⟩ hb
  have HB := Lib.hid (below_up (L2.boxes3 w _ _ _) hb (by simp <;> omega))
  obtain ⟨cb, hcb⟩ : ∃ cb, w.heap.size + 1 + 1 + 1 = cb := ⟨_, rfl⟩
  simp only [World.size_alloc, hcb] at hc hr
  obtain ⟨cp, hcp⟩ : ∃ cp, cap cb = cp := ⟨_, rfl⟩
  rw [hcp] at hr
  have HCP := Lib.hid hcp
  have HC := Lib.hid hc
  clear hb hc hcp hcb
  have a0 := fun o => (A.alloc o).c0
  have a1 := fun o => (A.alloc o).c1
  have a2 := fun o => (A.alloc o).c2
  go_wp2_with fail
  clear a0 a1 a2
  refine (L2.valid_any k n x _).mono ?_
  rw [HVA.out]
  rintro e w2 ⟨rfl, hb⟩
  have A2 := (A.alloc _).below hb
  have B2 := (B.alloc _).below hb
  have R2 := (R.alloc _).below hb
  have C2 := (cho_new w1 f g cp _).below hb
  have HC2 := Lib.hid (cellB hb (cellB (below_box w1 _) HC.out))
  have HB2 := Lib.hid (below_up (HB.out.alloc HB.out.size _) hb (by have := HB.out.size; simp <;> omega))
  clear A B R hb hr
  obtain ⟨ch, hch⟩ : ∃ ch, w1.heap.size = ch := ⟨_, rfl⟩
  rw [hch] at C2 ⊢
  clear hch
  have b0 := B2.c0
  have b1 := B2.c1
  have b2 := B2.c2
  go_wp2_with fail
  clear b0 b1 b2
  refine (L2.valid_any k2 n2 y _).mono ?_
  rw [HVB.out]
  rintro e w3 ⟨rfl, hb⟩
  have A3 := A2.below hb
  have B3 := B2.below hb
  have R3 := R2.below hb
  have C3 := C2.below hb
  have HC3 := Lib.hid (cellB hb HC2.out)
  have HB3 := Lib.hid (below_up HB2.out hb HB2.out.size)
  clear A2 B2 R2 C2 hb
  go_wp2_with fail
  refine (okTol_any t _).mono ?_
  rw [HO.out]
  rintro e w4 ⟨rfl, hb⟩
  have A4 := A3.below hb
  have B4 := B3.below hb
  have R4 := R3.below hb
  have C4 := C3.below hb
  have HC4 := Lib.hid (cellB hb HC3.out)
  have HB4 := Lib.hid (below_up HB3.out hb HB3.out.size)
  clear A3 B3 R3 C3 hb
  have a0 := A4.c0
  have b0 := B4.c0
  go_wp2_with fail
  refine (share_any 0 1 (by decide) (by decide) (by decide) (by decide) _).mono ?_
  rw [shr_01]
  rintro e w5 ⟨rfl, hb⟩
  have R5 := R4.below hb
  have HB5 := Lib.hid (below_up HB4.out hb HB4.out.size)
  clear hb a0 b0
  have r0 := R5.c0
  have r1 := R5.c1
  have f0 := R5.f0
  have f1 := R5.f1
  go_wp2_with fail
  refine bodyPost_ret (v := .tuple #[rat (0, 1), .int .i64 0]) (by simp [results, Tryz.results14, go_sem, r0, r1]) rfl ?_
  exact ⟨rfl, below_two HB5.out (by omega)⟩

set_option maxRecDepth 100000 in
set_option maxHeartbeats 800000 in
theorem of_nullb5 (t : Int) (k n : Int) (x : List UInt8) (k2 n2 : Int) (y : List UInt8) (f g : Nat) (cap : Nat → Array Value) (hL : Gives 5 t f g cap) (va : L2.vldB k n x = true) (vb : L2.vldB k2 n2 y = true) (vt : okTol t = true) (hk : (k == 0) = false) (hk2 : (k2 == 0) = true) (w : World) :
    Calls Tryz.prog 14 #[.int .i64 5, .int .i64 t, V k n x, V k2 n2 y] w fun e w' => e = .returned (.tuple #[rat (0, 1), .int .i64 0]) ∧ Below w.heap.size w w' := by
  have HO := Lib.hid vt
  clear vt
  have HVA := Lib.hid va
  clear va
  have HVB := Lib.hid vb
  clear vb
  go_enter Tryz.func14, Tryz.ntmps14
  go_wp2_with fail
  refine (hL _).mono ?_
  rintro e w1 ⟨b, rfl, hr, hc, hb⟩
  have A : L2.Val3 w1 w.heap.size k n x := L2.Val3.below ⟨by simp [go_sem], by simp [go_sem], by simp [go_sem]⟩ hb
  have B : L2.Val3 w1 (w.heap.size + 1) k2 n2 y := L2.Val3.below ⟨by simp [go_sem], by simp [go_sem], by simp [go_sem]⟩ hb
  have R : Own2 w1 (w.heap.size + 1 + 1) 0 0 := Own2.below ⟨by simp [go_sem], by simp [go_sem], by simp [go_sem], by simp [go_sem]⟩ hb
  have HB := Lib.hid (below_up (L2.boxes3 w _ _ _) hb (by simp <;> omega))
  obtain ⟨cb, hcb⟩ : ∃ cb, w.heap.size + 1 + 1 + 1 = cb := ⟨_, rfl⟩
  simp only [World.size_alloc, hcb] at hc hr
  obtain ⟨cp, hcp⟩ : ∃ cp, cap cb = cp := ⟨_, rfl⟩
  rw [hcp] at hr
  have HCP := Lib.hid hcp
  have HC := Lib.hid hc
  clear hb hc hcp hcb
  have a0 := fun o => (A.alloc o).c0
  have a1 := fun o => (A.alloc o).c1
  have a2 := fun o => (A.alloc o).c2
  go_wp2_with fail
  clear a0 a1 a2
  refine (L2.valid_any k n x _).mono ?_
  rw [HVA.out]
  rintro e w2 ⟨rfl, hb⟩
  have A2 := (A.alloc _).below hb
  have B2 := (B.alloc _).below hb
  have R2 := (R.alloc _).below hb
  have C2 := (cho_new w1 f g cp _).below hb
  have HC2 := Lib.hid (cellB hb (cellB (below_box w1 _) HC.out))
  have HB2 := Lib.hid (below_up (HB.out.alloc HB.out.size _) hb (by have := HB.out.size; simp <;> omega))
  clear A B R hb hr
  obtain ⟨ch, hch⟩ : ∃ ch, w1.heap.size = ch := ⟨_, rfl⟩
  rw [hch] at C2 ⊢
  clear hch
  have b0 := B2.c0
  have b1 := B2.c1
  have b2 := B2.c2
  go_wp2_with fail
  clear b0 b1 b2
  refine (L2.valid_any k2 n2 y _).mono ?_
  rw [HVB.out]
  rintro e w3 ⟨rfl, hb⟩
  have A3 := A2.below hb
  have B3 := B2.below hb
  have R3 := R2.below hb
  have C3 := C2.below hb
  have HC3 := Lib.hid (cellB hb HC2.out)
  have HB3 := Lib.hid (below_up HB2.out hb HB2.out.size)
  clear A2 B2 R2 C2 hb
  go_wp2_with fail
  refine (okTol_any t _).mono ?_
  rw [HO.out]
  rintro e w4 ⟨rfl, hb⟩
  have A4 := A3.below hb
  have B4 := B3.below hb
  have R4 := R3.below hb
  have C4 := C3.below hb
  have HC4 := Lib.hid (cellB hb HC3.out)
  have HB4 := Lib.hid (below_up HB3.out hb HB3.out.size)
  clear A3 B3 R3 C3 hb
  have a0 := A4.c0
  have b0 := B4.c0
  go_wp2_with fail
  refine (share_any 0 1 (by decide) (by decide) (by decide) (by decide) _).mono ?_
  rw [shr_01]
  rintro e w5 ⟨rfl, hb⟩
  have R5 := R4.below hb
  have HB5 := Lib.hid (below_up HB4.out hb HB4.out.size)
  clear hb a0 b0
  have r0 := R5.c0
  have r1 := R5.c1
  have f0 := R5.f0
  have f1 := R5.f1
  go_wp2_with fail
  refine bodyPost_ret (v := .tuple #[rat (0, 1), .int .i64 0]) (by simp [results, Tryz.results14, go_sem, r0, r1]) rfl ?_
  exact ⟨rfl, below_two HB5.out (by omega)⟩

set_option maxRecDepth 100000 in
set_option maxHeartbeats 800000 in
theorem of_no5 (t : Int) (k n : Int) (x : List UInt8) (k2 n2 : Int) (y : List UInt8) (f g : Nat) (cap : Nat → Array Value) (hL : Gives 5 t f g cap) (va : L2.vldB k n x = true) (vb : L2.vldB k2 n2 y = true) (vt : okTol t = true) (hk : (k == 0) = false) (hk2 : (k2 == 0) = false) (ef : ∀ args w, (callFunc f args).run Tryz.prog w = .ok (.enter f args) w) (hT : ∀ W, Calls Tryz.prog f #[.int .i64 k, .int .i64 k2] W fun e w' => e = .returned (.bool false) ∧ Below W.heap.size W w') (w : World) :
    Calls Tryz.prog 14 #[.int .i64 5, .int .i64 t, V k n x, V k2 n2 y] w fun e w' => e = .returned (.tuple #[rat (0, 0), .int .i64 10]) ∧ Below w.heap.size w w' := by
  have HT := Lib.hid hT
  clear hT
  have HO := Lib.hid vt
  clear vt
  have HVA := Lib.hid va
  clear va
  have HVB := Lib.hid vb
  clear vb
  go_enter Tryz.func14, Tryz.ntmps14
  go_wp2_with fail
  refine (hL _).mono ?_
  rintro e w1 ⟨b, rfl, hr, hc, hb⟩
  have A : L2.Val3 w1 w.heap.size k n x := L2.Val3.below ⟨by simp [go_sem], by simp [go_sem], by simp [go_sem]⟩ hb
  have B : L2.Val3 w1 (w.heap.size + 1) k2 n2 y := L2.Val3.below ⟨by simp [go_sem], by simp [go_sem], by simp [go_sem]⟩ hb
  have R : Own2 w1 (w.heap.size + 1 + 1) 0 0 := Own2.below ⟨by simp [go_sem], by simp [go_sem], by simp [go_sem], by simp [go_sem]⟩ hb
  have HB := Lib.hid (below_up (L2.boxes3 w _ _ _) hb (by simp <;> omega))
  obtain ⟨cb, hcb⟩ : ∃ cb, w.heap.size + 1 + 1 + 1 = cb := ⟨_, rfl⟩
  simp only [World.size_alloc, hcb] at hc hr
  obtain ⟨cp, hcp⟩ : ∃ cp, cap cb = cp := ⟨_, rfl⟩
  rw [hcp] at hr
  have HCP := Lib.hid hcp
  have HC := Lib.hid hc
  clear hb hc hcp hcb
  have a0 := fun o => (A.alloc o).c0
  have a1 := fun o => (A.alloc o).c1
  have a2 := fun o => (A.alloc o).c2
  go_wp2_with fail
  clear a0 a1 a2
  refine (L2.valid_any k n x _).mono ?_
  rw [HVA.out]
  rintro e w2 ⟨rfl, hb⟩
  have A2 := (A.alloc _).below hb
  have B2 := (B.alloc _).below hb
  have R2 := (R.alloc _).below hb
  have C2 := (cho_new w1 f g cp _).below hb
  have HC2 := Lib.hid (cellB hb (cellB (below_box w1 _) HC.out))
  have HB2 := Lib.hid (below_up (HB.out.alloc HB.out.size _) hb (by have := HB.out.size; simp <;> omega))
  clear A B R hb hr
  obtain ⟨ch, hch⟩ : ∃ ch, w1.heap.size = ch := ⟨_, rfl⟩
  rw [hch] at C2 ⊢
  clear hch
  have b0 := B2.c0
  have b1 := B2.c1
  have b2 := B2.c2
  go_wp2_with fail
  clear b0 b1 b2
  refine (L2.valid_any k2 n2 y _).mono ?_
  rw [HVB.out]
  rintro e w3 ⟨rfl, hb⟩
  have A3 := A2.below hb
  have B3 := B2.below hb
  have R3 := R2.below hb
  have C3 := C2.below hb
  have HC3 := Lib.hid (cellB hb HC2.out)
  have HB3 := Lib.hid (below_up HB2.out hb HB2.out.size)
  clear A2 B2 R2 C2 hb
  go_wp2_with fail
  refine (okTol_any t _).mono ?_
  rw [HO.out]
  rintro e w4 ⟨rfl, hb⟩
  have A4 := A3.below hb
  have B4 := B3.below hb
  have R4 := R3.below hb
  have C4 := C3.below hb
  have HC4 := Lib.hid (cellB hb HC3.out)
  have HB4 := Lib.hid (below_up HB3.out hb HB3.out.size)
  clear A3 B3 R3 C3 hb
  have a0 := A4.c0
  have b0 := B4.c0
  have q0 := C4.c0
  have q1 := C4.c1
  go_wp2_with fail
  refine (HT.out _).mono ?_
  rintro e w5 ⟨rfl, hb⟩
  have A5 := A4.below hb
  have B5 := B4.below hb
  have R5 := R4.below hb
  have C5 := C4.below hb
  have HC5 := Lib.hid (cellB hb HC4.out)
  have HB5 := Lib.hid (below_up HB4.out hb HB4.out.size)
  clear hb a0 b0 q0 q1
  have r0 := R5.c0
  have r1 := R5.c1
  have f0 := R5.f0
  have f1 := R5.f1
  go_wp2_with fail
  refine bodyPost_ret (v := .tuple #[rat (0, 0), .int .i64 10]) (by simp [results, Tryz.results14, go_sem, r0, r1]) rfl ?_
  exact ⟨rfl, below_two HB5.out (by omega)⟩

set_option maxRecDepth 100000 in
set_option maxHeartbeats 800000 in
theorem of_yes5 (t : Int) (k n : Int) (x : List UInt8) (k2 n2 : Int) (y : List UInt8) (f g : Nat) (cap : Nat → Array Value) (hL : Gives 5 t f g cap) (va : L2.vldB k n x = true) (vb : L2.vldB k2 n2 y = true) (vt : okTol t = true) (hk : (k == 0) = false) (hk2 : (k2 == 0) = false) (ef : ∀ args w, (callFunc f args).run Tryz.prog w = .ok (.enter f args) w) (hT : ∀ W, Calls Tryz.prog f #[.int .i64 k, .int .i64 k2] W fun e w' => e = .returned (.bool true) ∧ Below W.heap.size W w') (eg : ∀ args w, (callFunc g args).run Tryz.prog w = .ok (.enter g args) w) (r : Int × Int) (hG : ∀ (b : Nat) (W : World), W.cell? ⟨b, 0, none⟩ = some (.int .i64 t) → Calls Tryz.prog g (#[V k n x, V k2 n2 y] ++ cap b) W fun e w' => e = .returned (rat r) ∧ Below W.heap.size W w') (w : World) :
    Calls Tryz.prog 14 #[.int .i64 5, .int .i64 t, V k n x, V k2 n2 y] w fun e w' => e = .returned (.tuple #[rat r, .int .i64 0]) ∧ Below w.heap.size w w' := by
  have HT := Lib.hid hT
  clear hT
  have HG := Lib.hid hG
  clear hG
  have HO := Lib.hid vt
  clear vt
  have HVA := Lib.hid va
  clear va
  have HVB := Lib.hid vb
  clear vb
  go_enter Tryz.func14, Tryz.ntmps14
  go_wp2_with fail
  refine (hL _).mono ?_
  rintro e w1 ⟨b, rfl, hr, hc, hb⟩
  have A : L2.Val3 w1 w.heap.size k n x := L2.Val3.below ⟨by simp [go_sem], by simp [go_sem], by simp [go_sem]⟩ hb
  have B : L2.Val3 w1 (w.heap.size + 1) k2 n2 y := L2.Val3.below ⟨by simp [go_sem], by simp [go_sem], by simp [go_sem]⟩ hb
  have R : Own2 w1 (w.heap.size + 1 + 1) 0 0 := Own2.below ⟨by simp [go_sem], by simp [go_sem], by simp [go_sem], by simp [go_sem]⟩ hb
  have HB := Lib.hid (below_up (L2.boxes3 w _ _ _) hb (by simp <;> omega))
  obtain ⟨cb, hcb⟩ : ∃ cb, w.heap.size + 1 + 1 + 1 = cb := ⟨_, rfl⟩
  simp only [World.size_alloc, hcb] at hc hr
  obtain ⟨cp, hcp⟩ : ∃ cp, cap cb = cp := ⟨_, rfl⟩
  rw [hcp] at hr
  have HCP := Lib.hid hcp
  have HC := Lib.hid hc
  clear hb hc hcp hcb
  have a0 := fun o => (A.alloc o).c0
  have a1 := fun o => (A.alloc o).c1
  have a2 := fun o => (A.alloc o).c2
  go_wp2_with fail
  clear a0 a1 a2
  refine (L2.valid_any k n x _).mono ?_
  rw [HVA.out]
  rintro e w2 ⟨rfl, hb⟩
  have A2 := (A.alloc _).below hb
  have B2 := (B.alloc _).below hb
  have R2 := (R.alloc _).below hb
  have C2 := (cho_new w1 f g cp _).below hb
  have HC2 := Lib.hid (cellB hb (cellB (below_box w1 _) HC.out))
  have HB2 := Lib.hid (below_up (HB.out.alloc HB.out.size _) hb (by have := HB.out.size; simp <;> omega))
  clear A B R hb hr
  obtain ⟨ch, hch⟩ : ∃ ch, w1.heap.size = ch := ⟨_, rfl⟩
  rw [hch] at C2 ⊢
  clear hch
  have b0 := B2.c0
  have b1 := B2.c1
  have b2 := B2.c2
  go_wp2_with fail
  clear b0 b1 b2
  refine (L2.valid_any k2 n2 y _).mono ?_
  rw [HVB.out]
  rintro e w3 ⟨rfl, hb⟩
  have A3 := A2.below hb
  have B3 := B2.below hb
  have R3 := R2.below hb
  have C3 := C2.below hb
  have HC3 := Lib.hid (cellB hb HC2.out)
  have HB3 := Lib.hid (below_up HB2.out hb HB2.out.size)
  clear A2 B2 R2 C2 hb
  go_wp2_with fail
  refine (okTol_any t _).mono ?_
  rw [HO.out]
  rintro e w4 ⟨rfl, hb⟩
  have A4 := A3.below hb
  have B4 := B3.below hb
  have R4 := R3.below hb
  have C4 := C3.below hb
  have HC4 := Lib.hid (cellB hb HC3.out)
  have HB4 := Lib.hid (below_up HB3.out hb HB3.out.size)
  clear A3 B3 R3 C3 hb
  have a0 := A4.c0
  have b0 := B4.c0
  have q0 := C4.c0
  have q1 := C4.c1
  go_wp2_with fail
  refine (HT.out _).mono ?_
  rintro e w5 ⟨rfl, hb⟩
  have A5 := A4.below hb
  have B5 := B4.below hb
  have R5 := R4.below hb
  have C5 := C4.below hb
  have HC5 := Lib.hid (cellB hb HC4.out)
  have HB5 := Lib.hid (below_up HB4.out hb HB4.out.size)
  clear hb a0 b0 q0 q1
  have a0 := A5.c0
  have a1 := A5.c1
  have a2 := A5.c2
  have b0 := B5.c0
  have b1 := B5.c1
  have b2 := B5.c2
  have q0 := C5.c0
  have q1 := C5.c1
  have HG5 := Lib.hid (HG.out cb w5 HC5.out)
  rw [HCP.out] at HG5
  go_wp2_with fail
  refine HG5.out.mono ?_
  rintro e w6 ⟨rfl, hb⟩
  have R6 := R5.below hb
  have HB6 := Lib.hid (below_up HB5.out hb HB5.out.size)
  clear hb a0 a1 a2 b0 b1 b2 q0 q1
  have r0 := R6.c0
  have r1 := R6.c1
  have f0 := R6.f0
  have f1 := R6.f1
  go_wp2_with fail
  refine bodyPost_ret (v := .tuple #[rat r, .int .i64 0]) (by simp [results, Tryz.results14, go_sem, r0, r1]) rfl ?_
  exact ⟨rfl, below_two HB6.out (by omega)⟩
end Go.Proofs.YtendkghifcjffaaGreatDoor
