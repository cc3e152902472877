/- MeasureValues in plain words: Of has the same result for both orders of the values, from 0 to 1, which is 1 for a value that is not null with itself, if there is no error. -/
import Derived.Test.YtendkghifcjffaaDoorNearsW
import Derived.Test.YtendkghifcjffaaDoorMUnit
import Derived.Test.YtendkghifcjffaaDoorOfM
namespace Go.Proofs.YtendkghifcjffaaDoor
open Go.RowKit

set_option maxRecDepth 100000 in
theorem values_l (m t : Int) (k n : Int) (x : List UInt8) (k2 n2 : Int) (y : List UInt8) (h : shortB 200 [x, y] = false) (w : World) :
    Calls Tryd.prog 8 #[.int .i64 m, .int .i64 t, V k n x, V k2 n2 y] w fun e w' => e = .returned (.bool true) ∧ Below w.heap.size w w' := by
  have HH := Lib.hid h
  clear h
  go_enter Tryd.func8, Tryd.ntmps8
  go_wp2_with fail
  refine (head_any _).mono ?_
  rintro e0 w1 ⟨rfl, hb⟩
  have A : L2.Val3 w1 w.heap.size k n x := L2.Val3.below ⟨by simp [go_sem], by simp [go_sem], by simp [go_sem]⟩ hb
  have B : L2.Val3 w1 (w.heap.size + 1) k2 n2 y := L2.Val3.below ⟨by simp [go_sem], by simp [go_sem], by simp [go_sem]⟩ hb
  have HB := Lib.hid (below_up (L2.boxes2 w _ _) hb (by simp <;> omega))
  clear hb
  have a2 := A.c2
  have b2 := B.c2
  go_wp2_with fail
  refine (short_lit 200 [x, y] (by simp) w1).mono ?_
  rw [HH.out]
  rintro e0 w2 ⟨rfl, hb⟩
  have HB2 := Lib.hid (below_up HB.out hb HB.out.size)
  clear hb A B a2 b2
  go_wp2_with fail
  go_ret
  exact ⟨rfl, HB2.out⟩

set_option maxRecDepth 100000 in
set_option maxHeartbeats 4000000 in
theorem values_u_err (m t : Int) (k n : Int) (x : List UInt8) (k2 n2 : Int) (y : List UInt8) (r1 r3 : Int × Int) (e3 : Int) (HM : Hid ((Lit.int .i64 m).wf = true)) (HH : Hid (shortB 200 [x, y] = true)) (HO1 : Hid (ofT m t k n x k2 n2 y = (r1, 0))) (HO2 : Hid (ofT m t k n x k n x = (r3, e3))) (HU : Hid (UnitR r1)) (he3 : (e3 == 0) = false) (w : World) :
    Calls Tryd.prog 8 #[.int .i64 m, .int .i64 t, V k n x, V k2 n2 y] w fun e w' => e = .returned (.bool true) ∧ Below w.heap.size w w' := by
  have eqr := fun (r s : Int × Int) (W : World) => eql_rat r s W
  have nqr := fun (r s : Int × Int) (W : World) => neq_rat r s W
  have he3n : (e3 != 0) = true := by rw [bne, he3]; rfl
  go_enter Tryd.func8, Tryd.ntmps8
  go_wp2_with fail
  refine (head_any _).mono ?_
  rintro e0 w1 ⟨rfl, hb⟩
  have A : L2.Val3 w1 w.heap.size k n x := L2.Val3.below ⟨by simp [go_sem], by simp [go_sem], by simp [go_sem]⟩ hb
  have B : L2.Val3 w1 (w.heap.size + 1) k2 n2 y := L2.Val3.below ⟨by simp [go_sem], by simp [go_sem], by simp [go_sem]⟩ hb
  have HB := Lib.hid (below_up (L2.boxes2 w _ _) hb (by simp <;> omega))
  clear hb
  have a2 := A.c2
  have b2 := B.c2
  go_wp2_with fail
  refine (short_lit 200 [x, y] (by simp) w1).mono ?_
  rw [HH.out]
  rintro e0 w2 ⟨rfl, hb⟩
  have A2 := A.below hb
  have B2 := B.below hb
  have HB2 := Lib.hid (below_up HB.out hb HB.out.size)
  clear hb A B a2 b2
  have a0 := A2.c0
  have a1 := A2.c1
  have a2 := A2.c2
  have b0 := B2.c0
  have b1 := B2.c1
  have b2 := B2.c2
  go_wp2_with fail
  clear a0 a1 a2 b0 b1 b2
  refine (of_any m t k n x k2 n2 y HM.out _).mono ?_
  rw [HO1.out]
  rintro e0 w3 ⟨rfl, hb⟩
  have A3 := A2.below hb
  have B3 := B2.below hb
  have HB3 := Lib.hid (below_up HB2.out hb HB2.out.size)
  clear hb A2 B2
  have a0 := fun o => (A3.alloc o).c0
  have a1 := fun o => (A3.alloc o).c1
  have a2 := fun o => (A3.alloc o).c2
  have b0 := fun o => (B3.alloc o).c0
  have b1 := fun o => (B3.alloc o).c1
  have b2 := fun o => (B3.alloc o).c2
  go_wp2_with fail
  clear a0 a1 a2 b0 b1 b2
  refine (of_any m t k2 n2 y k n x HM.out _).mono ?_
  rw [of_sym, HO1.out]
  rintro e0 w4 ⟨rfl, hb⟩
  have A4 := (A3.alloc _).below hb
  have B4 := (B3.alloc _).below hb
  have X4 := (own2_new w3 r1.1 r1.2 _).below hb
  have HB4 := Lib.hid (below_up (HB3.out.alloc HB3.out.size _) hb (by have := HB3.out.size; simp <;> omega))
  clear hb A3 B3
  obtain ⟨bx, hbx⟩ : ∃ b, w3.heap.size = b := ⟨_, rfl⟩
  rw [hbx] at X4 ⊢
  clear hbx
  have a0 := fun o => (A4.alloc o).c0
  have a1 := fun o => (A4.alloc o).c1
  have a2 := fun o => (A4.alloc o).c2
  go_wp2_with fail
  clear a0 a1 a2
  refine (of_any m t k n x k n x HM.out _).mono ?_
  rw [HO2.out]
  rintro e0 w5 ⟨rfl, hb⟩
  have A5 := (A4.alloc _).below hb
  have X5 := (X4.alloc _).below hb
  have Y5 := (own2_new w4 r1.1 r1.2 _).below hb
  have HB5 := Lib.hid (below_up (HB4.out.alloc HB4.out.size _) hb (by have := HB4.out.size; simp <;> omega))
  clear hb A4 B4 X4
  obtain ⟨by', hby⟩ : ∃ b, w4.heap.size = b := ⟨_, rfl⟩
  rw [hby] at Y5 ⊢
  clear hby
  have x0 := fun o => (X5.alloc o).c0
  have x1 := fun o => (X5.alloc o).c1
  have y0 := fun o => (Y5.alloc o).c0
  have y1 := fun o => (Y5.alloc o).c1
  go_wp2_with fail
  clear x0 x1 y0 y1
  refine (unit_ok r1 HU.out _).mono ?_
  rintro e0 w6 ⟨rfl, hb⟩
  have A6 := (A5.alloc _).below hb
  have Z6 := (own2_new w5 r3.1 r3.2 _).below hb
  have HB6 := Lib.hid (below_up (HB5.out.alloc HB5.out.size _) hb (by have := HB5.out.size; simp <;> omega))
  clear hb A5 X5 Y5
  go_wp2_with fail
  obtain ⟨W, hW⟩ : ∃ W, W = w6 := ⟨_, rfl⟩
  rw [← hW] at A6 Z6 HB6 ⊢
  clear hW
  obtain ⟨bz, hbz⟩ : ∃ b, w5.heap.size = b := ⟨_, rfl⟩
  rw [hbz] at Z6 ⊢
  obtain ⟨ba, hba⟩ : ∃ b, w.heap.size = b := ⟨_, rfl⟩
  rw [hba] at A6 ⊢
  clear hbz
  have HBA := Lib.hid hba
  clear hba
  have a0 := A6.c0
  have z0 := Z6.c0
  have z1 := Z6.c1
  have HB : Hid (Below w.heap.size w (W.drewN 1)) := Lib.hid (dN HB6.out 1)
  have A0 : (W.drewN 1).cell? ⟨ba, 0, none⟩ = some (.int .i64 k) := a0
  have Z0 : (W.drewN 1).cell? ⟨bz, 0, none⟩ = some (.int .i64 r3.1) := z0
  have Z1 : (W.drewN 1).cell? ⟨bz, 1, none⟩ = some (.int .i64 r3.2) := z1
  clear A6 Z6
  refine wp_region_held_drew (S := (fun w' => w'.cell? ⟨bz, 0, none⟩ = some (.int .i64 r3.1) ∧ w'.cell? ⟨bz, 1, none⟩ = some (.int .i64 r3.2) ∧ w'.cell? ⟨ba, 0, none⟩ = some (.int .i64 k))) (by kernel_rfl) ?_ (fun hHeld => ?_)
  · try dsimp only
    go_keep
  refine wpAnyH_take (i := 0) (v := ?_) (by (simp only [List.getElem?_toArray, List.getElem?_cons_zero]; rfl)) (by kernel_rfl) (by kernel_rfl) (by kernel_rfl) (by intro _ _ _ h; exact h) (Or.inl ⟨by kernel_rfl, ?_⟩) hHeld ?_
  case refine_2 =>
    intro w hSw
    try dsimp only at hSw
    go_simp
    try with_reducible rfl
  try simp only [Act.put, List.setIfInBounds_toArray, List.set_cons_zero, List.set_cons_succ]
  refine wpAnyH_take (i := 1) (v := ?_) (by (simp only [List.getElem?_toArray, List.getElem?_cons_succ, List.getElem?_cons_zero]; rfl)) (by kernel_rfl) (by kernel_rfl) (by kernel_rfl) (by intro _ _ _ h; exact h) (Or.inl ⟨by kernel_rfl, ?_⟩) hHeld ?_
  case refine_2 =>
    intro w hSw
    try dsimp only at hSw
    go_simp
    try with_reducible rfl
  try simp only [Act.put, List.setIfInBounds_toArray, List.set_cons_zero, List.set_cons_succ]
  refine wpAnyH_take (i := 2) (v := ?_) (by (simp only [List.getElem?_toArray, List.getElem?_cons_succ, List.getElem?_cons_zero]; rfl)) (by kernel_rfl) (by kernel_rfl) (by kernel_rfl) (by intro _ _ _ h; exact h) (Or.inl ⟨by kernel_rfl, ?_⟩) hHeld ?_
  case refine_2 =>
    intro w hSw
    try dsimp only at hSw
    go_simp
    try with_reducible rfl
  try simp only [Act.put, List.setIfInBounds_toArray, List.set_cons_zero, List.set_cons_succ]
  refine wpAnyH_take (i := 3) (v := ?_) (by (simp only [List.getElem?_toArray, List.getElem?_cons_succ, List.getElem?_cons_zero]; rfl)) (by kernel_rfl) (by kernel_rfl) (by kernel_rfl) (by intro _ _ _ h; exact h) (Or.inl ⟨by kernel_rfl, ?_⟩) hHeld ?_
  case refine_2 =>
    intro w hSw
    try dsimp only at hSw
    go_simp
    try with_reducible rfl
  try simp only [Act.put, List.setIfInBounds_toArray, List.set_cons_zero, List.set_cons_succ]
  refine wpAnyH_take (i := 4) (v := ?_) (by (simp only [List.getElem?_toArray, List.getElem?_cons_succ, List.getElem?_cons_zero]; rfl)) (by kernel_rfl) (by kernel_rfl) (by kernel_rfl) (by intro _ _ _ h; exact h) (Or.inl ⟨by kernel_rfl, ?_⟩) hHeld ?_
  case refine_2 =>
    intro w hSw
    try dsimp only at hSw
    go_simp
    try with_reducible rfl
  try simp only [Act.put, List.setIfInBounds_toArray, List.set_cons_zero, List.set_cons_succ]
  refine wpAnyH_take (i := 5) (v := undef) (by (simp only [List.getElem?_toArray, List.getElem?_cons_succ, List.getElem?_cons_zero]; rfl)) (by kernel_rfl) (by kernel_rfl) (by kernel_rfl) (by intro _ _ _ h; exact h) (Or.inr ⟨by kernel_rfl, rfl⟩) hHeld ?_
  try simp only [Act.put, List.setIfInBounds_toArray, List.set_cons_zero, List.set_cons_succ]
  refine wpAnyH_take (i := 6) (v := undef) (by (simp only [List.getElem?_toArray, List.getElem?_cons_succ, List.getElem?_cons_zero]; rfl)) (by kernel_rfl) (by kernel_rfl) (by kernel_rfl) (by intro _ _ _ h; exact h) (Or.inr ⟨by kernel_rfl, rfl⟩) hHeld ?_
  try simp only [Act.put, List.setIfInBounds_toArray, List.set_cons_zero, List.set_cons_succ]
  refine wpAnyH_take (i := 7) (v := undef) (by (simp only [List.getElem?_toArray, List.getElem?_cons_succ, List.getElem?_cons_zero]; rfl)) (by kernel_rfl) (by kernel_rfl) (by kernel_rfl) (by intro _ _ _ h; exact h) (Or.inr ⟨by kernel_rfl, rfl⟩) hHeld ?_
  try simp only [Act.put, List.setIfInBounds_toArray, List.set_cons_zero, List.set_cons_succ]
  refine wpAnyH_take (i := 8) (v := ?_) (by (simp only [List.getElem?_toArray, List.getElem?_cons_succ, List.getElem?_cons_zero]; rfl)) (by kernel_rfl) (by kernel_rfl) (by kernel_rfl) (by intro _ _ _ h; exact h) (Or.inl ⟨by kernel_rfl, ?_⟩) hHeld ?_
  case refine_2 =>
    intro w hSw
    try dsimp only at hSw
    go_simp
    try with_reducible rfl
  try simp only [Act.put, List.setIfInBounds_toArray, List.set_cons_zero, List.set_cons_succ]
  refine wpAnyH_take (i := 9) (v := ?_) (by (simp only [List.getElem?_toArray, List.getElem?_cons_succ, List.getElem?_cons_zero]; rfl)) (by kernel_rfl) (by kernel_rfl) (by kernel_rfl) (by intro _ _ _ h; exact h) (Or.inl ⟨by kernel_rfl, ?_⟩) hHeld ?_
  case refine_2 =>
    intro w hSw
    try dsimp only at hSw
    go_simp
    try with_reducible rfl
  try simp only [Act.put, List.setIfInBounds_toArray, List.set_cons_zero, List.set_cons_succ]
  refine wpAnyH_take (i := 10) (v := undef) (by (simp only [List.getElem?_toArray, List.getElem?_cons_succ, List.getElem?_cons_zero]; rfl)) (by kernel_rfl) (by kernel_rfl) (by kernel_rfl) (by intro _ _ _ h; exact h) (Or.inr ⟨by kernel_rfl, rfl⟩) hHeld ?_
  try simp only [Act.put, List.setIfInBounds_toArray, List.set_cons_zero, List.set_cons_succ]
  refine wpAnyH_take (i := 11) (v := undef) (by (simp only [List.getElem?_toArray, List.getElem?_cons_succ, List.getElem?_cons_zero]; rfl)) (by kernel_rfl) (by kernel_rfl) (by kernel_rfl) (by intro _ _ _ h; exact h) (Or.inr ⟨by kernel_rfl, rfl⟩) hHeld ?_
  try simp only [Act.put, List.setIfInBounds_toArray, List.set_cons_zero, List.set_cons_succ]
  refine wpAnyH_take (i := 12) (v := undef) (by (simp only [List.getElem?_toArray, List.getElem?_cons_succ, List.getElem?_cons_zero]; rfl)) (by kernel_rfl) (by kernel_rfl) (by kernel_rfl) (by intro _ _ _ h; exact h) (Or.inr ⟨by kernel_rfl, rfl⟩) hHeld ?_
  try simp only [Act.put, List.setIfInBounds_toArray, List.set_cons_zero, List.set_cons_succ]
  refine wpAnyH_take (i := 13) (v := ?_) (by (simp only [List.getElem?_toArray, List.getElem?_cons_succ, List.getElem?_cons_zero]; rfl)) (by kernel_rfl) (by kernel_rfl) (by kernel_rfl) (by intro _ _ _ h; exact h) (Or.inl ⟨by kernel_rfl, ?_⟩) hHeld ?_
  case refine_2 =>
    intro w hSw
    try dsimp only at hSw
    go_simp
    try with_reducible rfl
  try simp only [Act.put, List.setIfInBounds_toArray, List.set_cons_zero, List.set_cons_succ]
  refine wpAnyH_take (i := 14) (v := ?_) (by (simp only [List.getElem?_toArray, List.getElem?_cons_succ, List.getElem?_cons_zero]; rfl)) (by kernel_rfl) (by kernel_rfl) (by kernel_rfl) (by intro _ _ _ h; exact h) (Or.inl ⟨by kernel_rfl, ?_⟩) hHeld ?_
  case refine_2 =>
    intro w hSw
    try dsimp only at hSw
    go_simp
    try with_reducible rfl
  try simp only [Act.put, List.setIfInBounds_toArray, List.set_cons_zero, List.set_cons_succ]
  refine wpAnyH_take (i := 15) (v := ?_) (by (simp only [List.getElem?_toArray, List.getElem?_cons_succ, List.getElem?_cons_zero]; rfl)) (by kernel_rfl) (by kernel_rfl) (by kernel_rfl) (by intro _ _ _ h; exact h) (Or.inl ⟨by kernel_rfl, ?_⟩) hHeld ?_
  case refine_2 =>
    intro w hSw
    try dsimp only at hSw
    go_simp
    try with_reducible rfl
  try simp only [Act.put, List.setIfInBounds_toArray, List.set_cons_zero, List.set_cons_succ]
  refine wpAnyH_done (by kernel_rfl) ?_ _
  go_wp2_with fail
  go_ret
  exact ⟨rfl, HB.out⟩

set_option maxRecDepth 100000 in
set_option maxHeartbeats 4000000 in
theorem values_u_one (m t : Int) (k n : Int) (x : List UInt8) (k2 n2 : Int) (y : List UInt8) (r1 r3 : Int × Int) (HM : Hid ((Lit.int .i64 m).wf = true)) (HH : Hid (shortB 200 [x, y] = true)) (HO1 : Hid (ofT m t k n x k2 n2 y = (r1, 0))) (HO2 : Hid (ofT m t k n x k n x = (r3, 0))) (HU : Hid (UnitR r1)) (h1 : decide (r3 = (1, 1)) = true) (w : World) :
    Calls Tryd.prog 8 #[.int .i64 m, .int .i64 t, V k n x, V k2 n2 y] w fun e w' => e = .returned (.bool true) ∧ Below w.heap.size w w' := by
  have eqr := fun (r s : Int × Int) (W : World) => eql_rat r s W
  have nqr := fun (r s : Int × Int) (W : World) => neq_rat r s W
  go_enter Tryd.func8, Tryd.ntmps8
  go_wp2_with fail
  refine (head_any _).mono ?_
  rintro e0 w1 ⟨rfl, hb⟩
  have A : L2.Val3 w1 w.heap.size k n x := L2.Val3.below ⟨by simp [go_sem], by simp [go_sem], by simp [go_sem]⟩ hb
  have B : L2.Val3 w1 (w.heap.size + 1) k2 n2 y := L2.Val3.below ⟨by simp [go_sem], by simp [go_sem], by simp [go_sem]⟩ hb
  have HB := Lib.hid (below_up (L2.boxes2 w _ _) hb (by simp <;> omega))
  clear hb
  have a2 := A.c2
  have b2 := B.c2
  go_wp2_with fail
  refine (short_lit 200 [x, y] (by simp) w1).mono ?_
  rw [HH.out]
  rintro e0 w2 ⟨rfl, hb⟩
  have A2 := A.below hb
  have B2 := B.below hb
  have HB2 := Lib.hid (below_up HB.out hb HB.out.size)
  clear hb A B a2 b2
  have a0 := A2.c0
  have a1 := A2.c1
  have a2 := A2.c2
  have b0 := B2.c0
  have b1 := B2.c1
  have b2 := B2.c2
  go_wp2_with fail
  clear a0 a1 a2 b0 b1 b2
  refine (of_any m t k n x k2 n2 y HM.out _).mono ?_
  rw [HO1.out]
  rintro e0 w3 ⟨rfl, hb⟩
  have A3 := A2.below hb
  have B3 := B2.below hb
  have HB3 := Lib.hid (below_up HB2.out hb HB2.out.size)
  clear hb A2 B2
  have a0 := fun o => (A3.alloc o).c0
  have a1 := fun o => (A3.alloc o).c1
  have a2 := fun o => (A3.alloc o).c2
  have b0 := fun o => (B3.alloc o).c0
  have b1 := fun o => (B3.alloc o).c1
  have b2 := fun o => (B3.alloc o).c2
  go_wp2_with fail
  clear a0 a1 a2 b0 b1 b2
  refine (of_any m t k2 n2 y k n x HM.out _).mono ?_
  rw [of_sym, HO1.out]
  rintro e0 w4 ⟨rfl, hb⟩
  have A4 := (A3.alloc _).below hb
  have B4 := (B3.alloc _).below hb
  have X4 := (own2_new w3 r1.1 r1.2 _).below hb
  have HB4 := Lib.hid (below_up (HB3.out.alloc HB3.out.size _) hb (by have := HB3.out.size; simp <;> omega))
  clear hb A3 B3
  obtain ⟨bx, hbx⟩ : ∃ b, w3.heap.size = b := ⟨_, rfl⟩
  rw [hbx] at X4 ⊢
  clear hbx
  have a0 := fun o => (A4.alloc o).c0
  have a1 := fun o => (A4.alloc o).c1
  have a2 := fun o => (A4.alloc o).c2
  go_wp2_with fail
  clear a0 a1 a2
  refine (of_any m t k n x k n x HM.out _).mono ?_
  rw [HO2.out]
  rintro e0 w5 ⟨rfl, hb⟩
  have A5 := (A4.alloc _).below hb
  have X5 := (X4.alloc _).below hb
  have Y5 := (own2_new w4 r1.1 r1.2 _).below hb
  have HB5 := Lib.hid (below_up (HB4.out.alloc HB4.out.size _) hb (by have := HB4.out.size; simp <;> omega))
  clear hb A4 B4 X4
  obtain ⟨by', hby⟩ : ∃ b, w4.heap.size = b := ⟨_, rfl⟩
  rw [hby] at Y5 ⊢
  clear hby
  have x0 := fun o => (X5.alloc o).c0
  have x1 := fun o => (X5.alloc o).c1
  have y0 := fun o => (Y5.alloc o).c0
  have y1 := fun o => (Y5.alloc o).c1
  go_wp2_with fail
  clear x0 x1 y0 y1
  refine (unit_ok r1 HU.out _).mono ?_
  rintro e0 w6 ⟨rfl, hb⟩
  have A6 := (A5.alloc _).below hb
  have Z6 := (own2_new w5 r3.1 r3.2 _).below hb
  have HB6 := Lib.hid (below_up (HB5.out.alloc HB5.out.size _) hb (by have := HB5.out.size; simp <;> omega))
  clear hb A5 X5 Y5
  go_wp2_with fail
  obtain ⟨W, hW⟩ : ∃ W, W = w6 := ⟨_, rfl⟩
  rw [← hW] at A6 Z6 HB6 ⊢
  clear hW
  obtain ⟨bz, hbz⟩ : ∃ b, w5.heap.size = b := ⟨_, rfl⟩
  rw [hbz] at Z6 ⊢
  obtain ⟨ba, hba⟩ : ∃ b, w.heap.size = b := ⟨_, rfl⟩
  rw [hba] at A6 ⊢
  clear hbz
  have HBA := Lib.hid hba
  clear hba
  have a0 := A6.c0
  have z0 := Z6.c0
  have z1 := Z6.c1
  have HB : Hid (Below w.heap.size w (W.drewN 1)) := Lib.hid (dN HB6.out 1)
  have A0 : (W.drewN 1).cell? ⟨ba, 0, none⟩ = some (.int .i64 k) := a0
  have Z0 : (W.drewN 1).cell? ⟨bz, 0, none⟩ = some (.int .i64 r3.1) := z0
  have Z1 : (W.drewN 1).cell? ⟨bz, 1, none⟩ = some (.int .i64 r3.2) := z1
  clear A6 Z6
  refine wp_region_held_drew (S := (fun w' => w'.cell? ⟨bz, 0, none⟩ = some (.int .i64 r3.1) ∧ w'.cell? ⟨bz, 1, none⟩ = some (.int .i64 r3.2) ∧ w'.cell? ⟨ba, 0, none⟩ = some (.int .i64 k))) (by kernel_rfl) ?_ (fun hHeld => ?_)
  · try dsimp only
    go_keep
  refine wpAnyH_take (i := 0) (v := ?_) (by (simp only [List.getElem?_toArray, List.getElem?_cons_zero]; rfl)) (by kernel_rfl) (by kernel_rfl) (by kernel_rfl) (by intro _ _ _ h; exact h) (Or.inl ⟨by kernel_rfl, ?_⟩) hHeld ?_
  case refine_2 =>
    intro w hSw
    try dsimp only at hSw
    go_simp
    try with_reducible rfl
  try simp only [Act.put, List.setIfInBounds_toArray, List.set_cons_zero, List.set_cons_succ]
  refine wpAnyH_take (i := 1) (v := ?_) (by (simp only [List.getElem?_toArray, List.getElem?_cons_succ, List.getElem?_cons_zero]; rfl)) (by kernel_rfl) (by kernel_rfl) (by kernel_rfl) (by intro _ _ _ h; exact h) (Or.inl ⟨by kernel_rfl, ?_⟩) hHeld ?_
  case refine_2 =>
    intro w hSw
    try dsimp only at hSw
    go_simp
    try with_reducible rfl
  try simp only [Act.put, List.setIfInBounds_toArray, List.set_cons_zero, List.set_cons_succ]
  refine wpAnyH_take (i := 2) (v := ?_) (by (simp only [List.getElem?_toArray, List.getElem?_cons_succ, List.getElem?_cons_zero]; rfl)) (by kernel_rfl) (by kernel_rfl) (by kernel_rfl) (by intro _ _ _ h; exact h) (Or.inl ⟨by kernel_rfl, ?_⟩) hHeld ?_
  case refine_2 =>
    intro w hSw
    try dsimp only at hSw
    go_simp
    try with_reducible rfl
  try simp only [Act.put, List.setIfInBounds_toArray, List.set_cons_zero, List.set_cons_succ]
  refine wpAnyH_take (i := 3) (v := ?_) (by (simp only [List.getElem?_toArray, List.getElem?_cons_succ, List.getElem?_cons_zero]; rfl)) (by kernel_rfl) (by kernel_rfl) (by kernel_rfl) (by intro _ _ _ h; exact h) (Or.inl ⟨by kernel_rfl, ?_⟩) hHeld ?_
  case refine_2 =>
    intro w hSw
    try dsimp only at hSw
    go_simp
    try with_reducible rfl
  try simp only [Act.put, List.setIfInBounds_toArray, List.set_cons_zero, List.set_cons_succ]
  refine wpAnyH_take (i := 4) (v := ?_) (by (simp only [List.getElem?_toArray, List.getElem?_cons_succ, List.getElem?_cons_zero]; rfl)) (by kernel_rfl) (by kernel_rfl) (by kernel_rfl) (by intro _ _ _ h; exact h) (Or.inl ⟨by kernel_rfl, ?_⟩) hHeld ?_
  case refine_2 =>
    intro w hSw
    try dsimp only at hSw
    go_simp
    try with_reducible rfl
  try simp only [Act.put, List.setIfInBounds_toArray, List.set_cons_zero, List.set_cons_succ]
  refine wpAnyH_take (i := 5) (v := ?_) (by (simp only [List.getElem?_toArray, List.getElem?_cons_succ, List.getElem?_cons_zero]; rfl)) (by kernel_rfl) (by kernel_rfl) (by kernel_rfl) (by intro _ _ _ h; exact h) (Or.inl ⟨by kernel_rfl, ?_⟩) hHeld ?_
  case refine_2 =>
    intro w hSw
    try dsimp only at hSw
    go_simp
    try with_reducible rfl
  try simp only [Act.put, List.setIfInBounds_toArray, List.set_cons_zero, List.set_cons_succ]
  refine wpAnyH_ready (rs := [6]) (by kernel_rfl) (by simp) ?_
  refine AllReadyH.cons (by (simp only [List.getElem?_toArray, List.getElem?_cons_succ, List.getElem?_cons_zero]; rfl)) (fun K hK => ?_) AllReadyH.nil
  go_simp
  refine (of_law _ _ _).mono ?_
  rintro e v1 ⟨rfl, hv⟩
  replace A0 := cellB hv A0
  replace Z0 := cellB hv Z0
  replace Z1 := cellB hv Z1
  replace HB := Lib.hid (below_up HB.out hv HB.out.size)
  clear hv
  try go_wp2_with fail
  clear hHeld
  refine hK.out _ _ ?_ (fun hHeld => ?_)
  · try dsimp only
    go_keep
  clear hK K
  try simp only [Act.put, List.setIfInBounds_toArray, List.set_cons_zero, List.set_cons_succ]
  refine wpAnyH_take (i := 7) (v := ?_) (by (simp only [List.getElem?_toArray, List.getElem?_cons_succ, List.getElem?_cons_zero]; rfl)) (by kernel_rfl) (by kernel_rfl) (by kernel_rfl) (by intro _ _ _ h; exact h) (Or.inl ⟨by kernel_rfl, ?_⟩) hHeld ?_
  case refine_2 =>
    intro w hSw
    try dsimp only at hSw
    go_simp
    try with_reducible rfl
  try simp only [Act.put, List.setIfInBounds_toArray, List.set_cons_zero, List.set_cons_succ]
  refine wpAnyH_take (i := 8) (v := ?_) (by (simp only [List.getElem?_toArray, List.getElem?_cons_succ, List.getElem?_cons_zero]; rfl)) (by kernel_rfl) (by kernel_rfl) (by kernel_rfl) (by intro _ _ _ h; exact h) (Or.inl ⟨by kernel_rfl, ?_⟩) hHeld ?_
  case refine_2 =>
    intro w hSw
    try dsimp only at hSw
    go_simp
    try with_reducible rfl
  try simp only [Act.put, List.setIfInBounds_toArray, List.set_cons_zero, List.set_cons_succ]
  refine wpAnyH_take (i := 9) (v := ?_) (by (simp only [List.getElem?_toArray, List.getElem?_cons_succ, List.getElem?_cons_zero]; rfl)) (by kernel_rfl) (by kernel_rfl) (by kernel_rfl) (by intro _ _ _ h; exact h) (Or.inl ⟨by kernel_rfl, ?_⟩) hHeld ?_
  case refine_2 =>
    intro w hSw
    try dsimp only at hSw
    go_simp
    try with_reducible rfl
  try simp only [Act.put, List.setIfInBounds_toArray, List.set_cons_zero, List.set_cons_succ]
  refine wpAnyH_take (i := 10) (v := undef) (by (simp only [List.getElem?_toArray, List.getElem?_cons_succ, List.getElem?_cons_zero]; rfl)) (by kernel_rfl) (by kernel_rfl) (by kernel_rfl) (by intro _ _ _ h; exact h) (Or.inr ⟨by kernel_rfl, rfl⟩) hHeld ?_
  try simp only [Act.put, List.setIfInBounds_toArray, List.set_cons_zero, List.set_cons_succ]
  refine wpAnyH_take (i := 11) (v := undef) (by (simp only [List.getElem?_toArray, List.getElem?_cons_succ, List.getElem?_cons_zero]; rfl)) (by kernel_rfl) (by kernel_rfl) (by kernel_rfl) (by intro _ _ _ h; exact h) (Or.inr ⟨by kernel_rfl, rfl⟩) hHeld ?_
  try simp only [Act.put, List.setIfInBounds_toArray, List.set_cons_zero, List.set_cons_succ]
  refine wpAnyH_take (i := 12) (v := undef) (by (simp only [List.getElem?_toArray, List.getElem?_cons_succ, List.getElem?_cons_zero]; rfl)) (by kernel_rfl) (by kernel_rfl) (by kernel_rfl) (by intro _ _ _ h; exact h) (Or.inr ⟨by kernel_rfl, rfl⟩) hHeld ?_
  try simp only [Act.put, List.setIfInBounds_toArray, List.set_cons_zero, List.set_cons_succ]
  refine wpAnyH_take (i := 13) (v := ?_) (by (simp only [List.getElem?_toArray, List.getElem?_cons_succ, List.getElem?_cons_zero]; rfl)) (by kernel_rfl) (by kernel_rfl) (by kernel_rfl) (by intro _ _ _ h; exact h) (Or.inl ⟨by kernel_rfl, ?_⟩) hHeld ?_
  case refine_2 =>
    intro w hSw
    try dsimp only at hSw
    go_simp
    try with_reducible rfl
  try simp only [Act.put, List.setIfInBounds_toArray, List.set_cons_zero, List.set_cons_succ]
  refine wpAnyH_take (i := 14) (v := ?_) (by (simp only [List.getElem?_toArray, List.getElem?_cons_succ, List.getElem?_cons_zero]; rfl)) (by kernel_rfl) (by kernel_rfl) (by kernel_rfl) (by intro _ _ _ h; exact h) (Or.inl ⟨by kernel_rfl, ?_⟩) hHeld ?_
  case refine_2 =>
    intro w hSw
    try dsimp only at hSw
    go_simp
    try with_reducible rfl
  try simp only [Act.put, List.setIfInBounds_toArray, List.set_cons_zero, List.set_cons_succ]
  refine wpAnyH_take (i := 15) (v := ?_) (by (simp only [List.getElem?_toArray, List.getElem?_cons_succ, List.getElem?_cons_zero]; rfl)) (by kernel_rfl) (by kernel_rfl) (by kernel_rfl) (by intro _ _ _ h; exact h) (Or.inl ⟨by kernel_rfl, ?_⟩) hHeld ?_
  case refine_2 =>
    intro w hSw
    try dsimp only at hSw
    go_simp
    try with_reducible rfl
  try simp only [Act.put, List.setIfInBounds_toArray, List.set_cons_zero, List.set_cons_succ]
  refine wpAnyH_done (by kernel_rfl) ?_ _
  go_wp2_with fail
  go_ret
  exact ⟨rfl, HB.out⟩

set_option maxRecDepth 100000 in
set_option maxHeartbeats 4000000 in
theorem values_u_null (m t : Int) (k n : Int) (x : List UInt8) (k2 n2 : Int) (y : List UInt8) (r1 r3 : Int × Int) (HM : Hid ((Lit.int .i64 m).wf = true)) (HH : Hid (shortB 200 [x, y] = true)) (HO1 : Hid (ofT m t k n x k2 n2 y = (r1, 0))) (HO2 : Hid (ofT m t k n x k n x = (r3, 0))) (HU : Hid (UnitR r1)) (h1 : decide (r3 = (1, 1)) = false) (hk : (k == 0) = true) (w : World) :
    Calls Tryd.prog 8 #[.int .i64 m, .int .i64 t, V k n x, V k2 n2 y] w fun e w' => e = .returned (.bool true) ∧ Below w.heap.size w w' := by
  have eqr := fun (r s : Int × Int) (W : World) => eql_rat r s W
  have nqr := fun (r s : Int × Int) (W : World) => neq_rat r s W
  go_enter Tryd.func8, Tryd.ntmps8
  go_wp2_with fail
  refine (head_any _).mono ?_
  rintro e0 w1 ⟨rfl, hb⟩
  have A : L2.Val3 w1 w.heap.size k n x := L2.Val3.below ⟨by simp [go_sem], by simp [go_sem], by simp [go_sem]⟩ hb
  have B : L2.Val3 w1 (w.heap.size + 1) k2 n2 y := L2.Val3.below ⟨by simp [go_sem], by simp [go_sem], by simp [go_sem]⟩ hb
  have HB := Lib.hid (below_up (L2.boxes2 w _ _) hb (by simp <;> omega))
  clear hb
  have a2 := A.c2
  have b2 := B.c2
  go_wp2_with fail
  refine (short_lit 200 [x, y] (by simp) w1).mono ?_
  rw [HH.out]
  rintro e0 w2 ⟨rfl, hb⟩
  have A2 := A.below hb
  have B2 := B.below hb
  have HB2 := Lib.hid (below_up HB.out hb HB.out.size)
  clear hb A B a2 b2
  have a0 := A2.c0
  have a1 := A2.c1
  have a2 := A2.c2
  have b0 := B2.c0
  have b1 := B2.c1
  have b2 := B2.c2
  go_wp2_with fail
  clear a0 a1 a2 b0 b1 b2
  refine (of_any m t k n x k2 n2 y HM.out _).mono ?_
  rw [HO1.out]
  rintro e0 w3 ⟨rfl, hb⟩
  have A3 := A2.below hb
  have B3 := B2.below hb
  have HB3 := Lib.hid (below_up HB2.out hb HB2.out.size)
  clear hb A2 B2
  have a0 := fun o => (A3.alloc o).c0
  have a1 := fun o => (A3.alloc o).c1
  have a2 := fun o => (A3.alloc o).c2
  have b0 := fun o => (B3.alloc o).c0
  have b1 := fun o => (B3.alloc o).c1
  have b2 := fun o => (B3.alloc o).c2
  go_wp2_with fail
  clear a0 a1 a2 b0 b1 b2
  refine (of_any m t k2 n2 y k n x HM.out _).mono ?_
  rw [of_sym, HO1.out]
  rintro e0 w4 ⟨rfl, hb⟩
  have A4 := (A3.alloc _).below hb
  have B4 := (B3.alloc _).below hb
  have X4 := (own2_new w3 r1.1 r1.2 _).below hb
  have HB4 := Lib.hid (below_up (HB3.out.alloc HB3.out.size _) hb (by have := HB3.out.size; simp <;> omega))
  clear hb A3 B3
  obtain ⟨bx, hbx⟩ : ∃ b, w3.heap.size = b := ⟨_, rfl⟩
  rw [hbx] at X4 ⊢
  clear hbx
  have a0 := fun o => (A4.alloc o).c0
  have a1 := fun o => (A4.alloc o).c1
  have a2 := fun o => (A4.alloc o).c2
  go_wp2_with fail
  clear a0 a1 a2
  refine (of_any m t k n x k n x HM.out _).mono ?_
  rw [HO2.out]
  rintro e0 w5 ⟨rfl, hb⟩
  have A5 := (A4.alloc _).below hb
  have X5 := (X4.alloc _).below hb
  have Y5 := (own2_new w4 r1.1 r1.2 _).below hb
  have HB5 := Lib.hid (below_up (HB4.out.alloc HB4.out.size _) hb (by have := HB4.out.size; simp <;> omega))
  clear hb A4 B4 X4
  obtain ⟨by', hby⟩ : ∃ b, w4.heap.size = b := ⟨_, rfl⟩
  rw [hby] at Y5 ⊢
  clear hby
  have x0 := fun o => (X5.alloc o).c0
  have x1 := fun o => (X5.alloc o).c1
  have y0 := fun o => (Y5.alloc o).c0
  have y1 := fun o => (Y5.alloc o).c1
  go_wp2_with fail
  clear x0 x1 y0 y1
  refine (unit_ok r1 HU.out _).mono ?_
  rintro e0 w6 ⟨rfl, hb⟩
  have A6 := (A5.alloc _).below hb
  have Z6 := (own2_new w5 r3.1 r3.2 _).below hb
  have HB6 := Lib.hid (below_up (HB5.out.alloc HB5.out.size _) hb (by have := HB5.out.size; simp <;> omega))
  clear hb A5 X5 Y5
  go_wp2_with fail
  obtain ⟨W, hW⟩ : ∃ W, W = w6 := ⟨_, rfl⟩
  rw [← hW] at A6 Z6 HB6 ⊢
  clear hW
  obtain ⟨bz, hbz⟩ : ∃ b, w5.heap.size = b := ⟨_, rfl⟩
  rw [hbz] at Z6 ⊢
  obtain ⟨ba, hba⟩ : ∃ b, w.heap.size = b := ⟨_, rfl⟩
  rw [hba] at A6 ⊢
  clear hbz
  have HBA := Lib.hid hba
  clear hba
  have a0 := A6.c0
  have z0 := Z6.c0
  have z1 := Z6.c1
  have HB : Hid (Below w.heap.size w (W.drewN 1)) := Lib.hid (dN HB6.out 1)
  have A0 : (W.drewN 1).cell? ⟨ba, 0, none⟩ = some (.int .i64 k) := a0
  have Z0 : (W.drewN 1).cell? ⟨bz, 0, none⟩ = some (.int .i64 r3.1) := z0
  have Z1 : (W.drewN 1).cell? ⟨bz, 1, none⟩ = some (.int .i64 r3.2) := z1
  clear A6 Z6
  refine wp_region_held_drew (S := (fun w' => w'.cell? ⟨bz, 0, none⟩ = some (.int .i64 r3.1) ∧ w'.cell? ⟨bz, 1, none⟩ = some (.int .i64 r3.2) ∧ w'.cell? ⟨ba, 0, none⟩ = some (.int .i64 k))) (by kernel_rfl) ?_ (fun hHeld => ?_)
  · try dsimp only
    go_keep
  refine wpAnyH_take (i := 0) (v := ?_) (by (simp only [List.getElem?_toArray, List.getElem?_cons_zero]; rfl)) (by kernel_rfl) (by kernel_rfl) (by kernel_rfl) (by intro _ _ _ h; exact h) (Or.inl ⟨by kernel_rfl, ?_⟩) hHeld ?_
  case refine_2 =>
    intro w hSw
    try dsimp only at hSw
    go_simp
    try with_reducible rfl
  try simp only [Act.put, List.setIfInBounds_toArray, List.set_cons_zero, List.set_cons_succ]
  refine wpAnyH_take (i := 1) (v := ?_) (by (simp only [List.getElem?_toArray, List.getElem?_cons_succ, List.getElem?_cons_zero]; rfl)) (by kernel_rfl) (by kernel_rfl) (by kernel_rfl) (by intro _ _ _ h; exact h) (Or.inl ⟨by kernel_rfl, ?_⟩) hHeld ?_
  case refine_2 =>
    intro w hSw
    try dsimp only at hSw
    go_simp
    try with_reducible rfl
  try simp only [Act.put, List.setIfInBounds_toArray, List.set_cons_zero, List.set_cons_succ]
  refine wpAnyH_take (i := 2) (v := ?_) (by (simp only [List.getElem?_toArray, List.getElem?_cons_succ, List.getElem?_cons_zero]; rfl)) (by kernel_rfl) (by kernel_rfl) (by kernel_rfl) (by intro _ _ _ h; exact h) (Or.inl ⟨by kernel_rfl, ?_⟩) hHeld ?_
  case refine_2 =>
    intro w hSw
    try dsimp only at hSw
    go_simp
    try with_reducible rfl
  try simp only [Act.put, List.setIfInBounds_toArray, List.set_cons_zero, List.set_cons_succ]
  refine wpAnyH_take (i := 3) (v := ?_) (by (simp only [List.getElem?_toArray, List.getElem?_cons_succ, List.getElem?_cons_zero]; rfl)) (by kernel_rfl) (by kernel_rfl) (by kernel_rfl) (by intro _ _ _ h; exact h) (Or.inl ⟨by kernel_rfl, ?_⟩) hHeld ?_
  case refine_2 =>
    intro w hSw
    try dsimp only at hSw
    go_simp
    try with_reducible rfl
  try simp only [Act.put, List.setIfInBounds_toArray, List.set_cons_zero, List.set_cons_succ]
  refine wpAnyH_take (i := 4) (v := ?_) (by (simp only [List.getElem?_toArray, List.getElem?_cons_succ, List.getElem?_cons_zero]; rfl)) (by kernel_rfl) (by kernel_rfl) (by kernel_rfl) (by intro _ _ _ h; exact h) (Or.inl ⟨by kernel_rfl, ?_⟩) hHeld ?_
  case refine_2 =>
    intro w hSw
    try dsimp only at hSw
    go_simp
    try with_reducible rfl
  try simp only [Act.put, List.setIfInBounds_toArray, List.set_cons_zero, List.set_cons_succ]
  refine wpAnyH_take (i := 5) (v := ?_) (by (simp only [List.getElem?_toArray, List.getElem?_cons_succ, List.getElem?_cons_zero]; rfl)) (by kernel_rfl) (by kernel_rfl) (by kernel_rfl) (by intro _ _ _ h; exact h) (Or.inl ⟨by kernel_rfl, ?_⟩) hHeld ?_
  case refine_2 =>
    intro w hSw
    try dsimp only at hSw
    go_simp
    try with_reducible rfl
  try simp only [Act.put, List.setIfInBounds_toArray, List.set_cons_zero, List.set_cons_succ]
  refine wpAnyH_ready (rs := [6]) (by kernel_rfl) (by simp) ?_
  refine AllReadyH.cons (by (simp only [List.getElem?_toArray, List.getElem?_cons_succ, List.getElem?_cons_zero]; rfl)) (fun K hK => ?_) AllReadyH.nil
  go_simp
  refine (of_law _ _ _).mono ?_
  rintro e v1 ⟨rfl, hv⟩
  replace A0 := cellB hv A0
  replace Z0 := cellB hv Z0
  replace Z1 := cellB hv Z1
  replace HB := Lib.hid (below_up HB.out hv HB.out.size)
  clear hv
  try go_wp2_with fail
  clear hHeld
  refine hK.out _ _ ?_ (fun hHeld => ?_)
  · try dsimp only
    go_keep
  clear hK K
  try simp only [Act.put, List.setIfInBounds_toArray, List.set_cons_zero, List.set_cons_succ]
  refine wpAnyH_take (i := 7) (v := ?_) (by (simp only [List.getElem?_toArray, List.getElem?_cons_succ, List.getElem?_cons_zero]; rfl)) (by kernel_rfl) (by kernel_rfl) (by kernel_rfl) (by intro _ _ _ h; exact h) (Or.inl ⟨by kernel_rfl, ?_⟩) hHeld ?_
  case refine_2 =>
    intro w hSw
    try dsimp only at hSw
    go_simp
    try with_reducible rfl
  try simp only [Act.put, List.setIfInBounds_toArray, List.set_cons_zero, List.set_cons_succ]
  refine wpAnyH_take (i := 8) (v := ?_) (by (simp only [List.getElem?_toArray, List.getElem?_cons_succ, List.getElem?_cons_zero]; rfl)) (by kernel_rfl) (by kernel_rfl) (by kernel_rfl) (by intro _ _ _ h; exact h) (Or.inl ⟨by kernel_rfl, ?_⟩) hHeld ?_
  case refine_2 =>
    intro w hSw
    try dsimp only at hSw
    go_simp
    try with_reducible rfl
  try simp only [Act.put, List.setIfInBounds_toArray, List.set_cons_zero, List.set_cons_succ]
  refine wpAnyH_take (i := 9) (v := ?_) (by (simp only [List.getElem?_toArray, List.getElem?_cons_succ, List.getElem?_cons_zero]; rfl)) (by kernel_rfl) (by kernel_rfl) (by kernel_rfl) (by intro _ _ _ h; exact h) (Or.inl ⟨by kernel_rfl, ?_⟩) hHeld ?_
  case refine_2 =>
    intro w hSw
    try dsimp only at hSw
    go_simp
    try with_reducible rfl
  try simp only [Act.put, List.setIfInBounds_toArray, List.set_cons_zero, List.set_cons_succ]
  refine wpAnyH_take (i := 10) (v := ?_) (by (simp only [List.getElem?_toArray, List.getElem?_cons_succ, List.getElem?_cons_zero]; rfl)) (by kernel_rfl) (by kernel_rfl) (by kernel_rfl) (by intro _ _ _ h; exact h) (Or.inl ⟨by kernel_rfl, ?_⟩) hHeld ?_
  case refine_2 =>
    intro w hSw
    try dsimp only at hSw
    go_simp
    try with_reducible rfl
  try simp only [Act.put, List.setIfInBounds_toArray, List.set_cons_zero, List.set_cons_succ]
  refine wpAnyH_take (i := 11) (v := ?_) (by (simp only [List.getElem?_toArray, List.getElem?_cons_succ, List.getElem?_cons_zero]; rfl)) (by kernel_rfl) (by kernel_rfl) (by kernel_rfl) (by intro _ _ _ h; exact h) (Or.inl ⟨by kernel_rfl, ?_⟩) hHeld ?_
  case refine_2 =>
    intro w hSw
    try dsimp only at hSw
    go_simp
    try with_reducible rfl
  try simp only [Act.put, List.setIfInBounds_toArray, List.set_cons_zero, List.set_cons_succ]
  refine wpAnyH_take (i := 12) (v := ?_) (by (simp only [List.getElem?_toArray, List.getElem?_cons_succ, List.getElem?_cons_zero]; rfl)) (by kernel_rfl) (by kernel_rfl) (by kernel_rfl) (by intro _ _ _ h; exact h) (Or.inl ⟨by kernel_rfl, ?_⟩) hHeld ?_
  case refine_2 =>
    intro w hSw
    try dsimp only at hSw
    go_simp
    try with_reducible rfl
  try simp only [Act.put, List.setIfInBounds_toArray, List.set_cons_zero, List.set_cons_succ]
  refine wpAnyH_take (i := 13) (v := ?_) (by (simp only [List.getElem?_toArray, List.getElem?_cons_succ, List.getElem?_cons_zero]; rfl)) (by kernel_rfl) (by kernel_rfl) (by kernel_rfl) (by intro _ _ _ h; exact h) (Or.inl ⟨by kernel_rfl, ?_⟩) hHeld ?_
  case refine_2 =>
    intro w hSw
    try dsimp only at hSw
    go_simp
    try with_reducible rfl
  try simp only [Act.put, List.setIfInBounds_toArray, List.set_cons_zero, List.set_cons_succ]
  refine wpAnyH_take (i := 14) (v := ?_) (by (simp only [List.getElem?_toArray, List.getElem?_cons_succ, List.getElem?_cons_zero]; rfl)) (by kernel_rfl) (by kernel_rfl) (by kernel_rfl) (by intro _ _ _ h; exact h) (Or.inl ⟨by kernel_rfl, ?_⟩) hHeld ?_
  case refine_2 =>
    intro w hSw
    try dsimp only at hSw
    go_simp
    try with_reducible rfl
  try simp only [Act.put, List.setIfInBounds_toArray, List.set_cons_zero, List.set_cons_succ]
  refine wpAnyH_take (i := 15) (v := ?_) (by (simp only [List.getElem?_toArray, List.getElem?_cons_succ, List.getElem?_cons_zero]; rfl)) (by kernel_rfl) (by kernel_rfl) (by kernel_rfl) (by intro _ _ _ h; exact h) (Or.inl ⟨by kernel_rfl, ?_⟩) hHeld ?_
  case refine_2 =>
    intro w hSw
    try dsimp only at hSw
    go_simp
    try with_reducible rfl
  try simp only [Act.put, List.setIfInBounds_toArray, List.set_cons_zero, List.set_cons_succ]
  refine wpAnyH_done (by kernel_rfl) ?_ _
  go_wp2_with fail
  go_ret
  exact ⟨rfl, HB.out⟩

set_option maxRecDepth 100000 in
set_option maxHeartbeats 4000000 in
theorem values_n_err (m t : Int) (k n : Int) (x : List UInt8) (k2 n2 : Int) (y : List UInt8) (r1 r3 : Int × Int) (e1 : Int) (e3 : Int) (HM : Hid ((Lit.int .i64 m).wf = true)) (HH : Hid (shortB 200 [x, y] = true)) (HO1 : Hid (ofT m t k n x k2 n2 y = (r1, e1))) (HO2 : Hid (ofT m t k n x k n x = (r3, e3))) (he1 : (e1 == 0) = false) (he3 : (e3 == 0) = false) (w : World) :
    Calls Tryd.prog 8 #[.int .i64 m, .int .i64 t, V k n x, V k2 n2 y] w fun e w' => e = .returned (.bool true) ∧ Below w.heap.size w w' := by
  have eqr := fun (r s : Int × Int) (W : World) => eql_rat r s W
  have nqr := fun (r s : Int × Int) (W : World) => neq_rat r s W
  have he1n : (e1 != 0) = true := by rw [bne, he1]; rfl
  have he3n : (e3 != 0) = true := by rw [bne, he3]; rfl
  go_enter Tryd.func8, Tryd.ntmps8
  go_wp2_with fail
  refine (head_any _).mono ?_
  rintro e0 w1 ⟨rfl, hb⟩
  have A : L2.Val3 w1 w.heap.size k n x := L2.Val3.below ⟨by simp [go_sem], by simp [go_sem], by simp [go_sem]⟩ hb
  have B : L2.Val3 w1 (w.heap.size + 1) k2 n2 y := L2.Val3.below ⟨by simp [go_sem], by simp [go_sem], by simp [go_sem]⟩ hb
  have HB := Lib.hid (below_up (L2.boxes2 w _ _) hb (by simp <;> omega))
  clear hb
  have a2 := A.c2
  have b2 := B.c2
  go_wp2_with fail
  refine (short_lit 200 [x, y] (by simp) w1).mono ?_
  rw [HH.out]
  rintro e0 w2 ⟨rfl, hb⟩
  have A2 := A.below hb
  have B2 := B.below hb
  have HB2 := Lib.hid (below_up HB.out hb HB.out.size)
  clear hb A B a2 b2
  have a0 := A2.c0
  have a1 := A2.c1
  have a2 := A2.c2
  have b0 := B2.c0
  have b1 := B2.c1
  have b2 := B2.c2
  go_wp2_with fail
  clear a0 a1 a2 b0 b1 b2
  refine (of_any m t k n x k2 n2 y HM.out _).mono ?_
  rw [HO1.out]
  rintro e0 w3 ⟨rfl, hb⟩
  have A3 := A2.below hb
  have B3 := B2.below hb
  have HB3 := Lib.hid (below_up HB2.out hb HB2.out.size)
  clear hb A2 B2
  have a0 := fun o => (A3.alloc o).c0
  have a1 := fun o => (A3.alloc o).c1
  have a2 := fun o => (A3.alloc o).c2
  have b0 := fun o => (B3.alloc o).c0
  have b1 := fun o => (B3.alloc o).c1
  have b2 := fun o => (B3.alloc o).c2
  go_wp2_with fail
  clear a0 a1 a2 b0 b1 b2
  refine (of_any m t k2 n2 y k n x HM.out _).mono ?_
  rw [of_sym, HO1.out]
  rintro e0 w4 ⟨rfl, hb⟩
  have A4 := (A3.alloc _).below hb
  have B4 := (B3.alloc _).below hb
  have X4 := (own2_new w3 r1.1 r1.2 _).below hb
  have HB4 := Lib.hid (below_up (HB3.out.alloc HB3.out.size _) hb (by have := HB3.out.size; simp <;> omega))
  clear hb A3 B3
  obtain ⟨bx, hbx⟩ : ∃ b, w3.heap.size = b := ⟨_, rfl⟩
  rw [hbx] at X4 ⊢
  clear hbx
  have a0 := fun o => (A4.alloc o).c0
  have a1 := fun o => (A4.alloc o).c1
  have a2 := fun o => (A4.alloc o).c2
  go_wp2_with fail
  clear a0 a1 a2
  refine (of_any m t k n x k n x HM.out _).mono ?_
  rw [HO2.out]
  rintro e0 w5 ⟨rfl, hb⟩
  have A5 := (A4.alloc _).below hb
  have X5 := (X4.alloc _).below hb
  have Y5 := (own2_new w4 r1.1 r1.2 _).below hb
  have HB5 := Lib.hid (below_up (HB4.out.alloc HB4.out.size _) hb (by have := HB4.out.size; simp <;> omega))
  clear hb A4 B4 X4
  obtain ⟨by', hby⟩ : ∃ b, w4.heap.size = b := ⟨_, rfl⟩
  rw [hby] at Y5 ⊢
  clear hby
  have x0 := fun o => (X5.alloc o).c0
  have x1 := fun o => (X5.alloc o).c1
  have y0 := fun o => (Y5.alloc o).c0
  have y1 := fun o => (Y5.alloc o).c1
  go_wp2_with fail
  clear x0 x1 y0 y1
  have A6 := A5.alloc (Obj.cells #[Value.int IntKind.i64 r3.1, Value.int IntKind.i64 r3.2] 33)
  have Z6 := own2_new w5 r3.1 r3.2 33
  have HB6 := Lib.hid (HB5.out.alloc HB5.out.size (Obj.cells #[Value.int IntKind.i64 r3.1, Value.int IntKind.i64 r3.2] 33))
  clear A5 X5 Y5
  obtain ⟨W, hW⟩ : ∃ W, W = w5.alloc (Obj.cells #[Value.int IntKind.i64 r3.1, Value.int IntKind.i64 r3.2] 33) := ⟨_, rfl⟩
  rw [← hW] at A6 Z6 HB6 ⊢
  clear hW
  obtain ⟨bz, hbz⟩ : ∃ b, w5.heap.size = b := ⟨_, rfl⟩
  rw [hbz] at Z6 ⊢
  obtain ⟨ba, hba⟩ : ∃ b, w.heap.size = b := ⟨_, rfl⟩
  rw [hba] at A6 ⊢
  clear hbz
  have HBA := Lib.hid hba
  clear hba
  have a0 := A6.c0
  have z0 := Z6.c0
  have z1 := Z6.c1
  have HB : Hid (Below w.heap.size w (W.drewN 1)) := Lib.hid (dN HB6.out 1)
  have A0 : (W.drewN 1).cell? ⟨ba, 0, none⟩ = some (.int .i64 k) := a0
  have Z0 : (W.drewN 1).cell? ⟨bz, 0, none⟩ = some (.int .i64 r3.1) := z0
  have Z1 : (W.drewN 1).cell? ⟨bz, 1, none⟩ = some (.int .i64 r3.2) := z1
  clear A6 Z6
  refine wp_region_held_drew (S := (fun w' => w'.cell? ⟨bz, 0, none⟩ = some (.int .i64 r3.1) ∧ w'.cell? ⟨bz, 1, none⟩ = some (.int .i64 r3.2) ∧ w'.cell? ⟨ba, 0, none⟩ = some (.int .i64 k))) (by kernel_rfl) ?_ (fun hHeld => ?_)
  · try dsimp only
    go_keep
  refine wpAnyH_take (i := 0) (v := ?_) (by (simp only [List.getElem?_toArray, List.getElem?_cons_zero]; rfl)) (by kernel_rfl) (by kernel_rfl) (by kernel_rfl) (by intro _ _ _ h; exact h) (Or.inl ⟨by kernel_rfl, ?_⟩) hHeld ?_
  case refine_2 =>
    intro w hSw
    try dsimp only at hSw
    go_simp
    try with_reducible rfl
  try simp only [Act.put, List.setIfInBounds_toArray, List.set_cons_zero, List.set_cons_succ]
  refine wpAnyH_take (i := 1) (v := ?_) (by (simp only [List.getElem?_toArray, List.getElem?_cons_succ, List.getElem?_cons_zero]; rfl)) (by kernel_rfl) (by kernel_rfl) (by kernel_rfl) (by intro _ _ _ h; exact h) (Or.inl ⟨by kernel_rfl, ?_⟩) hHeld ?_
  case refine_2 =>
    intro w hSw
    try dsimp only at hSw
    go_simp
    try with_reducible rfl
  try simp only [Act.put, List.setIfInBounds_toArray, List.set_cons_zero, List.set_cons_succ]
  refine wpAnyH_take (i := 2) (v := ?_) (by (simp only [List.getElem?_toArray, List.getElem?_cons_succ, List.getElem?_cons_zero]; rfl)) (by kernel_rfl) (by kernel_rfl) (by kernel_rfl) (by intro _ _ _ h; exact h) (Or.inl ⟨by kernel_rfl, ?_⟩) hHeld ?_
  case refine_2 =>
    intro w hSw
    try dsimp only at hSw
    go_simp
    try with_reducible rfl
  try simp only [Act.put, List.setIfInBounds_toArray, List.set_cons_zero, List.set_cons_succ]
  refine wpAnyH_take (i := 3) (v := ?_) (by (simp only [List.getElem?_toArray, List.getElem?_cons_succ, List.getElem?_cons_zero]; rfl)) (by kernel_rfl) (by kernel_rfl) (by kernel_rfl) (by intro _ _ _ h; exact h) (Or.inl ⟨by kernel_rfl, ?_⟩) hHeld ?_
  case refine_2 =>
    intro w hSw
    try dsimp only at hSw
    go_simp
    try with_reducible rfl
  try simp only [Act.put, List.setIfInBounds_toArray, List.set_cons_zero, List.set_cons_succ]
  refine wpAnyH_take (i := 4) (v := ?_) (by (simp only [List.getElem?_toArray, List.getElem?_cons_succ, List.getElem?_cons_zero]; rfl)) (by kernel_rfl) (by kernel_rfl) (by kernel_rfl) (by intro _ _ _ h; exact h) (Or.inl ⟨by kernel_rfl, ?_⟩) hHeld ?_
  case refine_2 =>
    intro w hSw
    try dsimp only at hSw
    go_simp
    try with_reducible rfl
  try simp only [Act.put, List.setIfInBounds_toArray, List.set_cons_zero, List.set_cons_succ]
  refine wpAnyH_take (i := 5) (v := undef) (by (simp only [List.getElem?_toArray, List.getElem?_cons_succ, List.getElem?_cons_zero]; rfl)) (by kernel_rfl) (by kernel_rfl) (by kernel_rfl) (by intro _ _ _ h; exact h) (Or.inr ⟨by kernel_rfl, rfl⟩) hHeld ?_
  try simp only [Act.put, List.setIfInBounds_toArray, List.set_cons_zero, List.set_cons_succ]
  refine wpAnyH_take (i := 6) (v := undef) (by (simp only [List.getElem?_toArray, List.getElem?_cons_succ, List.getElem?_cons_zero]; rfl)) (by kernel_rfl) (by kernel_rfl) (by kernel_rfl) (by intro _ _ _ h; exact h) (Or.inr ⟨by kernel_rfl, rfl⟩) hHeld ?_
  try simp only [Act.put, List.setIfInBounds_toArray, List.set_cons_zero, List.set_cons_succ]
  refine wpAnyH_take (i := 7) (v := undef) (by (simp only [List.getElem?_toArray, List.getElem?_cons_succ, List.getElem?_cons_zero]; rfl)) (by kernel_rfl) (by kernel_rfl) (by kernel_rfl) (by intro _ _ _ h; exact h) (Or.inr ⟨by kernel_rfl, rfl⟩) hHeld ?_
  try simp only [Act.put, List.setIfInBounds_toArray, List.set_cons_zero, List.set_cons_succ]
  refine wpAnyH_take (i := 8) (v := ?_) (by (simp only [List.getElem?_toArray, List.getElem?_cons_succ, List.getElem?_cons_zero]; rfl)) (by kernel_rfl) (by kernel_rfl) (by kernel_rfl) (by intro _ _ _ h; exact h) (Or.inl ⟨by kernel_rfl, ?_⟩) hHeld ?_
  case refine_2 =>
    intro w hSw
    try dsimp only at hSw
    go_simp
    try with_reducible rfl
  try simp only [Act.put, List.setIfInBounds_toArray, List.set_cons_zero, List.set_cons_succ]
  refine wpAnyH_take (i := 9) (v := ?_) (by (simp only [List.getElem?_toArray, List.getElem?_cons_succ, List.getElem?_cons_zero]; rfl)) (by kernel_rfl) (by kernel_rfl) (by kernel_rfl) (by intro _ _ _ h; exact h) (Or.inl ⟨by kernel_rfl, ?_⟩) hHeld ?_
  case refine_2 =>
    intro w hSw
    try dsimp only at hSw
    go_simp
    try with_reducible rfl
  try simp only [Act.put, List.setIfInBounds_toArray, List.set_cons_zero, List.set_cons_succ]
  refine wpAnyH_take (i := 10) (v := undef) (by (simp only [List.getElem?_toArray, List.getElem?_cons_succ, List.getElem?_cons_zero]; rfl)) (by kernel_rfl) (by kernel_rfl) (by kernel_rfl) (by intro _ _ _ h; exact h) (Or.inr ⟨by kernel_rfl, rfl⟩) hHeld ?_
  try simp only [Act.put, List.setIfInBounds_toArray, List.set_cons_zero, List.set_cons_succ]
  refine wpAnyH_take (i := 11) (v := undef) (by (simp only [List.getElem?_toArray, List.getElem?_cons_succ, List.getElem?_cons_zero]; rfl)) (by kernel_rfl) (by kernel_rfl) (by kernel_rfl) (by intro _ _ _ h; exact h) (Or.inr ⟨by kernel_rfl, rfl⟩) hHeld ?_
  try simp only [Act.put, List.setIfInBounds_toArray, List.set_cons_zero, List.set_cons_succ]
  refine wpAnyH_take (i := 12) (v := undef) (by (simp only [List.getElem?_toArray, List.getElem?_cons_succ, List.getElem?_cons_zero]; rfl)) (by kernel_rfl) (by kernel_rfl) (by kernel_rfl) (by intro _ _ _ h; exact h) (Or.inr ⟨by kernel_rfl, rfl⟩) hHeld ?_
  try simp only [Act.put, List.setIfInBounds_toArray, List.set_cons_zero, List.set_cons_succ]
  refine wpAnyH_take (i := 13) (v := ?_) (by (simp only [List.getElem?_toArray, List.getElem?_cons_succ, List.getElem?_cons_zero]; rfl)) (by kernel_rfl) (by kernel_rfl) (by kernel_rfl) (by intro _ _ _ h; exact h) (Or.inl ⟨by kernel_rfl, ?_⟩) hHeld ?_
  case refine_2 =>
    intro w hSw
    try dsimp only at hSw
    go_simp
    try with_reducible rfl
  try simp only [Act.put, List.setIfInBounds_toArray, List.set_cons_zero, List.set_cons_succ]
  refine wpAnyH_take (i := 14) (v := ?_) (by (simp only [List.getElem?_toArray, List.getElem?_cons_succ, List.getElem?_cons_zero]; rfl)) (by kernel_rfl) (by kernel_rfl) (by kernel_rfl) (by intro _ _ _ h; exact h) (Or.inl ⟨by kernel_rfl, ?_⟩) hHeld ?_
  case refine_2 =>
    intro w hSw
    try dsimp only at hSw
    go_simp
    try with_reducible rfl
  try simp only [Act.put, List.setIfInBounds_toArray, List.set_cons_zero, List.set_cons_succ]
  refine wpAnyH_take (i := 15) (v := ?_) (by (simp only [List.getElem?_toArray, List.getElem?_cons_succ, List.getElem?_cons_zero]; rfl)) (by kernel_rfl) (by kernel_rfl) (by kernel_rfl) (by intro _ _ _ h; exact h) (Or.inl ⟨by kernel_rfl, ?_⟩) hHeld ?_
  case refine_2 =>
    intro w hSw
    try dsimp only at hSw
    go_simp
    try with_reducible rfl
  try simp only [Act.put, List.setIfInBounds_toArray, List.set_cons_zero, List.set_cons_succ]
  refine wpAnyH_done (by kernel_rfl) ?_ _
  go_wp2_with fail
  go_ret
  exact ⟨rfl, HB.out⟩

set_option maxRecDepth 100000 in
set_option maxHeartbeats 4000000 in
theorem values_n_one (m t : Int) (k n : Int) (x : List UInt8) (k2 n2 : Int) (y : List UInt8) (r1 r3 : Int × Int) (e1 : Int) (HM : Hid ((Lit.int .i64 m).wf = true)) (HH : Hid (shortB 200 [x, y] = true)) (HO1 : Hid (ofT m t k n x k2 n2 y = (r1, e1))) (HO2 : Hid (ofT m t k n x k n x = (r3, 0))) (he1 : (e1 == 0) = false) (h1 : decide (r3 = (1, 1)) = true) (w : World) :
    Calls Tryd.prog 8 #[.int .i64 m, .int .i64 t, V k n x, V k2 n2 y] w fun e w' => e = .returned (.bool true) ∧ Below w.heap.size w w' := by
  have eqr := fun (r s : Int × Int) (W : World) => eql_rat r s W
  have nqr := fun (r s : Int × Int) (W : World) => neq_rat r s W
  have he1n : (e1 != 0) = true := by rw [bne, he1]; rfl
  go_enter Tryd.func8, Tryd.ntmps8
  go_wp2_with fail
  refine (head_any _).mono ?_
  rintro e0 w1 ⟨rfl, hb⟩
  have A : L2.Val3 w1 w.heap.size k n x := L2.Val3.below ⟨by simp [go_sem], by simp [go_sem], by simp [go_sem]⟩ hb
  have B : L2.Val3 w1 (w.heap.size + 1) k2 n2 y := L2.Val3.below ⟨by simp [go_sem], by simp [go_sem], by simp [go_sem]⟩ hb
  have HB := Lib.hid (below_up (L2.boxes2 w _ _) hb (by simp <;> omega))
  clear hb
  have a2 := A.c2
  have b2 := B.c2
  go_wp2_with fail
  refine (short_lit 200 [x, y] (by simp) w1).mono ?_
  rw [HH.out]
  rintro e0 w2 ⟨rfl, hb⟩
  have A2 := A.below hb
  have B2 := B.below hb
  have HB2 := Lib.hid (below_up HB.out hb HB.out.size)
  clear hb A B a2 b2
  have a0 := A2.c0
  have a1 := A2.c1
  have a2 := A2.c2
  have b0 := B2.c0
  have b1 := B2.c1
  have b2 := B2.c2
  go_wp2_with fail
  clear a0 a1 a2 b0 b1 b2
  refine (of_any m t k n x k2 n2 y HM.out _).mono ?_
  rw [HO1.out]
  rintro e0 w3 ⟨rfl, hb⟩
  have A3 := A2.below hb
  have B3 := B2.below hb
  have HB3 := Lib.hid (below_up HB2.out hb HB2.out.size)
  clear hb A2 B2
  have a0 := fun o => (A3.alloc o).c0
  have a1 := fun o => (A3.alloc o).c1
  have a2 := fun o => (A3.alloc o).c2
  have b0 := fun o => (B3.alloc o).c0
  have b1 := fun o => (B3.alloc o).c1
  have b2 := fun o => (B3.alloc o).c2
  go_wp2_with fail
  clear a0 a1 a2 b0 b1 b2
  refine (of_any m t k2 n2 y k n x HM.out _).mono ?_
  rw [of_sym, HO1.out]
  rintro e0 w4 ⟨rfl, hb⟩
  have A4 := (A3.alloc _).below hb
  have B4 := (B3.alloc _).below hb
  have X4 := (own2_new w3 r1.1 r1.2 _).below hb
  have HB4 := Lib.hid (below_up (HB3.out.alloc HB3.out.size _) hb (by have := HB3.out.size; simp <;> omega))
  clear hb A3 B3
  obtain ⟨bx, hbx⟩ : ∃ b, w3.heap.size = b := ⟨_, rfl⟩
  rw [hbx] at X4 ⊢
  clear hbx
  have a0 := fun o => (A4.alloc o).c0
  have a1 := fun o => (A4.alloc o).c1
  have a2 := fun o => (A4.alloc o).c2
  go_wp2_with fail
  clear a0 a1 a2
  refine (of_any m t k n x k n x HM.out _).mono ?_
  rw [HO2.out]
  rintro e0 w5 ⟨rfl, hb⟩
  have A5 := (A4.alloc _).below hb
  have X5 := (X4.alloc _).below hb
  have Y5 := (own2_new w4 r1.1 r1.2 _).below hb
  have HB5 := Lib.hid (below_up (HB4.out.alloc HB4.out.size _) hb (by have := HB4.out.size; simp <;> omega))
  clear hb A4 B4 X4
  obtain ⟨by', hby⟩ : ∃ b, w4.heap.size = b := ⟨_, rfl⟩
  rw [hby] at Y5 ⊢
  clear hby
  have x0 := fun o => (X5.alloc o).c0
  have x1 := fun o => (X5.alloc o).c1
  have y0 := fun o => (Y5.alloc o).c0
  have y1 := fun o => (Y5.alloc o).c1
  go_wp2_with fail
  clear x0 x1 y0 y1
  have A6 := A5.alloc (Obj.cells #[Value.int IntKind.i64 r3.1, Value.int IntKind.i64 r3.2] 33)
  have Z6 := own2_new w5 r3.1 r3.2 33
  have HB6 := Lib.hid (HB5.out.alloc HB5.out.size (Obj.cells #[Value.int IntKind.i64 r3.1, Value.int IntKind.i64 r3.2] 33))
  clear A5 X5 Y5
  obtain ⟨W, hW⟩ : ∃ W, W = w5.alloc (Obj.cells #[Value.int IntKind.i64 r3.1, Value.int IntKind.i64 r3.2] 33) := ⟨_, rfl⟩
  rw [← hW] at A6 Z6 HB6 ⊢
  clear hW
  obtain ⟨bz, hbz⟩ : ∃ b, w5.heap.size = b := ⟨_, rfl⟩
  rw [hbz] at Z6 ⊢
  obtain ⟨ba, hba⟩ : ∃ b, w.heap.size = b := ⟨_, rfl⟩
  rw [hba] at A6 ⊢
  clear hbz
  have HBA := Lib.hid hba
  clear hba
  have a0 := A6.c0
  have z0 := Z6.c0
  have z1 := Z6.c1
  have HB : Hid (Below w.heap.size w (W.drewN 1)) := Lib.hid (dN HB6.out 1)
  have A0 : (W.drewN 1).cell? ⟨ba, 0, none⟩ = some (.int .i64 k) := a0
  have Z0 : (W.drewN 1).cell? ⟨bz, 0, none⟩ = some (.int .i64 r3.1) := z0
  have Z1 : (W.drewN 1).cell? ⟨bz, 1, none⟩ = some (.int .i64 r3.2) := z1
  clear A6 Z6
  refine wp_region_held_drew (S := (fun w' => w'.cell? ⟨bz, 0, none⟩ = some (.int .i64 r3.1) ∧ w'.cell? ⟨bz, 1, none⟩ = some (.int .i64 r3.2) ∧ w'.cell? ⟨ba, 0, none⟩ = some (.int .i64 k))) (by kernel_rfl) ?_ (fun hHeld => ?_)
  · try dsimp only
    go_keep
  refine wpAnyH_take (i := 0) (v := ?_) (by (simp only [List.getElem?_toArray, List.getElem?_cons_zero]; rfl)) (by kernel_rfl) (by kernel_rfl) (by kernel_rfl) (by intro _ _ _ h; exact h) (Or.inl ⟨by kernel_rfl, ?_⟩) hHeld ?_
  case refine_2 =>
    intro w hSw
    try dsimp only at hSw
    go_simp
    try with_reducible rfl
  try simp only [Act.put, List.setIfInBounds_toArray, List.set_cons_zero, List.set_cons_succ]
  refine wpAnyH_take (i := 1) (v := ?_) (by (simp only [List.getElem?_toArray, List.getElem?_cons_succ, List.getElem?_cons_zero]; rfl)) (by kernel_rfl) (by kernel_rfl) (by kernel_rfl) (by intro _ _ _ h; exact h) (Or.inl ⟨by kernel_rfl, ?_⟩) hHeld ?_
  case refine_2 =>
    intro w hSw
    try dsimp only at hSw
    go_simp
    try with_reducible rfl
  try simp only [Act.put, List.setIfInBounds_toArray, List.set_cons_zero, List.set_cons_succ]
  refine wpAnyH_take (i := 2) (v := ?_) (by (simp only [List.getElem?_toArray, List.getElem?_cons_succ, List.getElem?_cons_zero]; rfl)) (by kernel_rfl) (by kernel_rfl) (by kernel_rfl) (by intro _ _ _ h; exact h) (Or.inl ⟨by kernel_rfl, ?_⟩) hHeld ?_
  case refine_2 =>
    intro w hSw
    try dsimp only at hSw
    go_simp
    try with_reducible rfl
  try simp only [Act.put, List.setIfInBounds_toArray, List.set_cons_zero, List.set_cons_succ]
  refine wpAnyH_take (i := 3) (v := ?_) (by (simp only [List.getElem?_toArray, List.getElem?_cons_succ, List.getElem?_cons_zero]; rfl)) (by kernel_rfl) (by kernel_rfl) (by kernel_rfl) (by intro _ _ _ h; exact h) (Or.inl ⟨by kernel_rfl, ?_⟩) hHeld ?_
  case refine_2 =>
    intro w hSw
    try dsimp only at hSw
    go_simp
    try with_reducible rfl
  try simp only [Act.put, List.setIfInBounds_toArray, List.set_cons_zero, List.set_cons_succ]
  refine wpAnyH_take (i := 4) (v := ?_) (by (simp only [List.getElem?_toArray, List.getElem?_cons_succ, List.getElem?_cons_zero]; rfl)) (by kernel_rfl) (by kernel_rfl) (by kernel_rfl) (by intro _ _ _ h; exact h) (Or.inl ⟨by kernel_rfl, ?_⟩) hHeld ?_
  case refine_2 =>
    intro w hSw
    try dsimp only at hSw
    go_simp
    try with_reducible rfl
  try simp only [Act.put, List.setIfInBounds_toArray, List.set_cons_zero, List.set_cons_succ]
  refine wpAnyH_take (i := 5) (v := ?_) (by (simp only [List.getElem?_toArray, List.getElem?_cons_succ, List.getElem?_cons_zero]; rfl)) (by kernel_rfl) (by kernel_rfl) (by kernel_rfl) (by intro _ _ _ h; exact h) (Or.inl ⟨by kernel_rfl, ?_⟩) hHeld ?_
  case refine_2 =>
    intro w hSw
    try dsimp only at hSw
    go_simp
    try with_reducible rfl
  try simp only [Act.put, List.setIfInBounds_toArray, List.set_cons_zero, List.set_cons_succ]
  refine wpAnyH_ready (rs := [6]) (by kernel_rfl) (by simp) ?_
  refine AllReadyH.cons (by (simp only [List.getElem?_toArray, List.getElem?_cons_succ, List.getElem?_cons_zero]; rfl)) (fun K hK => ?_) AllReadyH.nil
  go_simp
  refine (of_law _ _ _).mono ?_
  rintro e v1 ⟨rfl, hv⟩
  replace A0 := cellB hv A0
  replace Z0 := cellB hv Z0
  replace Z1 := cellB hv Z1
  replace HB := Lib.hid (below_up HB.out hv HB.out.size)
  clear hv
  try go_wp2_with fail
  clear hHeld
  refine hK.out _ _ ?_ (fun hHeld => ?_)
  · try dsimp only
    go_keep
  clear hK K
  try simp only [Act.put, List.setIfInBounds_toArray, List.set_cons_zero, List.set_cons_succ]
  refine wpAnyH_take (i := 7) (v := ?_) (by (simp only [List.getElem?_toArray, List.getElem?_cons_succ, List.getElem?_cons_zero]; rfl)) (by kernel_rfl) (by kernel_rfl) (by kernel_rfl) (by intro _ _ _ h; exact h) (Or.inl ⟨by kernel_rfl, ?_⟩) hHeld ?_
  case refine_2 =>
    intro w hSw
    try dsimp only at hSw
    go_simp
    try with_reducible rfl
  try simp only [Act.put, List.setIfInBounds_toArray, List.set_cons_zero, List.set_cons_succ]
  refine wpAnyH_take (i := 8) (v := ?_) (by (simp only [List.getElem?_toArray, List.getElem?_cons_succ, List.getElem?_cons_zero]; rfl)) (by kernel_rfl) (by kernel_rfl) (by kernel_rfl) (by intro _ _ _ h; exact h) (Or.inl ⟨by kernel_rfl, ?_⟩) hHeld ?_
  case refine_2 =>
    intro w hSw
    try dsimp only at hSw
    go_simp
    try with_reducible rfl
  try simp only [Act.put, List.setIfInBounds_toArray, List.set_cons_zero, List.set_cons_succ]
  refine wpAnyH_take (i := 9) (v := ?_) (by (simp only [List.getElem?_toArray, List.getElem?_cons_succ, List.getElem?_cons_zero]; rfl)) (by kernel_rfl) (by kernel_rfl) (by kernel_rfl) (by intro _ _ _ h; exact h) (Or.inl ⟨by kernel_rfl, ?_⟩) hHeld ?_
  case refine_2 =>
    intro w hSw
    try dsimp only at hSw
    go_simp
    try with_reducible rfl
  try simp only [Act.put, List.setIfInBounds_toArray, List.set_cons_zero, List.set_cons_succ]
  refine wpAnyH_take (i := 10) (v := undef) (by (simp only [List.getElem?_toArray, List.getElem?_cons_succ, List.getElem?_cons_zero]; rfl)) (by kernel_rfl) (by kernel_rfl) (by kernel_rfl) (by intro _ _ _ h; exact h) (Or.inr ⟨by kernel_rfl, rfl⟩) hHeld ?_
  try simp only [Act.put, List.setIfInBounds_toArray, List.set_cons_zero, List.set_cons_succ]
  refine wpAnyH_take (i := 11) (v := undef) (by (simp only [List.getElem?_toArray, List.getElem?_cons_succ, List.getElem?_cons_zero]; rfl)) (by kernel_rfl) (by kernel_rfl) (by kernel_rfl) (by intro _ _ _ h; exact h) (Or.inr ⟨by kernel_rfl, rfl⟩) hHeld ?_
  try simp only [Act.put, List.setIfInBounds_toArray, List.set_cons_zero, List.set_cons_succ]
  refine wpAnyH_take (i := 12) (v := undef) (by (simp only [List.getElem?_toArray, List.getElem?_cons_succ, List.getElem?_cons_zero]; rfl)) (by kernel_rfl) (by kernel_rfl) (by kernel_rfl) (by intro _ _ _ h; exact h) (Or.inr ⟨by kernel_rfl, rfl⟩) hHeld ?_
  try simp only [Act.put, List.setIfInBounds_toArray, List.set_cons_zero, List.set_cons_succ]
  refine wpAnyH_take (i := 13) (v := ?_) (by (simp only [List.getElem?_toArray, List.getElem?_cons_succ, List.getElem?_cons_zero]; rfl)) (by kernel_rfl) (by kernel_rfl) (by kernel_rfl) (by intro _ _ _ h; exact h) (Or.inl ⟨by kernel_rfl, ?_⟩) hHeld ?_
  case refine_2 =>
    intro w hSw
    try dsimp only at hSw
    go_simp
    try with_reducible rfl
  try simp only [Act.put, List.setIfInBounds_toArray, List.set_cons_zero, List.set_cons_succ]
  refine wpAnyH_take (i := 14) (v := ?_) (by (simp only [List.getElem?_toArray, List.getElem?_cons_succ, List.getElem?_cons_zero]; rfl)) (by kernel_rfl) (by kernel_rfl) (by kernel_rfl) (by intro _ _ _ h; exact h) (Or.inl ⟨by kernel_rfl, ?_⟩) hHeld ?_
  case refine_2 =>
    intro w hSw
    try dsimp only at hSw
    go_simp
    try with_reducible rfl
  try simp only [Act.put, List.setIfInBounds_toArray, List.set_cons_zero, List.set_cons_succ]
  refine wpAnyH_take (i := 15) (v := ?_) (by (simp only [List.getElem?_toArray, List.getElem?_cons_succ, List.getElem?_cons_zero]; rfl)) (by kernel_rfl) (by kernel_rfl) (by kernel_rfl) (by intro _ _ _ h; exact h) (Or.inl ⟨by kernel_rfl, ?_⟩) hHeld ?_
  case refine_2 =>
    intro w hSw
    try dsimp only at hSw
    go_simp
    try with_reducible rfl
  try simp only [Act.put, List.setIfInBounds_toArray, List.set_cons_zero, List.set_cons_succ]
  refine wpAnyH_done (by kernel_rfl) ?_ _
  go_wp2_with fail
  go_ret
  exact ⟨rfl, HB.out⟩

set_option maxRecDepth 100000 in
set_option maxHeartbeats 4000000 in
theorem values_n_null (m t : Int) (k n : Int) (x : List UInt8) (k2 n2 : Int) (y : List UInt8) (r1 r3 : Int × Int) (e1 : Int) (HM : Hid ((Lit.int .i64 m).wf = true)) (HH : Hid (shortB 200 [x, y] = true)) (HO1 : Hid (ofT m t k n x k2 n2 y = (r1, e1))) (HO2 : Hid (ofT m t k n x k n x = (r3, 0))) (he1 : (e1 == 0) = false) (h1 : decide (r3 = (1, 1)) = false) (hk : (k == 0) = true) (w : World) :
    Calls Tryd.prog 8 #[.int .i64 m, .int .i64 t, V k n x, V k2 n2 y] w fun e w' => e = .returned (.bool true) ∧ Below w.heap.size w w' := by
  have eqr := fun (r s : Int × Int) (W : World) => eql_rat r s W
  have nqr := fun (r s : Int × Int) (W : World) => neq_rat r s W
  have he1n : (e1 != 0) = true := by rw [bne, he1]; rfl
  go_enter Tryd.func8, Tryd.ntmps8
  go_wp2_with fail
  refine (head_any _).mono ?_
  rintro e0 w1 ⟨rfl, hb⟩
  have A : L2.Val3 w1 w.heap.size k n x := L2.Val3.below ⟨by simp [go_sem], by simp [go_sem], by simp [go_sem]⟩ hb
  have B : L2.Val3 w1 (w.heap.size + 1) k2 n2 y := L2.Val3.below ⟨by simp [go_sem], by simp [go_sem], by simp [go_sem]⟩ hb
  have HB := Lib.hid (below_up (L2.boxes2 w _ _) hb (by simp <;> omega))
  clear hb
  have a2 := A.c2
  have b2 := B.c2
  go_wp2_with fail
  refine (short_lit 200 [x, y] (by simp) w1).mono ?_
  rw [HH.out]
  rintro e0 w2 ⟨rfl, hb⟩
  have A2 := A.below hb
  have B2 := B.below hb
  have HB2 := Lib.hid (below_up HB.out hb HB.out.size)
  clear hb A B a2 b2
  have a0 := A2.c0
  have a1 := A2.c1
  have a2 := A2.c2
  have b0 := B2.c0
  have b1 := B2.c1
  have b2 := B2.c2
  go_wp2_with fail
  clear a0 a1 a2 b0 b1 b2
  refine (of_any m t k n x k2 n2 y HM.out _).mono ?_
  rw [HO1.out]
  rintro e0 w3 ⟨rfl, hb⟩
  have A3 := A2.below hb
  have B3 := B2.below hb
  have HB3 := Lib.hid (below_up HB2.out hb HB2.out.size)
  clear hb A2 B2
  have a0 := fun o => (A3.alloc o).c0
  have a1 := fun o => (A3.alloc o).c1
  have a2 := fun o => (A3.alloc o).c2
  have b0 := fun o => (B3.alloc o).c0
  have b1 := fun o => (B3.alloc o).c1
  have b2 := fun o => (B3.alloc o).c2
  go_wp2_with fail
  clear a0 a1 a2 b0 b1 b2
  refine (of_any m t k2 n2 y k n x HM.out _).mono ?_
  rw [of_sym, HO1.out]
  rintro e0 w4 ⟨rfl, hb⟩
  have A4 := (A3.alloc _).below hb
  have B4 := (B3.alloc _).below hb
  have X4 := (own2_new w3 r1.1 r1.2 _).below hb
  have HB4 := Lib.hid (below_up (HB3.out.alloc HB3.out.size _) hb (by have := HB3.out.size; simp <;> omega))
  clear hb A3 B3
  obtain ⟨bx, hbx⟩ : ∃ b, w3.heap.size = b := ⟨_, rfl⟩
  rw [hbx] at X4 ⊢
  clear hbx
  have a0 := fun o => (A4.alloc o).c0
  have a1 := fun o => (A4.alloc o).c1
  have a2 := fun o => (A4.alloc o).c2
  go_wp2_with fail
  clear a0 a1 a2
  refine (of_any m t k n x k n x HM.out _).mono ?_
  rw [HO2.out]
  rintro e0 w5 ⟨rfl, hb⟩
  have A5 := (A4.alloc _).below hb
  have X5 := (X4.alloc _).below hb
  have Y5 := (own2_new w4 r1.1 r1.2 _).below hb
  have HB5 := Lib.hid (below_up (HB4.out.alloc HB4.out.size _) hb (by have := HB4.out.size; simp <;> omega))
  clear hb A4 B4 X4
  obtain ⟨by', hby⟩ : ∃ b, w4.heap.size = b := ⟨_, rfl⟩
  rw [hby] at Y5 ⊢
  clear hby
  have x0 := fun o => (X5.alloc o).c0
  have x1 := fun o => (X5.alloc o).c1
  have y0 := fun o => (Y5.alloc o).c0
  have y1 := fun o => (Y5.alloc o).c1
  go_wp2_with fail
  clear x0 x1 y0 y1
  have A6 := A5.alloc (Obj.cells #[Value.int IntKind.i64 r3.1, Value.int IntKind.i64 r3.2] 33)
  have Z6 := own2_new w5 r3.1 r3.2 33
  have HB6 := Lib.hid (HB5.out.alloc HB5.out.size (Obj.cells #[Value.int IntKind.i64 r3.1, Value.int IntKind.i64 r3.2] 33))
  clear A5 X5 Y5
  obtain ⟨W, hW⟩ : ∃ W, W = w5.alloc (Obj.cells #[Value.int IntKind.i64 r3.1, Value.int IntKind.i64 r3.2] 33) := ⟨_, rfl⟩
  rw [← hW] at A6 Z6 HB6 ⊢
  clear hW
  obtain ⟨bz, hbz⟩ : ∃ b, w5.heap.size = b := ⟨_, rfl⟩
  rw [hbz] at Z6 ⊢
  obtain ⟨ba, hba⟩ : ∃ b, w.heap.size = b := ⟨_, rfl⟩
  rw [hba] at A6 ⊢
  clear hbz
  have HBA := Lib.hid hba
  clear hba
  have a0 := A6.c0
  have z0 := Z6.c0
  have z1 := Z6.c1
  have HB : Hid (Below w.heap.size w (W.drewN 1)) := Lib.hid (dN HB6.out 1)
  have A0 : (W.drewN 1).cell? ⟨ba, 0, none⟩ = some (.int .i64 k) := a0
  have Z0 : (W.drewN 1).cell? ⟨bz, 0, none⟩ = some (.int .i64 r3.1) := z0
  have Z1 : (W.drewN 1).cell? ⟨bz, 1, none⟩ = some (.int .i64 r3.2) := z1
  clear A6 Z6
  refine wp_region_held_drew (S := (fun w' => w'.cell? ⟨bz, 0, none⟩ = some (.int .i64 r3.1) ∧ w'.cell? ⟨bz, 1, none⟩ = some (.int .i64 r3.2) ∧ w'.cell? ⟨ba, 0, none⟩ = some (.int .i64 k))) (by kernel_rfl) ?_ (fun hHeld => ?_)
  · try dsimp only
    go_keep
  refine wpAnyH_take (i := 0) (v := ?_) (by (simp only [List.getElem?_toArray, List.getElem?_cons_zero]; rfl)) (by kernel_rfl) (by kernel_rfl) (by kernel_rfl) (by intro _ _ _ h; exact h) (Or.inl ⟨by kernel_rfl, ?_⟩) hHeld ?_
  case refine_2 =>
    intro w hSw
    try dsimp only at hSw
    go_simp
    try with_reducible rfl
  try simp only [Act.put, List.setIfInBounds_toArray, List.set_cons_zero, List.set_cons_succ]
  refine wpAnyH_take (i := 1) (v := ?_) (by (simp only [List.getElem?_toArray, List.getElem?_cons_succ, List.getElem?_cons_zero]; rfl)) (by kernel_rfl) (by kernel_rfl) (by kernel_rfl) (by intro _ _ _ h; exact h) (Or.inl ⟨by kernel_rfl, ?_⟩) hHeld ?_
  case refine_2 =>
    intro w hSw
    try dsimp only at hSw
    go_simp
    try with_reducible rfl
  try simp only [Act.put, List.setIfInBounds_toArray, List.set_cons_zero, List.set_cons_succ]
  refine wpAnyH_take (i := 2) (v := ?_) (by (simp only [List.getElem?_toArray, List.getElem?_cons_succ, List.getElem?_cons_zero]; rfl)) (by kernel_rfl) (by kernel_rfl) (by kernel_rfl) (by intro _ _ _ h; exact h) (Or.inl ⟨by kernel_rfl, ?_⟩) hHeld ?_
  case refine_2 =>
    intro w hSw
    try dsimp only at hSw
    go_simp
    try with_reducible rfl
  try simp only [Act.put, List.setIfInBounds_toArray, List.set_cons_zero, List.set_cons_succ]
  refine wpAnyH_take (i := 3) (v := ?_) (by (simp only [List.getElem?_toArray, List.getElem?_cons_succ, List.getElem?_cons_zero]; rfl)) (by kernel_rfl) (by kernel_rfl) (by kernel_rfl) (by intro _ _ _ h; exact h) (Or.inl ⟨by kernel_rfl, ?_⟩) hHeld ?_
  case refine_2 =>
    intro w hSw
    try dsimp only at hSw
    go_simp
    try with_reducible rfl
  try simp only [Act.put, List.setIfInBounds_toArray, List.set_cons_zero, List.set_cons_succ]
  refine wpAnyH_take (i := 4) (v := ?_) (by (simp only [List.getElem?_toArray, List.getElem?_cons_succ, List.getElem?_cons_zero]; rfl)) (by kernel_rfl) (by kernel_rfl) (by kernel_rfl) (by intro _ _ _ h; exact h) (Or.inl ⟨by kernel_rfl, ?_⟩) hHeld ?_
  case refine_2 =>
    intro w hSw
    try dsimp only at hSw
    go_simp
    try with_reducible rfl
  try simp only [Act.put, List.setIfInBounds_toArray, List.set_cons_zero, List.set_cons_succ]
  refine wpAnyH_take (i := 5) (v := ?_) (by (simp only [List.getElem?_toArray, List.getElem?_cons_succ, List.getElem?_cons_zero]; rfl)) (by kernel_rfl) (by kernel_rfl) (by kernel_rfl) (by intro _ _ _ h; exact h) (Or.inl ⟨by kernel_rfl, ?_⟩) hHeld ?_
  case refine_2 =>
    intro w hSw
    try dsimp only at hSw
    go_simp
    try with_reducible rfl
  try simp only [Act.put, List.setIfInBounds_toArray, List.set_cons_zero, List.set_cons_succ]
  refine wpAnyH_ready (rs := [6]) (by kernel_rfl) (by simp) ?_
  refine AllReadyH.cons (by (simp only [List.getElem?_toArray, List.getElem?_cons_succ, List.getElem?_cons_zero]; rfl)) (fun K hK => ?_) AllReadyH.nil
  go_simp
  refine (of_law _ _ _).mono ?_
  rintro e v1 ⟨rfl, hv⟩
  replace A0 := cellB hv A0
  replace Z0 := cellB hv Z0
  replace Z1 := cellB hv Z1
  replace HB := Lib.hid (below_up HB.out hv HB.out.size)
  clear hv
  try go_wp2_with fail
  clear hHeld
  refine hK.out _ _ ?_ (fun hHeld => ?_)
  · try dsimp only
    go_keep
  clear hK K
  try simp only [Act.put, List.setIfInBounds_toArray, List.set_cons_zero, List.set_cons_succ]
  refine wpAnyH_take (i := 7) (v := ?_) (by (simp only [List.getElem?_toArray, List.getElem?_cons_succ, List.getElem?_cons_zero]; rfl)) (by kernel_rfl) (by kernel_rfl) (by kernel_rfl) (by intro _ _ _ h; exact h) (Or.inl ⟨by kernel_rfl, ?_⟩) hHeld ?_
  case refine_2 =>
    intro w hSw
    try dsimp only at hSw
    go_simp
    try with_reducible rfl
  try simp only [Act.put, List.setIfInBounds_toArray, List.set_cons_zero, List.set_cons_succ]
  refine wpAnyH_take (i := 8) (v := ?_) (by (simp only [List.getElem?_toArray, List.getElem?_cons_succ, List.getElem?_cons_zero]; rfl)) (by kernel_rfl) (by kernel_rfl) (by kernel_rfl) (by intro _ _ _ h; exact h) (Or.inl ⟨by kernel_rfl, ?_⟩) hHeld ?_
  case refine_2 =>
    intro w hSw
    try dsimp only at hSw
    go_simp
    try with_reducible rfl
  try simp only [Act.put, List.setIfInBounds_toArray, List.set_cons_zero, List.set_cons_succ]
  refine wpAnyH_take (i := 9) (v := ?_) (by (simp only [List.getElem?_toArray, List.getElem?_cons_succ, List.getElem?_cons_zero]; rfl)) (by kernel_rfl) (by kernel_rfl) (by kernel_rfl) (by intro _ _ _ h; exact h) (Or.inl ⟨by kernel_rfl, ?_⟩) hHeld ?_
  case refine_2 =>
    intro w hSw
    try dsimp only at hSw
    go_simp
    try with_reducible rfl
  try simp only [Act.put, List.setIfInBounds_toArray, List.set_cons_zero, List.set_cons_succ]
  refine wpAnyH_take (i := 10) (v := ?_) (by (simp only [List.getElem?_toArray, List.getElem?_cons_succ, List.getElem?_cons_zero]; rfl)) (by kernel_rfl) (by kernel_rfl) (by kernel_rfl) (by intro _ _ _ h; exact h) (Or.inl ⟨by kernel_rfl, ?_⟩) hHeld ?_
  case refine_2 =>
    intro w hSw
    try dsimp only at hSw
    go_simp
    try with_reducible rfl
  try simp only [Act.put, List.setIfInBounds_toArray, List.set_cons_zero, List.set_cons_succ]
  refine wpAnyH_take (i := 11) (v := ?_) (by (simp only [List.getElem?_toArray, List.getElem?_cons_succ, List.getElem?_cons_zero]; rfl)) (by kernel_rfl) (by kernel_rfl) (by kernel_rfl) (by intro _ _ _ h; exact h) (Or.inl ⟨by kernel_rfl, ?_⟩) hHeld ?_
  case refine_2 =>
    intro w hSw
    try dsimp only at hSw
    go_simp
    try with_reducible rfl
  try simp only [Act.put, List.setIfInBounds_toArray, List.set_cons_zero, List.set_cons_succ]
  refine wpAnyH_take (i := 12) (v := ?_) (by (simp only [List.getElem?_toArray, List.getElem?_cons_succ, List.getElem?_cons_zero]; rfl)) (by kernel_rfl) (by kernel_rfl) (by kernel_rfl) (by intro _ _ _ h; exact h) (Or.inl ⟨by kernel_rfl, ?_⟩) hHeld ?_
  case refine_2 =>
    intro w hSw
    try dsimp only at hSw
    go_simp
    try with_reducible rfl
  try simp only [Act.put, List.setIfInBounds_toArray, List.set_cons_zero, List.set_cons_succ]
  refine wpAnyH_take (i := 13) (v := ?_) (by (simp only [List.getElem?_toArray, List.getElem?_cons_succ, List.getElem?_cons_zero]; rfl)) (by kernel_rfl) (by kernel_rfl) (by kernel_rfl) (by intro _ _ _ h; exact h) (Or.inl ⟨by kernel_rfl, ?_⟩) hHeld ?_
  case refine_2 =>
    intro w hSw
    try dsimp only at hSw
    go_simp
    try with_reducible rfl
  try simp only [Act.put, List.setIfInBounds_toArray, List.set_cons_zero, List.set_cons_succ]
  refine wpAnyH_take (i := 14) (v := ?_) (by (simp only [List.getElem?_toArray, List.getElem?_cons_succ, List.getElem?_cons_zero]; rfl)) (by kernel_rfl) (by kernel_rfl) (by kernel_rfl) (by intro _ _ _ h; exact h) (Or.inl ⟨by kernel_rfl, ?_⟩) hHeld ?_
  case refine_2 =>
    intro w hSw
    try dsimp only at hSw
    go_simp
    try with_reducible rfl
  try simp only [Act.put, List.setIfInBounds_toArray, List.set_cons_zero, List.set_cons_succ]
  refine wpAnyH_take (i := 15) (v := ?_) (by (simp only [List.getElem?_toArray, List.getElem?_cons_succ, List.getElem?_cons_zero]; rfl)) (by kernel_rfl) (by kernel_rfl) (by kernel_rfl) (by intro _ _ _ h; exact h) (Or.inl ⟨by kernel_rfl, ?_⟩) hHeld ?_
  case refine_2 =>
    intro w hSw
    try dsimp only at hSw
    go_simp
    try with_reducible rfl
  try simp only [Act.put, List.setIfInBounds_toArray, List.set_cons_zero, List.set_cons_succ]
  refine wpAnyH_done (by kernel_rfl) ?_ _
  go_wp2_with fail
  go_ret
  exact ⟨rfl, HB.out⟩

theorem values_any (m t : Int) (k n : Int) (x : List UInt8) (k2 n2 : Int) (y : List UInt8) (hm : (Lit.int .i64 m).wf = true) (w : World) :
    Calls Tryd.prog 8 #[.int .i64 m, .int .i64 t, V k n x, V k2 n2 y] w fun e w' => e = .returned (.bool true) ∧ Below w.heap.size w w' := by
  cases h : shortB 200 [x, y] with
  | false => exact values_l m t k n x k2 n2 y h w
  | true =>
    have hu := of_unit m t k n x k2 n2 y
    have hs := of_self m t k n x
    obtain ⟨⟨r1, e1⟩, h1⟩ : ∃ r, ofT m t k n x k2 n2 y = r := ⟨_, rfl⟩
    obtain ⟨⟨r3, e3⟩, h3⟩ : ∃ r, ofT m t k n x k n x = r := ⟨_, rfl⟩
    rw [h1] at hu
    rw [h3] at hs
    by_cases g1 : e1 = 0
    · subst g1
      by_cases g3 : e3 = 0
      · subst g3
        by_cases q : r3 = (1, 1)
        · exact values_u_one m t k n x k2 n2 y r1 r3 (Lib.hid hm) (Lib.hid h) (Lib.hid h1) (Lib.hid h3) (Lib.hid (hu rfl)) (decide_eq_true q) w
        · have hk : k = 0 := by
            by_cases e : k = 0
            · exact e
            · exact absurd (hs rfl e) q
          exact values_u_null m t k n x k2 n2 y r1 r3 (Lib.hid hm) (Lib.hid h) (Lib.hid h1) (Lib.hid h3) (Lib.hid (hu rfl)) (decide_eq_false q) (beq_t hk) w
      · exact values_u_err m t k n x k2 n2 y r1 r3 e3 (Lib.hid hm) (Lib.hid h) (Lib.hid h1) (Lib.hid h3) (Lib.hid (hu rfl)) (beq_f g3) w
    · by_cases g3 : e3 = 0
      · subst g3
        by_cases q : r3 = (1, 1)
        · exact values_n_one m t k n x k2 n2 y r1 r3 e1 (Lib.hid hm) (Lib.hid h) (Lib.hid h1) (Lib.hid h3) (beq_f g1) (decide_eq_true q) w
        · have hk : k = 0 := by
            by_cases e : k = 0
            · exact e
            · exact absurd (hs rfl e) q
          exact values_n_null m t k n x k2 n2 y r1 r3 e1 (Lib.hid hm) (Lib.hid h) (Lib.hid h1) (Lib.hid h3) (beq_f g1) (decide_eq_false q) (beq_t hk) w
      · exact values_n_err m t k n x k2 n2 y r1 r3 e1 e3 (Lib.hid hm) (Lib.hid h) (Lib.hid h1) (Lib.hid h3) (beq_f g1) (beq_f g3) w
end Go.Proofs.YtendkghifcjffaaDoor
