/- SchemaMatchesReference in plain words: the program's functions and the reference's agree. -/
import Derived.Test.YteokcgfbhaeklaaGreatDoorScLawB
import Derived.Test.YteokcgfbhaeklaaGreatDoorScRfX
import Derived.Test.YteokcgfbhaeklaaGreatDoorScRfB
namespace Go.Proofs.YteokcgfbhaeklaaGreatDoor
open Go.RowKit

set_option maxRecDepth 100000 in
set_option maxHeartbeats 8000000 in
theorem mat_big (s : List TabT) (v : Value) (c : ChgT) (nm : Txt) (n : Int) (row : List T3) (rv : Value) (w : World) (he : L2.Env w) (h : Tabs w v s) (hr : Vals w rv row) (hsm : ¬ SmallC s c row) :
    Calls Tryz.prog 3 #[.agg #[v], Cv c, str nm, .int .i64 n, rv] w (fun e w' => e = .returned (.bool true) ∧ Below w.heap.size w w') := by
  have HSM := Lib.hid hsm
  clear hsm
  obtain ⟨A, cp, rfl, _⟩ := h.form
  obtain ⟨Ar, cr, rfl, _⟩ := hr.form
  have HE := Lib.hid he
  have HS := Lib.hid h
  have HR := Lib.hid hr
  clear he h hr
  go_enter Tryz.func3, Tryz.ntmps3
  go_wp2_with fail
  refine (head_any _ ((HE.out.alloc _).alloc _)).mono ?_
  rintro e w1 ⟨rfl, hb⟩
  have hb2 : Below w.heap.size w w1 := below_up ((below_box w _).alloc (by simp) _) hb (by simp; omega)
  replace HE := Lib.hid (HE.out.below hb2)
  replace HS := Lib.hid (HS.out.below hb2)
  replace HR := Lib.hid (HR.out.below hb2)
  have HB := Lib.hid hb2
  have z0 : w1.cell? ⟨w.heap.size, 0, none⟩ = some (.slice A s.length cp) := cellB hb (by simp [go_sem])
  have c0 : w1.cell? ⟨w.heap.size + 1, 0, none⟩ = some (.int .i64 c.kind) := cellB hb (by simp [go_sem])
  have c1 : w1.cell? ⟨w.heap.size + 1, 1, none⟩ = some (str c.table) := cellB hb (by simp [go_sem])
  have c2 : w1.cell? ⟨w.heap.size + 1, 2, none⟩ = some (str c.attr) := cellB hb (by simp [go_sem])
  have c3 : w1.cell? ⟨w.heap.size + 1, 3, none⟩ = some (str c.name) := cellB hb (by simp [go_sem])
  have c4 : w1.cell? ⟨w.heap.size + 1, 4, none⟩ = some (.int .i64 c.to) := cellB hb (by simp [go_sem])
  have c5 : w1.cell? ⟨w.heap.size + 1, 5, none⟩ = some (.int .i64 c.dft.1) := cellB hb (by simp [go_sem])
  have c6 : w1.cell? ⟨w.heap.size + 1, 6, none⟩ = some (.int .i64 c.dft.2.1) := cellB hb (by simp [go_sem])
  have c7 : w1.cell? ⟨w.heap.size + 1, 7, none⟩ = some (str c.dft.2.2) := cellB hb (by simp [go_sem])
  clear hb hb2
  go_wp2_with fail
  refine (smallC_not s _ _ c row HSM.out _ HS.out ⟨_, _, rfl⟩).mono ?_
  rintro e w2 ⟨rfl, hb⟩
  have hb2 : Below w1.heap.size w1 w2 := hb
  replace z0 := cellB hb2 z0
  replace c0 := cellB hb2 c0
  replace c1 := cellB hb2 c1
  replace c2 := cellB hb2 c2
  replace c3 := cellB hb2 c3
  replace c4 := cellB hb2 c4
  replace c5 := cellB hb2 c5
  replace c6 := cellB hb2 c6
  replace c7 := cellB hb2 c7
  replace HE := Lib.hid (HE.out.below hb2)
  replace HS := Lib.hid (HS.out.below hb2)
  replace HR := Lib.hid (HR.out.below hb2)
  replace HB := Lib.hid (below_up HB.out hb2 HB.out.size)
  clear hb hb2
  go_wp2_with fail
  go_ret
  exact ⟨rfl, HB.out⟩
set_option maxRecDepth 100000 in
set_option maxHeartbeats 8000000 in
theorem mat_name (s : List TabT) (v : Value) (c : ChgT) (nm : Txt) (n : Int) (row : List T3) (rv : Value) (w : World) (he : L2.Env w) (h : Tabs w v s) (hr : Vals w rv row) (hsm : SmallC s c row) (hnm : ¬ nm.length ≤ 100) :
    Calls Tryz.prog 3 #[.agg #[v], Cv c, str nm, .int .i64 n, rv] w (fun e w' => e = .returned (.bool true) ∧ Below w.heap.size w w') := by
  have HSM := Lib.hid hsm
  have q1 : (100 : Int) < (nm.length : Int) := by omega
  clear hsm hnm
  obtain ⟨A, cp, rfl, _⟩ := h.form
  obtain ⟨Ar, cr, rfl, _⟩ := hr.form
  have HE := Lib.hid he
  have HS := Lib.hid h
  have HR := Lib.hid hr
  clear he h hr
  go_enter Tryz.func3, Tryz.ntmps3
  go_wp2_with fail
  refine (head_any _ ((HE.out.alloc _).alloc _)).mono ?_
  rintro e w1 ⟨rfl, hb⟩
  have hb2 : Below w.heap.size w w1 := below_up ((below_box w _).alloc (by simp) _) hb (by simp; omega)
  replace HE := Lib.hid (HE.out.below hb2)
  replace HS := Lib.hid (HS.out.below hb2)
  replace HR := Lib.hid (HR.out.below hb2)
  have HB := Lib.hid hb2
  have z0 : w1.cell? ⟨w.heap.size, 0, none⟩ = some (.slice A s.length cp) := cellB hb (by simp [go_sem])
  have c0 : w1.cell? ⟨w.heap.size + 1, 0, none⟩ = some (.int .i64 c.kind) := cellB hb (by simp [go_sem])
  have c1 : w1.cell? ⟨w.heap.size + 1, 1, none⟩ = some (str c.table) := cellB hb (by simp [go_sem])
  have c2 : w1.cell? ⟨w.heap.size + 1, 2, none⟩ = some (str c.attr) := cellB hb (by simp [go_sem])
  have c3 : w1.cell? ⟨w.heap.size + 1, 3, none⟩ = some (str c.name) := cellB hb (by simp [go_sem])
  have c4 : w1.cell? ⟨w.heap.size + 1, 4, none⟩ = some (.int .i64 c.to) := cellB hb (by simp [go_sem])
  have c5 : w1.cell? ⟨w.heap.size + 1, 5, none⟩ = some (.int .i64 c.dft.1) := cellB hb (by simp [go_sem])
  have c6 : w1.cell? ⟨w.heap.size + 1, 6, none⟩ = some (.int .i64 c.dft.2.1) := cellB hb (by simp [go_sem])
  have c7 : w1.cell? ⟨w.heap.size + 1, 7, none⟩ = some (str c.dft.2.2) := cellB hb (by simp [go_sem])
  clear hb hb2
  go_wp2_with fail
  refine (smallC_is s _ _ c row HSM.out _ HS.out ⟨_, _, rfl⟩).mono ?_
  rintro e w2 ⟨rfl, hb⟩
  have hb2 : Below w1.heap.size w1 w2 := hb
  replace z0 := cellB hb2 z0
  replace c0 := cellB hb2 c0
  replace c1 := cellB hb2 c1
  replace c2 := cellB hb2 c2
  replace c3 := cellB hb2 c3
  replace c4 := cellB hb2 c4
  replace c5 := cellB hb2 c5
  replace c6 := cellB hb2 c6
  replace c7 := cellB hb2 c7
  replace HE := Lib.hid (HE.out.below hb2)
  replace HS := Lib.hid (HS.out.below hb2)
  replace HR := Lib.hid (HR.out.below hb2)
  replace HB := Lib.hid (below_up HB.out hb2 HB.out.size)
  clear hb hb2
  go_wp2_with fail
  go_ret
  exact ⟨rfl, HB.out⟩
set_option maxRecDepth 100000 in
set_option maxHeartbeats 8000000 in
theorem mat_all (s : List TabT) (v : Value) (c : ChgT) (nm : Txt) (n : Int) (row : List T3) (rv : Value) (w : World) (he : L2.Env w) (hlen : Lens s) (h : Tabs w v s) (hr : Vals w rv row) (hsm : SmallC s c row) (hnm : nm.length ≤ 100) (s1 : List TabT) (er : Int) (ha : applyT s c = (s1, er)) (hm1 : Mid s1) (xs : List T3) (fr : Int) (hcv : convT s c n row = (xs, fr)) (hxl : xs.length ≤ 4000) :
    Calls Tryz.prog 3 #[.agg #[v], Cv c, str nm, .int .i64 n, rv] w (fun e w' => e = .returned (.bool true) ∧ Below w.heap.size w w') := by
  have HSM := Lib.hid hsm
  have HLEN := Lib.hid hlen
  have HA := Lib.hid ha
  have HCV := Lib.hid hcv
  have HM1 := Lib.hid hm1
  have hrl : row.length ≤ 20 := hsm.2.2.2
  have hsl : s.length ≤ 24 := hsm.1.1
  have q1 : ¬ (100 : Int) < (nm.length : Int) := by omega
  have q2 : (er != er) = false := by simp
  have q3 : (fr != fr) = false := by simp
  have hcn : c.name.length ≤ maxLen := by have := hsm.2.1; unfold maxLen; omega
  obtain ⟨bv, hbv⟩ : ∃ b, validB s = b := ⟨_, rfl⟩
  have HBV := Lib.hid hbv
  have q4 : (bv != bv) = false := by simp
  obtain ⟨fi, hfi⟩ : ∃ i, findT s nm = i := ⟨_, rfl⟩
  have HFI := Lib.hid hfi
  have q5 : (fi != fi) = false := by simp
  have HCN := Lib.hid hcn
  clear hsm hnm hlen ha hcv hm1 hbv hfi hcn
  obtain ⟨A, cp, rfl, _⟩ := h.form
  obtain ⟨Ar, cr, rfl, _⟩ := hr.form
  have HE := Lib.hid he
  have HS := Lib.hid h
  have HR := Lib.hid hr
  clear he h hr
  go_enter Tryz.func3, Tryz.ntmps3
  go_wp2_with fail
  refine (head_any _ ((HE.out.alloc _).alloc _)).mono ?_
  rintro e w1 ⟨rfl, hb⟩
  have hb2 : Below w.heap.size w w1 := below_up ((below_box w _).alloc (by simp) _) hb (by simp; omega)
  replace HE := Lib.hid (HE.out.below hb2)
  replace HS := Lib.hid (HS.out.below hb2)
  replace HR := Lib.hid (HR.out.below hb2)
  have HB := Lib.hid hb2
  have z0 : w1.cell? ⟨w.heap.size, 0, none⟩ = some (.slice A s.length cp) := cellB hb (by simp [go_sem])
  have c0 : w1.cell? ⟨w.heap.size + 1, 0, none⟩ = some (.int .i64 c.kind) := cellB hb (by simp [go_sem])
  have c1 : w1.cell? ⟨w.heap.size + 1, 1, none⟩ = some (str c.table) := cellB hb (by simp [go_sem])
  have c2 : w1.cell? ⟨w.heap.size + 1, 2, none⟩ = some (str c.attr) := cellB hb (by simp [go_sem])
  have c3 : w1.cell? ⟨w.heap.size + 1, 3, none⟩ = some (str c.name) := cellB hb (by simp [go_sem])
  have c4 : w1.cell? ⟨w.heap.size + 1, 4, none⟩ = some (.int .i64 c.to) := cellB hb (by simp [go_sem])
  have c5 : w1.cell? ⟨w.heap.size + 1, 5, none⟩ = some (.int .i64 c.dft.1) := cellB hb (by simp [go_sem])
  have c6 : w1.cell? ⟨w.heap.size + 1, 6, none⟩ = some (.int .i64 c.dft.2.1) := cellB hb (by simp [go_sem])
  have c7 : w1.cell? ⟨w.heap.size + 1, 7, none⟩ = some (str c.dft.2.2) := cellB hb (by simp [go_sem])
  clear hb hb2
  go_wp2_with fail
  refine (smallC_is s _ _ c row HSM.out _ HS.out ⟨_, _, rfl⟩).mono ?_
  rintro e w2 ⟨rfl, hb⟩
  have hb2 : Below w1.heap.size w1 w2 := hb
  replace z0 := cellB hb2 z0
  replace c0 := cellB hb2 c0
  replace c1 := cellB hb2 c1
  replace c2 := cellB hb2 c2
  replace c3 := cellB hb2 c3
  replace c4 := cellB hb2 c4
  replace c5 := cellB hb2 c5
  replace c6 := cellB hb2 c6
  replace c7 := cellB hb2 c7
  replace HE := Lib.hid (HE.out.below hb2)
  replace HS := Lib.hid (HS.out.below hb2)
  replace HR := Lib.hid (HR.out.below hb2)
  replace HB := Lib.hid (below_up HB.out hb2 HB.out.size)
  clear hb hb2
  go_wp2_with fail
  refine (apply_is s _ c _ HA.out HSM.out.mid _ HS.out).mono ?_
  rintro e w3 ⟨va, rfl, hva, hb⟩
  have hb2 : Below w2.heap.size w2 w3 := hb
  replace z0 := cellB hb2 z0
  replace c0 := cellB hb2 c0
  replace c1 := cellB hb2 c1
  replace c2 := cellB hb2 c2
  replace c3 := cellB hb2 c3
  replace c4 := cellB hb2 c4
  replace c5 := cellB hb2 c5
  replace c6 := cellB hb2 c6
  replace c7 := cellB hb2 c7
  replace HE := Lib.hid (HE.out.below hb2)
  replace HS := Lib.hid (HS.out.below hb2)
  replace HR := Lib.hid (HR.out.below hb2)
  replace HB := Lib.hid (below_up HB.out hb2 HB.out.size)
  clear hb hb2
  obtain ⟨Aa, ca, rfl, _⟩ := hva.form
  have HVA := Lib.hid hva
  clear hva
  have yz0 := fun o => Cell.alloc z0 o
  have yc0 := fun o => Cell.alloc c0 o
  have yc1 := fun o => Cell.alloc c1 o
  have yc2 := fun o => Cell.alloc c2 o
  have yc3 := fun o => Cell.alloc c3 o
  have yc4 := fun o => Cell.alloc c4 o
  have yc5 := fun o => Cell.alloc c5 o
  have yc6 := fun o => Cell.alloc c6 o
  have yc7 := fun o => Cell.alloc c7 o
  go_wp2_with fail
  refine (apply_rf_is s _ c _ HA.out HSM.out.mid HLEN.out HCN.out _ (HS.out.below (below_box w3 _))).mono ?_
  rintro e w4 ⟨vb, rfl, hvb, hb⟩
  have hb2 : Below w3.heap.size w3 w4 := below_up (below_box w3 _) hb (by simp)
  replace z0 := cellB hb2 z0
  replace c0 := cellB hb2 c0
  replace c1 := cellB hb2 c1
  replace c2 := cellB hb2 c2
  replace c3 := cellB hb2 c3
  replace c4 := cellB hb2 c4
  replace c5 := cellB hb2 c5
  replace c6 := cellB hb2 c6
  replace c7 := cellB hb2 c7
  replace HE := Lib.hid (HE.out.below hb2)
  replace HS := Lib.hid (HS.out.below hb2)
  replace HR := Lib.hid (HR.out.below hb2)
  replace HVA := Lib.hid (HVA.out.below hb2)
  replace HB := Lib.hid (below_up HB.out hb2 HB.out.size)
  have a0 : w4.cell? ⟨w3.heap.size, 0, none⟩ = some (.slice Aa s1.length ca) := cellB hb (by simp [go_sem])
  clear hb hb2 yz0 yc0 yc1 yc2 yc3 yc4 yc5 yc6 yc7
  obtain ⟨Ab, cb, rfl, _⟩ := hvb.form
  have HVB := Lib.hid hvb
  clear hvb
  have yz0 := fun o => Cell.alloc z0 o
  have yc0 := fun o => Cell.alloc c0 o
  have yc1 := fun o => Cell.alloc c1 o
  have yc2 := fun o => Cell.alloc c2 o
  have yc3 := fun o => Cell.alloc c3 o
  have yc4 := fun o => Cell.alloc c4 o
  have yc5 := fun o => Cell.alloc c5 o
  have yc6 := fun o => Cell.alloc c6 o
  have yc7 := fun o => Cell.alloc c7 o
  have ya0 := fun o => Cell.alloc a0 o
  go_wp2_with fail
  refine (convert_is s _ _ c n row _ HCV.out HSM.out.mid (by omega) _ (HE.out.alloc _) (HS.out.below (below_box w4 _)) (HR.out.below (below_box w4 _))).mono ?_
  rintro e w5 ⟨vx, rfl, hvx, hb⟩
  have hb2 : Below w4.heap.size w4 w5 := below_up (below_box w4 _) hb (by simp)
  replace z0 := cellB hb2 z0
  replace c0 := cellB hb2 c0
  replace c1 := cellB hb2 c1
  replace c2 := cellB hb2 c2
  replace c3 := cellB hb2 c3
  replace c4 := cellB hb2 c4
  replace c5 := cellB hb2 c5
  replace c6 := cellB hb2 c6
  replace c7 := cellB hb2 c7
  replace a0 := cellB hb2 a0
  replace HE := Lib.hid (HE.out.below hb2)
  replace HS := Lib.hid (HS.out.below hb2)
  replace HR := Lib.hid (HR.out.below hb2)
  replace HVA := Lib.hid (HVA.out.below hb2)
  replace HVB := Lib.hid (HVB.out.below hb2)
  replace HB := Lib.hid (below_up HB.out hb2 HB.out.size)
  have b0 : w5.cell? ⟨w4.heap.size, 0, none⟩ = some (.slice Ab s1.length cb) := cellB hb (by simp [go_sem])
  clear hb hb2 yz0 yc0 yc1 yc2 yc3 yc4 yc5 yc6 yc7 ya0
  obtain ⟨Ax, cx, rfl, _⟩ := hvx.form
  have HVX := Lib.hid hvx
  clear hvx
  go_wp2_with fail
  refine (convert_rf_is s _ _ c n row _ HCV.out HSM.out.mid HLEN.out HCN.out (by omega) _ HS.out HR.out).mono ?_
  rintro e w6 ⟨vy, rfl, hvy, hb⟩
  have hb2 : Below w5.heap.size w5 w6 := hb
  replace z0 := cellB hb2 z0
  replace c0 := cellB hb2 c0
  replace c1 := cellB hb2 c1
  replace c2 := cellB hb2 c2
  replace c3 := cellB hb2 c3
  replace c4 := cellB hb2 c4
  replace c5 := cellB hb2 c5
  replace c6 := cellB hb2 c6
  replace c7 := cellB hb2 c7
  replace a0 := cellB hb2 a0
  replace b0 := cellB hb2 b0
  replace HE := Lib.hid (HE.out.below hb2)
  replace HS := Lib.hid (HS.out.below hb2)
  replace HR := Lib.hid (HR.out.below hb2)
  replace HVA := Lib.hid (HVA.out.below hb2)
  replace HVB := Lib.hid (HVB.out.below hb2)
  replace HVX := Lib.hid (HVX.out.below hb2)
  replace HB := Lib.hid (below_up HB.out hb2 HB.out.size)
  clear hb hb2
  obtain ⟨Ay, cy, rfl, _⟩ := hvy.form
  have HVY := Lib.hid hvy
  clear hvy
  go_wp2_with fail
  refine wp_region_held_drew (S := (fun w' => w'.cell? ⟨w.heap.size, 0, none⟩ = some (.slice A s.length cp) ∧ w'.cell? ⟨w3.heap.size, 0, none⟩ = some (.slice Aa s1.length ca) ∧ w'.cell? ⟨w4.heap.size, 0, none⟩ = some (.slice Ab s1.length cb))) (by kernel_rfl) ?_ (fun hHeld => ?_)
  · try dsimp only
    go_keep
  refine wpAnyH_take (i := 0) (v := ?_) (by (simp only [List.getElem?_toArray, List.getElem?_cons_zero]; rfl)) (by kernel_rfl) (by kernel_rfl) (by kernel_rfl) (by intro _ _ _ h; exact h) (Or.inl ⟨by kernel_rfl, ?_⟩) hHeld ?_
  case refine_2 =>
    intro w hSw
    try dsimp only at hSw
    go_simp
    try with_reducible rfl
  try simp only [Act.put, List.setIfInBounds_toArray, List.set_cons_zero, List.set_cons_succ]
  refine wpAnyH_take (i := 1) (v := ?_) (by (simp only [List.getElem?_toArray, List.getElem?_cons_succ, List.getElem?_cons_zero]; rfl)) (by kernel_rfl) (by kernel_rfl) (by kernel_rfl) (by intro _ _ _ h; exact h) (Or.inl ⟨by kernel_rfl, ?_⟩) hHeld ?_
  case refine_2 =>
    intro w hSw
    try dsimp only at hSw
    go_simp
    try with_reducible rfl
  try simp only [Act.put, List.setIfInBounds_toArray, List.set_cons_zero, List.set_cons_succ]
  refine wpAnyH_take (i := 2) (v := ?_) (by (simp only [List.getElem?_toArray, List.getElem?_cons_succ, List.getElem?_cons_zero]; rfl)) (by kernel_rfl) (by kernel_rfl) (by kernel_rfl) (by intro _ _ _ h; exact h) (Or.inl ⟨by kernel_rfl, ?_⟩) hHeld ?_
  case refine_2 =>
    intro w hSw
    try dsimp only at hSw
    go_simp
    try with_reducible rfl
  try simp only [Act.put, List.setIfInBounds_toArray, List.set_cons_zero, List.set_cons_succ]
  refine wpAnyH_take (i := 3) (v := ?_) (by (simp only [List.getElem?_toArray, List.getElem?_cons_succ, List.getElem?_cons_zero]; rfl)) (by kernel_rfl) (by kernel_rfl) (by kernel_rfl) (by intro _ _ _ h; exact h) (Or.inl ⟨by kernel_rfl, ?_⟩) hHeld ?_
  case refine_2 =>
    intro w hSw
    try dsimp only at hSw
    go_simp
    try with_reducible rfl
  try simp only [Act.put, List.setIfInBounds_toArray, List.set_cons_zero, List.set_cons_succ]
  refine wpAnyH_take (i := 4) (v := ?_) (by (simp only [List.getElem?_toArray, List.getElem?_cons_succ, List.getElem?_cons_zero]; rfl)) (by kernel_rfl) (by kernel_rfl) (by kernel_rfl) (by intro _ _ _ h; exact h) (Or.inl ⟨by kernel_rfl, ?_⟩) hHeld ?_
  case refine_2 =>
    intro w hSw
    try dsimp only at hSw
    go_simp
    try with_reducible rfl
  try simp only [Act.put, List.setIfInBounds_toArray, List.set_cons_zero, List.set_cons_succ]
  refine wpAnyH_take (i := 5) (v := ?_) (by (simp only [List.getElem?_toArray, List.getElem?_cons_succ, List.getElem?_cons_zero]; rfl)) (by kernel_rfl) (by kernel_rfl) (by kernel_rfl) (by intro _ _ _ h; exact h) (Or.inl ⟨by kernel_rfl, ?_⟩) hHeld ?_
  case refine_2 =>
    intro w hSw
    try dsimp only at hSw
    go_simp
    try with_reducible rfl
  try simp only [Act.put, List.setIfInBounds_toArray, List.set_cons_zero, List.set_cons_succ]
  refine wpAnyH_take (i := 6) (v := ?_) (by (simp only [List.getElem?_toArray, List.getElem?_cons_succ, List.getElem?_cons_zero]; rfl)) (by kernel_rfl) (by kernel_rfl) (by kernel_rfl) (by intro _ _ _ h; exact h) (Or.inl ⟨by kernel_rfl, ?_⟩) hHeld ?_
  case refine_2 =>
    intro w hSw
    try dsimp only at hSw
    go_simp
    try with_reducible rfl
  try simp only [Act.put, List.setIfInBounds_toArray, List.set_cons_zero, List.set_cons_succ]
  refine wpAnyH_take (i := 7) (v := ?_) (by (simp only [List.getElem?_toArray, List.getElem?_cons_succ, List.getElem?_cons_zero]; rfl)) (by kernel_rfl) (by kernel_rfl) (by kernel_rfl) (by intro _ _ _ h; exact h) (Or.inl ⟨by kernel_rfl, ?_⟩) hHeld ?_
  case refine_2 =>
    intro w hSw
    try dsimp only at hSw
    go_simp
    try with_reducible rfl
  try simp only [Act.put, List.setIfInBounds_toArray, List.set_cons_zero, List.set_cons_succ]
  refine wpAnyH_take (i := 8) (v := ?_) (by (simp only [List.getElem?_toArray, List.getElem?_cons_succ, List.getElem?_cons_zero]; rfl)) (by kernel_rfl) (by kernel_rfl) (by kernel_rfl) (by intro _ _ _ h; exact h) (Or.inl ⟨by kernel_rfl, ?_⟩) hHeld ?_
  case refine_2 =>
    intro w hSw
    try dsimp only at hSw
    go_simp
    try with_reducible rfl
  try simp only [Act.put, List.setIfInBounds_toArray, List.set_cons_zero, List.set_cons_succ]
  refine wpAnyH_take (i := 9) (v := ?_) (by (simp only [List.getElem?_toArray, List.getElem?_cons_succ, List.getElem?_cons_zero]; rfl)) (by kernel_rfl) (by kernel_rfl) (by kernel_rfl) (by intro _ _ _ h; exact h) (Or.inl ⟨by kernel_rfl, ?_⟩) hHeld ?_
  case refine_2 =>
    intro w hSw
    try dsimp only at hSw
    go_simp
    try with_reducible rfl
  try simp only [Act.put, List.setIfInBounds_toArray, List.set_cons_zero, List.set_cons_succ]
  refine wpAnyH_take (i := 10) (v := ?_) (by (simp only [List.getElem?_toArray, List.getElem?_cons_succ, List.getElem?_cons_zero]; rfl)) (by kernel_rfl) (by kernel_rfl) (by kernel_rfl) (by intro _ _ _ h; exact h) (Or.inl ⟨by kernel_rfl, ?_⟩) hHeld ?_
  case refine_2 =>
    intro w hSw
    try dsimp only at hSw
    go_simp
    try with_reducible rfl
  try simp only [Act.put, List.setIfInBounds_toArray, List.set_cons_zero, List.set_cons_succ]
  refine wpAnyH_ready (rs := [11]) (by kernel_rfl) (by simp) ?_
  refine AllReadyH.cons (by (simp only [List.getElem?_toArray, List.getElem?_cons_succ, List.getElem?_cons_zero]; rfl)) (fun K hK => ?_) AllReadyH.nil
  go_simp
  refine (same_is s1 s1 _ _ true (decide_eq_true rfl) HM1.out _ (HVA.out.below (below_drewN _ _ 1)) (HVB.out.below (below_drewN _ _ 1))).mono ?_
  rintro e w7 ⟨rfl, hb⟩
  have hb1 : Below w6.heap.size w6 w7 := (below_drewN w6.heap.size w6 1).trans hb
  replace z0 := cellB hb1 z0
  replace c0 := cellB hb1 c0
  replace c1 := cellB hb1 c1
  replace c2 := cellB hb1 c2
  replace c3 := cellB hb1 c3
  replace c4 := cellB hb1 c4
  replace c5 := cellB hb1 c5
  replace c6 := cellB hb1 c6
  replace c7 := cellB hb1 c7
  replace a0 := cellB hb1 a0
  replace b0 := cellB hb1 b0
  replace HE := Lib.hid (HE.out.below hb1)
  replace HS := Lib.hid (HS.out.below hb1)
  replace HR := Lib.hid (HR.out.below hb1)
  replace HVA := Lib.hid (HVA.out.below hb1)
  replace HVB := Lib.hid (HVB.out.below hb1)
  replace HVX := Lib.hid (HVX.out.below hb1)
  replace HVY := Lib.hid (HVY.out.below hb1)
  replace HB := Lib.hid (below_up HB.out hb1 HB.out.size)
  clear hb hb1
  try go_wp2_with fail
  clear hHeld
  refine hK.out _ _ ?_ (fun hHeld => ?_)
  · try dsimp only
    go_keep
  clear hK K
  try simp only [Act.put, List.setIfInBounds_toArray, List.set_cons_zero, List.set_cons_succ]
  refine wpAnyH_take (i := 12) (v := ?_) (by (simp only [List.getElem?_toArray, List.getElem?_cons_succ, List.getElem?_cons_zero]; rfl)) (by kernel_rfl) (by kernel_rfl) (by kernel_rfl) (by intro _ _ _ h; exact h) (Or.inl ⟨by kernel_rfl, ?_⟩) hHeld ?_
  case refine_2 =>
    intro w hSw
    try dsimp only at hSw
    go_simp
    try with_reducible rfl
  try simp only [Act.put, List.setIfInBounds_toArray, List.set_cons_zero, List.set_cons_succ]
  refine wpAnyH_take (i := 13) (v := ?_) (by (simp only [List.getElem?_toArray, List.getElem?_cons_succ, List.getElem?_cons_zero]; rfl)) (by kernel_rfl) (by kernel_rfl) (by kernel_rfl) (by intro _ _ _ h; exact h) (Or.inl ⟨by kernel_rfl, ?_⟩) hHeld ?_
  case refine_2 =>
    intro w hSw
    try dsimp only at hSw
    go_simp
    try with_reducible rfl
  try simp only [Act.put, List.setIfInBounds_toArray, List.set_cons_zero, List.set_cons_succ]
  refine wpAnyH_take (i := 14) (v := ?_) (by (simp only [List.getElem?_toArray, List.getElem?_cons_succ, List.getElem?_cons_zero]; rfl)) (by kernel_rfl) (by kernel_rfl) (by kernel_rfl) (by intro _ _ _ h; exact h) (Or.inl ⟨by kernel_rfl, ?_⟩) hHeld ?_
  case refine_2 =>
    intro w hSw
    try dsimp only at hSw
    go_simp
    try with_reducible rfl
  try simp only [Act.put, List.setIfInBounds_toArray, List.set_cons_zero, List.set_cons_succ]
  refine wpAnyH_take (i := 15) (v := ?_) (by (simp only [List.getElem?_toArray, List.getElem?_cons_succ, List.getElem?_cons_zero]; rfl)) (by kernel_rfl) (by kernel_rfl) (by kernel_rfl) (by intro _ _ _ h; exact h) (Or.inl ⟨by kernel_rfl, ?_⟩) hHeld ?_
  case refine_2 =>
    intro w hSw
    try dsimp only at hSw
    go_simp
    try with_reducible rfl
  try simp only [Act.put, List.setIfInBounds_toArray, List.set_cons_zero, List.set_cons_succ]
  refine wpAnyH_take (i := 16) (v := ?_) (by (simp only [List.getElem?_toArray, List.getElem?_cons_succ, List.getElem?_cons_zero]; rfl)) (by kernel_rfl) (by kernel_rfl) (by kernel_rfl) (by intro _ _ _ h; exact h) (Or.inl ⟨by kernel_rfl, ?_⟩) hHeld ?_
  case refine_2 =>
    intro w hSw
    try dsimp only at hSw
    go_simp
    try with_reducible rfl
  try simp only [Act.put, List.setIfInBounds_toArray, List.set_cons_zero, List.set_cons_succ]
  refine wpAnyH_ready (rs := [17]) (by kernel_rfl) (by simp) ?_
  refine AllReadyH.cons (by (simp only [List.getElem?_toArray, List.getElem?_cons_succ, List.getElem?_cons_zero]; rfl)) (fun K hK => ?_) AllReadyH.nil
  go_simp
  refine (rows_is xs xs _ _ true (decide_eq_true rfl) hxl _ (HVX.out.below (Below.refl _ _)) (HVY.out.below (Below.refl _ _))).mono ?_
  rintro e w8 ⟨rfl, hb⟩
  have hb1 : Below w7.heap.size w7 w8 := hb
  replace z0 := cellB hb1 z0
  replace c0 := cellB hb1 c0
  replace c1 := cellB hb1 c1
  replace c2 := cellB hb1 c2
  replace c3 := cellB hb1 c3
  replace c4 := cellB hb1 c4
  replace c5 := cellB hb1 c5
  replace c6 := cellB hb1 c6
  replace c7 := cellB hb1 c7
  replace a0 := cellB hb1 a0
  replace b0 := cellB hb1 b0
  replace HE := Lib.hid (HE.out.below hb1)
  replace HS := Lib.hid (HS.out.below hb1)
  replace HR := Lib.hid (HR.out.below hb1)
  replace HVA := Lib.hid (HVA.out.below hb1)
  replace HVB := Lib.hid (HVB.out.below hb1)
  replace HVX := Lib.hid (HVX.out.below hb1)
  replace HVY := Lib.hid (HVY.out.below hb1)
  replace HB := Lib.hid (below_up HB.out hb1 HB.out.size)
  clear hb hb1
  try go_wp2_with fail
  clear hHeld
  refine hK.out _ _ ?_ (fun hHeld => ?_)
  · try dsimp only
    go_keep
  clear hK K
  try simp only [Act.put, List.setIfInBounds_toArray, List.set_cons_zero, List.set_cons_succ]
  refine wpAnyH_take (i := 18) (v := ?_) (by (simp only [List.getElem?_toArray, List.getElem?_cons_succ, List.getElem?_cons_zero]; rfl)) (by kernel_rfl) (by kernel_rfl) (by kernel_rfl) (by intro _ _ _ h; exact h) (Or.inl ⟨by kernel_rfl, ?_⟩) hHeld ?_
  case refine_2 =>
    intro w hSw
    try dsimp only at hSw
    go_simp
    try with_reducible rfl
  try simp only [Act.put, List.setIfInBounds_toArray, List.set_cons_zero, List.set_cons_succ]
  refine wpAnyH_take (i := 19) (v := ?_) (by (simp only [List.getElem?_toArray, List.getElem?_cons_succ, List.getElem?_cons_zero]; rfl)) (by kernel_rfl) (by kernel_rfl) (by kernel_rfl) (by intro _ _ _ h; exact h) (Or.inl ⟨by kernel_rfl, ?_⟩) hHeld ?_
  case refine_2 =>
    intro w hSw
    try dsimp only at hSw
    go_simp
    try with_reducible rfl
  try simp only [Act.put, List.setIfInBounds_toArray, List.set_cons_zero, List.set_cons_succ]
  refine wpAnyH_take (i := 20) (v := ?_) (by (simp only [List.getElem?_toArray, List.getElem?_cons_succ, List.getElem?_cons_zero]; rfl)) (by kernel_rfl) (by kernel_rfl) (by kernel_rfl) (by intro _ _ _ h; exact h) (Or.inl ⟨by kernel_rfl, ?_⟩) hHeld ?_
  case refine_2 =>
    intro w hSw
    try dsimp only at hSw
    go_simp
    try with_reducible rfl
  try simp only [Act.put, List.setIfInBounds_toArray, List.set_cons_zero, List.set_cons_succ]
  refine wpAnyH_take (i := 21) (v := ?_) (by (simp only [List.getElem?_toArray, List.getElem?_cons_succ, List.getElem?_cons_zero]; rfl)) (by kernel_rfl) (by kernel_rfl) (by kernel_rfl) (by intro _ _ _ h; exact h) (Or.inl ⟨by kernel_rfl, ?_⟩) hHeld ?_
  case refine_2 =>
    intro w hSw
    try dsimp only at hSw
    go_simp
    try with_reducible rfl
  try simp only [Act.put, List.setIfInBounds_toArray, List.set_cons_zero, List.set_cons_succ]
  refine wpAnyH_take (i := 23) (v := ?_) (by (simp only [List.getElem?_toArray, List.getElem?_cons_succ, List.getElem?_cons_zero]; rfl)) (by kernel_rfl) (by kernel_rfl) (by kernel_rfl) (by intro _ _ _ h; exact h) (Or.inl ⟨by kernel_rfl, ?_⟩) hHeld ?_
  case refine_2 =>
    intro w hSw
    try dsimp only at hSw
    go_simp
    try with_reducible rfl
  try simp only [Act.put, List.setIfInBounds_toArray, List.set_cons_zero, List.set_cons_succ]
  refine wpAnyH_ready (rs := [22]) (by kernel_rfl) (by simp) ?_
  refine AllReadyH.cons (by (simp only [List.getElem?_toArray, List.getElem?_cons_succ, List.getElem?_cons_zero]; rfl)) (fun K hK => ?_) AllReadyH.nil
  go_simp
  refine (valid_is s _ _ HBV.out HSM.out.mid _ (HS.out.below (Below.refl _ _))).mono ?_
  rintro e w9 ⟨rfl, hb⟩
  have hb1 : Below w8.heap.size w8 w9 := hb
  replace z0 := cellB hb1 z0
  replace c0 := cellB hb1 c0
  replace c1 := cellB hb1 c1
  replace c2 := cellB hb1 c2
  replace c3 := cellB hb1 c3
  replace c4 := cellB hb1 c4
  replace c5 := cellB hb1 c5
  replace c6 := cellB hb1 c6
  replace c7 := cellB hb1 c7
  replace a0 := cellB hb1 a0
  replace b0 := cellB hb1 b0
  replace HE := Lib.hid (HE.out.below hb1)
  replace HS := Lib.hid (HS.out.below hb1)
  replace HR := Lib.hid (HR.out.below hb1)
  replace HVA := Lib.hid (HVA.out.below hb1)
  replace HVB := Lib.hid (HVB.out.below hb1)
  replace HVX := Lib.hid (HVX.out.below hb1)
  replace HVY := Lib.hid (HVY.out.below hb1)
  replace HB := Lib.hid (below_up HB.out hb1 HB.out.size)
  clear hb hb1
  try go_wp2_with fail
  clear hHeld
  refine hK.out _ _ ?_ (fun hHeld => ?_)
  · try dsimp only
    go_keep
  clear hK K
  try simp only [Act.put, List.setIfInBounds_toArray, List.set_cons_zero, List.set_cons_succ]
  refine wpAnyH_ready (rs := [24]) (by kernel_rfl) (by simp) ?_
  refine AllReadyH.cons (by (simp only [List.getElem?_toArray, List.getElem?_cons_succ, List.getElem?_cons_zero]; rfl)) (fun K hK => ?_) AllReadyH.nil
  go_simp
  refine (valid_rf_is s _ _ HBV.out HSM.out.mid HLEN.out _ (HS.out.below (Below.refl _ _))).mono ?_
  rintro e w10 ⟨rfl, hb⟩
  have hb1 : Below w9.heap.size w9 w10 := hb
  replace z0 := cellB hb1 z0
  replace c0 := cellB hb1 c0
  replace c1 := cellB hb1 c1
  replace c2 := cellB hb1 c2
  replace c3 := cellB hb1 c3
  replace c4 := cellB hb1 c4
  replace c5 := cellB hb1 c5
  replace c6 := cellB hb1 c6
  replace c7 := cellB hb1 c7
  replace a0 := cellB hb1 a0
  replace b0 := cellB hb1 b0
  replace HE := Lib.hid (HE.out.below hb1)
  replace HS := Lib.hid (HS.out.below hb1)
  replace HR := Lib.hid (HR.out.below hb1)
  replace HVA := Lib.hid (HVA.out.below hb1)
  replace HVB := Lib.hid (HVB.out.below hb1)
  replace HVX := Lib.hid (HVX.out.below hb1)
  replace HVY := Lib.hid (HVY.out.below hb1)
  replace HB := Lib.hid (below_up HB.out hb1 HB.out.size)
  clear hb hb1
  try go_wp2_with fail
  clear hHeld
  refine hK.out _ _ ?_ (fun hHeld => ?_)
  · try dsimp only
    go_keep
  clear hK K
  try simp only [Act.put, List.setIfInBounds_toArray, List.set_cons_zero, List.set_cons_succ]
  refine wpAnyH_take (i := 25) (v := ?_) (by (simp only [List.getElem?_toArray, List.getElem?_cons_succ, List.getElem?_cons_zero]; rfl)) (by kernel_rfl) (by kernel_rfl) (by kernel_rfl) (by intro _ _ _ h; exact h) (Or.inl ⟨by kernel_rfl, ?_⟩) hHeld ?_
  case refine_2 =>
    intro w hSw
    try dsimp only at hSw
    go_simp
    try with_reducible rfl
  try simp only [Act.put, List.setIfInBounds_toArray, List.set_cons_zero, List.set_cons_succ]
  refine wpAnyH_take (i := 26) (v := ?_) (by (simp only [List.getElem?_toArray, List.getElem?_cons_succ, List.getElem?_cons_zero]; rfl)) (by kernel_rfl) (by kernel_rfl) (by kernel_rfl) (by intro _ _ _ h; exact h) (Or.inl ⟨by kernel_rfl, ?_⟩) hHeld ?_
  case refine_2 =>
    intro w hSw
    try dsimp only at hSw
    go_simp
    try with_reducible rfl
  try simp only [Act.put, List.setIfInBounds_toArray, List.set_cons_zero, List.set_cons_succ]
  refine wpAnyH_take (i := 27) (v := ?_) (by (simp only [List.getElem?_toArray, List.getElem?_cons_succ, List.getElem?_cons_zero]; rfl)) (by kernel_rfl) (by kernel_rfl) (by kernel_rfl) (by intro _ _ _ h; exact h) (Or.inl ⟨by kernel_rfl, ?_⟩) hHeld ?_
  case refine_2 =>
    intro w hSw
    try dsimp only at hSw
    go_simp
    try with_reducible rfl
  try simp only [Act.put, List.setIfInBounds_toArray, List.set_cons_zero, List.set_cons_succ]
  refine wpAnyH_take (i := 28) (v := ?_) (by (simp only [List.getElem?_toArray, List.getElem?_cons_succ, List.getElem?_cons_zero]; rfl)) (by kernel_rfl) (by kernel_rfl) (by kernel_rfl) (by intro _ _ _ h; exact h) (Or.inl ⟨by kernel_rfl, ?_⟩) hHeld ?_
  case refine_2 =>
    intro w hSw
    try dsimp only at hSw
    go_simp
    try with_reducible rfl
  try simp only [Act.put, List.setIfInBounds_toArray, List.set_cons_zero, List.set_cons_succ]
  refine wpAnyH_take (i := 29) (v := ?_) (by (simp only [List.getElem?_toArray, List.getElem?_cons_succ, List.getElem?_cons_zero]; rfl)) (by kernel_rfl) (by kernel_rfl) (by kernel_rfl) (by intro _ _ _ h; exact h) (Or.inl ⟨by kernel_rfl, ?_⟩) hHeld ?_
  case refine_2 =>
    intro w hSw
    try dsimp only at hSw
    go_simp
    try with_reducible rfl
  try simp only [Act.put, List.setIfInBounds_toArray, List.set_cons_zero, List.set_cons_succ]
  refine wpAnyH_take (i := 31) (v := ?_) (by (simp only [List.getElem?_toArray, List.getElem?_cons_succ, List.getElem?_cons_zero]; rfl)) (by kernel_rfl) (by kernel_rfl) (by kernel_rfl) (by intro _ _ _ h; exact h) (Or.inl ⟨by kernel_rfl, ?_⟩) hHeld ?_
  case refine_2 =>
    intro w hSw
    try dsimp only at hSw
    go_simp
    try with_reducible rfl
  try simp only [Act.put, List.setIfInBounds_toArray, List.set_cons_zero, List.set_cons_succ]
  refine wpAnyH_take (i := 32) (v := ?_) (by (simp only [List.getElem?_toArray, List.getElem?_cons_succ, List.getElem?_cons_zero]; rfl)) (by kernel_rfl) (by kernel_rfl) (by kernel_rfl) (by intro _ _ _ h; exact h) (Or.inl ⟨by kernel_rfl, ?_⟩) hHeld ?_
  case refine_2 =>
    intro w hSw
    try dsimp only at hSw
    go_simp
    try with_reducible rfl
  try simp only [Act.put, List.setIfInBounds_toArray, List.set_cons_zero, List.set_cons_succ]
  refine wpAnyH_ready (rs := [30]) (by kernel_rfl) (by simp) ?_
  refine AllReadyH.cons (by (simp only [List.getElem?_toArray, List.getElem?_cons_succ, List.getElem?_cons_zero]; rfl)) (fun K hK => ?_) AllReadyH.nil
  go_simp
  refine (find_is s _ nm _ HFI.out HSM.out.mid _ (HS.out.below (Below.refl _ _))).mono ?_
  rintro e w11 ⟨rfl, hb⟩
  have hb1 : Below w10.heap.size w10 w11 := hb
  replace z0 := cellB hb1 z0
  replace c0 := cellB hb1 c0
  replace c1 := cellB hb1 c1
  replace c2 := cellB hb1 c2
  replace c3 := cellB hb1 c3
  replace c4 := cellB hb1 c4
  replace c5 := cellB hb1 c5
  replace c6 := cellB hb1 c6
  replace c7 := cellB hb1 c7
  replace a0 := cellB hb1 a0
  replace b0 := cellB hb1 b0
  replace HE := Lib.hid (HE.out.below hb1)
  replace HS := Lib.hid (HS.out.below hb1)
  replace HR := Lib.hid (HR.out.below hb1)
  replace HVA := Lib.hid (HVA.out.below hb1)
  replace HVB := Lib.hid (HVB.out.below hb1)
  replace HVX := Lib.hid (HVX.out.below hb1)
  replace HVY := Lib.hid (HVY.out.below hb1)
  replace HB := Lib.hid (below_up HB.out hb1 HB.out.size)
  clear hb hb1
  try go_wp2_with fail
  clear hHeld
  refine hK.out _ _ ?_ (fun hHeld => ?_)
  · try dsimp only
    go_keep
  clear hK K
  try simp only [Act.put, List.setIfInBounds_toArray, List.set_cons_zero, List.set_cons_succ]
  refine wpAnyH_ready (rs := [33]) (by kernel_rfl) (by simp) ?_
  refine AllReadyH.cons (by (simp only [List.getElem?_toArray, List.getElem?_cons_succ, List.getElem?_cons_zero]; rfl)) (fun K hK => ?_) AllReadyH.nil
  go_simp
  refine (find_rf_is s _ nm _ HFI.out (by omega) _ (HS.out.below (Below.refl _ _))).mono ?_
  rintro e w12 ⟨rfl, hb⟩
  have hb1 : Below w11.heap.size w11 w12 := hb
  replace z0 := cellB hb1 z0
  replace c0 := cellB hb1 c0
  replace c1 := cellB hb1 c1
  replace c2 := cellB hb1 c2
  replace c3 := cellB hb1 c3
  replace c4 := cellB hb1 c4
  replace c5 := cellB hb1 c5
  replace c6 := cellB hb1 c6
  replace c7 := cellB hb1 c7
  replace a0 := cellB hb1 a0
  replace b0 := cellB hb1 b0
  replace HE := Lib.hid (HE.out.below hb1)
  replace HS := Lib.hid (HS.out.below hb1)
  replace HR := Lib.hid (HR.out.below hb1)
  replace HVA := Lib.hid (HVA.out.below hb1)
  replace HVB := Lib.hid (HVB.out.below hb1)
  replace HVX := Lib.hid (HVX.out.below hb1)
  replace HVY := Lib.hid (HVY.out.below hb1)
  replace HB := Lib.hid (below_up HB.out hb1 HB.out.size)
  clear hb hb1
  try go_wp2_with fail
  clear hHeld
  refine hK.out _ _ ?_ (fun hHeld => ?_)
  · try dsimp only
    go_keep
  clear hK K
  try simp only [Act.put, List.setIfInBounds_toArray, List.set_cons_zero, List.set_cons_succ]
  refine wpAnyH_take (i := 34) (v := ?_) (by (simp only [List.getElem?_toArray, List.getElem?_cons_succ, List.getElem?_cons_zero]; rfl)) (by kernel_rfl) (by kernel_rfl) (by kernel_rfl) (by intro _ _ _ h; exact h) (Or.inl ⟨by kernel_rfl, ?_⟩) hHeld ?_
  case refine_2 =>
    intro w hSw
    try dsimp only at hSw
    go_simp
    try with_reducible rfl
  try simp only [Act.put, List.setIfInBounds_toArray, List.set_cons_zero, List.set_cons_succ]
  refine wpAnyH_take (i := 35) (v := ?_) (by (simp only [List.getElem?_toArray, List.getElem?_cons_succ, List.getElem?_cons_zero]; rfl)) (by kernel_rfl) (by kernel_rfl) (by kernel_rfl) (by intro _ _ _ h; exact h) (Or.inl ⟨by kernel_rfl, ?_⟩) hHeld ?_
  case refine_2 =>
    intro w hSw
    try dsimp only at hSw
    go_simp
    try with_reducible rfl
  try simp only [Act.put, List.setIfInBounds_toArray, List.set_cons_zero, List.set_cons_succ]
  refine wpAnyH_done (by kernel_rfl) ?_ _
  clear HVA
  clear HVB
  clear HVX
  clear HVY
  clear HE
  clear a0
  clear b0
  clear c0
  clear c1
  clear c2
  clear c3
  clear c4
  clear c5
  clear c6
  clear c7
  go_wp2_with fail
  go_loopw [20] (fun i wr => ∃ j : Nat, j ≤ s.length ∧ i = .int .i64 (j : Int) ∧ Below w12.heap.size w12 wr) (fun i _ => s.length - (intOf i).toNat)
  case atStart => exact ⟨0, by omega, by simp, Below.refl _ _⟩
  case round =>
    obtain ⟨j, hj, rfl, hw⟩ := hrel
    have z0 := cellB hw z0
    have HS := Lib.hid (HS.out.below hw)
    have HR := Lib.hid (HR.out.below hw)
    have HB := Lib.hid (below_up HB.out hw HB.out.size)
    have HW := Lib.hid hw
    clear hw
    by_cases hlt : j < s.length
    · obtain ⟨b1, o1, rfl, xa, xk, hax, hxa, hxk⟩ := tab_at HS.out hlt
      obtain ⟨Xa, na, rfl, _⟩ := hxa.form
      obtain ⟨Xk, nk, rfl, _⟩ := hxk.form
      have x0 := hax.c0
      have x1 := hax.c1
      have x2 := hax.c2
      have hmx := HSM.out.mid.2 s[j] (List.getElem_mem hlt)
      have HXA := Lib.hid hxa
      obtain ⟨t, ht⟩ : ∃ t, s[j] = t := ⟨_, rfl⟩
      rw [ht] at x0 x1 x2 hmx HXA
      have HMX := Lib.hid hmx
      obtain ⟨ft, hft⟩ : ∃ b, fitsB t.attrs row = b := ⟨_, rfl⟩
      obtain ⟨ci, hci⟩ : ∃ i, colT t.attrs nm = i := ⟨_, rfl⟩
      have HFT := Lib.hid hft
      have HCI := Lib.hid hci
      have q6 : (ft != ft) = false := by simp
      have q7 : (ci != ci) = false := by simp
      have i1 : (0 : Int) ≤ (j : Int) := by omega
      have i2 : (j : Int) < (s.length : Int) := by omega
      clear hax hxa hxk hmx ht hft hci
      go_wp2_with fail
      obtain ⟨W5, hW⟩ : ∃ W, wr.alloc (.cells #[str t.name, .slice Xa t.attrs.length na, .slice Xk t.key.length nk] 44) = W := ⟨_, rfl⟩
      rw [hW]
      have hb2 : Below wr.heap.size wr W5 := by rw [← hW]; exact below_box _ _
      have t0 : W5.cell? ⟨wr.heap.size, 0, none⟩ = some (str t.name) := by rw [← hW]; simp [go_sem]
      have t1 : W5.cell? ⟨wr.heap.size, 1, none⟩ = some (.slice Xa t.attrs.length na) := by rw [← hW]; simp [go_sem]
      have t2 : W5.cell? ⟨wr.heap.size, 2, none⟩ = some (.slice Xk t.key.length nk) := by rw [← hW]; simp [go_sem]
      replace z0 := cellB hb2 z0
      replace HS := Lib.hid (HS.out.below hb2)
      replace HR := Lib.hid (HR.out.below hb2)
      replace HXA := Lib.hid (HXA.out.below hb2)
      replace HB := Lib.hid (below_up HB.out hb2 HB.out.size)
      replace HW := Lib.hid (HW.out.trans (hb2.mono HW.out.size))
      clear hb2 hW x0 x1 x2
      obtain ⟨tb, htb⟩ : ∃ b, wr.heap.size = b := ⟨_, rfl⟩
      rw [htb] at t0 t1 t2 ⊢
      clear htb
      refine wp_region_held_drew (S := (fun w' => w'.cell? ⟨tb, 0, none⟩ = some (str t.name) ∧ w'.cell? ⟨tb, 1, none⟩ = some (.slice Xa t.attrs.length na) ∧ w'.cell? ⟨tb, 2, none⟩ = some (.slice Xk t.key.length nk))) (by kernel_rfl) ?_ (fun hHeld => ?_)
      · try dsimp only
        go_keep
      refine wpAnyH_take (i := 0) (v := ?_) (by (simp only [List.getElem?_toArray, List.getElem?_cons_zero]; rfl)) (by kernel_rfl) (by kernel_rfl) (by kernel_rfl) (by intro _ _ _ h; exact h) (Or.inl ⟨by kernel_rfl, ?_⟩) hHeld ?_
      case refine_2 =>
        intro w hSw
        try dsimp only at hSw
        go_simp
        try with_reducible rfl
      try simp only [Act.put, List.setIfInBounds_toArray, List.set_cons_zero, List.set_cons_succ]
      refine wpAnyH_take (i := 1) (v := ?_) (by (simp only [List.getElem?_toArray, List.getElem?_cons_succ, List.getElem?_cons_zero]; rfl)) (by kernel_rfl) (by kernel_rfl) (by kernel_rfl) (by intro _ _ _ h; exact h) (Or.inl ⟨by kernel_rfl, ?_⟩) hHeld ?_
      case refine_2 =>
        intro w hSw
        try dsimp only at hSw
        go_simp
        try with_reducible rfl
      try simp only [Act.put, List.setIfInBounds_toArray, List.set_cons_zero, List.set_cons_succ]
      refine wpAnyH_take (i := 3) (v := ?_) (by (simp only [List.getElem?_toArray, List.getElem?_cons_succ, List.getElem?_cons_zero]; rfl)) (by kernel_rfl) (by kernel_rfl) (by kernel_rfl) (by intro _ _ _ h; exact h) (Or.inl ⟨by kernel_rfl, ?_⟩) hHeld ?_
      case refine_2 =>
        intro w hSw
        try dsimp only at hSw
        go_simp
        try with_reducible rfl
      try simp only [Act.put, List.setIfInBounds_toArray, List.set_cons_zero, List.set_cons_succ]
      refine wpAnyH_take (i := 4) (v := ?_) (by (simp only [List.getElem?_toArray, List.getElem?_cons_succ, List.getElem?_cons_zero]; rfl)) (by kernel_rfl) (by kernel_rfl) (by kernel_rfl) (by intro _ _ _ h; exact h) (Or.inl ⟨by kernel_rfl, ?_⟩) hHeld ?_
      case refine_2 =>
        intro w hSw
        try dsimp only at hSw
        go_simp
        try with_reducible rfl
      try simp only [Act.put, List.setIfInBounds_toArray, List.set_cons_zero, List.set_cons_succ]
      refine wpAnyH_ready (rs := [2]) (by kernel_rfl) (by simp) ?_
      refine AllReadyH.cons (by (simp only [List.getElem?_toArray, List.getElem?_cons_succ, List.getElem?_cons_zero]; rfl)) (fun K hK => ?_) AllReadyH.nil
      go_simp
      refine (fits_is t.name t.attrs row _ (.slice Xk t.key.length nk) _ _ HFT.out HMX.out.1 (by omega) _ (HXA.out.below (below_drewN _ _ 1)) (HR.out.below (below_drewN _ _ 1))).mono ?_
      rintro e w13 ⟨rfl, hb⟩
      have hb1 : Below W5.heap.size W5 w13 := (below_drewN W5.heap.size W5 1).trans hb
      replace z0 := cellB hb1 z0
      replace t0 := cellB hb1 t0
      replace t1 := cellB hb1 t1
      replace t2 := cellB hb1 t2
      replace HS := Lib.hid (HS.out.below hb1)
      replace HR := Lib.hid (HR.out.below hb1)
      replace HXA := Lib.hid (HXA.out.below hb1)
      replace HW := Lib.hid (HW.out.trans (hb1.mono HW.out.size))
      replace HB := Lib.hid (below_up HB.out hb1 HB.out.size)
      clear hb hb1
      try go_wp2_with fail
      clear hHeld
      refine hK.out _ _ ?_ (fun hHeld => ?_)
      · try dsimp only
        go_keep
      clear hK K
      try simp only [Act.put, List.setIfInBounds_toArray, List.set_cons_zero, List.set_cons_succ]
      refine wpAnyH_ready (rs := [5]) (by kernel_rfl) (by simp) ?_
      refine AllReadyH.cons (by (simp only [List.getElem?_toArray, List.getElem?_cons_succ, List.getElem?_cons_zero]; rfl)) (fun K hK => ?_) AllReadyH.nil
      go_simp
      refine (fits_rf_is t.name t.attrs row _ (.slice Xk t.key.length nk) _ _ HFT.out HMX.out.1 (by omega) _ (HXA.out.below (Below.refl _ _)) (HR.out.below (Below.refl _ _))).mono ?_
      rintro e w14 ⟨rfl, hb⟩
      have hb1 : Below w13.heap.size w13 w14 := hb
      replace z0 := cellB hb1 z0
      replace t0 := cellB hb1 t0
      replace t1 := cellB hb1 t1
      replace t2 := cellB hb1 t2
      replace HS := Lib.hid (HS.out.below hb1)
      replace HR := Lib.hid (HR.out.below hb1)
      replace HXA := Lib.hid (HXA.out.below hb1)
      replace HW := Lib.hid (HW.out.trans (hb1.mono HW.out.size))
      replace HB := Lib.hid (below_up HB.out hb1 HB.out.size)
      clear hb hb1
      try go_wp2_with fail
      clear hHeld
      refine hK.out _ _ ?_ (fun hHeld => ?_)
      · try dsimp only
        go_keep
      clear hK K
      try simp only [Act.put, List.setIfInBounds_toArray, List.set_cons_zero, List.set_cons_succ]
      refine wpAnyH_take (i := 6) (v := ?_) (by (simp only [List.getElem?_toArray, List.getElem?_cons_succ, List.getElem?_cons_zero]; rfl)) (by kernel_rfl) (by kernel_rfl) (by kernel_rfl) (by intro _ _ _ h; exact h) (Or.inl ⟨by kernel_rfl, ?_⟩) hHeld ?_
      case refine_2 =>
        intro w hSw
        try dsimp only at hSw
        go_simp
        try with_reducible rfl
      try simp only [Act.put, List.setIfInBounds_toArray, List.set_cons_zero, List.set_cons_succ]
      refine wpAnyH_take (i := 7) (v := ?_) (by (simp only [List.getElem?_toArray, List.getElem?_cons_succ, List.getElem?_cons_zero]; rfl)) (by kernel_rfl) (by kernel_rfl) (by kernel_rfl) (by intro _ _ _ h; exact h) (Or.inl ⟨by kernel_rfl, ?_⟩) hHeld ?_
      case refine_2 =>
        intro w hSw
        try dsimp only at hSw
        go_simp
        try with_reducible rfl
      try simp only [Act.put, List.setIfInBounds_toArray, List.set_cons_zero, List.set_cons_succ]
      refine wpAnyH_take (i := 8) (v := ?_) (by (simp only [List.getElem?_toArray, List.getElem?_cons_succ, List.getElem?_cons_zero]; rfl)) (by kernel_rfl) (by kernel_rfl) (by kernel_rfl) (by intro _ _ _ h; exact h) (Or.inl ⟨by kernel_rfl, ?_⟩) hHeld ?_
      case refine_2 =>
        intro w hSw
        try dsimp only at hSw
        go_simp
        try with_reducible rfl
      try simp only [Act.put, List.setIfInBounds_toArray, List.set_cons_zero, List.set_cons_succ]
      refine wpAnyH_take (i := 9) (v := ?_) (by (simp only [List.getElem?_toArray, List.getElem?_cons_succ, List.getElem?_cons_zero]; rfl)) (by kernel_rfl) (by kernel_rfl) (by kernel_rfl) (by intro _ _ _ h; exact h) (Or.inl ⟨by kernel_rfl, ?_⟩) hHeld ?_
      case refine_2 =>
        intro w hSw
        try dsimp only at hSw
        go_simp
        try with_reducible rfl
      try simp only [Act.put, List.setIfInBounds_toArray, List.set_cons_zero, List.set_cons_succ]
      refine wpAnyH_take (i := 11) (v := ?_) (by (simp only [List.getElem?_toArray, List.getElem?_cons_succ, List.getElem?_cons_zero]; rfl)) (by kernel_rfl) (by kernel_rfl) (by kernel_rfl) (by intro _ _ _ h; exact h) (Or.inl ⟨by kernel_rfl, ?_⟩) hHeld ?_
      case refine_2 =>
        intro w hSw
        try dsimp only at hSw
        go_simp
        try with_reducible rfl
      try simp only [Act.put, List.setIfInBounds_toArray, List.set_cons_zero, List.set_cons_succ]
      refine wpAnyH_take (i := 12) (v := ?_) (by (simp only [List.getElem?_toArray, List.getElem?_cons_succ, List.getElem?_cons_zero]; rfl)) (by kernel_rfl) (by kernel_rfl) (by kernel_rfl) (by intro _ _ _ h; exact h) (Or.inl ⟨by kernel_rfl, ?_⟩) hHeld ?_
      case refine_2 =>
        intro w hSw
        try dsimp only at hSw
        go_simp
        try with_reducible rfl
      try simp only [Act.put, List.setIfInBounds_toArray, List.set_cons_zero, List.set_cons_succ]
      refine wpAnyH_ready (rs := [10]) (by kernel_rfl) (by simp) ?_
      refine AllReadyH.cons (by (simp only [List.getElem?_toArray, List.getElem?_cons_succ, List.getElem?_cons_zero]; rfl)) (fun K hK => ?_) AllReadyH.nil
      go_simp
      refine (column_is t.name t.attrs _ (.slice Xk t.key.length nk) nm _ HCI.out HMX.out.1 HMX.out.2.2 _ (HXA.out.below (Below.refl _ _))).mono ?_
      rintro e w15 ⟨rfl, hb⟩
      have hb1 : Below w14.heap.size w14 w15 := hb
      replace z0 := cellB hb1 z0
      replace t0 := cellB hb1 t0
      replace t1 := cellB hb1 t1
      replace t2 := cellB hb1 t2
      replace HS := Lib.hid (HS.out.below hb1)
      replace HR := Lib.hid (HR.out.below hb1)
      replace HXA := Lib.hid (HXA.out.below hb1)
      replace HW := Lib.hid (HW.out.trans (hb1.mono HW.out.size))
      replace HB := Lib.hid (below_up HB.out hb1 HB.out.size)
      clear hb hb1
      try go_wp2_with fail
      clear hHeld
      refine hK.out _ _ ?_ (fun hHeld => ?_)
      · try dsimp only
        go_keep
      clear hK K
      try simp only [Act.put, List.setIfInBounds_toArray, List.set_cons_zero, List.set_cons_succ]
      refine wpAnyH_ready (rs := [13]) (by kernel_rfl) (by simp) ?_
      refine AllReadyH.cons (by (simp only [List.getElem?_toArray, List.getElem?_cons_succ, List.getElem?_cons_zero]; rfl)) (fun K hK => ?_) AllReadyH.nil
      go_simp
      refine (column_rf_is t.name t.attrs _ (.slice Xk t.key.length nk) nm _ HCI.out HMX.out.1 HMX.out.2.2 _ (HXA.out.below (Below.refl _ _))).mono ?_
      rintro e w16 ⟨rfl, hb⟩
      have hb1 : Below w15.heap.size w15 w16 := hb
      replace z0 := cellB hb1 z0
      replace t0 := cellB hb1 t0
      replace t1 := cellB hb1 t1
      replace t2 := cellB hb1 t2
      replace HS := Lib.hid (HS.out.below hb1)
      replace HR := Lib.hid (HR.out.below hb1)
      replace HXA := Lib.hid (HXA.out.below hb1)
      replace HW := Lib.hid (HW.out.trans (hb1.mono HW.out.size))
      replace HB := Lib.hid (below_up HB.out hb1 HB.out.size)
      clear hb hb1
      try go_wp2_with fail
      clear hHeld
      refine hK.out _ _ ?_ (fun hHeld => ?_)
      · try dsimp only
        go_keep
      clear hK K
      try simp only [Act.put, List.setIfInBounds_toArray, List.set_cons_zero, List.set_cons_succ]
      refine wpAnyH_take (i := 14) (v := ?_) (by (simp only [List.getElem?_toArray, List.getElem?_cons_succ, List.getElem?_cons_zero]; rfl)) (by kernel_rfl) (by kernel_rfl) (by kernel_rfl) (by intro _ _ _ h; exact h) (Or.inl ⟨by kernel_rfl, ?_⟩) hHeld ?_
      case refine_2 =>
        intro w hSw
        try dsimp only at hSw
        go_simp
        try with_reducible rfl
      try simp only [Act.put, List.setIfInBounds_toArray, List.set_cons_zero, List.set_cons_succ]
      refine wpAnyH_take (i := 15) (v := ?_) (by (simp only [List.getElem?_toArray, List.getElem?_cons_succ, List.getElem?_cons_zero]; rfl)) (by kernel_rfl) (by kernel_rfl) (by kernel_rfl) (by intro _ _ _ h; exact h) (Or.inl ⟨by kernel_rfl, ?_⟩) hHeld ?_
      case refine_2 =>
        intro w hSw
        try dsimp only at hSw
        go_simp
        try with_reducible rfl
      try simp only [Act.put, List.setIfInBounds_toArray, List.set_cons_zero, List.set_cons_succ]
      refine wpAnyH_done (by kernel_rfl) ?_ _
      go_wp2_with fail
      go_roundw
      case rel => exact ⟨j + 1, by omega, by simp, HW.out⟩
      case measure => simp [intOf]; omega
    · go_wp2_with fail
      go_ret
      exact ⟨rfl, HB.out⟩
theorem match_law (s : List TabT) (v : Value) (c : ChgT) (nm : Txt) (n : Int) (row : List T3) (rv : Value) (w : World) (he : L2.Env w) (hlen : Lens s) (h : Tabs w v s) (hr : Vals w rv row) :
    Calls Tryz.prog 3 #[.agg #[v], Cv c, str nm, .int .i64 n, rv] w (fun e w' => e = .returned (.bool true) ∧ Below w.heap.size w w') := by
  by_cases hsm : SmallC s c row
  · by_cases hnm : nm.length ≤ 100
    · have hm1 : Mid (applyT s c).1 := by
        by_cases ha : (applyT s c).2 = 0
        · obtain ⟨k, t, u, hal⟩ := apply_alt ha
          rw [hal.app]
          exact (hal.siz hsm.siz).mid (by omega)
        · rw [apply_no ha]
          exact ⟨by simp, fun t ht => by simp at ht⟩
      have hx : (convT s c n row).1.length ≤ row.length + 1 := conv_len (pair_of rfl rfl)
      have := hsm.2.2.2
      exact mat_all s v c nm n row rv w he hlen h hr hsm hnm (applyT s c).1 (applyT s c).2 rfl hm1 (convT s c n row).1 (convT s c n row).2 rfl (by omega)
    · exact mat_name s v c nm n row rv w he h hr hsm hnm
  · exact mat_big s v c nm n row rv w he h hr hsm
end Go.Proofs.YteokcgfbhaeklaaGreatDoor
