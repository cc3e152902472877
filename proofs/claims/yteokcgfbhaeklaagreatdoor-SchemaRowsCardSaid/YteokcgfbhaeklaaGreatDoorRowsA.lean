/- SchemaRows in plain words, the short ways: nothing to do, a change that cannot be applied, a row that does not fit. -/
import Derived.Test.YteokcgfbhaeklaaGreatDoorScLawB
namespace Go.Proofs.YteokcgfbhaeklaaGreatDoor
open Go.RowKit

set_option maxRecDepth 100000 in
set_option maxHeartbeats 4000000 in
theorem rows_big (s : List TabT) (v : Value) (c : ChgT) (raw : UInt8) (row : List T3) (rv : Value) (w : World) (he : L2.Env w) (h : Tabs w v s) (hr : Vals w rv row) (hsm : ¬ SmallC s c row) :
    Calls Tryz.prog 6 #[.agg #[v], Cv c, .int .u8 (raw.toNat : Int), rv] w (fun e w' => e = .returned (.bool true) ∧ Below w.heap.size w w') := by
  have HSM := Lib.hid hsm
  clear hsm
  obtain ⟨A, cp, rfl, _⟩ := h.form
  obtain ⟨Ar, cr, rfl, _⟩ := hr.form
  have HE := Lib.hid he
  have HS := Lib.hid h
  have HR := Lib.hid hr
  clear he h hr
  go_enter Tryz.func6, Tryz.ntmps6
  go_wp2_with fail
  refine (head_any _ ((HE.out.alloc _).alloc _)).mono ?_
  rintro e w1 ⟨rfl, hb⟩
  have hb2 : Below w.heap.size w w1 := below_up ((below_box w _).alloc (by simp) _) hb (by simp; omega)
  replace HE := Lib.hid (HE.out.below hb2)
  replace HS := Lib.hid (HS.out.below hb2)
  replace HR := Lib.hid (HR.out.below hb2)
  have HB := Lib.hid hb2
  have z0 : w1.cell? ⟨w.heap.size, 0, none⟩ = some (.slice A s.length cp) := cellB hb (by simp [go_sem])
  have c0 : w1.cell? ⟨w.heap.size + 1, 0, none⟩ = some (.int .i64 c.kind) := cellB hb (by simp [go_sem])
  have c1 : w1.cell? ⟨w.heap.size + 1, 1, none⟩ = some (str c.table) := cellB hb (by simp [go_sem])
  have c2 : w1.cell? ⟨w.heap.size + 1, 2, none⟩ = some (str c.attr) := cellB hb (by simp [go_sem])
  have c3 : w1.cell? ⟨w.heap.size + 1, 3, none⟩ = some (str c.name) := cellB hb (by simp [go_sem])
  have c4 : w1.cell? ⟨w.heap.size + 1, 4, none⟩ = some (.int .i64 c.to) := cellB hb (by simp [go_sem])
  have c5 : w1.cell? ⟨w.heap.size + 1, 5, none⟩ = some (.int .i64 c.dft.1) := cellB hb (by simp [go_sem])
  have c6 : w1.cell? ⟨w.heap.size + 1, 6, none⟩ = some (.int .i64 c.dft.2.1) := cellB hb (by simp [go_sem])
  have c7 : w1.cell? ⟨w.heap.size + 1, 7, none⟩ = some (str c.dft.2.2) := cellB hb (by simp [go_sem])
  clear hb hb2
  go_wp2_with fail
  refine (smallC_not s _ _ c row HSM.out _ HS.out ⟨_, _, rfl⟩).mono ?_
  rintro e w2 ⟨rfl, hb⟩
  have hb2 : Below w1.heap.size w1 w2 := hb
  replace z0 := cellB hb2 z0
  replace c0 := cellB hb2 c0
  replace c1 := cellB hb2 c1
  replace c2 := cellB hb2 c2
  replace c3 := cellB hb2 c3
  replace c4 := cellB hb2 c4
  replace c5 := cellB hb2 c5
  replace c6 := cellB hb2 c6
  replace c7 := cellB hb2 c7
  replace HE := Lib.hid (HE.out.below hb2)
  replace HS := Lib.hid (HS.out.below hb2)
  replace HR := Lib.hid (HR.out.below hb2)
  replace HB := Lib.hid (below_up HB.out hb2 HB.out.size)
  clear hb hb2
  go_wp2_with fail
  go_ret
  exact ⟨rfl, HB.out⟩
set_option maxRecDepth 100000 in
set_option maxHeartbeats 4000000 in
theorem rows_none (s : List TabT) (v : Value) (c : ChgT) (raw : UInt8) (row : List T3) (rv : Value) (w : World) (he : L2.Env w) (h : Tabs w v s) (hr : Vals w rv row) (hsm : SmallC s c row) (h0 : s.length = 0) :
    Calls Tryz.prog 6 #[.agg #[v], Cv c, .int .u8 (raw.toNat : Int), rv] w (fun e w' => e = .returned (.bool true) ∧ Below w.heap.size w w') := by
  have HSM := Lib.hid hsm
  have q1 : ((s.length : Int) == 0) = true := by simpa using h0
  clear hsm h0
  obtain ⟨A, cp, rfl, _⟩ := h.form
  obtain ⟨Ar, cr, rfl, _⟩ := hr.form
  have HE := Lib.hid he
  have HS := Lib.hid h
  have HR := Lib.hid hr
  clear he h hr
  go_enter Tryz.func6, Tryz.ntmps6
  go_wp2_with fail
  refine (head_any _ ((HE.out.alloc _).alloc _)).mono ?_
  rintro e w1 ⟨rfl, hb⟩
  have hb2 : Below w.heap.size w w1 := below_up ((below_box w _).alloc (by simp) _) hb (by simp; omega)
  replace HE := Lib.hid (HE.out.below hb2)
  replace HS := Lib.hid (HS.out.below hb2)
  replace HR := Lib.hid (HR.out.below hb2)
  have HB := Lib.hid hb2
  have z0 : w1.cell? ⟨w.heap.size, 0, none⟩ = some (.slice A s.length cp) := cellB hb (by simp [go_sem])
  have c0 : w1.cell? ⟨w.heap.size + 1, 0, none⟩ = some (.int .i64 c.kind) := cellB hb (by simp [go_sem])
  have c1 : w1.cell? ⟨w.heap.size + 1, 1, none⟩ = some (str c.table) := cellB hb (by simp [go_sem])
  have c2 : w1.cell? ⟨w.heap.size + 1, 2, none⟩ = some (str c.attr) := cellB hb (by simp [go_sem])
  have c3 : w1.cell? ⟨w.heap.size + 1, 3, none⟩ = some (str c.name) := cellB hb (by simp [go_sem])
  have c4 : w1.cell? ⟨w.heap.size + 1, 4, none⟩ = some (.int .i64 c.to) := cellB hb (by simp [go_sem])
  have c5 : w1.cell? ⟨w.heap.size + 1, 5, none⟩ = some (.int .i64 c.dft.1) := cellB hb (by simp [go_sem])
  have c6 : w1.cell? ⟨w.heap.size + 1, 6, none⟩ = some (.int .i64 c.dft.2.1) := cellB hb (by simp [go_sem])
  have c7 : w1.cell? ⟨w.heap.size + 1, 7, none⟩ = some (str c.dft.2.2) := cellB hb (by simp [go_sem])
  clear hb hb2
  go_wp2_with fail
  refine (smallC_is s _ _ c row HSM.out _ HS.out ⟨_, _, rfl⟩).mono ?_
  rintro e w2 ⟨rfl, hb⟩
  have hb2 : Below w1.heap.size w1 w2 := hb
  replace z0 := cellB hb2 z0
  replace c0 := cellB hb2 c0
  replace c1 := cellB hb2 c1
  replace c2 := cellB hb2 c2
  replace c3 := cellB hb2 c3
  replace c4 := cellB hb2 c4
  replace c5 := cellB hb2 c5
  replace c6 := cellB hb2 c6
  replace c7 := cellB hb2 c7
  replace HE := Lib.hid (HE.out.below hb2)
  replace HS := Lib.hid (HS.out.below hb2)
  replace HR := Lib.hid (HR.out.below hb2)
  replace HB := Lib.hid (below_up HB.out hb2 HB.out.size)
  clear hb hb2
  go_wp2_with fail
  go_ret
  exact ⟨rfl, HB.out⟩
set_option maxRecDepth 100000 in
set_option maxHeartbeats 4000000 in
theorem rows_err (s : List TabT) (v : Value) (c : ChgT) (raw : UInt8) (row : List T3) (rv : Value) (w : World) (he : L2.Env w) (h : Tabs w v s) (hr : Vals w rv row) (hsm : SmallC s c row) (h0 : 0 < s.length) (n : Nat) (hn : (raw.toNat : Int).tmod (s.length : Int) = (n : Int)) (_hns : n < s.length) (er : Int) (ha : applyT s c = ([], er)) (hcv : convT s c n row = ([], er)) (her : er ≠ 0) :
    Calls Tryz.prog 6 #[.agg #[v], Cv c, .int .u8 (raw.toNat : Int), rv] w (fun e w' => e = .returned (.bool true) ∧ Below w.heap.size w w') := by
  have HSM := Lib.hid hsm
  have q1 : ((s.length : Int) == 0) = false := beq_eq_false_iff_ne.2 (by omega)
  have q2 : ¬ (s.length : Int) = 0 := by omega
  have q3 := raw.toNat_lt
  have q4 : (s.length : Int) ≤ 24 := by have := hsm.1.1; omega
  have q5 : (0 : Int) < (s.length : Int) := by omega
  have hrl : row.length ≤ 20 := hsm.2.2.2
  have HA := Lib.hid ha
  have HCV := Lib.hid hcv
  have q6 : (er != 0) = true := by simpa using her
  have q7 : (er == 0) = false := by simpa using her
  clear hsm h0 ha hcv her
  obtain ⟨A, cp, rfl, _⟩ := h.form
  obtain ⟨Ar, cr, rfl, _⟩ := hr.form
  have HE := Lib.hid he
  have HS := Lib.hid h
  have HR := Lib.hid hr
  clear he h hr
  go_enter Tryz.func6, Tryz.ntmps6
  go_wp2_with fail
  refine (head_any _ ((HE.out.alloc _).alloc _)).mono ?_
  rintro e w1 ⟨rfl, hb⟩
  have hb2 : Below w.heap.size w w1 := below_up ((below_box w _).alloc (by simp) _) hb (by simp; omega)
  replace HE := Lib.hid (HE.out.below hb2)
  replace HS := Lib.hid (HS.out.below hb2)
  replace HR := Lib.hid (HR.out.below hb2)
  have HB := Lib.hid hb2
  have z0 : w1.cell? ⟨w.heap.size, 0, none⟩ = some (.slice A s.length cp) := cellB hb (by simp [go_sem])
  have c0 : w1.cell? ⟨w.heap.size + 1, 0, none⟩ = some (.int .i64 c.kind) := cellB hb (by simp [go_sem])
  have c1 : w1.cell? ⟨w.heap.size + 1, 1, none⟩ = some (str c.table) := cellB hb (by simp [go_sem])
  have c2 : w1.cell? ⟨w.heap.size + 1, 2, none⟩ = some (str c.attr) := cellB hb (by simp [go_sem])
  have c3 : w1.cell? ⟨w.heap.size + 1, 3, none⟩ = some (str c.name) := cellB hb (by simp [go_sem])
  have c4 : w1.cell? ⟨w.heap.size + 1, 4, none⟩ = some (.int .i64 c.to) := cellB hb (by simp [go_sem])
  have c5 : w1.cell? ⟨w.heap.size + 1, 5, none⟩ = some (.int .i64 c.dft.1) := cellB hb (by simp [go_sem])
  have c6 : w1.cell? ⟨w.heap.size + 1, 6, none⟩ = some (.int .i64 c.dft.2.1) := cellB hb (by simp [go_sem])
  have c7 : w1.cell? ⟨w.heap.size + 1, 7, none⟩ = some (str c.dft.2.2) := cellB hb (by simp [go_sem])
  clear hb hb2
  go_wp2_with fail
  refine (smallC_is s _ _ c row HSM.out _ HS.out ⟨_, _, rfl⟩).mono ?_
  rintro e w2 ⟨rfl, hb⟩
  have hb2 : Below w1.heap.size w1 w2 := hb
  replace z0 := cellB hb2 z0
  replace c0 := cellB hb2 c0
  replace c1 := cellB hb2 c1
  replace c2 := cellB hb2 c2
  replace c3 := cellB hb2 c3
  replace c4 := cellB hb2 c4
  replace c5 := cellB hb2 c5
  replace c6 := cellB hb2 c6
  replace c7 := cellB hb2 c7
  replace HE := Lib.hid (HE.out.below hb2)
  replace HS := Lib.hid (HS.out.below hb2)
  replace HR := Lib.hid (HR.out.below hb2)
  replace HB := Lib.hid (below_up HB.out hb2 HB.out.size)
  clear hb hb2
  go_wp2_with fail
  refine (apply_is s _ c _ HA.out HSM.out.mid _ HS.out).mono ?_
  rintro e w3 ⟨va, rfl, hva, hb⟩
  have hb2 : Below w2.heap.size w2 w3 := hb
  replace z0 := cellB hb2 z0
  replace c0 := cellB hb2 c0
  replace c1 := cellB hb2 c1
  replace c2 := cellB hb2 c2
  replace c3 := cellB hb2 c3
  replace c4 := cellB hb2 c4
  replace c5 := cellB hb2 c5
  replace c6 := cellB hb2 c6
  replace c7 := cellB hb2 c7
  replace HE := Lib.hid (HE.out.below hb2)
  replace HS := Lib.hid (HS.out.below hb2)
  replace HR := Lib.hid (HR.out.below hb2)
  replace HB := Lib.hid (below_up HB.out hb2 HB.out.size)
  clear hb hb2
  obtain ⟨Aa, ca, rfl⟩ := slcNil hva
  have HVA := Lib.hid hva
  clear hva
  have yz0 := fun o => Cell.alloc z0 o
  have yc0 := fun o => Cell.alloc c0 o
  have yc1 := fun o => Cell.alloc c1 o
  have yc2 := fun o => Cell.alloc c2 o
  have yc3 := fun o => Cell.alloc c3 o
  have yc4 := fun o => Cell.alloc c4 o
  have yc5 := fun o => Cell.alloc c5 o
  have yc6 := fun o => Cell.alloc c6 o
  have yc7 := fun o => Cell.alloc c7 o
  go_wp2_with fail
  refine (convert_is s _ _ c (n : Int) row _ HCV.out HSM.out.mid (by omega) _ (HE.out.alloc _) (HS.out.below (below_box w3 _)) (HR.out.below (below_box w3 _))).mono ?_
  rintro e w4 ⟨vx, rfl, hvx, hb⟩
  have hb2 : Below w3.heap.size w3 w4 := below_up (below_box w3 _) hb (by simp)
  replace z0 := cellB hb2 z0
  replace c0 := cellB hb2 c0
  replace c1 := cellB hb2 c1
  replace c2 := cellB hb2 c2
  replace c3 := cellB hb2 c3
  replace c4 := cellB hb2 c4
  replace c5 := cellB hb2 c5
  replace c6 := cellB hb2 c6
  replace c7 := cellB hb2 c7
  replace HE := Lib.hid (HE.out.below hb2)
  replace HS := Lib.hid (HS.out.below hb2)
  replace HR := Lib.hid (HR.out.below hb2)
  replace HVA := Lib.hid (HVA.out.below hb2)
  replace HB := Lib.hid (below_up HB.out hb2 HB.out.size)
  have a0 : w4.cell? ⟨w3.heap.size, 0, none⟩ = some (.slice Aa 0 ca) := cellB hb (by simp [go_sem])
  clear hb hb2 yz0 yc0 yc1 yc2 yc3 yc4 yc5 yc6 yc7
  obtain ⟨Ax, cx, rfl⟩ := slcNil hvx
  clear hvx
  go_wp2_with fail
  go_ret
  exact ⟨rfl, HB.out⟩
set_option maxRecDepth 100000 in
set_option maxHeartbeats 4000000 in
theorem rows_unfit (s : List TabT) (v : Value) (c : ChgT) (raw : UInt8) (row : List T3) (rv : Value) (w : World) (he : L2.Env w) (h : Tabs w v s) (hr : Vals w rv row) (hsm : SmallC s c row) (h0 : 0 < s.length) (n : Nat) (hn : (raw.toNat : Int).tmod (s.length : Int) = (n : Int)) (hns : n < s.length) (s1 : List TabT) (fr : Int) (ha : applyT s c = (s1, 0)) (hcv : convT s c n row = ([], fr)) (her : fr ≠ 0) (hfi : fitsB s[n].attrs row = false) :
    Calls Tryz.prog 6 #[.agg #[v], Cv c, .int .u8 (raw.toNat : Int), rv] w (fun e w' => e = .returned (.bool true) ∧ Below w.heap.size w w') := by
  have HSM := Lib.hid hsm
  have q1 : ((s.length : Int) == 0) = false := beq_eq_false_iff_ne.2 (by omega)
  have q2 : ¬ (s.length : Int) = 0 := by omega
  have q3 := raw.toNat_lt
  have q4 : (s.length : Int) ≤ 24 := by have := hsm.1.1; omega
  have q5 : (0 : Int) < (s.length : Int) := by omega
  have hrl : row.length ≤ 20 := hsm.2.2.2
  have HA := Lib.hid ha
  have HCV := Lib.hid hcv
  have q6 : (fr != 0) = true := by simpa using her
  have HFI := Lib.hid hfi
  clear hsm h0 ha hcv her hfi
  obtain ⟨A, cp, rfl, _⟩ := h.form
  obtain ⟨Ar, cr, rfl, _⟩ := hr.form
  have HE := Lib.hid he
  have HS := Lib.hid h
  have HR := Lib.hid hr
  clear he h hr
  go_enter Tryz.func6, Tryz.ntmps6
  go_wp2_with fail
  refine (head_any _ ((HE.out.alloc _).alloc _)).mono ?_
  rintro e w1 ⟨rfl, hb⟩
  have hb2 : Below w.heap.size w w1 := below_up ((below_box w _).alloc (by simp) _) hb (by simp; omega)
  replace HE := Lib.hid (HE.out.below hb2)
  replace HS := Lib.hid (HS.out.below hb2)
  replace HR := Lib.hid (HR.out.below hb2)
  have HB := Lib.hid hb2
  have z0 : w1.cell? ⟨w.heap.size, 0, none⟩ = some (.slice A s.length cp) := cellB hb (by simp [go_sem])
  have c0 : w1.cell? ⟨w.heap.size + 1, 0, none⟩ = some (.int .i64 c.kind) := cellB hb (by simp [go_sem])
  have c1 : w1.cell? ⟨w.heap.size + 1, 1, none⟩ = some (str c.table) := cellB hb (by simp [go_sem])
  have c2 : w1.cell? ⟨w.heap.size + 1, 2, none⟩ = some (str c.attr) := cellB hb (by simp [go_sem])
  have c3 : w1.cell? ⟨w.heap.size + 1, 3, none⟩ = some (str c.name) := cellB hb (by simp [go_sem])
  have c4 : w1.cell? ⟨w.heap.size + 1, 4, none⟩ = some (.int .i64 c.to) := cellB hb (by simp [go_sem])
  have c5 : w1.cell? ⟨w.heap.size + 1, 5, none⟩ = some (.int .i64 c.dft.1) := cellB hb (by simp [go_sem])
  have c6 : w1.cell? ⟨w.heap.size + 1, 6, none⟩ = some (.int .i64 c.dft.2.1) := cellB hb (by simp [go_sem])
  have c7 : w1.cell? ⟨w.heap.size + 1, 7, none⟩ = some (str c.dft.2.2) := cellB hb (by simp [go_sem])
  clear hb hb2
  go_wp2_with fail
  refine (smallC_is s _ _ c row HSM.out _ HS.out ⟨_, _, rfl⟩).mono ?_
  rintro e w2 ⟨rfl, hb⟩
  have hb2 : Below w1.heap.size w1 w2 := hb
  replace z0 := cellB hb2 z0
  replace c0 := cellB hb2 c0
  replace c1 := cellB hb2 c1
  replace c2 := cellB hb2 c2
  replace c3 := cellB hb2 c3
  replace c4 := cellB hb2 c4
  replace c5 := cellB hb2 c5
  replace c6 := cellB hb2 c6
  replace c7 := cellB hb2 c7
  replace HE := Lib.hid (HE.out.below hb2)
  replace HS := Lib.hid (HS.out.below hb2)
  replace HR := Lib.hid (HR.out.below hb2)
  replace HB := Lib.hid (below_up HB.out hb2 HB.out.size)
  clear hb hb2
  go_wp2_with fail
  refine (apply_is s _ c _ HA.out HSM.out.mid _ HS.out).mono ?_
  rintro e w3 ⟨va, rfl, hva, hb⟩
  have hb2 : Below w2.heap.size w2 w3 := hb
  replace z0 := cellB hb2 z0
  replace c0 := cellB hb2 c0
  replace c1 := cellB hb2 c1
  replace c2 := cellB hb2 c2
  replace c3 := cellB hb2 c3
  replace c4 := cellB hb2 c4
  replace c5 := cellB hb2 c5
  replace c6 := cellB hb2 c6
  replace c7 := cellB hb2 c7
  replace HE := Lib.hid (HE.out.below hb2)
  replace HS := Lib.hid (HS.out.below hb2)
  replace HR := Lib.hid (HR.out.below hb2)
  replace HB := Lib.hid (below_up HB.out hb2 HB.out.size)
  clear hb hb2
  obtain ⟨Aa, ca, rfl, _⟩ := hva.form
  have HVA := Lib.hid hva
  clear hva
  have yz0 := fun o => Cell.alloc z0 o
  have yc0 := fun o => Cell.alloc c0 o
  have yc1 := fun o => Cell.alloc c1 o
  have yc2 := fun o => Cell.alloc c2 o
  have yc3 := fun o => Cell.alloc c3 o
  have yc4 := fun o => Cell.alloc c4 o
  have yc5 := fun o => Cell.alloc c5 o
  have yc6 := fun o => Cell.alloc c6 o
  have yc7 := fun o => Cell.alloc c7 o
  go_wp2_with fail
  refine (convert_is s _ _ c (n : Int) row _ HCV.out HSM.out.mid (by omega) _ (HE.out.alloc _) (HS.out.below (below_box w3 _)) (HR.out.below (below_box w3 _))).mono ?_
  rintro e w4 ⟨vx, rfl, hvx, hb⟩
  have hb2 : Below w3.heap.size w3 w4 := below_up (below_box w3 _) hb (by simp)
  replace z0 := cellB hb2 z0
  replace c0 := cellB hb2 c0
  replace c1 := cellB hb2 c1
  replace c2 := cellB hb2 c2
  replace c3 := cellB hb2 c3
  replace c4 := cellB hb2 c4
  replace c5 := cellB hb2 c5
  replace c6 := cellB hb2 c6
  replace c7 := cellB hb2 c7
  replace HE := Lib.hid (HE.out.below hb2)
  replace HS := Lib.hid (HS.out.below hb2)
  replace HR := Lib.hid (HR.out.below hb2)
  replace HVA := Lib.hid (HVA.out.below hb2)
  replace HB := Lib.hid (below_up HB.out hb2 HB.out.size)
  have a0 : w4.cell? ⟨w3.heap.size, 0, none⟩ = some (.slice Aa s1.length ca) := cellB hb (by simp [go_sem])
  clear hb hb2 yz0 yc0 yc1 yc2 yc3 yc4 yc5 yc6 yc7
  obtain ⟨Ax, cx, rfl⟩ := slcNil hvx
  clear hvx
  obtain ⟨b1, o1, rfl, xa, xk, hax, hxa, hxk⟩ := tab_at HS.out hns
  obtain ⟨Xa, na, rfl, _⟩ := hxa.form
  obtain ⟨Xk, nk, rfl, _⟩ := hxk.form
  have x0 := hax.c0
  have x1 := hax.c1
  have x2 := hax.c2
  have HXA := Lib.hid hxa
  have i1 : (0 : Int) ≤ (n : Int) := by omega
  have i2 : (n : Int) < (s.length : Int) := by omega
  have hmx := HSM.out.mid.2 s[n] (List.getElem_mem hns)
  clear hax hxa hxk
  have CF := Lib.hid (fun W (hW : Below w4.heap.size w4 W) => fits_is s[n].name s[n].attrs row _ (.slice Xk s[n].key.length nk) _ false HFI.out hmx.1 (by omega) W (HXA.out.below hW) (HR.out.below hW))
  obtain ⟨t, ht⟩ : ∃ t, s[n] = t := ⟨_, rfl⟩
  rw [ht] at CF x0 x1 x2
  clear hmx ht HXA
  go_wp2_with fail
  refine (CF.out _ (Below.refl _ _)).mono ?_
  rintro e w5 ⟨rfl, hb⟩
  have hb2 : Below w4.heap.size w4 w5 := hb
  replace z0 := cellB hb2 z0
  replace c0 := cellB hb2 c0
  replace c1 := cellB hb2 c1
  replace c2 := cellB hb2 c2
  replace c3 := cellB hb2 c3
  replace c4 := cellB hb2 c4
  replace c5 := cellB hb2 c5
  replace c6 := cellB hb2 c6
  replace c7 := cellB hb2 c7
  replace a0 := cellB hb2 a0
  replace HE := Lib.hid (HE.out.below hb2)
  replace HS := Lib.hid (HS.out.below hb2)
  replace HR := Lib.hid (HR.out.below hb2)
  replace HVA := Lib.hid (HVA.out.below hb2)
  replace HB := Lib.hid (below_up HB.out hb2 HB.out.size)
  clear hb hb2
  go_wp2_with fail
  go_ret
  exact ⟨rfl, HB.out⟩
end Go.Proofs.YteokcgfbhaeklaaGreatDoor
