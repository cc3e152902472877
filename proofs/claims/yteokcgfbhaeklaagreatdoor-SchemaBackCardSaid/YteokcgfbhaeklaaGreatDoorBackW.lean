/- SchemaBack in plain words: what is added and dropped again gives the schema and the row back. -/
import Derived.Test.YteokcgfbhaeklaaGreatDoorScLawB
namespace Go.Proofs.YteokcgfbhaeklaaGreatDoor
open Go.RowKit

set_option maxRecDepth 100000 in
set_option maxHeartbeats 4000000 in
theorem back_big (s : List TabT) (v : Value) (c : ChgT) (raw : UInt8) (row : List T3) (rv : Value) (w : World) (he : L2.Env w) (h : Tabs w v s) (hr : Vals w rv row) (hsm : ¬ SmallC s c row) :
    Calls Tryz.prog 7 #[.agg #[v], Cv c, .int .u8 (raw.toNat : Int), rv] w (fun e w' => e = .returned (.bool true) ∧ Below w.heap.size w w') := by
  have HSM := Lib.hid hsm
  clear hsm
  obtain ⟨A, cp, rfl, _⟩ := h.form
  obtain ⟨Ar, cr, rfl, _⟩ := hr.form
  have HE := Lib.hid he
  have HS := Lib.hid h
  have HR := Lib.hid hr
  clear he h hr
  go_enter Tryz.func7, Tryz.ntmps7
  go_wp2_with fail
  refine (head_any _ ((HE.out.alloc _).alloc _)).mono ?_
  rintro e w1 ⟨rfl, hb⟩
  have hb2 : Below w.heap.size w w1 := below_up ((below_box w _).alloc (by simp) _) hb (by simp; omega)
  replace HE := Lib.hid (HE.out.below hb2)
  replace HS := Lib.hid (HS.out.below hb2)
  replace HR := Lib.hid (HR.out.below hb2)
  have HB := Lib.hid hb2
  have z0 : w1.cell? ⟨w.heap.size, 0, none⟩ = some (.slice A s.length cp) := cellB hb (by simp [go_sem])
  have c0 : w1.cell? ⟨w.heap.size + 1, 0, none⟩ = some (.int .i64 c.kind) := cellB hb (by simp [go_sem])
  have c1 : w1.cell? ⟨w.heap.size + 1, 1, none⟩ = some (str c.table) := cellB hb (by simp [go_sem])
  have c2 : w1.cell? ⟨w.heap.size + 1, 2, none⟩ = some (str c.attr) := cellB hb (by simp [go_sem])
  have c3 : w1.cell? ⟨w.heap.size + 1, 3, none⟩ = some (str c.name) := cellB hb (by simp [go_sem])
  have c4 : w1.cell? ⟨w.heap.size + 1, 4, none⟩ = some (.int .i64 c.to) := cellB hb (by simp [go_sem])
  have c5 : w1.cell? ⟨w.heap.size + 1, 5, none⟩ = some (.int .i64 c.dft.1) := cellB hb (by simp [go_sem])
  have c6 : w1.cell? ⟨w.heap.size + 1, 6, none⟩ = some (.int .i64 c.dft.2.1) := cellB hb (by simp [go_sem])
  have c7 : w1.cell? ⟨w.heap.size + 1, 7, none⟩ = some (str c.dft.2.2) := cellB hb (by simp [go_sem])
  clear hb hb2
  go_wp2_with fail
  refine (smallC_not s _ _ c row HSM.out _ HS.out ⟨_, _, rfl⟩).mono ?_
  rintro e w2 ⟨rfl, hb⟩
  have hb2 : Below w1.heap.size w1 w2 := hb
  replace z0 := cellB hb2 z0
  replace c0 := cellB hb2 c0
  replace c1 := cellB hb2 c1
  replace c2 := cellB hb2 c2
  replace c3 := cellB hb2 c3
  replace c4 := cellB hb2 c4
  replace c5 := cellB hb2 c5
  replace c6 := cellB hb2 c6
  replace c7 := cellB hb2 c7
  replace HE := Lib.hid (HE.out.below hb2)
  replace HS := Lib.hid (HS.out.below hb2)
  replace HR := Lib.hid (HR.out.below hb2)
  replace HB := Lib.hid (below_up HB.out hb2 HB.out.size)
  clear hb hb2
  go_wp2_with fail
  go_ret
  exact ⟨rfl, HB.out⟩
set_option maxRecDepth 100000 in
set_option maxHeartbeats 4000000 in
theorem back_kind (s : List TabT) (v : Value) (c : ChgT) (raw : UInt8) (row : List T3) (rv : Value) (w : World) (he : L2.Env w) (h : Tabs w v s) (hr : Vals w rv row) (hsm : SmallC s c row) (hk : ¬ c.kind = 1) :
    Calls Tryz.prog 7 #[.agg #[v], Cv c, .int .u8 (raw.toNat : Int), rv] w (fun e w' => e = .returned (.bool true) ∧ Below w.heap.size w w') := by
  have HSM := Lib.hid hsm
  have q0 : (c.kind != 1) = true := by simpa using hk
  clear hsm hk
  obtain ⟨A, cp, rfl, _⟩ := h.form
  obtain ⟨Ar, cr, rfl, _⟩ := hr.form
  have HE := Lib.hid he
  have HS := Lib.hid h
  have HR := Lib.hid hr
  clear he h hr
  go_enter Tryz.func7, Tryz.ntmps7
  go_wp2_with fail
  refine (head_any _ ((HE.out.alloc _).alloc _)).mono ?_
  rintro e w1 ⟨rfl, hb⟩
  have hb2 : Below w.heap.size w w1 := below_up ((below_box w _).alloc (by simp) _) hb (by simp; omega)
  replace HE := Lib.hid (HE.out.below hb2)
  replace HS := Lib.hid (HS.out.below hb2)
  replace HR := Lib.hid (HR.out.below hb2)
  have HB := Lib.hid hb2
  have z0 : w1.cell? ⟨w.heap.size, 0, none⟩ = some (.slice A s.length cp) := cellB hb (by simp [go_sem])
  have c0 : w1.cell? ⟨w.heap.size + 1, 0, none⟩ = some (.int .i64 c.kind) := cellB hb (by simp [go_sem])
  have c1 : w1.cell? ⟨w.heap.size + 1, 1, none⟩ = some (str c.table) := cellB hb (by simp [go_sem])
  have c2 : w1.cell? ⟨w.heap.size + 1, 2, none⟩ = some (str c.attr) := cellB hb (by simp [go_sem])
  have c3 : w1.cell? ⟨w.heap.size + 1, 3, none⟩ = some (str c.name) := cellB hb (by simp [go_sem])
  have c4 : w1.cell? ⟨w.heap.size + 1, 4, none⟩ = some (.int .i64 c.to) := cellB hb (by simp [go_sem])
  have c5 : w1.cell? ⟨w.heap.size + 1, 5, none⟩ = some (.int .i64 c.dft.1) := cellB hb (by simp [go_sem])
  have c6 : w1.cell? ⟨w.heap.size + 1, 6, none⟩ = some (.int .i64 c.dft.2.1) := cellB hb (by simp [go_sem])
  have c7 : w1.cell? ⟨w.heap.size + 1, 7, none⟩ = some (str c.dft.2.2) := cellB hb (by simp [go_sem])
  clear hb hb2
  go_wp2_with fail
  refine (smallC_is s _ _ c row HSM.out _ HS.out ⟨_, _, rfl⟩).mono ?_
  rintro e w2 ⟨rfl, hb⟩
  have hb2 : Below w1.heap.size w1 w2 := hb
  replace z0 := cellB hb2 z0
  replace c0 := cellB hb2 c0
  replace c1 := cellB hb2 c1
  replace c2 := cellB hb2 c2
  replace c3 := cellB hb2 c3
  replace c4 := cellB hb2 c4
  replace c5 := cellB hb2 c5
  replace c6 := cellB hb2 c6
  replace c7 := cellB hb2 c7
  replace HE := Lib.hid (HE.out.below hb2)
  replace HS := Lib.hid (HS.out.below hb2)
  replace HR := Lib.hid (HR.out.below hb2)
  replace HB := Lib.hid (below_up HB.out hb2 HB.out.size)
  clear hb hb2
  go_wp2_with fail
  go_ret
  exact ⟨rfl, HB.out⟩
set_option maxRecDepth 100000 in
set_option maxHeartbeats 4000000 in
theorem back_none (s : List TabT) (v : Value) (c : ChgT) (raw : UInt8) (row : List T3) (rv : Value) (w : World) (he : L2.Env w) (h : Tabs w v s) (hr : Vals w rv row) (hsm : SmallC s c row) (hk : c.kind = 1) (h0 : s.length = 0) :
    Calls Tryz.prog 7 #[.agg #[v], Cv c, .int .u8 (raw.toNat : Int), rv] w (fun e w' => e = .returned (.bool true) ∧ Below w.heap.size w w') := by
  have HSM := Lib.hid hsm
  have q0 : (c.kind != 1) = false := by simpa using hk
  have q1 : ((s.length : Int) == 0) = true := by simpa using h0
  clear hsm hk h0
  obtain ⟨A, cp, rfl, _⟩ := h.form
  obtain ⟨Ar, cr, rfl, _⟩ := hr.form
  have HE := Lib.hid he
  have HS := Lib.hid h
  have HR := Lib.hid hr
  clear he h hr
  go_enter Tryz.func7, Tryz.ntmps7
  go_wp2_with fail
  refine (head_any _ ((HE.out.alloc _).alloc _)).mono ?_
  rintro e w1 ⟨rfl, hb⟩
  have hb2 : Below w.heap.size w w1 := below_up ((below_box w _).alloc (by simp) _) hb (by simp; omega)
  replace HE := Lib.hid (HE.out.below hb2)
  replace HS := Lib.hid (HS.out.below hb2)
  replace HR := Lib.hid (HR.out.below hb2)
  have HB := Lib.hid hb2
  have z0 : w1.cell? ⟨w.heap.size, 0, none⟩ = some (.slice A s.length cp) := cellB hb (by simp [go_sem])
  have c0 : w1.cell? ⟨w.heap.size + 1, 0, none⟩ = some (.int .i64 c.kind) := cellB hb (by simp [go_sem])
  have c1 : w1.cell? ⟨w.heap.size + 1, 1, none⟩ = some (str c.table) := cellB hb (by simp [go_sem])
  have c2 : w1.cell? ⟨w.heap.size + 1, 2, none⟩ = some (str c.attr) := cellB hb (by simp [go_sem])
  have c3 : w1.cell? ⟨w.heap.size + 1, 3, none⟩ = some (str c.name) := cellB hb (by simp [go_sem])
  have c4 : w1.cell? ⟨w.heap.size + 1, 4, none⟩ = some (.int .i64 c.to) := cellB hb (by simp [go_sem])
  have c5 : w1.cell? ⟨w.heap.size + 1, 5, none⟩ = some (.int .i64 c.dft.1) := cellB hb (by simp [go_sem])
  have c6 : w1.cell? ⟨w.heap.size + 1, 6, none⟩ = some (.int .i64 c.dft.2.1) := cellB hb (by simp [go_sem])
  have c7 : w1.cell? ⟨w.heap.size + 1, 7, none⟩ = some (str c.dft.2.2) := cellB hb (by simp [go_sem])
  clear hb hb2
  go_wp2_with fail
  refine (smallC_is s _ _ c row HSM.out _ HS.out ⟨_, _, rfl⟩).mono ?_
  rintro e w2 ⟨rfl, hb⟩
  have hb2 : Below w1.heap.size w1 w2 := hb
  replace z0 := cellB hb2 z0
  replace c0 := cellB hb2 c0
  replace c1 := cellB hb2 c1
  replace c2 := cellB hb2 c2
  replace c3 := cellB hb2 c3
  replace c4 := cellB hb2 c4
  replace c5 := cellB hb2 c5
  replace c6 := cellB hb2 c6
  replace c7 := cellB hb2 c7
  replace HE := Lib.hid (HE.out.below hb2)
  replace HS := Lib.hid (HS.out.below hb2)
  replace HR := Lib.hid (HR.out.below hb2)
  replace HB := Lib.hid (below_up HB.out hb2 HB.out.size)
  clear hb hb2
  go_wp2_with fail
  go_ret
  exact ⟨rfl, HB.out⟩
set_option maxRecDepth 100000 in
set_option maxHeartbeats 4000000 in
theorem back_err (s : List TabT) (v : Value) (c : ChgT) (raw : UInt8) (row : List T3) (rv : Value) (w : World) (he : L2.Env w) (h : Tabs w v s) (hr : Vals w rv row) (hsm : SmallC s c row) (hk : c.kind = 1) (h0 : 0 < s.length) (n : Nat) (hn : (raw.toNat : Int).tmod (s.length : Int) = (n : Int)) (_hns : n < s.length) (er : Int) (ha : applyT s c = ([], er)) (her : er ≠ 0) :
    Calls Tryz.prog 7 #[.agg #[v], Cv c, .int .u8 (raw.toNat : Int), rv] w (fun e w' => e = .returned (.bool true) ∧ Below w.heap.size w w') := by
  have HSM := Lib.hid hsm
  have q0 : (c.kind != 1) = false := by simpa using hk
  have q1 : ((s.length : Int) == 0) = false := beq_eq_false_iff_ne.2 (by omega)
  have q2 : ¬ (s.length : Int) = 0 := by omega
  have q3 := raw.toNat_lt
  have q4 : (s.length : Int) ≤ 24 := by have := hsm.1.1; omega
  have q5 : (0 : Int) < (s.length : Int) := by omega
  have HA := Lib.hid ha
  have q6 : (er != 0) = true := by simpa using her
  clear hsm hk h0 ha her
  obtain ⟨A, cp, rfl, _⟩ := h.form
  obtain ⟨Ar, cr, rfl, _⟩ := hr.form
  have HE := Lib.hid he
  have HS := Lib.hid h
  have HR := Lib.hid hr
  clear he h hr
  go_enter Tryz.func7, Tryz.ntmps7
  go_wp2_with fail
  refine (head_any _ ((HE.out.alloc _).alloc _)).mono ?_
  rintro e w1 ⟨rfl, hb⟩
  have hb2 : Below w.heap.size w w1 := below_up ((below_box w _).alloc (by simp) _) hb (by simp; omega)
  replace HE := Lib.hid (HE.out.below hb2)
  replace HS := Lib.hid (HS.out.below hb2)
  replace HR := Lib.hid (HR.out.below hb2)
  have HB := Lib.hid hb2
  have z0 : w1.cell? ⟨w.heap.size, 0, none⟩ = some (.slice A s.length cp) := cellB hb (by simp [go_sem])
  have c0 : w1.cell? ⟨w.heap.size + 1, 0, none⟩ = some (.int .i64 c.kind) := cellB hb (by simp [go_sem])
  have c1 : w1.cell? ⟨w.heap.size + 1, 1, none⟩ = some (str c.table) := cellB hb (by simp [go_sem])
  have c2 : w1.cell? ⟨w.heap.size + 1, 2, none⟩ = some (str c.attr) := cellB hb (by simp [go_sem])
  have c3 : w1.cell? ⟨w.heap.size + 1, 3, none⟩ = some (str c.name) := cellB hb (by simp [go_sem])
  have c4 : w1.cell? ⟨w.heap.size + 1, 4, none⟩ = some (.int .i64 c.to) := cellB hb (by simp [go_sem])
  have c5 : w1.cell? ⟨w.heap.size + 1, 5, none⟩ = some (.int .i64 c.dft.1) := cellB hb (by simp [go_sem])
  have c6 : w1.cell? ⟨w.heap.size + 1, 6, none⟩ = some (.int .i64 c.dft.2.1) := cellB hb (by simp [go_sem])
  have c7 : w1.cell? ⟨w.heap.size + 1, 7, none⟩ = some (str c.dft.2.2) := cellB hb (by simp [go_sem])
  clear hb hb2
  go_wp2_with fail
  refine (smallC_is s _ _ c row HSM.out _ HS.out ⟨_, _, rfl⟩).mono ?_
  rintro e w2 ⟨rfl, hb⟩
  have hb2 : Below w1.heap.size w1 w2 := hb
  replace z0 := cellB hb2 z0
  replace c0 := cellB hb2 c0
  replace c1 := cellB hb2 c1
  replace c2 := cellB hb2 c2
  replace c3 := cellB hb2 c3
  replace c4 := cellB hb2 c4
  replace c5 := cellB hb2 c5
  replace c6 := cellB hb2 c6
  replace c7 := cellB hb2 c7
  replace HE := Lib.hid (HE.out.below hb2)
  replace HS := Lib.hid (HS.out.below hb2)
  replace HR := Lib.hid (HR.out.below hb2)
  replace HB := Lib.hid (below_up HB.out hb2 HB.out.size)
  clear hb hb2
  go_wp2_with fail
  refine (apply_is s _ c _ HA.out HSM.out.mid _ HS.out).mono ?_
  rintro e w3 ⟨va, rfl, hva, hb⟩
  have hb2 : Below w2.heap.size w2 w3 := hb
  replace z0 := cellB hb2 z0
  replace c0 := cellB hb2 c0
  replace c1 := cellB hb2 c1
  replace c2 := cellB hb2 c2
  replace c3 := cellB hb2 c3
  replace c4 := cellB hb2 c4
  replace c5 := cellB hb2 c5
  replace c6 := cellB hb2 c6
  replace c7 := cellB hb2 c7
  replace HE := Lib.hid (HE.out.below hb2)
  replace HS := Lib.hid (HS.out.below hb2)
  replace HR := Lib.hid (HR.out.below hb2)
  replace HB := Lib.hid (below_up HB.out hb2 HB.out.size)
  clear hb hb2
  obtain ⟨Aa, ca, rfl⟩ := slcNil hva
  clear hva
  go_wp2_with fail
  go_ret
  exact ⟨rfl, HB.out.alloc HB.out.size _⟩
set_option maxRecDepth 100000 in
set_option maxHeartbeats 4000000 in
theorem back_conv (s : List TabT) (v : Value) (c : ChgT) (raw : UInt8) (row : List T3) (rv : Value) (w : World) (he : L2.Env w) (h : Tabs w v s) (hr : Vals w rv row) (hsm : SmallC s c row) (hk : c.kind = 1) (h0 : 0 < s.length) (n : Nat) (hn : (raw.toNat : Int).tmod (s.length : Int) = (n : Int)) (_hns : n < s.length) (s1 : List TabT) (ha : applyT s c = (s1, 0)) (hd : applyT s1 (dropC c) = (s, 0)) (hm1 : Mid s1) (er : Int) (hcv : convT s c n row = ([], er)) (her : er ≠ 0) :
    Calls Tryz.prog 7 #[.agg #[v], Cv c, .int .u8 (raw.toNat : Int), rv] w (fun e w' => e = .returned (.bool true) ∧ Below w.heap.size w w') := by
  have HSM := Lib.hid hsm
  have q0 : (c.kind != 1) = false := by simpa using hk
  have q1 : ((s.length : Int) == 0) = false := beq_eq_false_iff_ne.2 (by omega)
  have q2 : ¬ (s.length : Int) = 0 := by omega
  have q3 := raw.toNat_lt
  have q4 : (s.length : Int) ≤ 24 := by have := hsm.1.1; omega
  have q5 : (0 : Int) < (s.length : Int) := by omega
  have HA := Lib.hid ha
  have HD := Lib.hid hd
  have HM1 := Lib.hid hm1
  have HCV := Lib.hid hcv
  have hrl : row.length ≤ 20 := hsm.2.2.2
  have q6 : (er != 0) = true := by simpa using her
  clear hsm hk h0 ha her hd hm1 hcv
  obtain ⟨A, cp, rfl, _⟩ := h.form
  obtain ⟨Ar, cr, rfl, _⟩ := hr.form
  have HE := Lib.hid he
  have HS := Lib.hid h
  have HR := Lib.hid hr
  clear he h hr
  go_enter Tryz.func7, Tryz.ntmps7
  go_wp2_with fail
  refine (head_any _ ((HE.out.alloc _).alloc _)).mono ?_
  rintro e w1 ⟨rfl, hb⟩
  have hb2 : Below w.heap.size w w1 := below_up ((below_box w _).alloc (by simp) _) hb (by simp; omega)
  replace HE := Lib.hid (HE.out.below hb2)
  replace HS := Lib.hid (HS.out.below hb2)
  replace HR := Lib.hid (HR.out.below hb2)
  have HB := Lib.hid hb2
  have z0 : w1.cell? ⟨w.heap.size, 0, none⟩ = some (.slice A s.length cp) := cellB hb (by simp [go_sem])
  have c0 : w1.cell? ⟨w.heap.size + 1, 0, none⟩ = some (.int .i64 c.kind) := cellB hb (by simp [go_sem])
  have c1 : w1.cell? ⟨w.heap.size + 1, 1, none⟩ = some (str c.table) := cellB hb (by simp [go_sem])
  have c2 : w1.cell? ⟨w.heap.size + 1, 2, none⟩ = some (str c.attr) := cellB hb (by simp [go_sem])
  have c3 : w1.cell? ⟨w.heap.size + 1, 3, none⟩ = some (str c.name) := cellB hb (by simp [go_sem])
  have c4 : w1.cell? ⟨w.heap.size + 1, 4, none⟩ = some (.int .i64 c.to) := cellB hb (by simp [go_sem])
  have c5 : w1.cell? ⟨w.heap.size + 1, 5, none⟩ = some (.int .i64 c.dft.1) := cellB hb (by simp [go_sem])
  have c6 : w1.cell? ⟨w.heap.size + 1, 6, none⟩ = some (.int .i64 c.dft.2.1) := cellB hb (by simp [go_sem])
  have c7 : w1.cell? ⟨w.heap.size + 1, 7, none⟩ = some (str c.dft.2.2) := cellB hb (by simp [go_sem])
  clear hb hb2
  go_wp2_with fail
  refine (smallC_is s _ _ c row HSM.out _ HS.out ⟨_, _, rfl⟩).mono ?_
  rintro e w2 ⟨rfl, hb⟩
  have hb2 : Below w1.heap.size w1 w2 := hb
  replace z0 := cellB hb2 z0
  replace c0 := cellB hb2 c0
  replace c1 := cellB hb2 c1
  replace c2 := cellB hb2 c2
  replace c3 := cellB hb2 c3
  replace c4 := cellB hb2 c4
  replace c5 := cellB hb2 c5
  replace c6 := cellB hb2 c6
  replace c7 := cellB hb2 c7
  replace HE := Lib.hid (HE.out.below hb2)
  replace HS := Lib.hid (HS.out.below hb2)
  replace HR := Lib.hid (HR.out.below hb2)
  replace HB := Lib.hid (below_up HB.out hb2 HB.out.size)
  clear hb hb2
  go_wp2_with fail
  refine (apply_is s _ c _ HA.out HSM.out.mid _ HS.out).mono ?_
  rintro e w3 ⟨va, rfl, hva, hb⟩
  have hb2 : Below w2.heap.size w2 w3 := hb
  replace z0 := cellB hb2 z0
  replace c0 := cellB hb2 c0
  replace c1 := cellB hb2 c1
  replace c2 := cellB hb2 c2
  replace c3 := cellB hb2 c3
  replace c4 := cellB hb2 c4
  replace c5 := cellB hb2 c5
  replace c6 := cellB hb2 c6
  replace c7 := cellB hb2 c7
  replace HE := Lib.hid (HE.out.below hb2)
  replace HS := Lib.hid (HS.out.below hb2)
  replace HR := Lib.hid (HR.out.below hb2)
  replace HB := Lib.hid (below_up HB.out hb2 HB.out.size)
  clear hb hb2
  obtain ⟨Aa, ca, rfl, _⟩ := hva.form
  have HVA := Lib.hid hva
  clear hva
  have yz0 := fun o => Cell.alloc z0 o
  have yyz0 := fun o q => Cell.alloc (Cell.alloc z0 o) q
  have yc0 := fun o => Cell.alloc c0 o
  have yyc0 := fun o q => Cell.alloc (Cell.alloc c0 o) q
  have yc1 := fun o => Cell.alloc c1 o
  have yyc1 := fun o q => Cell.alloc (Cell.alloc c1 o) q
  have yc2 := fun o => Cell.alloc c2 o
  have yyc2 := fun o q => Cell.alloc (Cell.alloc c2 o) q
  have yc3 := fun o => Cell.alloc c3 o
  have yyc3 := fun o q => Cell.alloc (Cell.alloc c3 o) q
  have yc4 := fun o => Cell.alloc c4 o
  have yyc4 := fun o q => Cell.alloc (Cell.alloc c4 o) q
  have yc5 := fun o => Cell.alloc c5 o
  have yyc5 := fun o q => Cell.alloc (Cell.alloc c5 o) q
  have yc6 := fun o => Cell.alloc c6 o
  have yyc6 := fun o q => Cell.alloc (Cell.alloc c6 o) q
  have yc7 := fun o => Cell.alloc c7 o
  have yyc7 := fun o q => Cell.alloc (Cell.alloc c7 o) q
  go_wp2_with fail
  refine (apply_is s1 _ (dropC c) _ HD.out HM1.out _ (HVA.out.below ((below_box w3 _).alloc (by simp) _))).mono ?_
  rintro e w4 ⟨vb, rfl, hvb, hb⟩
  have hb2 : Below w3.heap.size w3 w4 := below_up ((below_box w3 _).alloc (by simp) _) hb (by simp; omega)
  replace z0 := cellB hb2 z0
  replace c0 := cellB hb2 c0
  replace c1 := cellB hb2 c1
  replace c2 := cellB hb2 c2
  replace c3 := cellB hb2 c3
  replace c4 := cellB hb2 c4
  replace c5 := cellB hb2 c5
  replace c6 := cellB hb2 c6
  replace c7 := cellB hb2 c7
  replace HE := Lib.hid (HE.out.below hb2)
  replace HS := Lib.hid (HS.out.below hb2)
  replace HR := Lib.hid (HR.out.below hb2)
  replace HVA := Lib.hid (HVA.out.below hb2)
  replace HB := Lib.hid (below_up HB.out hb2 HB.out.size)
  have a0 : w4.cell? ⟨w3.heap.size, 0, none⟩ = some (.slice Aa s1.length ca) := cellB hb (by simp [go_sem])
  have r0 : w4.cell? ⟨w3.heap.size + 1, 0, none⟩ = some (.int .i64 2) := cellB hb (by simp [go_sem])
  have r1 : w4.cell? ⟨w3.heap.size + 1, 1, none⟩ = some (str c.table) := cellB hb (by simp [go_sem])
  have r2 : w4.cell? ⟨w3.heap.size + 1, 2, none⟩ = some (str c.name) := cellB hb (by simp [go_sem])
  have r3 : w4.cell? ⟨w3.heap.size + 1, 3, none⟩ = some (.string ⟨#[]⟩) := cellB hb (by simp [go_sem])
  have r4 : w4.cell? ⟨w3.heap.size + 1, 4, none⟩ = some (.int .i64 0) := cellB hb (by simp [go_sem])
  have r5 : w4.cell? ⟨w3.heap.size + 1, 5, none⟩ = some (.int .i64 0) := cellB hb (by simp [go_sem])
  have r6 : w4.cell? ⟨w3.heap.size + 1, 6, none⟩ = some (.int .i64 0) := cellB hb (by simp [go_sem])
  have r7 : w4.cell? ⟨w3.heap.size + 1, 7, none⟩ = some (.string ⟨#[]⟩) := cellB hb (by simp [go_sem])
  clear hb hb2 yz0 yyz0 yc0 yyc0 yc1 yyc1 yc2 yyc2 yc3 yyc3 yc4 yyc4 yc5 yyc5 yc6 yyc6 yc7 yyc7
  obtain ⟨Ab, cb, rfl, _⟩ := hvb.form
  have HVB := Lib.hid hvb
  clear hvb
  have yz0 := fun o => Cell.alloc z0 o
  have yc0 := fun o => Cell.alloc c0 o
  have yc1 := fun o => Cell.alloc c1 o
  have yc2 := fun o => Cell.alloc c2 o
  have yc3 := fun o => Cell.alloc c3 o
  have yc4 := fun o => Cell.alloc c4 o
  have yc5 := fun o => Cell.alloc c5 o
  have yc6 := fun o => Cell.alloc c6 o
  have yc7 := fun o => Cell.alloc c7 o
  have ya0 := fun o => Cell.alloc a0 o
  have yr0 := fun o => Cell.alloc r0 o
  have yr1 := fun o => Cell.alloc r1 o
  have yr2 := fun o => Cell.alloc r2 o
  have yr3 := fun o => Cell.alloc r3 o
  have yr4 := fun o => Cell.alloc r4 o
  have yr5 := fun o => Cell.alloc r5 o
  have yr6 := fun o => Cell.alloc r6 o
  have yr7 := fun o => Cell.alloc r7 o
  go_wp2_with fail
  refine (same_is s s _ _ true (decide_eq_true rfl) HSM.out.mid _ (HVB.out.below (below_box w4 _)) (HS.out.below (below_box w4 _))).mono ?_
  rintro e w5 ⟨rfl, hb⟩
  have hb2 : Below w4.heap.size w4 w5 := below_up (below_box w4 _) hb (by simp)
  replace z0 := cellB hb2 z0
  replace c0 := cellB hb2 c0
  replace c1 := cellB hb2 c1
  replace c2 := cellB hb2 c2
  replace c3 := cellB hb2 c3
  replace c4 := cellB hb2 c4
  replace c5 := cellB hb2 c5
  replace c6 := cellB hb2 c6
  replace c7 := cellB hb2 c7
  replace a0 := cellB hb2 a0
  replace r0 := cellB hb2 r0
  replace r1 := cellB hb2 r1
  replace r2 := cellB hb2 r2
  replace r3 := cellB hb2 r3
  replace r4 := cellB hb2 r4
  replace r5 := cellB hb2 r5
  replace r6 := cellB hb2 r6
  replace r7 := cellB hb2 r7
  replace HE := Lib.hid (HE.out.below hb2)
  replace HS := Lib.hid (HS.out.below hb2)
  replace HR := Lib.hid (HR.out.below hb2)
  replace HVA := Lib.hid (HVA.out.below hb2)
  replace HVB := Lib.hid (HVB.out.below hb2)
  replace HB := Lib.hid (below_up HB.out hb2 HB.out.size)
  clear hb hb2 yz0 yc0 yc1 yc2 yc3 yc4 yc5 yc6 yc7 ya0 yr0 yr1 yr2 yr3 yr4 yr5 yr6 yr7
  clear HVB
  go_wp2_with fail
  refine (convert_is s _ _ c (n : Int) row _ HCV.out HSM.out.mid (by omega) _ HE.out HS.out HR.out).mono ?_
  rintro e w6 ⟨vx, rfl, hvx, hb⟩
  have hb2 : Below w5.heap.size w5 w6 := hb
  replace z0 := cellB hb2 z0
  replace c0 := cellB hb2 c0
  replace c1 := cellB hb2 c1
  replace c2 := cellB hb2 c2
  replace c3 := cellB hb2 c3
  replace c4 := cellB hb2 c4
  replace c5 := cellB hb2 c5
  replace c6 := cellB hb2 c6
  replace c7 := cellB hb2 c7
  replace a0 := cellB hb2 a0
  replace r0 := cellB hb2 r0
  replace r1 := cellB hb2 r1
  replace r2 := cellB hb2 r2
  replace r3 := cellB hb2 r3
  replace r4 := cellB hb2 r4
  replace r5 := cellB hb2 r5
  replace r6 := cellB hb2 r6
  replace r7 := cellB hb2 r7
  replace HE := Lib.hid (HE.out.below hb2)
  replace HS := Lib.hid (HS.out.below hb2)
  replace HR := Lib.hid (HR.out.below hb2)
  replace HVA := Lib.hid (HVA.out.below hb2)
  replace HB := Lib.hid (below_up HB.out hb2 HB.out.size)
  clear hb hb2
  clear hvx
  go_wp2_with fail
  go_ret
  exact ⟨rfl, HB.out⟩
set_option maxRecDepth 100000 in
set_option maxHeartbeats 4000000 in
theorem back_all (s : List TabT) (v : Value) (c : ChgT) (raw : UInt8) (row : List T3) (rv : Value) (w : World) (he : L2.Env w) (h : Tabs w v s) (hr : Vals w rv row) (hsm : SmallC s c row) (hk : c.kind = 1) (h0 : 0 < s.length) (n : Nat) (hn : (raw.toNat : Int).tmod (s.length : Int) = (n : Int)) (_hns : n < s.length) (s1 : List TabT) (ha : applyT s c = (s1, 0)) (hd : applyT s1 (dropC c) = (s, 0)) (hm1 : Mid s1) (x : List T3) (hcv : convT s c n row = (x, 0)) (hcd : convT s1 (dropC c) n x = (row, 0)) (hxl : x.length ≤ 4000) :
    Calls Tryz.prog 7 #[.agg #[v], Cv c, .int .u8 (raw.toNat : Int), rv] w (fun e w' => e = .returned (.bool true) ∧ Below w.heap.size w w') := by
  have HSM := Lib.hid hsm
  have q0 : (c.kind != 1) = false := by simpa using hk
  have q1 : ((s.length : Int) == 0) = false := beq_eq_false_iff_ne.2 (by omega)
  have q2 : ¬ (s.length : Int) = 0 := by omega
  have q3 := raw.toNat_lt
  have q4 : (s.length : Int) ≤ 24 := by have := hsm.1.1; omega
  have q5 : (0 : Int) < (s.length : Int) := by omega
  have HA := Lib.hid ha
  have HD := Lib.hid hd
  have HM1 := Lib.hid hm1
  have HCV := Lib.hid hcv
  have hrl : row.length ≤ 20 := hsm.2.2.2
  have HCD := Lib.hid hcd
  have HXL := Lib.hid hxl
  clear hsm hk h0 ha hd hm1 hcv hcd hxl
  obtain ⟨A, cp, rfl, _⟩ := h.form
  obtain ⟨Ar, cr, rfl, _⟩ := hr.form
  have HE := Lib.hid he
  have HS := Lib.hid h
  have HR := Lib.hid hr
  clear he h hr
  go_enter Tryz.func7, Tryz.ntmps7
  go_wp2_with fail
  refine (head_any _ ((HE.out.alloc _).alloc _)).mono ?_
  rintro e w1 ⟨rfl, hb⟩
  have hb2 : Below w.heap.size w w1 := below_up ((below_box w _).alloc (by simp) _) hb (by simp; omega)
  replace HE := Lib.hid (HE.out.below hb2)
  replace HS := Lib.hid (HS.out.below hb2)
  replace HR := Lib.hid (HR.out.below hb2)
  have HB := Lib.hid hb2
  have z0 : w1.cell? ⟨w.heap.size, 0, none⟩ = some (.slice A s.length cp) := cellB hb (by simp [go_sem])
  have c0 : w1.cell? ⟨w.heap.size + 1, 0, none⟩ = some (.int .i64 c.kind) := cellB hb (by simp [go_sem])
  have c1 : w1.cell? ⟨w.heap.size + 1, 1, none⟩ = some (str c.table) := cellB hb (by simp [go_sem])
  have c2 : w1.cell? ⟨w.heap.size + 1, 2, none⟩ = some (str c.attr) := cellB hb (by simp [go_sem])
  have c3 : w1.cell? ⟨w.heap.size + 1, 3, none⟩ = some (str c.name) := cellB hb (by simp [go_sem])
  have c4 : w1.cell? ⟨w.heap.size + 1, 4, none⟩ = some (.int .i64 c.to) := cellB hb (by simp [go_sem])
  have c5 : w1.cell? ⟨w.heap.size + 1, 5, none⟩ = some (.int .i64 c.dft.1) := cellB hb (by simp [go_sem])
  have c6 : w1.cell? ⟨w.heap.size + 1, 6, none⟩ = some (.int .i64 c.dft.2.1) := cellB hb (by simp [go_sem])
  have c7 : w1.cell? ⟨w.heap.size + 1, 7, none⟩ = some (str c.dft.2.2) := cellB hb (by simp [go_sem])
  clear hb hb2
  go_wp2_with fail
  refine (smallC_is s _ _ c row HSM.out _ HS.out ⟨_, _, rfl⟩).mono ?_
  rintro e w2 ⟨rfl, hb⟩
  have hb2 : Below w1.heap.size w1 w2 := hb
  replace z0 := cellB hb2 z0
  replace c0 := cellB hb2 c0
  replace c1 := cellB hb2 c1
  replace c2 := cellB hb2 c2
  replace c3 := cellB hb2 c3
  replace c4 := cellB hb2 c4
  replace c5 := cellB hb2 c5
  replace c6 := cellB hb2 c6
  replace c7 := cellB hb2 c7
  replace HE := Lib.hid (HE.out.below hb2)
  replace HS := Lib.hid (HS.out.below hb2)
  replace HR := Lib.hid (HR.out.below hb2)
  replace HB := Lib.hid (below_up HB.out hb2 HB.out.size)
  clear hb hb2
  go_wp2_with fail
  refine (apply_is s _ c _ HA.out HSM.out.mid _ HS.out).mono ?_
  rintro e w3 ⟨va, rfl, hva, hb⟩
  have hb2 : Below w2.heap.size w2 w3 := hb
  replace z0 := cellB hb2 z0
  replace c0 := cellB hb2 c0
  replace c1 := cellB hb2 c1
  replace c2 := cellB hb2 c2
  replace c3 := cellB hb2 c3
  replace c4 := cellB hb2 c4
  replace c5 := cellB hb2 c5
  replace c6 := cellB hb2 c6
  replace c7 := cellB hb2 c7
  replace HE := Lib.hid (HE.out.below hb2)
  replace HS := Lib.hid (HS.out.below hb2)
  replace HR := Lib.hid (HR.out.below hb2)
  replace HB := Lib.hid (below_up HB.out hb2 HB.out.size)
  clear hb hb2
  obtain ⟨Aa, ca, rfl, _⟩ := hva.form
  have HVA := Lib.hid hva
  clear hva
  have yz0 := fun o => Cell.alloc z0 o
  have yyz0 := fun o q => Cell.alloc (Cell.alloc z0 o) q
  have yc0 := fun o => Cell.alloc c0 o
  have yyc0 := fun o q => Cell.alloc (Cell.alloc c0 o) q
  have yc1 := fun o => Cell.alloc c1 o
  have yyc1 := fun o q => Cell.alloc (Cell.alloc c1 o) q
  have yc2 := fun o => Cell.alloc c2 o
  have yyc2 := fun o q => Cell.alloc (Cell.alloc c2 o) q
  have yc3 := fun o => Cell.alloc c3 o
  have yyc3 := fun o q => Cell.alloc (Cell.alloc c3 o) q
  have yc4 := fun o => Cell.alloc c4 o
  have yyc4 := fun o q => Cell.alloc (Cell.alloc c4 o) q
  have yc5 := fun o => Cell.alloc c5 o
  have yyc5 := fun o q => Cell.alloc (Cell.alloc c5 o) q
  have yc6 := fun o => Cell.alloc c6 o
  have yyc6 := fun o q => Cell.alloc (Cell.alloc c6 o) q
  have yc7 := fun o => Cell.alloc c7 o
  have yyc7 := fun o q => Cell.alloc (Cell.alloc c7 o) q
  go_wp2_with fail
  refine (apply_is s1 _ (dropC c) _ HD.out HM1.out _ (HVA.out.below ((below_box w3 _).alloc (by simp) _))).mono ?_
  rintro e w4 ⟨vb, rfl, hvb, hb⟩
  have hb2 : Below w3.heap.size w3 w4 := below_up ((below_box w3 _).alloc (by simp) _) hb (by simp; omega)
  replace z0 := cellB hb2 z0
  replace c0 := cellB hb2 c0
  replace c1 := cellB hb2 c1
  replace c2 := cellB hb2 c2
  replace c3 := cellB hb2 c3
  replace c4 := cellB hb2 c4
  replace c5 := cellB hb2 c5
  replace c6 := cellB hb2 c6
  replace c7 := cellB hb2 c7
  replace HE := Lib.hid (HE.out.below hb2)
  replace HS := Lib.hid (HS.out.below hb2)
  replace HR := Lib.hid (HR.out.below hb2)
  replace HVA := Lib.hid (HVA.out.below hb2)
  replace HB := Lib.hid (below_up HB.out hb2 HB.out.size)
  have a0 : w4.cell? ⟨w3.heap.size, 0, none⟩ = some (.slice Aa s1.length ca) := cellB hb (by simp [go_sem])
  have r0 : w4.cell? ⟨w3.heap.size + 1, 0, none⟩ = some (.int .i64 2) := cellB hb (by simp [go_sem])
  have r1 : w4.cell? ⟨w3.heap.size + 1, 1, none⟩ = some (str c.table) := cellB hb (by simp [go_sem])
  have r2 : w4.cell? ⟨w3.heap.size + 1, 2, none⟩ = some (str c.name) := cellB hb (by simp [go_sem])
  have r3 : w4.cell? ⟨w3.heap.size + 1, 3, none⟩ = some (.string ⟨#[]⟩) := cellB hb (by simp [go_sem])
  have r4 : w4.cell? ⟨w3.heap.size + 1, 4, none⟩ = some (.int .i64 0) := cellB hb (by simp [go_sem])
  have r5 : w4.cell? ⟨w3.heap.size + 1, 5, none⟩ = some (.int .i64 0) := cellB hb (by simp [go_sem])
  have r6 : w4.cell? ⟨w3.heap.size + 1, 6, none⟩ = some (.int .i64 0) := cellB hb (by simp [go_sem])
  have r7 : w4.cell? ⟨w3.heap.size + 1, 7, none⟩ = some (.string ⟨#[]⟩) := cellB hb (by simp [go_sem])
  clear hb hb2 yz0 yyz0 yc0 yyc0 yc1 yyc1 yc2 yyc2 yc3 yyc3 yc4 yyc4 yc5 yyc5 yc6 yyc6 yc7 yyc7
  obtain ⟨Ab, cb, rfl, _⟩ := hvb.form
  have HVB := Lib.hid hvb
  clear hvb
  have yz0 := fun o => Cell.alloc z0 o
  have yc0 := fun o => Cell.alloc c0 o
  have yc1 := fun o => Cell.alloc c1 o
  have yc2 := fun o => Cell.alloc c2 o
  have yc3 := fun o => Cell.alloc c3 o
  have yc4 := fun o => Cell.alloc c4 o
  have yc5 := fun o => Cell.alloc c5 o
  have yc6 := fun o => Cell.alloc c6 o
  have yc7 := fun o => Cell.alloc c7 o
  have ya0 := fun o => Cell.alloc a0 o
  have yr0 := fun o => Cell.alloc r0 o
  have yr1 := fun o => Cell.alloc r1 o
  have yr2 := fun o => Cell.alloc r2 o
  have yr3 := fun o => Cell.alloc r3 o
  have yr4 := fun o => Cell.alloc r4 o
  have yr5 := fun o => Cell.alloc r5 o
  have yr6 := fun o => Cell.alloc r6 o
  have yr7 := fun o => Cell.alloc r7 o
  go_wp2_with fail
  refine (same_is s s _ _ true (decide_eq_true rfl) HSM.out.mid _ (HVB.out.below (below_box w4 _)) (HS.out.below (below_box w4 _))).mono ?_
  rintro e w5 ⟨rfl, hb⟩
  have hb2 : Below w4.heap.size w4 w5 := below_up (below_box w4 _) hb (by simp)
  replace z0 := cellB hb2 z0
  replace c0 := cellB hb2 c0
  replace c1 := cellB hb2 c1
  replace c2 := cellB hb2 c2
  replace c3 := cellB hb2 c3
  replace c4 := cellB hb2 c4
  replace c5 := cellB hb2 c5
  replace c6 := cellB hb2 c6
  replace c7 := cellB hb2 c7
  replace a0 := cellB hb2 a0
  replace r0 := cellB hb2 r0
  replace r1 := cellB hb2 r1
  replace r2 := cellB hb2 r2
  replace r3 := cellB hb2 r3
  replace r4 := cellB hb2 r4
  replace r5 := cellB hb2 r5
  replace r6 := cellB hb2 r6
  replace r7 := cellB hb2 r7
  replace HE := Lib.hid (HE.out.below hb2)
  replace HS := Lib.hid (HS.out.below hb2)
  replace HR := Lib.hid (HR.out.below hb2)
  replace HVA := Lib.hid (HVA.out.below hb2)
  replace HVB := Lib.hid (HVB.out.below hb2)
  replace HB := Lib.hid (below_up HB.out hb2 HB.out.size)
  clear hb hb2 yz0 yc0 yc1 yc2 yc3 yc4 yc5 yc6 yc7 ya0 yr0 yr1 yr2 yr3 yr4 yr5 yr6 yr7
  clear HVB
  go_wp2_with fail
  refine (convert_is s _ _ c (n : Int) row _ HCV.out HSM.out.mid (by omega) _ HE.out HS.out HR.out).mono ?_
  rintro e w6 ⟨vx, rfl, hvx, hb⟩
  have hb2 : Below w5.heap.size w5 w6 := hb
  replace z0 := cellB hb2 z0
  replace c0 := cellB hb2 c0
  replace c1 := cellB hb2 c1
  replace c2 := cellB hb2 c2
  replace c3 := cellB hb2 c3
  replace c4 := cellB hb2 c4
  replace c5 := cellB hb2 c5
  replace c6 := cellB hb2 c6
  replace c7 := cellB hb2 c7
  replace a0 := cellB hb2 a0
  replace r0 := cellB hb2 r0
  replace r1 := cellB hb2 r1
  replace r2 := cellB hb2 r2
  replace r3 := cellB hb2 r3
  replace r4 := cellB hb2 r4
  replace r5 := cellB hb2 r5
  replace r6 := cellB hb2 r6
  replace r7 := cellB hb2 r7
  replace HE := Lib.hid (HE.out.below hb2)
  replace HS := Lib.hid (HS.out.below hb2)
  replace HR := Lib.hid (HR.out.below hb2)
  replace HVA := Lib.hid (HVA.out.below hb2)
  replace HB := Lib.hid (below_up HB.out hb2 HB.out.size)
  clear hb hb2
  obtain ⟨Ax, cx, rfl, _⟩ := hvx.form
  have HVX := Lib.hid hvx
  clear hvx
  go_wp2_with fail
  refine (convert_is s1 _ _ (dropC c) (n : Int) x _ HCD.out HM1.out HXL.out _ HE.out HVA.out HVX.out).mono ?_
  rintro e w7 ⟨vy, rfl, hvy, hb⟩
  have hb2 : Below w6.heap.size w6 w7 := hb
  replace z0 := cellB hb2 z0
  replace c0 := cellB hb2 c0
  replace c1 := cellB hb2 c1
  replace c2 := cellB hb2 c2
  replace c3 := cellB hb2 c3
  replace c4 := cellB hb2 c4
  replace c5 := cellB hb2 c5
  replace c6 := cellB hb2 c6
  replace c7 := cellB hb2 c7
  replace a0 := cellB hb2 a0
  replace r0 := cellB hb2 r0
  replace r1 := cellB hb2 r1
  replace r2 := cellB hb2 r2
  replace r3 := cellB hb2 r3
  replace r4 := cellB hb2 r4
  replace r5 := cellB hb2 r5
  replace r6 := cellB hb2 r6
  replace r7 := cellB hb2 r7
  replace HE := Lib.hid (HE.out.below hb2)
  replace HS := Lib.hid (HS.out.below hb2)
  replace HR := Lib.hid (HR.out.below hb2)
  replace HVA := Lib.hid (HVA.out.below hb2)
  replace HVX := Lib.hid (HVX.out.below hb2)
  replace HB := Lib.hid (below_up HB.out hb2 HB.out.size)
  clear hb hb2
  obtain ⟨Ay, cy, rfl, _⟩ := hvy.form
  have HVY := Lib.hid hvy
  clear hvy
  go_wp2_with fail
  refine (rows_is row row _ _ true (decide_eq_true rfl) (by omega) _ HVY.out HR.out).mono ?_
  rintro e w8 ⟨rfl, hb⟩
  have hb2 : Below w7.heap.size w7 w8 := hb
  replace z0 := cellB hb2 z0
  replace c0 := cellB hb2 c0
  replace c1 := cellB hb2 c1
  replace c2 := cellB hb2 c2
  replace c3 := cellB hb2 c3
  replace c4 := cellB hb2 c4
  replace c5 := cellB hb2 c5
  replace c6 := cellB hb2 c6
  replace c7 := cellB hb2 c7
  replace a0 := cellB hb2 a0
  replace r0 := cellB hb2 r0
  replace r1 := cellB hb2 r1
  replace r2 := cellB hb2 r2
  replace r3 := cellB hb2 r3
  replace r4 := cellB hb2 r4
  replace r5 := cellB hb2 r5
  replace r6 := cellB hb2 r6
  replace r7 := cellB hb2 r7
  replace HE := Lib.hid (HE.out.below hb2)
  replace HS := Lib.hid (HS.out.below hb2)
  replace HR := Lib.hid (HR.out.below hb2)
  replace HVA := Lib.hid (HVA.out.below hb2)
  replace HVX := Lib.hid (HVX.out.below hb2)
  replace HVY := Lib.hid (HVY.out.below hb2)
  replace HB := Lib.hid (below_up HB.out hb2 HB.out.size)
  clear hb hb2
  go_wp2_with fail
  go_ret
  exact ⟨rfl, HB.out⟩
theorem back_law (s : List TabT) (v : Value) (c : ChgT) (raw : UInt8) (row : List T3) (rv : Value) (w : World) (he : L2.Env w) (h : Tabs w v s) (hr : Vals w rv row) :
    Calls Tryz.prog 7 #[.agg #[v], Cv c, .int .u8 (raw.toNat : Int), rv] w (fun e w' => e = .returned (.bool true) ∧ Below w.heap.size w w') := by
  by_cases hsm : SmallC s c row
  · by_cases hk : c.kind = 1
    · by_cases h0 : s.length = 0
      · exact back_none s v c raw row rv w he h hr hsm hk h0
      · have hpos : 0 < s.length := by omega
        have hn := rem_tab raw.toNat s.length
        have hns : raw.toNat % s.length < s.length := Nat.mod_lt _ hpos
        by_cases ha : (applyT s c).2 = 0
        · obtain ⟨k, t, u, hal⟩ := apply_alt ha
          have hm1 : Mid (s.set k u) := (hal.siz hsm.siz).mid (by omega)
          by_cases hc : (convT s c (raw.toNat % s.length : Nat) row).2 = 0
          · have hx : (convT s c (raw.toNat % s.length : Nat) row).1.length ≤ row.length + 1 := conv_len (pair_of rfl rfl)
            have := hsm.2.2.2
            exact back_all s v c raw row rv w he h hr hsm hk hpos _ hn hns _ hal.app (back_apply hal hk) hm1 _ (pair_of rfl hc) (back_rows hal hk hns hc) (by omega)
          · have hx : (convT s c (raw.toNat % s.length : Nat) row).1 = [] := by
              by_cases hf : fitsB s[raw.toNat % s.length].attrs row = true
              · have h4 := (rows_cast hal hns hf hc).2.1
                omega
              · exact (rows_no hns (.inr (by simpa using hf))).2.1
            exact back_conv s v c raw row rv w he h hr hsm hk hpos _ hn hns _ hal.app (back_apply hal hk) hm1 _ (pair_of hx rfl) hc
        · exact back_err s v c raw row rv w he h hr hsm hk hpos _ hn hns _ (pair_of (apply_no ha) rfl) ha
    · exact back_kind s v c raw row rv w he h hr hsm hk
  · exact back_big s v c raw row rv w he h hr hsm
end Go.Proofs.YteokcgfbhaeklaaGreatDoor
