/- SchemaTables in plain words: two changes of different tables give the same in both orders. -/
import Derived.Test.YteokcgfbhaeklaaGreatDoorScLawB
namespace Go.Proofs.YteokcgfbhaeklaaGreatDoor
open Go.RowKit

set_option maxRecDepth 100000 in
set_option maxHeartbeats 4000000 in
theorem tbl_big1 (s : List TabT) (v : Value) (c d : ChgT) (raw : UInt8) (row : List T3) (rv : Value) (w : World) (he : L2.Env w) (h : Tabs w v s) (hr : Vals w rv row) (hsm : ¬ SmallC s c row) :
    Calls Tryz.prog 8 #[.agg #[v], Cv c, Cv d, .int .u8 (raw.toNat : Int), rv] w (fun e w' => e = .returned (.bool true) ∧ Below w.heap.size w w') := by
  have HSM := Lib.hid hsm
  clear hsm
  obtain ⟨A, cp, rfl, _⟩ := h.form
  obtain ⟨Ar, cr, rfl, _⟩ := hr.form
  have HE := Lib.hid he
  have HS := Lib.hid h
  have HR := Lib.hid hr
  clear he h hr
  go_enter Tryz.func8, Tryz.ntmps8
  go_wp2_with fail
  refine (head_any _ (((HE.out.alloc _).alloc _).alloc _)).mono ?_
  rintro e w1 ⟨rfl, hb⟩
  have hb2 : Below w.heap.size w w1 := below_up (((below_box w _).alloc (by simp) _).alloc (by simp; omega) _) hb (by simp; omega)
  replace HE := Lib.hid (HE.out.below hb2)
  replace HS := Lib.hid (HS.out.below hb2)
  replace HR := Lib.hid (HR.out.below hb2)
  have HB := Lib.hid hb2
  have z0 : w1.cell? ⟨w.heap.size, 0, none⟩ = some (.slice A s.length cp) := cellB hb (by simp [go_sem])
  have c0 : w1.cell? ⟨w.heap.size + 1, 0, none⟩ = some (.int .i64 c.kind) := cellB hb (by simp [go_sem])
  have c1 : w1.cell? ⟨w.heap.size + 1, 1, none⟩ = some (str c.table) := cellB hb (by simp [go_sem])
  have c2 : w1.cell? ⟨w.heap.size + 1, 2, none⟩ = some (str c.attr) := cellB hb (by simp [go_sem])
  have c3 : w1.cell? ⟨w.heap.size + 1, 3, none⟩ = some (str c.name) := cellB hb (by simp [go_sem])
  have c4 : w1.cell? ⟨w.heap.size + 1, 4, none⟩ = some (.int .i64 c.to) := cellB hb (by simp [go_sem])
  have c5 : w1.cell? ⟨w.heap.size + 1, 5, none⟩ = some (.int .i64 c.dft.1) := cellB hb (by simp [go_sem])
  have c6 : w1.cell? ⟨w.heap.size + 1, 6, none⟩ = some (.int .i64 c.dft.2.1) := cellB hb (by simp [go_sem])
  have c7 : w1.cell? ⟨w.heap.size + 1, 7, none⟩ = some (str c.dft.2.2) := cellB hb (by simp [go_sem])
  have d0 : w1.cell? ⟨w.heap.size + 1 + 1, 0, none⟩ = some (.int .i64 d.kind) := cellB hb (by simp [go_sem])
  have d1 : w1.cell? ⟨w.heap.size + 1 + 1, 1, none⟩ = some (str d.table) := cellB hb (by simp [go_sem])
  have d2 : w1.cell? ⟨w.heap.size + 1 + 1, 2, none⟩ = some (str d.attr) := cellB hb (by simp [go_sem])
  have d3 : w1.cell? ⟨w.heap.size + 1 + 1, 3, none⟩ = some (str d.name) := cellB hb (by simp [go_sem])
  have d4 : w1.cell? ⟨w.heap.size + 1 + 1, 4, none⟩ = some (.int .i64 d.to) := cellB hb (by simp [go_sem])
  have d5 : w1.cell? ⟨w.heap.size + 1 + 1, 5, none⟩ = some (.int .i64 d.dft.1) := cellB hb (by simp [go_sem])
  have d6 : w1.cell? ⟨w.heap.size + 1 + 1, 6, none⟩ = some (.int .i64 d.dft.2.1) := cellB hb (by simp [go_sem])
  have d7 : w1.cell? ⟨w.heap.size + 1 + 1, 7, none⟩ = some (str d.dft.2.2) := cellB hb (by simp [go_sem])
  clear hb hb2
  go_wp2_with fail
  refine (smallC_not s _ _ c row HSM.out _ HS.out ⟨_, _, rfl⟩).mono ?_
  rintro e w2 ⟨rfl, hb⟩
  have hb2 : Below w1.heap.size w1 w2 := hb
  replace z0 := cellB hb2 z0
  replace c0 := cellB hb2 c0
  replace c1 := cellB hb2 c1
  replace c2 := cellB hb2 c2
  replace c3 := cellB hb2 c3
  replace c4 := cellB hb2 c4
  replace c5 := cellB hb2 c5
  replace c6 := cellB hb2 c6
  replace c7 := cellB hb2 c7
  replace d0 := cellB hb2 d0
  replace d1 := cellB hb2 d1
  replace d2 := cellB hb2 d2
  replace d3 := cellB hb2 d3
  replace d4 := cellB hb2 d4
  replace d5 := cellB hb2 d5
  replace d6 := cellB hb2 d6
  replace d7 := cellB hb2 d7
  replace HE := Lib.hid (HE.out.below hb2)
  replace HS := Lib.hid (HS.out.below hb2)
  replace HR := Lib.hid (HR.out.below hb2)
  replace HB := Lib.hid (below_up HB.out hb2 HB.out.size)
  clear hb hb2
  go_wp2_with fail
  go_ret
  exact ⟨rfl, HB.out⟩
set_option maxRecDepth 100000 in
set_option maxHeartbeats 4000000 in
theorem tbl_big2 (s : List TabT) (v : Value) (c d : ChgT) (raw : UInt8) (row : List T3) (rv : Value) (w : World) (he : L2.Env w) (h : Tabs w v s) (hr : Vals w rv row) (hsm : SmallC s c row) (hsn : ¬ SmallC s d row) :
    Calls Tryz.prog 8 #[.agg #[v], Cv c, Cv d, .int .u8 (raw.toNat : Int), rv] w (fun e w' => e = .returned (.bool true) ∧ Below w.heap.size w w') := by
  have HSM := Lib.hid hsm
  have HSN := Lib.hid hsn
  clear hsm hsn
  obtain ⟨A, cp, rfl, _⟩ := h.form
  obtain ⟨Ar, cr, rfl, _⟩ := hr.form
  have HE := Lib.hid he
  have HS := Lib.hid h
  have HR := Lib.hid hr
  clear he h hr
  go_enter Tryz.func8, Tryz.ntmps8
  go_wp2_with fail
  refine (head_any _ (((HE.out.alloc _).alloc _).alloc _)).mono ?_
  rintro e w1 ⟨rfl, hb⟩
  have hb2 : Below w.heap.size w w1 := below_up (((below_box w _).alloc (by simp) _).alloc (by simp; omega) _) hb (by simp; omega)
  replace HE := Lib.hid (HE.out.below hb2)
  replace HS := Lib.hid (HS.out.below hb2)
  replace HR := Lib.hid (HR.out.below hb2)
  have HB := Lib.hid hb2
  have z0 : w1.cell? ⟨w.heap.size, 0, none⟩ = some (.slice A s.length cp) := cellB hb (by simp [go_sem])
  have c0 : w1.cell? ⟨w.heap.size + 1, 0, none⟩ = some (.int .i64 c.kind) := cellB hb (by simp [go_sem])
  have c1 : w1.cell? ⟨w.heap.size + 1, 1, none⟩ = some (str c.table) := cellB hb (by simp [go_sem])
  have c2 : w1.cell? ⟨w.heap.size + 1, 2, none⟩ = some (str c.attr) := cellB hb (by simp [go_sem])
  have c3 : w1.cell? ⟨w.heap.size + 1, 3, none⟩ = some (str c.name) := cellB hb (by simp [go_sem])
  have c4 : w1.cell? ⟨w.heap.size + 1, 4, none⟩ = some (.int .i64 c.to) := cellB hb (by simp [go_sem])
  have c5 : w1.cell? ⟨w.heap.size + 1, 5, none⟩ = some (.int .i64 c.dft.1) := cellB hb (by simp [go_sem])
  have c6 : w1.cell? ⟨w.heap.size + 1, 6, none⟩ = some (.int .i64 c.dft.2.1) := cellB hb (by simp [go_sem])
  have c7 : w1.cell? ⟨w.heap.size + 1, 7, none⟩ = some (str c.dft.2.2) := cellB hb (by simp [go_sem])
  have d0 : w1.cell? ⟨w.heap.size + 1 + 1, 0, none⟩ = some (.int .i64 d.kind) := cellB hb (by simp [go_sem])
  have d1 : w1.cell? ⟨w.heap.size + 1 + 1, 1, none⟩ = some (str d.table) := cellB hb (by simp [go_sem])
  have d2 : w1.cell? ⟨w.heap.size + 1 + 1, 2, none⟩ = some (str d.attr) := cellB hb (by simp [go_sem])
  have d3 : w1.cell? ⟨w.heap.size + 1 + 1, 3, none⟩ = some (str d.name) := cellB hb (by simp [go_sem])
  have d4 : w1.cell? ⟨w.heap.size + 1 + 1, 4, none⟩ = some (.int .i64 d.to) := cellB hb (by simp [go_sem])
  have d5 : w1.cell? ⟨w.heap.size + 1 + 1, 5, none⟩ = some (.int .i64 d.dft.1) := cellB hb (by simp [go_sem])
  have d6 : w1.cell? ⟨w.heap.size + 1 + 1, 6, none⟩ = some (.int .i64 d.dft.2.1) := cellB hb (by simp [go_sem])
  have d7 : w1.cell? ⟨w.heap.size + 1 + 1, 7, none⟩ = some (str d.dft.2.2) := cellB hb (by simp [go_sem])
  clear hb hb2
  go_wp2_with fail
  refine (smallC_is s _ _ c row HSM.out _ HS.out ⟨_, _, rfl⟩).mono ?_
  rintro e w2 ⟨rfl, hb⟩
  have hb2 : Below w1.heap.size w1 w2 := hb
  replace z0 := cellB hb2 z0
  replace c0 := cellB hb2 c0
  replace c1 := cellB hb2 c1
  replace c2 := cellB hb2 c2
  replace c3 := cellB hb2 c3
  replace c4 := cellB hb2 c4
  replace c5 := cellB hb2 c5
  replace c6 := cellB hb2 c6
  replace c7 := cellB hb2 c7
  replace d0 := cellB hb2 d0
  replace d1 := cellB hb2 d1
  replace d2 := cellB hb2 d2
  replace d3 := cellB hb2 d3
  replace d4 := cellB hb2 d4
  replace d5 := cellB hb2 d5
  replace d6 := cellB hb2 d6
  replace d7 := cellB hb2 d7
  replace HE := Lib.hid (HE.out.below hb2)
  replace HS := Lib.hid (HS.out.below hb2)
  replace HR := Lib.hid (HR.out.below hb2)
  replace HB := Lib.hid (below_up HB.out hb2 HB.out.size)
  clear hb hb2
  go_wp2_with fail
  refine (smallC_not s _ _ d row HSN.out _ HS.out ⟨_, _, rfl⟩).mono ?_
  rintro e w3 ⟨rfl, hb⟩
  have hb2 : Below w2.heap.size w2 w3 := hb
  replace z0 := cellB hb2 z0
  replace c0 := cellB hb2 c0
  replace c1 := cellB hb2 c1
  replace c2 := cellB hb2 c2
  replace c3 := cellB hb2 c3
  replace c4 := cellB hb2 c4
  replace c5 := cellB hb2 c5
  replace c6 := cellB hb2 c6
  replace c7 := cellB hb2 c7
  replace d0 := cellB hb2 d0
  replace d1 := cellB hb2 d1
  replace d2 := cellB hb2 d2
  replace d3 := cellB hb2 d3
  replace d4 := cellB hb2 d4
  replace d5 := cellB hb2 d5
  replace d6 := cellB hb2 d6
  replace d7 := cellB hb2 d7
  replace HE := Lib.hid (HE.out.below hb2)
  replace HS := Lib.hid (HS.out.below hb2)
  replace HR := Lib.hid (HR.out.below hb2)
  replace HB := Lib.hid (below_up HB.out hb2 HB.out.size)
  clear hb hb2
  go_wp2_with fail
  go_ret
  exact ⟨rfl, HB.out⟩
set_option maxRecDepth 100000 in
set_option maxHeartbeats 4000000 in
theorem tbl_one (s : List TabT) (v : Value) (c d : ChgT) (raw : UInt8) (row : List T3) (rv : Value) (w : World) (he : L2.Env w) (h : Tabs w v s) (hr : Vals w rv row) (hsm : SmallC s c row) (hsn : SmallC s d row) (ht : c.table = d.table) :
    Calls Tryz.prog 8 #[.agg #[v], Cv c, Cv d, .int .u8 (raw.toNat : Int), rv] w (fun e w' => e = .returned (.bool true) ∧ Below w.heap.size w w') := by
  have HSM := Lib.hid hsm
  have HSN := Lib.hid hsn
  have t1 : (c.table == d.table) = true := by simpa using ht
  clear hsm hsn ht
  obtain ⟨A, cp, rfl, _⟩ := h.form
  obtain ⟨Ar, cr, rfl, _⟩ := hr.form
  have HE := Lib.hid he
  have HS := Lib.hid h
  have HR := Lib.hid hr
  clear he h hr
  go_enter Tryz.func8, Tryz.ntmps8
  go_wp2_with fail
  refine (head_any _ (((HE.out.alloc _).alloc _).alloc _)).mono ?_
  rintro e w1 ⟨rfl, hb⟩
  have hb2 : Below w.heap.size w w1 := below_up (((below_box w _).alloc (by simp) _).alloc (by simp; omega) _) hb (by simp; omega)
  replace HE := Lib.hid (HE.out.below hb2)
  replace HS := Lib.hid (HS.out.below hb2)
  replace HR := Lib.hid (HR.out.below hb2)
  have HB := Lib.hid hb2
  have z0 : w1.cell? ⟨w.heap.size, 0, none⟩ = some (.slice A s.length cp) := cellB hb (by simp [go_sem])
  have c0 : w1.cell? ⟨w.heap.size + 1, 0, none⟩ = some (.int .i64 c.kind) := cellB hb (by simp [go_sem])
  have c1 : w1.cell? ⟨w.heap.size + 1, 1, none⟩ = some (str c.table) := cellB hb (by simp [go_sem])
  have c2 : w1.cell? ⟨w.heap.size + 1, 2, none⟩ = some (str c.attr) := cellB hb (by simp [go_sem])
  have c3 : w1.cell? ⟨w.heap.size + 1, 3, none⟩ = some (str c.name) := cellB hb (by simp [go_sem])
  have c4 : w1.cell? ⟨w.heap.size + 1, 4, none⟩ = some (.int .i64 c.to) := cellB hb (by simp [go_sem])
  have c5 : w1.cell? ⟨w.heap.size + 1, 5, none⟩ = some (.int .i64 c.dft.1) := cellB hb (by simp [go_sem])
  have c6 : w1.cell? ⟨w.heap.size + 1, 6, none⟩ = some (.int .i64 c.dft.2.1) := cellB hb (by simp [go_sem])
  have c7 : w1.cell? ⟨w.heap.size + 1, 7, none⟩ = some (str c.dft.2.2) := cellB hb (by simp [go_sem])
  have d0 : w1.cell? ⟨w.heap.size + 1 + 1, 0, none⟩ = some (.int .i64 d.kind) := cellB hb (by simp [go_sem])
  have d1 : w1.cell? ⟨w.heap.size + 1 + 1, 1, none⟩ = some (str d.table) := cellB hb (by simp [go_sem])
  have d2 : w1.cell? ⟨w.heap.size + 1 + 1, 2, none⟩ = some (str d.attr) := cellB hb (by simp [go_sem])
  have d3 : w1.cell? ⟨w.heap.size + 1 + 1, 3, none⟩ = some (str d.name) := cellB hb (by simp [go_sem])
  have d4 : w1.cell? ⟨w.heap.size + 1 + 1, 4, none⟩ = some (.int .i64 d.to) := cellB hb (by simp [go_sem])
  have d5 : w1.cell? ⟨w.heap.size + 1 + 1, 5, none⟩ = some (.int .i64 d.dft.1) := cellB hb (by simp [go_sem])
  have d6 : w1.cell? ⟨w.heap.size + 1 + 1, 6, none⟩ = some (.int .i64 d.dft.2.1) := cellB hb (by simp [go_sem])
  have d7 : w1.cell? ⟨w.heap.size + 1 + 1, 7, none⟩ = some (str d.dft.2.2) := cellB hb (by simp [go_sem])
  clear hb hb2
  go_wp2_with fail
  refine (smallC_is s _ _ c row HSM.out _ HS.out ⟨_, _, rfl⟩).mono ?_
  rintro e w2 ⟨rfl, hb⟩
  have hb2 : Below w1.heap.size w1 w2 := hb
  replace z0 := cellB hb2 z0
  replace c0 := cellB hb2 c0
  replace c1 := cellB hb2 c1
  replace c2 := cellB hb2 c2
  replace c3 := cellB hb2 c3
  replace c4 := cellB hb2 c4
  replace c5 := cellB hb2 c5
  replace c6 := cellB hb2 c6
  replace c7 := cellB hb2 c7
  replace d0 := cellB hb2 d0
  replace d1 := cellB hb2 d1
  replace d2 := cellB hb2 d2
  replace d3 := cellB hb2 d3
  replace d4 := cellB hb2 d4
  replace d5 := cellB hb2 d5
  replace d6 := cellB hb2 d6
  replace d7 := cellB hb2 d7
  replace HE := Lib.hid (HE.out.below hb2)
  replace HS := Lib.hid (HS.out.below hb2)
  replace HR := Lib.hid (HR.out.below hb2)
  replace HB := Lib.hid (below_up HB.out hb2 HB.out.size)
  clear hb hb2
  go_wp2_with fail
  refine (smallC_is s _ _ d row HSN.out _ HS.out ⟨_, _, rfl⟩).mono ?_
  rintro e w3 ⟨rfl, hb⟩
  have hb2 : Below w2.heap.size w2 w3 := hb
  replace z0 := cellB hb2 z0
  replace c0 := cellB hb2 c0
  replace c1 := cellB hb2 c1
  replace c2 := cellB hb2 c2
  replace c3 := cellB hb2 c3
  replace c4 := cellB hb2 c4
  replace c5 := cellB hb2 c5
  replace c6 := cellB hb2 c6
  replace c7 := cellB hb2 c7
  replace d0 := cellB hb2 d0
  replace d1 := cellB hb2 d1
  replace d2 := cellB hb2 d2
  replace d3 := cellB hb2 d3
  replace d4 := cellB hb2 d4
  replace d5 := cellB hb2 d5
  replace d6 := cellB hb2 d6
  replace d7 := cellB hb2 d7
  replace HE := Lib.hid (HE.out.below hb2)
  replace HS := Lib.hid (HS.out.below hb2)
  replace HR := Lib.hid (HR.out.below hb2)
  replace HB := Lib.hid (below_up HB.out hb2 HB.out.size)
  clear hb hb2
  go_wp2_with fail
  go_ret
  exact ⟨rfl, HB.out⟩
set_option maxRecDepth 100000 in
set_option maxHeartbeats 4000000 in
theorem tbl_none (s : List TabT) (v : Value) (c d : ChgT) (raw : UInt8) (row : List T3) (rv : Value) (w : World) (he : L2.Env w) (h : Tabs w v s) (hr : Vals w rv row) (hsm : SmallC s c row) (hsn : SmallC s d row) (ht : ¬ c.table = d.table) (h0 : s.length = 0) :
    Calls Tryz.prog 8 #[.agg #[v], Cv c, Cv d, .int .u8 (raw.toNat : Int), rv] w (fun e w' => e = .returned (.bool true) ∧ Below w.heap.size w w') := by
  have HSM := Lib.hid hsm
  have HSN := Lib.hid hsn
  have t1 : (c.table == d.table) = false := by simpa using ht
  have q1 : ((s.length : Int) == 0) = true := by simpa using h0
  clear hsm hsn ht h0
  obtain ⟨A, cp, rfl, _⟩ := h.form
  obtain ⟨Ar, cr, rfl, _⟩ := hr.form
  have HE := Lib.hid he
  have HS := Lib.hid h
  have HR := Lib.hid hr
  clear he h hr
  go_enter Tryz.func8, Tryz.ntmps8
  go_wp2_with fail
  refine (head_any _ (((HE.out.alloc _).alloc _).alloc _)).mono ?_
  rintro e w1 ⟨rfl, hb⟩
  have hb2 : Below w.heap.size w w1 := below_up (((below_box w _).alloc (by simp) _).alloc (by simp; omega) _) hb (by simp; omega)
  replace HE := Lib.hid (HE.out.below hb2)
  replace HS := Lib.hid (HS.out.below hb2)
  replace HR := Lib.hid (HR.out.below hb2)
  have HB := Lib.hid hb2
  have z0 : w1.cell? ⟨w.heap.size, 0, none⟩ = some (.slice A s.length cp) := cellB hb (by simp [go_sem])
  have c0 : w1.cell? ⟨w.heap.size + 1, 0, none⟩ = some (.int .i64 c.kind) := cellB hb (by simp [go_sem])
  have c1 : w1.cell? ⟨w.heap.size + 1, 1, none⟩ = some (str c.table) := cellB hb (by simp [go_sem])
  have c2 : w1.cell? ⟨w.heap.size + 1, 2, none⟩ = some (str c.attr) := cellB hb (by simp [go_sem])
  have c3 : w1.cell? ⟨w.heap.size + 1, 3, none⟩ = some (str c.name) := cellB hb (by simp [go_sem])
  have c4 : w1.cell? ⟨w.heap.size + 1, 4, none⟩ = some (.int .i64 c.to) := cellB hb (by simp [go_sem])
  have c5 : w1.cell? ⟨w.heap.size + 1, 5, none⟩ = some (.int .i64 c.dft.1) := cellB hb (by simp [go_sem])
  have c6 : w1.cell? ⟨w.heap.size + 1, 6, none⟩ = some (.int .i64 c.dft.2.1) := cellB hb (by simp [go_sem])
  have c7 : w1.cell? ⟨w.heap.size + 1, 7, none⟩ = some (str c.dft.2.2) := cellB hb (by simp [go_sem])
  have d0 : w1.cell? ⟨w.heap.size + 1 + 1, 0, none⟩ = some (.int .i64 d.kind) := cellB hb (by simp [go_sem])
  have d1 : w1.cell? ⟨w.heap.size + 1 + 1, 1, none⟩ = some (str d.table) := cellB hb (by simp [go_sem])
  have d2 : w1.cell? ⟨w.heap.size + 1 + 1, 2, none⟩ = some (str d.attr) := cellB hb (by simp [go_sem])
  have d3 : w1.cell? ⟨w.heap.size + 1 + 1, 3, none⟩ = some (str d.name) := cellB hb (by simp [go_sem])
  have d4 : w1.cell? ⟨w.heap.size + 1 + 1, 4, none⟩ = some (.int .i64 d.to) := cellB hb (by simp [go_sem])
  have d5 : w1.cell? ⟨w.heap.size + 1 + 1, 5, none⟩ = some (.int .i64 d.dft.1) := cellB hb (by simp [go_sem])
  have d6 : w1.cell? ⟨w.heap.size + 1 + 1, 6, none⟩ = some (.int .i64 d.dft.2.1) := cellB hb (by simp [go_sem])
  have d7 : w1.cell? ⟨w.heap.size + 1 + 1, 7, none⟩ = some (str d.dft.2.2) := cellB hb (by simp [go_sem])
  clear hb hb2
  go_wp2_with fail
  refine (smallC_is s _ _ c row HSM.out _ HS.out ⟨_, _, rfl⟩).mono ?_
  rintro e w2 ⟨rfl, hb⟩
  have hb2 : Below w1.heap.size w1 w2 := hb
  replace z0 := cellB hb2 z0
  replace c0 := cellB hb2 c0
  replace c1 := cellB hb2 c1
  replace c2 := cellB hb2 c2
  replace c3 := cellB hb2 c3
  replace c4 := cellB hb2 c4
  replace c5 := cellB hb2 c5
  replace c6 := cellB hb2 c6
  replace c7 := cellB hb2 c7
  replace d0 := cellB hb2 d0
  replace d1 := cellB hb2 d1
  replace d2 := cellB hb2 d2
  replace d3 := cellB hb2 d3
  replace d4 := cellB hb2 d4
  replace d5 := cellB hb2 d5
  replace d6 := cellB hb2 d6
  replace d7 := cellB hb2 d7
  replace HE := Lib.hid (HE.out.below hb2)
  replace HS := Lib.hid (HS.out.below hb2)
  replace HR := Lib.hid (HR.out.below hb2)
  replace HB := Lib.hid (below_up HB.out hb2 HB.out.size)
  clear hb hb2
  go_wp2_with fail
  refine (smallC_is s _ _ d row HSN.out _ HS.out ⟨_, _, rfl⟩).mono ?_
  rintro e w3 ⟨rfl, hb⟩
  have hb2 : Below w2.heap.size w2 w3 := hb
  replace z0 := cellB hb2 z0
  replace c0 := cellB hb2 c0
  replace c1 := cellB hb2 c1
  replace c2 := cellB hb2 c2
  replace c3 := cellB hb2 c3
  replace c4 := cellB hb2 c4
  replace c5 := cellB hb2 c5
  replace c6 := cellB hb2 c6
  replace c7 := cellB hb2 c7
  replace d0 := cellB hb2 d0
  replace d1 := cellB hb2 d1
  replace d2 := cellB hb2 d2
  replace d3 := cellB hb2 d3
  replace d4 := cellB hb2 d4
  replace d5 := cellB hb2 d5
  replace d6 := cellB hb2 d6
  replace d7 := cellB hb2 d7
  replace HE := Lib.hid (HE.out.below hb2)
  replace HS := Lib.hid (HS.out.below hb2)
  replace HR := Lib.hid (HR.out.below hb2)
  replace HB := Lib.hid (below_up HB.out hb2 HB.out.size)
  clear hb hb2
  go_wp2_with fail
  go_ret
  exact ⟨rfl, HB.out⟩
set_option maxRecDepth 100000 in
set_option maxHeartbeats 4000000 in
theorem tbl_err1 (s : List TabT) (v : Value) (c d : ChgT) (raw : UInt8) (row : List T3) (rv : Value) (w : World) (he : L2.Env w) (h : Tabs w v s) (hr : Vals w rv row) (hsm : SmallC s c row) (hsn : SmallC s d row) (ht : ¬ c.table = d.table) (h0 : 0 < s.length) (n : Nat) (hn : (raw.toNat : Int).tmod (s.length : Int) = (n : Int)) (_hns : n < s.length) (s1 s2 : List TabT) (er fr : Int) (ha : applyT s c = (s1, er)) (hb2 : applyT s d = (s2, fr)) (her : er ≠ 0) :
    Calls Tryz.prog 8 #[.agg #[v], Cv c, Cv d, .int .u8 (raw.toNat : Int), rv] w (fun e w' => e = .returned (.bool true) ∧ Below w.heap.size w w') := by
  have HSM := Lib.hid hsm
  have HSN := Lib.hid hsn
  have t1 : (c.table == d.table) = false := by simpa using ht
  have q1 : ((s.length : Int) == 0) = false := beq_eq_false_iff_ne.2 (by omega)
  have q2 : ¬ (s.length : Int) = 0 := by omega
  have q3 := raw.toNat_lt
  have q4 : (s.length : Int) ≤ 24 := by have := hsm.1.1; omega
  have q5 : (0 : Int) < (s.length : Int) := by omega
  have HA := Lib.hid ha
  have HB2 := Lib.hid hb2
  have q6 : (er != 0) = true := by simpa using her
  clear hsm hsn ht h0 ha hb2 her
  obtain ⟨A, cp, rfl, _⟩ := h.form
  obtain ⟨Ar, cr, rfl, _⟩ := hr.form
  have HE := Lib.hid he
  have HS := Lib.hid h
  have HR := Lib.hid hr
  clear he h hr
  go_enter Tryz.func8, Tryz.ntmps8
  go_wp2_with fail
  refine (head_any _ (((HE.out.alloc _).alloc _).alloc _)).mono ?_
  rintro e w1 ⟨rfl, hb⟩
  have hb2 : Below w.heap.size w w1 := below_up (((below_box w _).alloc (by simp) _).alloc (by simp; omega) _) hb (by simp; omega)
  replace HE := Lib.hid (HE.out.below hb2)
  replace HS := Lib.hid (HS.out.below hb2)
  replace HR := Lib.hid (HR.out.below hb2)
  have HB := Lib.hid hb2
  have z0 : w1.cell? ⟨w.heap.size, 0, none⟩ = some (.slice A s.length cp) := cellB hb (by simp [go_sem])
  have c0 : w1.cell? ⟨w.heap.size + 1, 0, none⟩ = some (.int .i64 c.kind) := cellB hb (by simp [go_sem])
  have c1 : w1.cell? ⟨w.heap.size + 1, 1, none⟩ = some (str c.table) := cellB hb (by simp [go_sem])
  have c2 : w1.cell? ⟨w.heap.size + 1, 2, none⟩ = some (str c.attr) := cellB hb (by simp [go_sem])
  have c3 : w1.cell? ⟨w.heap.size + 1, 3, none⟩ = some (str c.name) := cellB hb (by simp [go_sem])
  have c4 : w1.cell? ⟨w.heap.size + 1, 4, none⟩ = some (.int .i64 c.to) := cellB hb (by simp [go_sem])
  have c5 : w1.cell? ⟨w.heap.size + 1, 5, none⟩ = some (.int .i64 c.dft.1) := cellB hb (by simp [go_sem])
  have c6 : w1.cell? ⟨w.heap.size + 1, 6, none⟩ = some (.int .i64 c.dft.2.1) := cellB hb (by simp [go_sem])
  have c7 : w1.cell? ⟨w.heap.size + 1, 7, none⟩ = some (str c.dft.2.2) := cellB hb (by simp [go_sem])
  have d0 : w1.cell? ⟨w.heap.size + 1 + 1, 0, none⟩ = some (.int .i64 d.kind) := cellB hb (by simp [go_sem])
  have d1 : w1.cell? ⟨w.heap.size + 1 + 1, 1, none⟩ = some (str d.table) := cellB hb (by simp [go_sem])
  have d2 : w1.cell? ⟨w.heap.size + 1 + 1, 2, none⟩ = some (str d.attr) := cellB hb (by simp [go_sem])
  have d3 : w1.cell? ⟨w.heap.size + 1 + 1, 3, none⟩ = some (str d.name) := cellB hb (by simp [go_sem])
  have d4 : w1.cell? ⟨w.heap.size + 1 + 1, 4, none⟩ = some (.int .i64 d.to) := cellB hb (by simp [go_sem])
  have d5 : w1.cell? ⟨w.heap.size + 1 + 1, 5, none⟩ = some (.int .i64 d.dft.1) := cellB hb (by simp [go_sem])
  have d6 : w1.cell? ⟨w.heap.size + 1 + 1, 6, none⟩ = some (.int .i64 d.dft.2.1) := cellB hb (by simp [go_sem])
  have d7 : w1.cell? ⟨w.heap.size + 1 + 1, 7, none⟩ = some (str d.dft.2.2) := cellB hb (by simp [go_sem])
  clear hb hb2
  go_wp2_with fail
  refine (smallC_is s _ _ c row HSM.out _ HS.out ⟨_, _, rfl⟩).mono ?_
  rintro e w2 ⟨rfl, hb⟩
  have hb2 : Below w1.heap.size w1 w2 := hb
  replace z0 := cellB hb2 z0
  replace c0 := cellB hb2 c0
  replace c1 := cellB hb2 c1
  replace c2 := cellB hb2 c2
  replace c3 := cellB hb2 c3
  replace c4 := cellB hb2 c4
  replace c5 := cellB hb2 c5
  replace c6 := cellB hb2 c6
  replace c7 := cellB hb2 c7
  replace d0 := cellB hb2 d0
  replace d1 := cellB hb2 d1
  replace d2 := cellB hb2 d2
  replace d3 := cellB hb2 d3
  replace d4 := cellB hb2 d4
  replace d5 := cellB hb2 d5
  replace d6 := cellB hb2 d6
  replace d7 := cellB hb2 d7
  replace HE := Lib.hid (HE.out.below hb2)
  replace HS := Lib.hid (HS.out.below hb2)
  replace HR := Lib.hid (HR.out.below hb2)
  replace HB := Lib.hid (below_up HB.out hb2 HB.out.size)
  clear hb hb2
  go_wp2_with fail
  refine (smallC_is s _ _ d row HSN.out _ HS.out ⟨_, _, rfl⟩).mono ?_
  rintro e w3 ⟨rfl, hb⟩
  have hb2 : Below w2.heap.size w2 w3 := hb
  replace z0 := cellB hb2 z0
  replace c0 := cellB hb2 c0
  replace c1 := cellB hb2 c1
  replace c2 := cellB hb2 c2
  replace c3 := cellB hb2 c3
  replace c4 := cellB hb2 c4
  replace c5 := cellB hb2 c5
  replace c6 := cellB hb2 c6
  replace c7 := cellB hb2 c7
  replace d0 := cellB hb2 d0
  replace d1 := cellB hb2 d1
  replace d2 := cellB hb2 d2
  replace d3 := cellB hb2 d3
  replace d4 := cellB hb2 d4
  replace d5 := cellB hb2 d5
  replace d6 := cellB hb2 d6
  replace d7 := cellB hb2 d7
  replace HE := Lib.hid (HE.out.below hb2)
  replace HS := Lib.hid (HS.out.below hb2)
  replace HR := Lib.hid (HR.out.below hb2)
  replace HB := Lib.hid (below_up HB.out hb2 HB.out.size)
  clear hb hb2
  go_wp2_with fail
  refine (apply_is s _ c _ HA.out HSM.out.mid _ HS.out).mono ?_
  rintro e w4 ⟨va, rfl, hva, hb⟩
  have hb2 : Below w3.heap.size w3 w4 := hb
  replace z0 := cellB hb2 z0
  replace c0 := cellB hb2 c0
  replace c1 := cellB hb2 c1
  replace c2 := cellB hb2 c2
  replace c3 := cellB hb2 c3
  replace c4 := cellB hb2 c4
  replace c5 := cellB hb2 c5
  replace c6 := cellB hb2 c6
  replace c7 := cellB hb2 c7
  replace d0 := cellB hb2 d0
  replace d1 := cellB hb2 d1
  replace d2 := cellB hb2 d2
  replace d3 := cellB hb2 d3
  replace d4 := cellB hb2 d4
  replace d5 := cellB hb2 d5
  replace d6 := cellB hb2 d6
  replace d7 := cellB hb2 d7
  replace HE := Lib.hid (HE.out.below hb2)
  replace HS := Lib.hid (HS.out.below hb2)
  replace HR := Lib.hid (HR.out.below hb2)
  replace HB := Lib.hid (below_up HB.out hb2 HB.out.size)
  clear hb hb2
  obtain ⟨Aa, ca, rfl, _⟩ := hva.form
  have HVA := Lib.hid hva
  clear hva
  have yz0 := fun o => Cell.alloc z0 o
  have yc0 := fun o => Cell.alloc c0 o
  have yc1 := fun o => Cell.alloc c1 o
  have yc2 := fun o => Cell.alloc c2 o
  have yc3 := fun o => Cell.alloc c3 o
  have yc4 := fun o => Cell.alloc c4 o
  have yc5 := fun o => Cell.alloc c5 o
  have yc6 := fun o => Cell.alloc c6 o
  have yc7 := fun o => Cell.alloc c7 o
  have yd0 := fun o => Cell.alloc d0 o
  have yd1 := fun o => Cell.alloc d1 o
  have yd2 := fun o => Cell.alloc d2 o
  have yd3 := fun o => Cell.alloc d3 o
  have yd4 := fun o => Cell.alloc d4 o
  have yd5 := fun o => Cell.alloc d5 o
  have yd6 := fun o => Cell.alloc d6 o
  have yd7 := fun o => Cell.alloc d7 o
  go_wp2_with fail
  refine (apply_is s _ d _ HB2.out HSM.out.mid _ (HS.out.below (below_box w4 _))).mono ?_
  rintro e w5 ⟨vb, rfl, hvb, hb⟩
  have hb2 : Below w4.heap.size w4 w5 := below_up (below_box w4 _) hb (by simp)
  replace z0 := cellB hb2 z0
  replace c0 := cellB hb2 c0
  replace c1 := cellB hb2 c1
  replace c2 := cellB hb2 c2
  replace c3 := cellB hb2 c3
  replace c4 := cellB hb2 c4
  replace c5 := cellB hb2 c5
  replace c6 := cellB hb2 c6
  replace c7 := cellB hb2 c7
  replace d0 := cellB hb2 d0
  replace d1 := cellB hb2 d1
  replace d2 := cellB hb2 d2
  replace d3 := cellB hb2 d3
  replace d4 := cellB hb2 d4
  replace d5 := cellB hb2 d5
  replace d6 := cellB hb2 d6
  replace d7 := cellB hb2 d7
  replace HE := Lib.hid (HE.out.below hb2)
  replace HS := Lib.hid (HS.out.below hb2)
  replace HR := Lib.hid (HR.out.below hb2)
  replace HVA := Lib.hid (HVA.out.below hb2)
  replace HB := Lib.hid (below_up HB.out hb2 HB.out.size)
  have a0 : w5.cell? ⟨w4.heap.size, 0, none⟩ = some (.slice Aa s1.length ca) := cellB hb (by simp [go_sem])
  clear hb hb2 yz0 yc0 yc1 yc2 yc3 yc4 yc5 yc6 yc7 yd0 yd1 yd2 yd3 yd4 yd5 yd6 yd7
  obtain ⟨Ab, cb, rfl, _⟩ := hvb.form
  have HVB := Lib.hid hvb
  clear hvb
  go_wp2_with fail
  go_ret
  exact ⟨rfl, HB.out.alloc HB.out.size _⟩
set_option maxRecDepth 100000 in
set_option maxHeartbeats 4000000 in
theorem tbl_err2 (s : List TabT) (v : Value) (c d : ChgT) (raw : UInt8) (row : List T3) (rv : Value) (w : World) (he : L2.Env w) (h : Tabs w v s) (hr : Vals w rv row) (hsm : SmallC s c row) (hsn : SmallC s d row) (ht : ¬ c.table = d.table) (h0 : 0 < s.length) (n : Nat) (hn : (raw.toNat : Int).tmod (s.length : Int) = (n : Int)) (_hns : n < s.length) (s1 s2 : List TabT) (fr : Int) (ha : applyT s c = (s1, 0)) (hb2 : applyT s d = (s2, fr)) (her : fr ≠ 0) :
    Calls Tryz.prog 8 #[.agg #[v], Cv c, Cv d, .int .u8 (raw.toNat : Int), rv] w (fun e w' => e = .returned (.bool true) ∧ Below w.heap.size w w') := by
  have HSM := Lib.hid hsm
  have HSN := Lib.hid hsn
  have t1 : (c.table == d.table) = false := by simpa using ht
  have q1 : ((s.length : Int) == 0) = false := beq_eq_false_iff_ne.2 (by omega)
  have q2 : ¬ (s.length : Int) = 0 := by omega
  have q3 := raw.toNat_lt
  have q4 : (s.length : Int) ≤ 24 := by have := hsm.1.1; omega
  have q5 : (0 : Int) < (s.length : Int) := by omega
  have HA := Lib.hid ha
  have HB2 := Lib.hid hb2
  have q6 : (fr != 0) = true := by simpa using her
  clear hsm hsn ht h0 ha hb2 her
  obtain ⟨A, cp, rfl, _⟩ := h.form
  obtain ⟨Ar, cr, rfl, _⟩ := hr.form
  have HE := Lib.hid he
  have HS := Lib.hid h
  have HR := Lib.hid hr
  clear he h hr
  go_enter Tryz.func8, Tryz.ntmps8
  go_wp2_with fail
  refine (head_any _ (((HE.out.alloc _).alloc _).alloc _)).mono ?_
  rintro e w1 ⟨rfl, hb⟩
  have hb2 : Below w.heap.size w w1 := below_up (((below_box w _).alloc (by simp) _).alloc (by simp; omega) _) hb (by simp; omega)
  replace HE := Lib.hid (HE.out.below hb2)
  replace HS := Lib.hid (HS.out.below hb2)
  replace HR := Lib.hid (HR.out.below hb2)
  have HB := Lib.hid hb2
  have z0 : w1.cell? ⟨w.heap.size, 0, none⟩ = some (.slice A s.length cp) := cellB hb (by simp [go_sem])
  have c0 : w1.cell? ⟨w.heap.size + 1, 0, none⟩ = some (.int .i64 c.kind) := cellB hb (by simp [go_sem])
  have c1 : w1.cell? ⟨w.heap.size + 1, 1, none⟩ = some (str c.table) := cellB hb (by simp [go_sem])
  have c2 : w1.cell? ⟨w.heap.size + 1, 2, none⟩ = some (str c.attr) := cellB hb (by simp [go_sem])
  have c3 : w1.cell? ⟨w.heap.size + 1, 3, none⟩ = some (str c.name) := cellB hb (by simp [go_sem])
  have c4 : w1.cell? ⟨w.heap.size + 1, 4, none⟩ = some (.int .i64 c.to) := cellB hb (by simp [go_sem])
  have c5 : w1.cell? ⟨w.heap.size + 1, 5, none⟩ = some (.int .i64 c.dft.1) := cellB hb (by simp [go_sem])
  have c6 : w1.cell? ⟨w.heap.size + 1, 6, none⟩ = some (.int .i64 c.dft.2.1) := cellB hb (by simp [go_sem])
  have c7 : w1.cell? ⟨w.heap.size + 1, 7, none⟩ = some (str c.dft.2.2) := cellB hb (by simp [go_sem])
  have d0 : w1.cell? ⟨w.heap.size + 1 + 1, 0, none⟩ = some (.int .i64 d.kind) := cellB hb (by simp [go_sem])
  have d1 : w1.cell? ⟨w.heap.size + 1 + 1, 1, none⟩ = some (str d.table) := cellB hb (by simp [go_sem])
  have d2 : w1.cell? ⟨w.heap.size + 1 + 1, 2, none⟩ = some (str d.attr) := cellB hb (by simp [go_sem])
  have d3 : w1.cell? ⟨w.heap.size + 1 + 1, 3, none⟩ = some (str d.name) := cellB hb (by simp [go_sem])
  have d4 : w1.cell? ⟨w.heap.size + 1 + 1, 4, none⟩ = some (.int .i64 d.to) := cellB hb (by simp [go_sem])
  have d5 : w1.cell? ⟨w.heap.size + 1 + 1, 5, none⟩ = some (.int .i64 d.dft.1) := cellB hb (by simp [go_sem])
  have d6 : w1.cell? ⟨w.heap.size + 1 + 1, 6, none⟩ = some (.int .i64 d.dft.2.1) := cellB hb (by simp [go_sem])
  have d7 : w1.cell? ⟨w.heap.size + 1 + 1, 7, none⟩ = some (str d.dft.2.2) := cellB hb (by simp [go_sem])
  clear hb hb2
  go_wp2_with fail
  refine (smallC_is s _ _ c row HSM.out _ HS.out ⟨_, _, rfl⟩).mono ?_
  rintro e w2 ⟨rfl, hb⟩
  have hb2 : Below w1.heap.size w1 w2 := hb
  replace z0 := cellB hb2 z0
  replace c0 := cellB hb2 c0
  replace c1 := cellB hb2 c1
  replace c2 := cellB hb2 c2
  replace c3 := cellB hb2 c3
  replace c4 := cellB hb2 c4
  replace c5 := cellB hb2 c5
  replace c6 := cellB hb2 c6
  replace c7 := cellB hb2 c7
  replace d0 := cellB hb2 d0
  replace d1 := cellB hb2 d1
  replace d2 := cellB hb2 d2
  replace d3 := cellB hb2 d3
  replace d4 := cellB hb2 d4
  replace d5 := cellB hb2 d5
  replace d6 := cellB hb2 d6
  replace d7 := cellB hb2 d7
  replace HE := Lib.hid (HE.out.below hb2)
  replace HS := Lib.hid (HS.out.below hb2)
  replace HR := Lib.hid (HR.out.below hb2)
  replace HB := Lib.hid (below_up HB.out hb2 HB.out.size)
  clear hb hb2
  go_wp2_with fail
  refine (smallC_is s _ _ d row HSN.out _ HS.out ⟨_, _, rfl⟩).mono ?_
  rintro e w3 ⟨rfl, hb⟩
  have hb2 : Below w2.heap.size w2 w3 := hb
  replace z0 := cellB hb2 z0
  replace c0 := cellB hb2 c0
  replace c1 := cellB hb2 c1
  replace c2 := cellB hb2 c2
  replace c3 := cellB hb2 c3
  replace c4 := cellB hb2 c4
  replace c5 := cellB hb2 c5
  replace c6 := cellB hb2 c6
  replace c7 := cellB hb2 c7
  replace d0 := cellB hb2 d0
  replace d1 := cellB hb2 d1
  replace d2 := cellB hb2 d2
  replace d3 := cellB hb2 d3
  replace d4 := cellB hb2 d4
  replace d5 := cellB hb2 d5
  replace d6 := cellB hb2 d6
  replace d7 := cellB hb2 d7
  replace HE := Lib.hid (HE.out.below hb2)
  replace HS := Lib.hid (HS.out.below hb2)
  replace HR := Lib.hid (HR.out.below hb2)
  replace HB := Lib.hid (below_up HB.out hb2 HB.out.size)
  clear hb hb2
  go_wp2_with fail
  refine (apply_is s _ c _ HA.out HSM.out.mid _ HS.out).mono ?_
  rintro e w4 ⟨va, rfl, hva, hb⟩
  have hb2 : Below w3.heap.size w3 w4 := hb
  replace z0 := cellB hb2 z0
  replace c0 := cellB hb2 c0
  replace c1 := cellB hb2 c1
  replace c2 := cellB hb2 c2
  replace c3 := cellB hb2 c3
  replace c4 := cellB hb2 c4
  replace c5 := cellB hb2 c5
  replace c6 := cellB hb2 c6
  replace c7 := cellB hb2 c7
  replace d0 := cellB hb2 d0
  replace d1 := cellB hb2 d1
  replace d2 := cellB hb2 d2
  replace d3 := cellB hb2 d3
  replace d4 := cellB hb2 d4
  replace d5 := cellB hb2 d5
  replace d6 := cellB hb2 d6
  replace d7 := cellB hb2 d7
  replace HE := Lib.hid (HE.out.below hb2)
  replace HS := Lib.hid (HS.out.below hb2)
  replace HR := Lib.hid (HR.out.below hb2)
  replace HB := Lib.hid (below_up HB.out hb2 HB.out.size)
  clear hb hb2
  obtain ⟨Aa, ca, rfl, _⟩ := hva.form
  have HVA := Lib.hid hva
  clear hva
  have yz0 := fun o => Cell.alloc z0 o
  have yc0 := fun o => Cell.alloc c0 o
  have yc1 := fun o => Cell.alloc c1 o
  have yc2 := fun o => Cell.alloc c2 o
  have yc3 := fun o => Cell.alloc c3 o
  have yc4 := fun o => Cell.alloc c4 o
  have yc5 := fun o => Cell.alloc c5 o
  have yc6 := fun o => Cell.alloc c6 o
  have yc7 := fun o => Cell.alloc c7 o
  have yd0 := fun o => Cell.alloc d0 o
  have yd1 := fun o => Cell.alloc d1 o
  have yd2 := fun o => Cell.alloc d2 o
  have yd3 := fun o => Cell.alloc d3 o
  have yd4 := fun o => Cell.alloc d4 o
  have yd5 := fun o => Cell.alloc d5 o
  have yd6 := fun o => Cell.alloc d6 o
  have yd7 := fun o => Cell.alloc d7 o
  go_wp2_with fail
  refine (apply_is s _ d _ HB2.out HSM.out.mid _ (HS.out.below (below_box w4 _))).mono ?_
  rintro e w5 ⟨vb, rfl, hvb, hb⟩
  have hb2 : Below w4.heap.size w4 w5 := below_up (below_box w4 _) hb (by simp)
  replace z0 := cellB hb2 z0
  replace c0 := cellB hb2 c0
  replace c1 := cellB hb2 c1
  replace c2 := cellB hb2 c2
  replace c3 := cellB hb2 c3
  replace c4 := cellB hb2 c4
  replace c5 := cellB hb2 c5
  replace c6 := cellB hb2 c6
  replace c7 := cellB hb2 c7
  replace d0 := cellB hb2 d0
  replace d1 := cellB hb2 d1
  replace d2 := cellB hb2 d2
  replace d3 := cellB hb2 d3
  replace d4 := cellB hb2 d4
  replace d5 := cellB hb2 d5
  replace d6 := cellB hb2 d6
  replace d7 := cellB hb2 d7
  replace HE := Lib.hid (HE.out.below hb2)
  replace HS := Lib.hid (HS.out.below hb2)
  replace HR := Lib.hid (HR.out.below hb2)
  replace HVA := Lib.hid (HVA.out.below hb2)
  replace HB := Lib.hid (below_up HB.out hb2 HB.out.size)
  have a0 : w5.cell? ⟨w4.heap.size, 0, none⟩ = some (.slice Aa s1.length ca) := cellB hb (by simp [go_sem])
  clear hb hb2 yz0 yc0 yc1 yc2 yc3 yc4 yc5 yc6 yc7 yd0 yd1 yd2 yd3 yd4 yd5 yd6 yd7
  obtain ⟨Ab, cb, rfl, _⟩ := hvb.form
  have HVB := Lib.hid hvb
  clear hvb
  go_wp2_with fail
  go_ret
  exact ⟨rfl, HB.out.alloc HB.out.size _⟩
set_option maxRecDepth 100000 in
set_option maxHeartbeats 4000000 in
theorem tbl_conv1 (s : List TabT) (v : Value) (c d : ChgT) (raw : UInt8) (row : List T3) (rv : Value) (w : World) (he : L2.Env w) (h : Tabs w v s) (hr : Vals w rv row) (hsm : SmallC s c row) (hsn : SmallC s d row) (ht : ¬ c.table = d.table) (h0 : 0 < s.length) (n : Nat) (hn : (raw.toNat : Int).tmod (s.length : Int) = (n : Int)) (_hns : n < s.length) (s1 s2 s3 : List TabT) (ha : applyT s c = (s1, 0)) (hb2 : applyT s d = (s2, 0)) (hc : applyT s1 d = (s3, 0)) (hd : applyT s2 c = (s3, 0)) (hm1 : Mid s1) (hm2 : Mid s2) (hm3 : Mid s3) (p q : List T3) (i j : Int) (hp : convT s c n row = (p, i)) (hq : convT s d n row = (q, j)) (her : i ≠ 0) :
    Calls Tryz.prog 8 #[.agg #[v], Cv c, Cv d, .int .u8 (raw.toNat : Int), rv] w (fun e w' => e = .returned (.bool true) ∧ Below w.heap.size w w') := by
  have HSM := Lib.hid hsm
  have HSN := Lib.hid hsn
  have t1 : (c.table == d.table) = false := by simpa using ht
  have q1 : ((s.length : Int) == 0) = false := beq_eq_false_iff_ne.2 (by omega)
  have q2 : ¬ (s.length : Int) = 0 := by omega
  have q3 := raw.toNat_lt
  have q4 : (s.length : Int) ≤ 24 := by have := hsm.1.1; omega
  have q5 : (0 : Int) < (s.length : Int) := by omega
  have HA := Lib.hid ha
  have HB2 := Lib.hid hb2
  have HC := Lib.hid hc
  have HD := Lib.hid hd
  have HM1 := Lib.hid hm1
  have HM2 := Lib.hid hm2
  have HM3 := Lib.hid hm3
  have hrl : row.length ≤ 20 := hsm.2.2.2
  have HP := Lib.hid hp
  have HQ := Lib.hid hq
  have q6 : (i != 0) = true := by simpa using her
  clear hsm hsn ht h0 ha hb2 hc hd hm1 hm2 hm3 hp hq her
  obtain ⟨A, cp, rfl, _⟩ := h.form
  obtain ⟨Ar, cr, rfl, _⟩ := hr.form
  have HE := Lib.hid he
  have HS := Lib.hid h
  have HR := Lib.hid hr
  clear he h hr
  go_enter Tryz.func8, Tryz.ntmps8
  go_wp2_with fail
  refine (head_any _ (((HE.out.alloc _).alloc _).alloc _)).mono ?_
  rintro e w1 ⟨rfl, hb⟩
  have hb2 : Below w.heap.size w w1 := below_up (((below_box w _).alloc (by simp) _).alloc (by simp; omega) _) hb (by simp; omega)
  replace HE := Lib.hid (HE.out.below hb2)
  replace HS := Lib.hid (HS.out.below hb2)
  replace HR := Lib.hid (HR.out.below hb2)
  have HB := Lib.hid hb2
  have z0 : w1.cell? ⟨w.heap.size, 0, none⟩ = some (.slice A s.length cp) := cellB hb (by simp [go_sem])
  have c0 : w1.cell? ⟨w.heap.size + 1, 0, none⟩ = some (.int .i64 c.kind) := cellB hb (by simp [go_sem])
  have c1 : w1.cell? ⟨w.heap.size + 1, 1, none⟩ = some (str c.table) := cellB hb (by simp [go_sem])
  have c2 : w1.cell? ⟨w.heap.size + 1, 2, none⟩ = some (str c.attr) := cellB hb (by simp [go_sem])
  have c3 : w1.cell? ⟨w.heap.size + 1, 3, none⟩ = some (str c.name) := cellB hb (by simp [go_sem])
  have c4 : w1.cell? ⟨w.heap.size + 1, 4, none⟩ = some (.int .i64 c.to) := cellB hb (by simp [go_sem])
  have c5 : w1.cell? ⟨w.heap.size + 1, 5, none⟩ = some (.int .i64 c.dft.1) := cellB hb (by simp [go_sem])
  have c6 : w1.cell? ⟨w.heap.size + 1, 6, none⟩ = some (.int .i64 c.dft.2.1) := cellB hb (by simp [go_sem])
  have c7 : w1.cell? ⟨w.heap.size + 1, 7, none⟩ = some (str c.dft.2.2) := cellB hb (by simp [go_sem])
  have d0 : w1.cell? ⟨w.heap.size + 1 + 1, 0, none⟩ = some (.int .i64 d.kind) := cellB hb (by simp [go_sem])
  have d1 : w1.cell? ⟨w.heap.size + 1 + 1, 1, none⟩ = some (str d.table) := cellB hb (by simp [go_sem])
  have d2 : w1.cell? ⟨w.heap.size + 1 + 1, 2, none⟩ = some (str d.attr) := cellB hb (by simp [go_sem])
  have d3 : w1.cell? ⟨w.heap.size + 1 + 1, 3, none⟩ = some (str d.name) := cellB hb (by simp [go_sem])
  have d4 : w1.cell? ⟨w.heap.size + 1 + 1, 4, none⟩ = some (.int .i64 d.to) := cellB hb (by simp [go_sem])
  have d5 : w1.cell? ⟨w.heap.size + 1 + 1, 5, none⟩ = some (.int .i64 d.dft.1) := cellB hb (by simp [go_sem])
  have d6 : w1.cell? ⟨w.heap.size + 1 + 1, 6, none⟩ = some (.int .i64 d.dft.2.1) := cellB hb (by simp [go_sem])
  have d7 : w1.cell? ⟨w.heap.size + 1 + 1, 7, none⟩ = some (str d.dft.2.2) := cellB hb (by simp [go_sem])
  clear hb hb2
  go_wp2_with fail
  refine (smallC_is s _ _ c row HSM.out _ HS.out ⟨_, _, rfl⟩).mono ?_
  rintro e w2 ⟨rfl, hb⟩
  have hb2 : Below w1.heap.size w1 w2 := hb
  replace z0 := cellB hb2 z0
  replace c0 := cellB hb2 c0
  replace c1 := cellB hb2 c1
  replace c2 := cellB hb2 c2
  replace c3 := cellB hb2 c3
  replace c4 := cellB hb2 c4
  replace c5 := cellB hb2 c5
  replace c6 := cellB hb2 c6
  replace c7 := cellB hb2 c7
  replace d0 := cellB hb2 d0
  replace d1 := cellB hb2 d1
  replace d2 := cellB hb2 d2
  replace d3 := cellB hb2 d3
  replace d4 := cellB hb2 d4
  replace d5 := cellB hb2 d5
  replace d6 := cellB hb2 d6
  replace d7 := cellB hb2 d7
  replace HE := Lib.hid (HE.out.below hb2)
  replace HS := Lib.hid (HS.out.below hb2)
  replace HR := Lib.hid (HR.out.below hb2)
  replace HB := Lib.hid (below_up HB.out hb2 HB.out.size)
  clear hb hb2
  go_wp2_with fail
  refine (smallC_is s _ _ d row HSN.out _ HS.out ⟨_, _, rfl⟩).mono ?_
  rintro e w3 ⟨rfl, hb⟩
  have hb2 : Below w2.heap.size w2 w3 := hb
  replace z0 := cellB hb2 z0
  replace c0 := cellB hb2 c0
  replace c1 := cellB hb2 c1
  replace c2 := cellB hb2 c2
  replace c3 := cellB hb2 c3
  replace c4 := cellB hb2 c4
  replace c5 := cellB hb2 c5
  replace c6 := cellB hb2 c6
  replace c7 := cellB hb2 c7
  replace d0 := cellB hb2 d0
  replace d1 := cellB hb2 d1
  replace d2 := cellB hb2 d2
  replace d3 := cellB hb2 d3
  replace d4 := cellB hb2 d4
  replace d5 := cellB hb2 d5
  replace d6 := cellB hb2 d6
  replace d7 := cellB hb2 d7
  replace HE := Lib.hid (HE.out.below hb2)
  replace HS := Lib.hid (HS.out.below hb2)
  replace HR := Lib.hid (HR.out.below hb2)
  replace HB := Lib.hid (below_up HB.out hb2 HB.out.size)
  clear hb hb2
  go_wp2_with fail
  refine (apply_is s _ c _ HA.out HSM.out.mid _ HS.out).mono ?_
  rintro e w4 ⟨va, rfl, hva, hb⟩
  have hb2 : Below w3.heap.size w3 w4 := hb
  replace z0 := cellB hb2 z0
  replace c0 := cellB hb2 c0
  replace c1 := cellB hb2 c1
  replace c2 := cellB hb2 c2
  replace c3 := cellB hb2 c3
  replace c4 := cellB hb2 c4
  replace c5 := cellB hb2 c5
  replace c6 := cellB hb2 c6
  replace c7 := cellB hb2 c7
  replace d0 := cellB hb2 d0
  replace d1 := cellB hb2 d1
  replace d2 := cellB hb2 d2
  replace d3 := cellB hb2 d3
  replace d4 := cellB hb2 d4
  replace d5 := cellB hb2 d5
  replace d6 := cellB hb2 d6
  replace d7 := cellB hb2 d7
  replace HE := Lib.hid (HE.out.below hb2)
  replace HS := Lib.hid (HS.out.below hb2)
  replace HR := Lib.hid (HR.out.below hb2)
  replace HB := Lib.hid (below_up HB.out hb2 HB.out.size)
  clear hb hb2
  obtain ⟨Aa, ca, rfl, _⟩ := hva.form
  have HVA := Lib.hid hva
  clear hva
  have yz0 := fun o => Cell.alloc z0 o
  have yc0 := fun o => Cell.alloc c0 o
  have yc1 := fun o => Cell.alloc c1 o
  have yc2 := fun o => Cell.alloc c2 o
  have yc3 := fun o => Cell.alloc c3 o
  have yc4 := fun o => Cell.alloc c4 o
  have yc5 := fun o => Cell.alloc c5 o
  have yc6 := fun o => Cell.alloc c6 o
  have yc7 := fun o => Cell.alloc c7 o
  have yd0 := fun o => Cell.alloc d0 o
  have yd1 := fun o => Cell.alloc d1 o
  have yd2 := fun o => Cell.alloc d2 o
  have yd3 := fun o => Cell.alloc d3 o
  have yd4 := fun o => Cell.alloc d4 o
  have yd5 := fun o => Cell.alloc d5 o
  have yd6 := fun o => Cell.alloc d6 o
  have yd7 := fun o => Cell.alloc d7 o
  go_wp2_with fail
  refine (apply_is s _ d _ HB2.out HSM.out.mid _ (HS.out.below (below_box w4 _))).mono ?_
  rintro e w5 ⟨vb, rfl, hvb, hb⟩
  have hb2 : Below w4.heap.size w4 w5 := below_up (below_box w4 _) hb (by simp)
  replace z0 := cellB hb2 z0
  replace c0 := cellB hb2 c0
  replace c1 := cellB hb2 c1
  replace c2 := cellB hb2 c2
  replace c3 := cellB hb2 c3
  replace c4 := cellB hb2 c4
  replace c5 := cellB hb2 c5
  replace c6 := cellB hb2 c6
  replace c7 := cellB hb2 c7
  replace d0 := cellB hb2 d0
  replace d1 := cellB hb2 d1
  replace d2 := cellB hb2 d2
  replace d3 := cellB hb2 d3
  replace d4 := cellB hb2 d4
  replace d5 := cellB hb2 d5
  replace d6 := cellB hb2 d6
  replace d7 := cellB hb2 d7
  replace HE := Lib.hid (HE.out.below hb2)
  replace HS := Lib.hid (HS.out.below hb2)
  replace HR := Lib.hid (HR.out.below hb2)
  replace HVA := Lib.hid (HVA.out.below hb2)
  replace HB := Lib.hid (below_up HB.out hb2 HB.out.size)
  have a0 : w5.cell? ⟨w4.heap.size, 0, none⟩ = some (.slice Aa s1.length ca) := cellB hb (by simp [go_sem])
  clear hb hb2 yz0 yc0 yc1 yc2 yc3 yc4 yc5 yc6 yc7 yd0 yd1 yd2 yd3 yd4 yd5 yd6 yd7
  obtain ⟨Ab, cb, rfl, _⟩ := hvb.form
  have HVB := Lib.hid hvb
  clear hvb
  have yz0 := fun o => Cell.alloc z0 o
  have yc0 := fun o => Cell.alloc c0 o
  have yc1 := fun o => Cell.alloc c1 o
  have yc2 := fun o => Cell.alloc c2 o
  have yc3 := fun o => Cell.alloc c3 o
  have yc4 := fun o => Cell.alloc c4 o
  have yc5 := fun o => Cell.alloc c5 o
  have yc6 := fun o => Cell.alloc c6 o
  have yc7 := fun o => Cell.alloc c7 o
  have yd0 := fun o => Cell.alloc d0 o
  have yd1 := fun o => Cell.alloc d1 o
  have yd2 := fun o => Cell.alloc d2 o
  have yd3 := fun o => Cell.alloc d3 o
  have yd4 := fun o => Cell.alloc d4 o
  have yd5 := fun o => Cell.alloc d5 o
  have yd6 := fun o => Cell.alloc d6 o
  have yd7 := fun o => Cell.alloc d7 o
  have ya0 := fun o => Cell.alloc a0 o
  go_wp2_with fail
  refine (apply_is s1 _ d _ HC.out HM1.out _ (HVA.out.below (below_box w5 _))).mono ?_
  rintro e w6 ⟨vc, rfl, hvc, hb⟩
  have hb2 : Below w5.heap.size w5 w6 := below_up (below_box w5 _) hb (by simp)
  replace z0 := cellB hb2 z0
  replace c0 := cellB hb2 c0
  replace c1 := cellB hb2 c1
  replace c2 := cellB hb2 c2
  replace c3 := cellB hb2 c3
  replace c4 := cellB hb2 c4
  replace c5 := cellB hb2 c5
  replace c6 := cellB hb2 c6
  replace c7 := cellB hb2 c7
  replace d0 := cellB hb2 d0
  replace d1 := cellB hb2 d1
  replace d2 := cellB hb2 d2
  replace d3 := cellB hb2 d3
  replace d4 := cellB hb2 d4
  replace d5 := cellB hb2 d5
  replace d6 := cellB hb2 d6
  replace d7 := cellB hb2 d7
  replace a0 := cellB hb2 a0
  replace HE := Lib.hid (HE.out.below hb2)
  replace HS := Lib.hid (HS.out.below hb2)
  replace HR := Lib.hid (HR.out.below hb2)
  replace HVA := Lib.hid (HVA.out.below hb2)
  replace HVB := Lib.hid (HVB.out.below hb2)
  replace HB := Lib.hid (below_up HB.out hb2 HB.out.size)
  have b0 : w6.cell? ⟨w5.heap.size, 0, none⟩ = some (.slice Ab s2.length cb) := cellB hb (by simp [go_sem])
  clear hb hb2 yz0 yc0 yc1 yc2 yc3 yc4 yc5 yc6 yc7 yd0 yd1 yd2 yd3 yd4 yd5 yd6 yd7 ya0
  obtain ⟨Ac, cc, rfl, _⟩ := hvc.form
  have HVC := Lib.hid hvc
  clear hvc
  have yz0 := fun o => Cell.alloc z0 o
  have yc0 := fun o => Cell.alloc c0 o
  have yc1 := fun o => Cell.alloc c1 o
  have yc2 := fun o => Cell.alloc c2 o
  have yc3 := fun o => Cell.alloc c3 o
  have yc4 := fun o => Cell.alloc c4 o
  have yc5 := fun o => Cell.alloc c5 o
  have yc6 := fun o => Cell.alloc c6 o
  have yc7 := fun o => Cell.alloc c7 o
  have yd0 := fun o => Cell.alloc d0 o
  have yd1 := fun o => Cell.alloc d1 o
  have yd2 := fun o => Cell.alloc d2 o
  have yd3 := fun o => Cell.alloc d3 o
  have yd4 := fun o => Cell.alloc d4 o
  have yd5 := fun o => Cell.alloc d5 o
  have yd6 := fun o => Cell.alloc d6 o
  have yd7 := fun o => Cell.alloc d7 o
  have ya0 := fun o => Cell.alloc a0 o
  have yb0 := fun o => Cell.alloc b0 o
  go_wp2_with fail
  refine (apply_is s2 _ c _ HD.out HM2.out _ (HVB.out.below (below_box w6 _))).mono ?_
  rintro e w7 ⟨vd, rfl, hvd, hb⟩
  have hb2 : Below w6.heap.size w6 w7 := below_up (below_box w6 _) hb (by simp)
  replace z0 := cellB hb2 z0
  replace c0 := cellB hb2 c0
  replace c1 := cellB hb2 c1
  replace c2 := cellB hb2 c2
  replace c3 := cellB hb2 c3
  replace c4 := cellB hb2 c4
  replace c5 := cellB hb2 c5
  replace c6 := cellB hb2 c6
  replace c7 := cellB hb2 c7
  replace d0 := cellB hb2 d0
  replace d1 := cellB hb2 d1
  replace d2 := cellB hb2 d2
  replace d3 := cellB hb2 d3
  replace d4 := cellB hb2 d4
  replace d5 := cellB hb2 d5
  replace d6 := cellB hb2 d6
  replace d7 := cellB hb2 d7
  replace a0 := cellB hb2 a0
  replace b0 := cellB hb2 b0
  replace HE := Lib.hid (HE.out.below hb2)
  replace HS := Lib.hid (HS.out.below hb2)
  replace HR := Lib.hid (HR.out.below hb2)
  replace HVA := Lib.hid (HVA.out.below hb2)
  replace HVB := Lib.hid (HVB.out.below hb2)
  replace HVC := Lib.hid (HVC.out.below hb2)
  replace HB := Lib.hid (below_up HB.out hb2 HB.out.size)
  have x0 : w7.cell? ⟨w6.heap.size, 0, none⟩ = some (.slice Ac s3.length cc) := cellB hb (by simp [go_sem])
  clear hb hb2 yz0 yc0 yc1 yc2 yc3 yc4 yc5 yc6 yc7 yd0 yd1 yd2 yd3 yd4 yd5 yd6 yd7 ya0 yb0
  obtain ⟨Ad, cd, rfl, _⟩ := hvd.form
  have HVD := Lib.hid hvd
  clear hvd
  have yz0 := fun o => Cell.alloc z0 o
  have yc0 := fun o => Cell.alloc c0 o
  have yc1 := fun o => Cell.alloc c1 o
  have yc2 := fun o => Cell.alloc c2 o
  have yc3 := fun o => Cell.alloc c3 o
  have yc4 := fun o => Cell.alloc c4 o
  have yc5 := fun o => Cell.alloc c5 o
  have yc6 := fun o => Cell.alloc c6 o
  have yc7 := fun o => Cell.alloc c7 o
  have yd0 := fun o => Cell.alloc d0 o
  have yd1 := fun o => Cell.alloc d1 o
  have yd2 := fun o => Cell.alloc d2 o
  have yd3 := fun o => Cell.alloc d3 o
  have yd4 := fun o => Cell.alloc d4 o
  have yd5 := fun o => Cell.alloc d5 o
  have yd6 := fun o => Cell.alloc d6 o
  have yd7 := fun o => Cell.alloc d7 o
  have ya0 := fun o => Cell.alloc a0 o
  have yb0 := fun o => Cell.alloc b0 o
  have yx0 := fun o => Cell.alloc x0 o
  go_wp2_with fail
  refine (same_is s3 s3 _ _ true (decide_eq_true rfl) HM3.out _ (HVC.out.below (below_box w7 _)) (HVD.out.below (below_box w7 _))).mono ?_
  rintro e w8 ⟨rfl, hb⟩
  have hb2 : Below w7.heap.size w7 w8 := below_up (below_box w7 _) hb (by simp)
  clear x0
  replace z0 := cellB hb2 z0
  replace c0 := cellB hb2 c0
  replace c1 := cellB hb2 c1
  replace c2 := cellB hb2 c2
  replace c3 := cellB hb2 c3
  replace c4 := cellB hb2 c4
  replace c5 := cellB hb2 c5
  replace c6 := cellB hb2 c6
  replace c7 := cellB hb2 c7
  replace d0 := cellB hb2 d0
  replace d1 := cellB hb2 d1
  replace d2 := cellB hb2 d2
  replace d3 := cellB hb2 d3
  replace d4 := cellB hb2 d4
  replace d5 := cellB hb2 d5
  replace d6 := cellB hb2 d6
  replace d7 := cellB hb2 d7
  replace a0 := cellB hb2 a0
  replace b0 := cellB hb2 b0
  replace HE := Lib.hid (HE.out.below hb2)
  replace HS := Lib.hid (HS.out.below hb2)
  replace HR := Lib.hid (HR.out.below hb2)
  replace HVA := Lib.hid (HVA.out.below hb2)
  replace HVB := Lib.hid (HVB.out.below hb2)
  replace HVC := Lib.hid (HVC.out.below hb2)
  replace HVD := Lib.hid (HVD.out.below hb2)
  replace HB := Lib.hid (below_up HB.out hb2 HB.out.size)
  clear hb hb2 yz0 yc0 yc1 yc2 yc3 yc4 yc5 yc6 yc7 yd0 yd1 yd2 yd3 yd4 yd5 yd6 yd7 ya0 yb0 yx0
  clear HVC
  clear HVD
  go_wp2_with fail
  refine (convert_is s _ _ c (n : Int) row _ HP.out HSM.out.mid (by omega) _ HE.out HS.out HR.out).mono ?_
  rintro e w9 ⟨vp, rfl, hvp, hb⟩
  have hb2 : Below w8.heap.size w8 w9 := hb
  replace z0 := cellB hb2 z0
  replace c0 := cellB hb2 c0
  replace c1 := cellB hb2 c1
  replace c2 := cellB hb2 c2
  replace c3 := cellB hb2 c3
  replace c4 := cellB hb2 c4
  replace c5 := cellB hb2 c5
  replace c6 := cellB hb2 c6
  replace c7 := cellB hb2 c7
  replace d0 := cellB hb2 d0
  replace d1 := cellB hb2 d1
  replace d2 := cellB hb2 d2
  replace d3 := cellB hb2 d3
  replace d4 := cellB hb2 d4
  replace d5 := cellB hb2 d5
  replace d6 := cellB hb2 d6
  replace d7 := cellB hb2 d7
  replace a0 := cellB hb2 a0
  replace b0 := cellB hb2 b0
  replace HE := Lib.hid (HE.out.below hb2)
  replace HS := Lib.hid (HS.out.below hb2)
  replace HR := Lib.hid (HR.out.below hb2)
  replace HVA := Lib.hid (HVA.out.below hb2)
  replace HVB := Lib.hid (HVB.out.below hb2)
  replace HB := Lib.hid (below_up HB.out hb2 HB.out.size)
  clear hb hb2
  obtain ⟨Ap, cq, rfl, _⟩ := hvp.form
  have HVP := Lib.hid hvp
  clear hvp
  go_wp2_with fail
  refine (convert_is s _ _ d (n : Int) row _ HQ.out HSM.out.mid (by omega) _ HE.out HS.out HR.out).mono ?_
  rintro e w10 ⟨vq, rfl, hvq, hb⟩
  have hb2 : Below w9.heap.size w9 w10 := hb
  replace z0 := cellB hb2 z0
  replace c0 := cellB hb2 c0
  replace c1 := cellB hb2 c1
  replace c2 := cellB hb2 c2
  replace c3 := cellB hb2 c3
  replace c4 := cellB hb2 c4
  replace c5 := cellB hb2 c5
  replace c6 := cellB hb2 c6
  replace c7 := cellB hb2 c7
  replace d0 := cellB hb2 d0
  replace d1 := cellB hb2 d1
  replace d2 := cellB hb2 d2
  replace d3 := cellB hb2 d3
  replace d4 := cellB hb2 d4
  replace d5 := cellB hb2 d5
  replace d6 := cellB hb2 d6
  replace d7 := cellB hb2 d7
  replace a0 := cellB hb2 a0
  replace b0 := cellB hb2 b0
  replace HE := Lib.hid (HE.out.below hb2)
  replace HS := Lib.hid (HS.out.below hb2)
  replace HR := Lib.hid (HR.out.below hb2)
  replace HVA := Lib.hid (HVA.out.below hb2)
  replace HVB := Lib.hid (HVB.out.below hb2)
  replace HVP := Lib.hid (HVP.out.below hb2)
  replace HB := Lib.hid (below_up HB.out hb2 HB.out.size)
  clear hb hb2
  obtain ⟨Aq, ce, rfl, _⟩ := hvq.form
  have HVQ := Lib.hid hvq
  clear hvq
  go_wp2_with fail
  go_ret
  exact ⟨rfl, HB.out⟩
set_option maxRecDepth 100000 in
set_option maxHeartbeats 4000000 in
theorem tbl_conv2 (s : List TabT) (v : Value) (c d : ChgT) (raw : UInt8) (row : List T3) (rv : Value) (w : World) (he : L2.Env w) (h : Tabs w v s) (hr : Vals w rv row) (hsm : SmallC s c row) (hsn : SmallC s d row) (ht : ¬ c.table = d.table) (h0 : 0 < s.length) (n : Nat) (hn : (raw.toNat : Int).tmod (s.length : Int) = (n : Int)) (_hns : n < s.length) (s1 s2 s3 : List TabT) (ha : applyT s c = (s1, 0)) (hb2 : applyT s d = (s2, 0)) (hc : applyT s1 d = (s3, 0)) (hd : applyT s2 c = (s3, 0)) (hm1 : Mid s1) (hm2 : Mid s2) (hm3 : Mid s3) (p q : List T3) (j : Int) (hp : convT s c n row = (p, 0)) (hq : convT s d n row = (q, j)) (her : j ≠ 0) :
    Calls Tryz.prog 8 #[.agg #[v], Cv c, Cv d, .int .u8 (raw.toNat : Int), rv] w (fun e w' => e = .returned (.bool true) ∧ Below w.heap.size w w') := by
  have HSM := Lib.hid hsm
  have HSN := Lib.hid hsn
  have t1 : (c.table == d.table) = false := by simpa using ht
  have q1 : ((s.length : Int) == 0) = false := beq_eq_false_iff_ne.2 (by omega)
  have q2 : ¬ (s.length : Int) = 0 := by omega
  have q3 := raw.toNat_lt
  have q4 : (s.length : Int) ≤ 24 := by have := hsm.1.1; omega
  have q5 : (0 : Int) < (s.length : Int) := by omega
  have HA := Lib.hid ha
  have HB2 := Lib.hid hb2
  have HC := Lib.hid hc
  have HD := Lib.hid hd
  have HM1 := Lib.hid hm1
  have HM2 := Lib.hid hm2
  have HM3 := Lib.hid hm3
  have hrl : row.length ≤ 20 := hsm.2.2.2
  have HP := Lib.hid hp
  have HQ := Lib.hid hq
  have q6 : (j != 0) = true := by simpa using her
  clear hsm hsn ht h0 ha hb2 hc hd hm1 hm2 hm3 hp hq her
  obtain ⟨A, cp, rfl, _⟩ := h.form
  obtain ⟨Ar, cr, rfl, _⟩ := hr.form
  have HE := Lib.hid he
  have HS := Lib.hid h
  have HR := Lib.hid hr
  clear he h hr
  go_enter Tryz.func8, Tryz.ntmps8
  go_wp2_with fail
  refine (head_any _ (((HE.out.alloc _).alloc _).alloc _)).mono ?_
  rintro e w1 ⟨rfl, hb⟩
  have hb2 : Below w.heap.size w w1 := below_up (((below_box w _).alloc (by simp) _).alloc (by simp; omega) _) hb (by simp; omega)
  replace HE := Lib.hid (HE.out.below hb2)
  replace HS := Lib.hid (HS.out.below hb2)
  replace HR := Lib.hid (HR.out.below hb2)
  have HB := Lib.hid hb2
  have z0 : w1.cell? ⟨w.heap.size, 0, none⟩ = some (.slice A s.length cp) := cellB hb (by simp [go_sem])
  have c0 : w1.cell? ⟨w.heap.size + 1, 0, none⟩ = some (.int .i64 c.kind) := cellB hb (by simp [go_sem])
  have c1 : w1.cell? ⟨w.heap.size + 1, 1, none⟩ = some (str c.table) := cellB hb (by simp [go_sem])
  have c2 : w1.cell? ⟨w.heap.size + 1, 2, none⟩ = some (str c.attr) := cellB hb (by simp [go_sem])
  have c3 : w1.cell? ⟨w.heap.size + 1, 3, none⟩ = some (str c.name) := cellB hb (by simp [go_sem])
  have c4 : w1.cell? ⟨w.heap.size + 1, 4, none⟩ = some (.int .i64 c.to) := cellB hb (by simp [go_sem])
  have c5 : w1.cell? ⟨w.heap.size + 1, 5, none⟩ = some (.int .i64 c.dft.1) := cellB hb (by simp [go_sem])
  have c6 : w1.cell? ⟨w.heap.size + 1, 6, none⟩ = some (.int .i64 c.dft.2.1) := cellB hb (by simp [go_sem])
  have c7 : w1.cell? ⟨w.heap.size + 1, 7, none⟩ = some (str c.dft.2.2) := cellB hb (by simp [go_sem])
  have d0 : w1.cell? ⟨w.heap.size + 1 + 1, 0, none⟩ = some (.int .i64 d.kind) := cellB hb (by simp [go_sem])
  have d1 : w1.cell? ⟨w.heap.size + 1 + 1, 1, none⟩ = some (str d.table) := cellB hb (by simp [go_sem])
  have d2 : w1.cell? ⟨w.heap.size + 1 + 1, 2, none⟩ = some (str d.attr) := cellB hb (by simp [go_sem])
  have d3 : w1.cell? ⟨w.heap.size + 1 + 1, 3, none⟩ = some (str d.name) := cellB hb (by simp [go_sem])
  have d4 : w1.cell? ⟨w.heap.size + 1 + 1, 4, none⟩ = some (.int .i64 d.to) := cellB hb (by simp [go_sem])
  have d5 : w1.cell? ⟨w.heap.size + 1 + 1, 5, none⟩ = some (.int .i64 d.dft.1) := cellB hb (by simp [go_sem])
  have d6 : w1.cell? ⟨w.heap.size + 1 + 1, 6, none⟩ = some (.int .i64 d.dft.2.1) := cellB hb (by simp [go_sem])
  have d7 : w1.cell? ⟨w.heap.size + 1 + 1, 7, none⟩ = some (str d.dft.2.2) := cellB hb (by simp [go_sem])
  clear hb hb2
  go_wp2_with fail
  refine (smallC_is s _ _ c row HSM.out _ HS.out ⟨_, _, rfl⟩).mono ?_
  rintro e w2 ⟨rfl, hb⟩
  have hb2 : Below w1.heap.size w1 w2 := hb
  replace z0 := cellB hb2 z0
  replace c0 := cellB hb2 c0
  replace c1 := cellB hb2 c1
  replace c2 := cellB hb2 c2
  replace c3 := cellB hb2 c3
  replace c4 := cellB hb2 c4
  replace c5 := cellB hb2 c5
  replace c6 := cellB hb2 c6
  replace c7 := cellB hb2 c7
  replace d0 := cellB hb2 d0
  replace d1 := cellB hb2 d1
  replace d2 := cellB hb2 d2
  replace d3 := cellB hb2 d3
  replace d4 := cellB hb2 d4
  replace d5 := cellB hb2 d5
  replace d6 := cellB hb2 d6
  replace d7 := cellB hb2 d7
  replace HE := Lib.hid (HE.out.below hb2)
  replace HS := Lib.hid (HS.out.below hb2)
  replace HR := Lib.hid (HR.out.below hb2)
  replace HB := Lib.hid (below_up HB.out hb2 HB.out.size)
  clear hb hb2
  go_wp2_with fail
  refine (smallC_is s _ _ d row HSN.out _ HS.out ⟨_, _, rfl⟩).mono ?_
  rintro e w3 ⟨rfl, hb⟩
  have hb2 : Below w2.heap.size w2 w3 := hb
  replace z0 := cellB hb2 z0
  replace c0 := cellB hb2 c0
  replace c1 := cellB hb2 c1
  replace c2 := cellB hb2 c2
  replace c3 := cellB hb2 c3
  replace c4 := cellB hb2 c4
  replace c5 := cellB hb2 c5
  replace c6 := cellB hb2 c6
  replace c7 := cellB hb2 c7
  replace d0 := cellB hb2 d0
  replace d1 := cellB hb2 d1
  replace d2 := cellB hb2 d2
  replace d3 := cellB hb2 d3
  replace d4 := cellB hb2 d4
  replace d5 := cellB hb2 d5
  replace d6 := cellB hb2 d6
  replace d7 := cellB hb2 d7
  replace HE := Lib.hid (HE.out.below hb2)
  replace HS := Lib.hid (HS.out.below hb2)
  replace HR := Lib.hid (HR.out.below hb2)
  replace HB := Lib.hid (below_up HB.out hb2 HB.out.size)
  clear hb hb2
  go_wp2_with fail
  refine (apply_is s _ c _ HA.out HSM.out.mid _ HS.out).mono ?_
  rintro e w4 ⟨va, rfl, hva, hb⟩
  have hb2 : Below w3.heap.size w3 w4 := hb
  replace z0 := cellB hb2 z0
  replace c0 := cellB hb2 c0
  replace c1 := cellB hb2 c1
  replace c2 := cellB hb2 c2
  replace c3 := cellB hb2 c3
  replace c4 := cellB hb2 c4
  replace c5 := cellB hb2 c5
  replace c6 := cellB hb2 c6
  replace c7 := cellB hb2 c7
  replace d0 := cellB hb2 d0
  replace d1 := cellB hb2 d1
  replace d2 := cellB hb2 d2
  replace d3 := cellB hb2 d3
  replace d4 := cellB hb2 d4
  replace d5 := cellB hb2 d5
  replace d6 := cellB hb2 d6
  replace d7 := cellB hb2 d7
  replace HE := Lib.hid (HE.out.below hb2)
  replace HS := Lib.hid (HS.out.below hb2)
  replace HR := Lib.hid (HR.out.below hb2)
  replace HB := Lib.hid (below_up HB.out hb2 HB.out.size)
  clear hb hb2
  obtain ⟨Aa, ca, rfl, _⟩ := hva.form
  have HVA := Lib.hid hva
  clear hva
  have yz0 := fun o => Cell.alloc z0 o
  have yc0 := fun o => Cell.alloc c0 o
  have yc1 := fun o => Cell.alloc c1 o
  have yc2 := fun o => Cell.alloc c2 o
  have yc3 := fun o => Cell.alloc c3 o
  have yc4 := fun o => Cell.alloc c4 o
  have yc5 := fun o => Cell.alloc c5 o
  have yc6 := fun o => Cell.alloc c6 o
  have yc7 := fun o => Cell.alloc c7 o
  have yd0 := fun o => Cell.alloc d0 o
  have yd1 := fun o => Cell.alloc d1 o
  have yd2 := fun o => Cell.alloc d2 o
  have yd3 := fun o => Cell.alloc d3 o
  have yd4 := fun o => Cell.alloc d4 o
  have yd5 := fun o => Cell.alloc d5 o
  have yd6 := fun o => Cell.alloc d6 o
  have yd7 := fun o => Cell.alloc d7 o
  go_wp2_with fail
  refine (apply_is s _ d _ HB2.out HSM.out.mid _ (HS.out.below (below_box w4 _))).mono ?_
  rintro e w5 ⟨vb, rfl, hvb, hb⟩
  have hb2 : Below w4.heap.size w4 w5 := below_up (below_box w4 _) hb (by simp)
  replace z0 := cellB hb2 z0
  replace c0 := cellB hb2 c0
  replace c1 := cellB hb2 c1
  replace c2 := cellB hb2 c2
  replace c3 := cellB hb2 c3
  replace c4 := cellB hb2 c4
  replace c5 := cellB hb2 c5
  replace c6 := cellB hb2 c6
  replace c7 := cellB hb2 c7
  replace d0 := cellB hb2 d0
  replace d1 := cellB hb2 d1
  replace d2 := cellB hb2 d2
  replace d3 := cellB hb2 d3
  replace d4 := cellB hb2 d4
  replace d5 := cellB hb2 d5
  replace d6 := cellB hb2 d6
  replace d7 := cellB hb2 d7
  replace HE := Lib.hid (HE.out.below hb2)
  replace HS := Lib.hid (HS.out.below hb2)
  replace HR := Lib.hid (HR.out.below hb2)
  replace HVA := Lib.hid (HVA.out.below hb2)
  replace HB := Lib.hid (below_up HB.out hb2 HB.out.size)
  have a0 : w5.cell? ⟨w4.heap.size, 0, none⟩ = some (.slice Aa s1.length ca) := cellB hb (by simp [go_sem])
  clear hb hb2 yz0 yc0 yc1 yc2 yc3 yc4 yc5 yc6 yc7 yd0 yd1 yd2 yd3 yd4 yd5 yd6 yd7
  obtain ⟨Ab, cb, rfl, _⟩ := hvb.form
  have HVB := Lib.hid hvb
  clear hvb
  have yz0 := fun o => Cell.alloc z0 o
  have yc0 := fun o => Cell.alloc c0 o
  have yc1 := fun o => Cell.alloc c1 o
  have yc2 := fun o => Cell.alloc c2 o
  have yc3 := fun o => Cell.alloc c3 o
  have yc4 := fun o => Cell.alloc c4 o
  have yc5 := fun o => Cell.alloc c5 o
  have yc6 := fun o => Cell.alloc c6 o
  have yc7 := fun o => Cell.alloc c7 o
  have yd0 := fun o => Cell.alloc d0 o
  have yd1 := fun o => Cell.alloc d1 o
  have yd2 := fun o => Cell.alloc d2 o
  have yd3 := fun o => Cell.alloc d3 o
  have yd4 := fun o => Cell.alloc d4 o
  have yd5 := fun o => Cell.alloc d5 o
  have yd6 := fun o => Cell.alloc d6 o
  have yd7 := fun o => Cell.alloc d7 o
  have ya0 := fun o => Cell.alloc a0 o
  go_wp2_with fail
  refine (apply_is s1 _ d _ HC.out HM1.out _ (HVA.out.below (below_box w5 _))).mono ?_
  rintro e w6 ⟨vc, rfl, hvc, hb⟩
  have hb2 : Below w5.heap.size w5 w6 := below_up (below_box w5 _) hb (by simp)
  replace z0 := cellB hb2 z0
  replace c0 := cellB hb2 c0
  replace c1 := cellB hb2 c1
  replace c2 := cellB hb2 c2
  replace c3 := cellB hb2 c3
  replace c4 := cellB hb2 c4
  replace c5 := cellB hb2 c5
  replace c6 := cellB hb2 c6
  replace c7 := cellB hb2 c7
  replace d0 := cellB hb2 d0
  replace d1 := cellB hb2 d1
  replace d2 := cellB hb2 d2
  replace d3 := cellB hb2 d3
  replace d4 := cellB hb2 d4
  replace d5 := cellB hb2 d5
  replace d6 := cellB hb2 d6
  replace d7 := cellB hb2 d7
  replace a0 := cellB hb2 a0
  replace HE := Lib.hid (HE.out.below hb2)
  replace HS := Lib.hid (HS.out.below hb2)
  replace HR := Lib.hid (HR.out.below hb2)
  replace HVA := Lib.hid (HVA.out.below hb2)
  replace HVB := Lib.hid (HVB.out.below hb2)
  replace HB := Lib.hid (below_up HB.out hb2 HB.out.size)
  have b0 : w6.cell? ⟨w5.heap.size, 0, none⟩ = some (.slice Ab s2.length cb) := cellB hb (by simp [go_sem])
  clear hb hb2 yz0 yc0 yc1 yc2 yc3 yc4 yc5 yc6 yc7 yd0 yd1 yd2 yd3 yd4 yd5 yd6 yd7 ya0
  obtain ⟨Ac, cc, rfl, _⟩ := hvc.form
  have HVC := Lib.hid hvc
  clear hvc
  have yz0 := fun o => Cell.alloc z0 o
  have yc0 := fun o => Cell.alloc c0 o
  have yc1 := fun o => Cell.alloc c1 o
  have yc2 := fun o => Cell.alloc c2 o
  have yc3 := fun o => Cell.alloc c3 o
  have yc4 := fun o => Cell.alloc c4 o
  have yc5 := fun o => Cell.alloc c5 o
  have yc6 := fun o => Cell.alloc c6 o
  have yc7 := fun o => Cell.alloc c7 o
  have yd0 := fun o => Cell.alloc d0 o
  have yd1 := fun o => Cell.alloc d1 o
  have yd2 := fun o => Cell.alloc d2 o
  have yd3 := fun o => Cell.alloc d3 o
  have yd4 := fun o => Cell.alloc d4 o
  have yd5 := fun o => Cell.alloc d5 o
  have yd6 := fun o => Cell.alloc d6 o
  have yd7 := fun o => Cell.alloc d7 o
  have ya0 := fun o => Cell.alloc a0 o
  have yb0 := fun o => Cell.alloc b0 o
  go_wp2_with fail
  refine (apply_is s2 _ c _ HD.out HM2.out _ (HVB.out.below (below_box w6 _))).mono ?_
  rintro e w7 ⟨vd, rfl, hvd, hb⟩
  have hb2 : Below w6.heap.size w6 w7 := below_up (below_box w6 _) hb (by simp)
  replace z0 := cellB hb2 z0
  replace c0 := cellB hb2 c0
  replace c1 := cellB hb2 c1
  replace c2 := cellB hb2 c2
  replace c3 := cellB hb2 c3
  replace c4 := cellB hb2 c4
  replace c5 := cellB hb2 c5
  replace c6 := cellB hb2 c6
  replace c7 := cellB hb2 c7
  replace d0 := cellB hb2 d0
  replace d1 := cellB hb2 d1
  replace d2 := cellB hb2 d2
  replace d3 := cellB hb2 d3
  replace d4 := cellB hb2 d4
  replace d5 := cellB hb2 d5
  replace d6 := cellB hb2 d6
  replace d7 := cellB hb2 d7
  replace a0 := cellB hb2 a0
  replace b0 := cellB hb2 b0
  replace HE := Lib.hid (HE.out.below hb2)
  replace HS := Lib.hid (HS.out.below hb2)
  replace HR := Lib.hid (HR.out.below hb2)
  replace HVA := Lib.hid (HVA.out.below hb2)
  replace HVB := Lib.hid (HVB.out.below hb2)
  replace HVC := Lib.hid (HVC.out.below hb2)
  replace HB := Lib.hid (below_up HB.out hb2 HB.out.size)
  have x0 : w7.cell? ⟨w6.heap.size, 0, none⟩ = some (.slice Ac s3.length cc) := cellB hb (by simp [go_sem])
  clear hb hb2 yz0 yc0 yc1 yc2 yc3 yc4 yc5 yc6 yc7 yd0 yd1 yd2 yd3 yd4 yd5 yd6 yd7 ya0 yb0
  obtain ⟨Ad, cd, rfl, _⟩ := hvd.form
  have HVD := Lib.hid hvd
  clear hvd
  have yz0 := fun o => Cell.alloc z0 o
  have yc0 := fun o => Cell.alloc c0 o
  have yc1 := fun o => Cell.alloc c1 o
  have yc2 := fun o => Cell.alloc c2 o
  have yc3 := fun o => Cell.alloc c3 o
  have yc4 := fun o => Cell.alloc c4 o
  have yc5 := fun o => Cell.alloc c5 o
  have yc6 := fun o => Cell.alloc c6 o
  have yc7 := fun o => Cell.alloc c7 o
  have yd0 := fun o => Cell.alloc d0 o
  have yd1 := fun o => Cell.alloc d1 o
  have yd2 := fun o => Cell.alloc d2 o
  have yd3 := fun o => Cell.alloc d3 o
  have yd4 := fun o => Cell.alloc d4 o
  have yd5 := fun o => Cell.alloc d5 o
  have yd6 := fun o => Cell.alloc d6 o
  have yd7 := fun o => Cell.alloc d7 o
  have ya0 := fun o => Cell.alloc a0 o
  have yb0 := fun o => Cell.alloc b0 o
  have yx0 := fun o => Cell.alloc x0 o
  go_wp2_with fail
  refine (same_is s3 s3 _ _ true (decide_eq_true rfl) HM3.out _ (HVC.out.below (below_box w7 _)) (HVD.out.below (below_box w7 _))).mono ?_
  rintro e w8 ⟨rfl, hb⟩
  have hb2 : Below w7.heap.size w7 w8 := below_up (below_box w7 _) hb (by simp)
  clear x0
  replace z0 := cellB hb2 z0
  replace c0 := cellB hb2 c0
  replace c1 := cellB hb2 c1
  replace c2 := cellB hb2 c2
  replace c3 := cellB hb2 c3
  replace c4 := cellB hb2 c4
  replace c5 := cellB hb2 c5
  replace c6 := cellB hb2 c6
  replace c7 := cellB hb2 c7
  replace d0 := cellB hb2 d0
  replace d1 := cellB hb2 d1
  replace d2 := cellB hb2 d2
  replace d3 := cellB hb2 d3
  replace d4 := cellB hb2 d4
  replace d5 := cellB hb2 d5
  replace d6 := cellB hb2 d6
  replace d7 := cellB hb2 d7
  replace a0 := cellB hb2 a0
  replace b0 := cellB hb2 b0
  replace HE := Lib.hid (HE.out.below hb2)
  replace HS := Lib.hid (HS.out.below hb2)
  replace HR := Lib.hid (HR.out.below hb2)
  replace HVA := Lib.hid (HVA.out.below hb2)
  replace HVB := Lib.hid (HVB.out.below hb2)
  replace HVC := Lib.hid (HVC.out.below hb2)
  replace HVD := Lib.hid (HVD.out.below hb2)
  replace HB := Lib.hid (below_up HB.out hb2 HB.out.size)
  clear hb hb2 yz0 yc0 yc1 yc2 yc3 yc4 yc5 yc6 yc7 yd0 yd1 yd2 yd3 yd4 yd5 yd6 yd7 ya0 yb0 yx0
  clear HVC
  clear HVD
  go_wp2_with fail
  refine (convert_is s _ _ c (n : Int) row _ HP.out HSM.out.mid (by omega) _ HE.out HS.out HR.out).mono ?_
  rintro e w9 ⟨vp, rfl, hvp, hb⟩
  have hb2 : Below w8.heap.size w8 w9 := hb
  replace z0 := cellB hb2 z0
  replace c0 := cellB hb2 c0
  replace c1 := cellB hb2 c1
  replace c2 := cellB hb2 c2
  replace c3 := cellB hb2 c3
  replace c4 := cellB hb2 c4
  replace c5 := cellB hb2 c5
  replace c6 := cellB hb2 c6
  replace c7 := cellB hb2 c7
  replace d0 := cellB hb2 d0
  replace d1 := cellB hb2 d1
  replace d2 := cellB hb2 d2
  replace d3 := cellB hb2 d3
  replace d4 := cellB hb2 d4
  replace d5 := cellB hb2 d5
  replace d6 := cellB hb2 d6
  replace d7 := cellB hb2 d7
  replace a0 := cellB hb2 a0
  replace b0 := cellB hb2 b0
  replace HE := Lib.hid (HE.out.below hb2)
  replace HS := Lib.hid (HS.out.below hb2)
  replace HR := Lib.hid (HR.out.below hb2)
  replace HVA := Lib.hid (HVA.out.below hb2)
  replace HVB := Lib.hid (HVB.out.below hb2)
  replace HB := Lib.hid (below_up HB.out hb2 HB.out.size)
  clear hb hb2
  obtain ⟨Ap, cq, rfl, _⟩ := hvp.form
  have HVP := Lib.hid hvp
  clear hvp
  go_wp2_with fail
  refine (convert_is s _ _ d (n : Int) row _ HQ.out HSM.out.mid (by omega) _ HE.out HS.out HR.out).mono ?_
  rintro e w10 ⟨vq, rfl, hvq, hb⟩
  have hb2 : Below w9.heap.size w9 w10 := hb
  replace z0 := cellB hb2 z0
  replace c0 := cellB hb2 c0
  replace c1 := cellB hb2 c1
  replace c2 := cellB hb2 c2
  replace c3 := cellB hb2 c3
  replace c4 := cellB hb2 c4
  replace c5 := cellB hb2 c5
  replace c6 := cellB hb2 c6
  replace c7 := cellB hb2 c7
  replace d0 := cellB hb2 d0
  replace d1 := cellB hb2 d1
  replace d2 := cellB hb2 d2
  replace d3 := cellB hb2 d3
  replace d4 := cellB hb2 d4
  replace d5 := cellB hb2 d5
  replace d6 := cellB hb2 d6
  replace d7 := cellB hb2 d7
  replace a0 := cellB hb2 a0
  replace b0 := cellB hb2 b0
  replace HE := Lib.hid (HE.out.below hb2)
  replace HS := Lib.hid (HS.out.below hb2)
  replace HR := Lib.hid (HR.out.below hb2)
  replace HVA := Lib.hid (HVA.out.below hb2)
  replace HVB := Lib.hid (HVB.out.below hb2)
  replace HVP := Lib.hid (HVP.out.below hb2)
  replace HB := Lib.hid (below_up HB.out hb2 HB.out.size)
  clear hb hb2
  obtain ⟨Aq, ce, rfl, _⟩ := hvq.form
  have HVQ := Lib.hid hvq
  clear hvq
  go_wp2_with fail
  go_ret
  exact ⟨rfl, HB.out⟩
set_option maxRecDepth 100000 in
set_option maxHeartbeats 4000000 in
theorem tbl_all (s : List TabT) (v : Value) (c d : ChgT) (raw : UInt8) (row : List T3) (rv : Value) (w : World) (he : L2.Env w) (h : Tabs w v s) (hr : Vals w rv row) (hsm : SmallC s c row) (hsn : SmallC s d row) (ht : ¬ c.table = d.table) (h0 : 0 < s.length) (n : Nat) (hn : (raw.toNat : Int).tmod (s.length : Int) = (n : Int)) (_hns : n < s.length) (s1 s2 s3 : List TabT) (ha : applyT s c = (s1, 0)) (hb2 : applyT s d = (s2, 0)) (hc : applyT s1 d = (s3, 0)) (hd : applyT s2 c = (s3, 0)) (hm1 : Mid s1) (hm2 : Mid s2) (hm3 : Mid s3) (p q u : List T3) (hp : convT s c n row = (p, 0)) (hq : convT s d n row = (q, 0)) (hu : convT s1 d n p = (u, 0)) (hv : convT s2 c n q = (u, 0)) :
    Calls Tryz.prog 8 #[.agg #[v], Cv c, Cv d, .int .u8 (raw.toNat : Int), rv] w (fun e w' => e = .returned (.bool true) ∧ Below w.heap.size w w') := by
  have HSM := Lib.hid hsm
  have HSN := Lib.hid hsn
  have t1 : (c.table == d.table) = false := by simpa using ht
  have q1 : ((s.length : Int) == 0) = false := beq_eq_false_iff_ne.2 (by omega)
  have q2 : ¬ (s.length : Int) = 0 := by omega
  have q3 := raw.toNat_lt
  have q4 : (s.length : Int) ≤ 24 := by have := hsm.1.1; omega
  have q5 : (0 : Int) < (s.length : Int) := by omega
  have HA := Lib.hid ha
  have HB2 := Lib.hid hb2
  have HC := Lib.hid hc
  have HD := Lib.hid hd
  have HM1 := Lib.hid hm1
  have HM2 := Lib.hid hm2
  have HM3 := Lib.hid hm3
  have hrl : row.length ≤ 20 := hsm.2.2.2
  have HP := Lib.hid hp
  have HQ := Lib.hid hq
  have HU := Lib.hid hu
  have HV := Lib.hid hv
  have hpl : p.length ≤ 21 := by have := conv_len hp; omega
  have hql : q.length ≤ 21 := by have := conv_len hq; omega
  have hul : u.length ≤ 22 := by have := conv_len hu; omega
  clear hsm hsn ht h0 ha hb2 hc hd hm1 hm2 hm3 hp hq hu hv
  obtain ⟨A, cp, rfl, _⟩ := h.form
  obtain ⟨Ar, cr, rfl, _⟩ := hr.form
  have HE := Lib.hid he
  have HS := Lib.hid h
  have HR := Lib.hid hr
  clear he h hr
  go_enter Tryz.func8, Tryz.ntmps8
  go_wp2_with fail
  refine (head_any _ (((HE.out.alloc _).alloc _).alloc _)).mono ?_
  rintro e w1 ⟨rfl, hb⟩
  have hb2 : Below w.heap.size w w1 := below_up (((below_box w _).alloc (by simp) _).alloc (by simp; omega) _) hb (by simp; omega)
  replace HE := Lib.hid (HE.out.below hb2)
  replace HS := Lib.hid (HS.out.below hb2)
  replace HR := Lib.hid (HR.out.below hb2)
  have HB := Lib.hid hb2
  have z0 : w1.cell? ⟨w.heap.size, 0, none⟩ = some (.slice A s.length cp) := cellB hb (by simp [go_sem])
  have c0 : w1.cell? ⟨w.heap.size + 1, 0, none⟩ = some (.int .i64 c.kind) := cellB hb (by simp [go_sem])
  have c1 : w1.cell? ⟨w.heap.size + 1, 1, none⟩ = some (str c.table) := cellB hb (by simp [go_sem])
  have c2 : w1.cell? ⟨w.heap.size + 1, 2, none⟩ = some (str c.attr) := cellB hb (by simp [go_sem])
  have c3 : w1.cell? ⟨w.heap.size + 1, 3, none⟩ = some (str c.name) := cellB hb (by simp [go_sem])
  have c4 : w1.cell? ⟨w.heap.size + 1, 4, none⟩ = some (.int .i64 c.to) := cellB hb (by simp [go_sem])
  have c5 : w1.cell? ⟨w.heap.size + 1, 5, none⟩ = some (.int .i64 c.dft.1) := cellB hb (by simp [go_sem])
  have c6 : w1.cell? ⟨w.heap.size + 1, 6, none⟩ = some (.int .i64 c.dft.2.1) := cellB hb (by simp [go_sem])
  have c7 : w1.cell? ⟨w.heap.size + 1, 7, none⟩ = some (str c.dft.2.2) := cellB hb (by simp [go_sem])
  have d0 : w1.cell? ⟨w.heap.size + 1 + 1, 0, none⟩ = some (.int .i64 d.kind) := cellB hb (by simp [go_sem])
  have d1 : w1.cell? ⟨w.heap.size + 1 + 1, 1, none⟩ = some (str d.table) := cellB hb (by simp [go_sem])
  have d2 : w1.cell? ⟨w.heap.size + 1 + 1, 2, none⟩ = some (str d.attr) := cellB hb (by simp [go_sem])
  have d3 : w1.cell? ⟨w.heap.size + 1 + 1, 3, none⟩ = some (str d.name) := cellB hb (by simp [go_sem])
  have d4 : w1.cell? ⟨w.heap.size + 1 + 1, 4, none⟩ = some (.int .i64 d.to) := cellB hb (by simp [go_sem])
  have d5 : w1.cell? ⟨w.heap.size + 1 + 1, 5, none⟩ = some (.int .i64 d.dft.1) := cellB hb (by simp [go_sem])
  have d6 : w1.cell? ⟨w.heap.size + 1 + 1, 6, none⟩ = some (.int .i64 d.dft.2.1) := cellB hb (by simp [go_sem])
  have d7 : w1.cell? ⟨w.heap.size + 1 + 1, 7, none⟩ = some (str d.dft.2.2) := cellB hb (by simp [go_sem])
  clear hb hb2
  go_wp2_with fail
  refine (smallC_is s _ _ c row HSM.out _ HS.out ⟨_, _, rfl⟩).mono ?_
  rintro e w2 ⟨rfl, hb⟩
  have hb2 : Below w1.heap.size w1 w2 := hb
  replace z0 := cellB hb2 z0
  replace c0 := cellB hb2 c0
  replace c1 := cellB hb2 c1
  replace c2 := cellB hb2 c2
  replace c3 := cellB hb2 c3
  replace c4 := cellB hb2 c4
  replace c5 := cellB hb2 c5
  replace c6 := cellB hb2 c6
  replace c7 := cellB hb2 c7
  replace d0 := cellB hb2 d0
  replace d1 := cellB hb2 d1
  replace d2 := cellB hb2 d2
  replace d3 := cellB hb2 d3
  replace d4 := cellB hb2 d4
  replace d5 := cellB hb2 d5
  replace d6 := cellB hb2 d6
  replace d7 := cellB hb2 d7
  replace HE := Lib.hid (HE.out.below hb2)
  replace HS := Lib.hid (HS.out.below hb2)
  replace HR := Lib.hid (HR.out.below hb2)
  replace HB := Lib.hid (below_up HB.out hb2 HB.out.size)
  clear hb hb2
  go_wp2_with fail
  refine (smallC_is s _ _ d row HSN.out _ HS.out ⟨_, _, rfl⟩).mono ?_
  rintro e w3 ⟨rfl, hb⟩
  have hb2 : Below w2.heap.size w2 w3 := hb
  replace z0 := cellB hb2 z0
  replace c0 := cellB hb2 c0
  replace c1 := cellB hb2 c1
  replace c2 := cellB hb2 c2
  replace c3 := cellB hb2 c3
  replace c4 := cellB hb2 c4
  replace c5 := cellB hb2 c5
  replace c6 := cellB hb2 c6
  replace c7 := cellB hb2 c7
  replace d0 := cellB hb2 d0
  replace d1 := cellB hb2 d1
  replace d2 := cellB hb2 d2
  replace d3 := cellB hb2 d3
  replace d4 := cellB hb2 d4
  replace d5 := cellB hb2 d5
  replace d6 := cellB hb2 d6
  replace d7 := cellB hb2 d7
  replace HE := Lib.hid (HE.out.below hb2)
  replace HS := Lib.hid (HS.out.below hb2)
  replace HR := Lib.hid (HR.out.below hb2)
  replace HB := Lib.hid (below_up HB.out hb2 HB.out.size)
  clear hb hb2
  go_wp2_with fail
  refine (apply_is s _ c _ HA.out HSM.out.mid _ HS.out).mono ?_
  rintro e w4 ⟨va, rfl, hva, hb⟩
  have hb2 : Below w3.heap.size w3 w4 := hb
  replace z0 := cellB hb2 z0
  replace c0 := cellB hb2 c0
  replace c1 := cellB hb2 c1
  replace c2 := cellB hb2 c2
  replace c3 := cellB hb2 c3
  replace c4 := cellB hb2 c4
  replace c5 := cellB hb2 c5
  replace c6 := cellB hb2 c6
  replace c7 := cellB hb2 c7
  replace d0 := cellB hb2 d0
  replace d1 := cellB hb2 d1
  replace d2 := cellB hb2 d2
  replace d3 := cellB hb2 d3
  replace d4 := cellB hb2 d4
  replace d5 := cellB hb2 d5
  replace d6 := cellB hb2 d6
  replace d7 := cellB hb2 d7
  replace HE := Lib.hid (HE.out.below hb2)
  replace HS := Lib.hid (HS.out.below hb2)
  replace HR := Lib.hid (HR.out.below hb2)
  replace HB := Lib.hid (below_up HB.out hb2 HB.out.size)
  clear hb hb2
  obtain ⟨Aa, ca, rfl, _⟩ := hva.form
  have HVA := Lib.hid hva
  clear hva
  have yz0 := fun o => Cell.alloc z0 o
  have yc0 := fun o => Cell.alloc c0 o
  have yc1 := fun o => Cell.alloc c1 o
  have yc2 := fun o => Cell.alloc c2 o
  have yc3 := fun o => Cell.alloc c3 o
  have yc4 := fun o => Cell.alloc c4 o
  have yc5 := fun o => Cell.alloc c5 o
  have yc6 := fun o => Cell.alloc c6 o
  have yc7 := fun o => Cell.alloc c7 o
  have yd0 := fun o => Cell.alloc d0 o
  have yd1 := fun o => Cell.alloc d1 o
  have yd2 := fun o => Cell.alloc d2 o
  have yd3 := fun o => Cell.alloc d3 o
  have yd4 := fun o => Cell.alloc d4 o
  have yd5 := fun o => Cell.alloc d5 o
  have yd6 := fun o => Cell.alloc d6 o
  have yd7 := fun o => Cell.alloc d7 o
  go_wp2_with fail
  refine (apply_is s _ d _ HB2.out HSM.out.mid _ (HS.out.below (below_box w4 _))).mono ?_
  rintro e w5 ⟨vb, rfl, hvb, hb⟩
  have hb2 : Below w4.heap.size w4 w5 := below_up (below_box w4 _) hb (by simp)
  replace z0 := cellB hb2 z0
  replace c0 := cellB hb2 c0
  replace c1 := cellB hb2 c1
  replace c2 := cellB hb2 c2
  replace c3 := cellB hb2 c3
  replace c4 := cellB hb2 c4
  replace c5 := cellB hb2 c5
  replace c6 := cellB hb2 c6
  replace c7 := cellB hb2 c7
  replace d0 := cellB hb2 d0
  replace d1 := cellB hb2 d1
  replace d2 := cellB hb2 d2
  replace d3 := cellB hb2 d3
  replace d4 := cellB hb2 d4
  replace d5 := cellB hb2 d5
  replace d6 := cellB hb2 d6
  replace d7 := cellB hb2 d7
  replace HE := Lib.hid (HE.out.below hb2)
  replace HS := Lib.hid (HS.out.below hb2)
  replace HR := Lib.hid (HR.out.below hb2)
  replace HVA := Lib.hid (HVA.out.below hb2)
  replace HB := Lib.hid (below_up HB.out hb2 HB.out.size)
  have a0 : w5.cell? ⟨w4.heap.size, 0, none⟩ = some (.slice Aa s1.length ca) := cellB hb (by simp [go_sem])
  clear hb hb2 yz0 yc0 yc1 yc2 yc3 yc4 yc5 yc6 yc7 yd0 yd1 yd2 yd3 yd4 yd5 yd6 yd7
  obtain ⟨Ab, cb, rfl, _⟩ := hvb.form
  have HVB := Lib.hid hvb
  clear hvb
  have yz0 := fun o => Cell.alloc z0 o
  have yc0 := fun o => Cell.alloc c0 o
  have yc1 := fun o => Cell.alloc c1 o
  have yc2 := fun o => Cell.alloc c2 o
  have yc3 := fun o => Cell.alloc c3 o
  have yc4 := fun o => Cell.alloc c4 o
  have yc5 := fun o => Cell.alloc c5 o
  have yc6 := fun o => Cell.alloc c6 o
  have yc7 := fun o => Cell.alloc c7 o
  have yd0 := fun o => Cell.alloc d0 o
  have yd1 := fun o => Cell.alloc d1 o
  have yd2 := fun o => Cell.alloc d2 o
  have yd3 := fun o => Cell.alloc d3 o
  have yd4 := fun o => Cell.alloc d4 o
  have yd5 := fun o => Cell.alloc d5 o
  have yd6 := fun o => Cell.alloc d6 o
  have yd7 := fun o => Cell.alloc d7 o
  have ya0 := fun o => Cell.alloc a0 o
  go_wp2_with fail
  refine (apply_is s1 _ d _ HC.out HM1.out _ (HVA.out.below (below_box w5 _))).mono ?_
  rintro e w6 ⟨vc, rfl, hvc, hb⟩
  have hb2 : Below w5.heap.size w5 w6 := below_up (below_box w5 _) hb (by simp)
  replace z0 := cellB hb2 z0
  replace c0 := cellB hb2 c0
  replace c1 := cellB hb2 c1
  replace c2 := cellB hb2 c2
  replace c3 := cellB hb2 c3
  replace c4 := cellB hb2 c4
  replace c5 := cellB hb2 c5
  replace c6 := cellB hb2 c6
  replace c7 := cellB hb2 c7
  replace d0 := cellB hb2 d0
  replace d1 := cellB hb2 d1
  replace d2 := cellB hb2 d2
  replace d3 := cellB hb2 d3
  replace d4 := cellB hb2 d4
  replace d5 := cellB hb2 d5
  replace d6 := cellB hb2 d6
  replace d7 := cellB hb2 d7
  replace a0 := cellB hb2 a0
  replace HE := Lib.hid (HE.out.below hb2)
  replace HS := Lib.hid (HS.out.below hb2)
  replace HR := Lib.hid (HR.out.below hb2)
  replace HVA := Lib.hid (HVA.out.below hb2)
  replace HVB := Lib.hid (HVB.out.below hb2)
  replace HB := Lib.hid (below_up HB.out hb2 HB.out.size)
  have b0 : w6.cell? ⟨w5.heap.size, 0, none⟩ = some (.slice Ab s2.length cb) := cellB hb (by simp [go_sem])
  clear hb hb2 yz0 yc0 yc1 yc2 yc3 yc4 yc5 yc6 yc7 yd0 yd1 yd2 yd3 yd4 yd5 yd6 yd7 ya0
  obtain ⟨Ac, cc, rfl, _⟩ := hvc.form
  have HVC := Lib.hid hvc
  clear hvc
  have yz0 := fun o => Cell.alloc z0 o
  have yc0 := fun o => Cell.alloc c0 o
  have yc1 := fun o => Cell.alloc c1 o
  have yc2 := fun o => Cell.alloc c2 o
  have yc3 := fun o => Cell.alloc c3 o
  have yc4 := fun o => Cell.alloc c4 o
  have yc5 := fun o => Cell.alloc c5 o
  have yc6 := fun o => Cell.alloc c6 o
  have yc7 := fun o => Cell.alloc c7 o
  have yd0 := fun o => Cell.alloc d0 o
  have yd1 := fun o => Cell.alloc d1 o
  have yd2 := fun o => Cell.alloc d2 o
  have yd3 := fun o => Cell.alloc d3 o
  have yd4 := fun o => Cell.alloc d4 o
  have yd5 := fun o => Cell.alloc d5 o
  have yd6 := fun o => Cell.alloc d6 o
  have yd7 := fun o => Cell.alloc d7 o
  have ya0 := fun o => Cell.alloc a0 o
  have yb0 := fun o => Cell.alloc b0 o
  go_wp2_with fail
  refine (apply_is s2 _ c _ HD.out HM2.out _ (HVB.out.below (below_box w6 _))).mono ?_
  rintro e w7 ⟨vd, rfl, hvd, hb⟩
  have hb2 : Below w6.heap.size w6 w7 := below_up (below_box w6 _) hb (by simp)
  replace z0 := cellB hb2 z0
  replace c0 := cellB hb2 c0
  replace c1 := cellB hb2 c1
  replace c2 := cellB hb2 c2
  replace c3 := cellB hb2 c3
  replace c4 := cellB hb2 c4
  replace c5 := cellB hb2 c5
  replace c6 := cellB hb2 c6
  replace c7 := cellB hb2 c7
  replace d0 := cellB hb2 d0
  replace d1 := cellB hb2 d1
  replace d2 := cellB hb2 d2
  replace d3 := cellB hb2 d3
  replace d4 := cellB hb2 d4
  replace d5 := cellB hb2 d5
  replace d6 := cellB hb2 d6
  replace d7 := cellB hb2 d7
  replace a0 := cellB hb2 a0
  replace b0 := cellB hb2 b0
  replace HE := Lib.hid (HE.out.below hb2)
  replace HS := Lib.hid (HS.out.below hb2)
  replace HR := Lib.hid (HR.out.below hb2)
  replace HVA := Lib.hid (HVA.out.below hb2)
  replace HVB := Lib.hid (HVB.out.below hb2)
  replace HVC := Lib.hid (HVC.out.below hb2)
  replace HB := Lib.hid (below_up HB.out hb2 HB.out.size)
  have x0 : w7.cell? ⟨w6.heap.size, 0, none⟩ = some (.slice Ac s3.length cc) := cellB hb (by simp [go_sem])
  clear hb hb2 yz0 yc0 yc1 yc2 yc3 yc4 yc5 yc6 yc7 yd0 yd1 yd2 yd3 yd4 yd5 yd6 yd7 ya0 yb0
  obtain ⟨Ad, cd, rfl, _⟩ := hvd.form
  have HVD := Lib.hid hvd
  clear hvd
  have yz0 := fun o => Cell.alloc z0 o
  have yc0 := fun o => Cell.alloc c0 o
  have yc1 := fun o => Cell.alloc c1 o
  have yc2 := fun o => Cell.alloc c2 o
  have yc3 := fun o => Cell.alloc c3 o
  have yc4 := fun o => Cell.alloc c4 o
  have yc5 := fun o => Cell.alloc c5 o
  have yc6 := fun o => Cell.alloc c6 o
  have yc7 := fun o => Cell.alloc c7 o
  have yd0 := fun o => Cell.alloc d0 o
  have yd1 := fun o => Cell.alloc d1 o
  have yd2 := fun o => Cell.alloc d2 o
  have yd3 := fun o => Cell.alloc d3 o
  have yd4 := fun o => Cell.alloc d4 o
  have yd5 := fun o => Cell.alloc d5 o
  have yd6 := fun o => Cell.alloc d6 o
  have yd7 := fun o => Cell.alloc d7 o
  have ya0 := fun o => Cell.alloc a0 o
  have yb0 := fun o => Cell.alloc b0 o
  have yx0 := fun o => Cell.alloc x0 o
  go_wp2_with fail
  refine (same_is s3 s3 _ _ true (decide_eq_true rfl) HM3.out _ (HVC.out.below (below_box w7 _)) (HVD.out.below (below_box w7 _))).mono ?_
  rintro e w8 ⟨rfl, hb⟩
  have hb2 : Below w7.heap.size w7 w8 := below_up (below_box w7 _) hb (by simp)
  clear x0
  replace z0 := cellB hb2 z0
  replace c0 := cellB hb2 c0
  replace c1 := cellB hb2 c1
  replace c2 := cellB hb2 c2
  replace c3 := cellB hb2 c3
  replace c4 := cellB hb2 c4
  replace c5 := cellB hb2 c5
  replace c6 := cellB hb2 c6
  replace c7 := cellB hb2 c7
  replace d0 := cellB hb2 d0
  replace d1 := cellB hb2 d1
  replace d2 := cellB hb2 d2
  replace d3 := cellB hb2 d3
  replace d4 := cellB hb2 d4
  replace d5 := cellB hb2 d5
  replace d6 := cellB hb2 d6
  replace d7 := cellB hb2 d7
  replace a0 := cellB hb2 a0
  replace b0 := cellB hb2 b0
  replace HE := Lib.hid (HE.out.below hb2)
  replace HS := Lib.hid (HS.out.below hb2)
  replace HR := Lib.hid (HR.out.below hb2)
  replace HVA := Lib.hid (HVA.out.below hb2)
  replace HVB := Lib.hid (HVB.out.below hb2)
  replace HVC := Lib.hid (HVC.out.below hb2)
  replace HVD := Lib.hid (HVD.out.below hb2)
  replace HB := Lib.hid (below_up HB.out hb2 HB.out.size)
  clear hb hb2 yz0 yc0 yc1 yc2 yc3 yc4 yc5 yc6 yc7 yd0 yd1 yd2 yd3 yd4 yd5 yd6 yd7 ya0 yb0 yx0
  clear HVC
  clear HVD
  go_wp2_with fail
  refine (convert_is s _ _ c (n : Int) row _ HP.out HSM.out.mid (by omega) _ HE.out HS.out HR.out).mono ?_
  rintro e w9 ⟨vp, rfl, hvp, hb⟩
  have hb2 : Below w8.heap.size w8 w9 := hb
  replace z0 := cellB hb2 z0
  replace c0 := cellB hb2 c0
  replace c1 := cellB hb2 c1
  replace c2 := cellB hb2 c2
  replace c3 := cellB hb2 c3
  replace c4 := cellB hb2 c4
  replace c5 := cellB hb2 c5
  replace c6 := cellB hb2 c6
  replace c7 := cellB hb2 c7
  replace d0 := cellB hb2 d0
  replace d1 := cellB hb2 d1
  replace d2 := cellB hb2 d2
  replace d3 := cellB hb2 d3
  replace d4 := cellB hb2 d4
  replace d5 := cellB hb2 d5
  replace d6 := cellB hb2 d6
  replace d7 := cellB hb2 d7
  replace a0 := cellB hb2 a0
  replace b0 := cellB hb2 b0
  replace HE := Lib.hid (HE.out.below hb2)
  replace HS := Lib.hid (HS.out.below hb2)
  replace HR := Lib.hid (HR.out.below hb2)
  replace HVA := Lib.hid (HVA.out.below hb2)
  replace HVB := Lib.hid (HVB.out.below hb2)
  replace HB := Lib.hid (below_up HB.out hb2 HB.out.size)
  clear hb hb2
  obtain ⟨Ap, cq, rfl, _⟩ := hvp.form
  have HVP := Lib.hid hvp
  clear hvp
  go_wp2_with fail
  refine (convert_is s _ _ d (n : Int) row _ HQ.out HSM.out.mid (by omega) _ HE.out HS.out HR.out).mono ?_
  rintro e w10 ⟨vq, rfl, hvq, hb⟩
  have hb2 : Below w9.heap.size w9 w10 := hb
  replace z0 := cellB hb2 z0
  replace c0 := cellB hb2 c0
  replace c1 := cellB hb2 c1
  replace c2 := cellB hb2 c2
  replace c3 := cellB hb2 c3
  replace c4 := cellB hb2 c4
  replace c5 := cellB hb2 c5
  replace c6 := cellB hb2 c6
  replace c7 := cellB hb2 c7
  replace d0 := cellB hb2 d0
  replace d1 := cellB hb2 d1
  replace d2 := cellB hb2 d2
  replace d3 := cellB hb2 d3
  replace d4 := cellB hb2 d4
  replace d5 := cellB hb2 d5
  replace d6 := cellB hb2 d6
  replace d7 := cellB hb2 d7
  replace a0 := cellB hb2 a0
  replace b0 := cellB hb2 b0
  replace HE := Lib.hid (HE.out.below hb2)
  replace HS := Lib.hid (HS.out.below hb2)
  replace HR := Lib.hid (HR.out.below hb2)
  replace HVA := Lib.hid (HVA.out.below hb2)
  replace HVB := Lib.hid (HVB.out.below hb2)
  replace HVP := Lib.hid (HVP.out.below hb2)
  replace HB := Lib.hid (below_up HB.out hb2 HB.out.size)
  clear hb hb2
  obtain ⟨Aq, ce, rfl, _⟩ := hvq.form
  have HVQ := Lib.hid hvq
  clear hvq
  go_wp2_with fail
  refine (convert_is s1 _ _ d (n : Int) p _ HU.out HM1.out (by omega) _ HE.out HVA.out HVP.out).mono ?_
  rintro e w11 ⟨vu, rfl, hvu, hb⟩
  have hb2 : Below w10.heap.size w10 w11 := hb
  replace z0 := cellB hb2 z0
  replace c0 := cellB hb2 c0
  replace c1 := cellB hb2 c1
  replace c2 := cellB hb2 c2
  replace c3 := cellB hb2 c3
  replace c4 := cellB hb2 c4
  replace c5 := cellB hb2 c5
  replace c6 := cellB hb2 c6
  replace c7 := cellB hb2 c7
  replace d0 := cellB hb2 d0
  replace d1 := cellB hb2 d1
  replace d2 := cellB hb2 d2
  replace d3 := cellB hb2 d3
  replace d4 := cellB hb2 d4
  replace d5 := cellB hb2 d5
  replace d6 := cellB hb2 d6
  replace d7 := cellB hb2 d7
  replace a0 := cellB hb2 a0
  replace b0 := cellB hb2 b0
  replace HE := Lib.hid (HE.out.below hb2)
  replace HS := Lib.hid (HS.out.below hb2)
  replace HR := Lib.hid (HR.out.below hb2)
  replace HVA := Lib.hid (HVA.out.below hb2)
  replace HVB := Lib.hid (HVB.out.below hb2)
  replace HVP := Lib.hid (HVP.out.below hb2)
  replace HVQ := Lib.hid (HVQ.out.below hb2)
  replace HB := Lib.hid (below_up HB.out hb2 HB.out.size)
  clear hb hb2
  obtain ⟨Au, cu, rfl, _⟩ := hvu.form
  have HVU := Lib.hid hvu
  clear hvu
  go_wp2_with fail
  refine (convert_is s2 _ _ c (n : Int) q _ HV.out HM2.out (by omega) _ HE.out HVB.out HVQ.out).mono ?_
  rintro e w12 ⟨vv, rfl, hvv, hb⟩
  have hb2 : Below w11.heap.size w11 w12 := hb
  replace z0 := cellB hb2 z0
  replace c0 := cellB hb2 c0
  replace c1 := cellB hb2 c1
  replace c2 := cellB hb2 c2
  replace c3 := cellB hb2 c3
  replace c4 := cellB hb2 c4
  replace c5 := cellB hb2 c5
  replace c6 := cellB hb2 c6
  replace c7 := cellB hb2 c7
  replace d0 := cellB hb2 d0
  replace d1 := cellB hb2 d1
  replace d2 := cellB hb2 d2
  replace d3 := cellB hb2 d3
  replace d4 := cellB hb2 d4
  replace d5 := cellB hb2 d5
  replace d6 := cellB hb2 d6
  replace d7 := cellB hb2 d7
  replace a0 := cellB hb2 a0
  replace b0 := cellB hb2 b0
  replace HE := Lib.hid (HE.out.below hb2)
  replace HS := Lib.hid (HS.out.below hb2)
  replace HR := Lib.hid (HR.out.below hb2)
  replace HVA := Lib.hid (HVA.out.below hb2)
  replace HVB := Lib.hid (HVB.out.below hb2)
  replace HVP := Lib.hid (HVP.out.below hb2)
  replace HVQ := Lib.hid (HVQ.out.below hb2)
  replace HVU := Lib.hid (HVU.out.below hb2)
  replace HB := Lib.hid (below_up HB.out hb2 HB.out.size)
  clear hb hb2
  obtain ⟨Av, cv, rfl, _⟩ := hvv.form
  have HVV := Lib.hid hvv
  clear hvv
  go_wp2_with fail
  refine (rows_is u u _ _ true (decide_eq_true rfl) (by omega) _ HVU.out HVV.out).mono ?_
  rintro e w13 ⟨rfl, hb⟩
  have hb2 : Below w12.heap.size w12 w13 := hb
  replace z0 := cellB hb2 z0
  replace c0 := cellB hb2 c0
  replace c1 := cellB hb2 c1
  replace c2 := cellB hb2 c2
  replace c3 := cellB hb2 c3
  replace c4 := cellB hb2 c4
  replace c5 := cellB hb2 c5
  replace c6 := cellB hb2 c6
  replace c7 := cellB hb2 c7
  replace d0 := cellB hb2 d0
  replace d1 := cellB hb2 d1
  replace d2 := cellB hb2 d2
  replace d3 := cellB hb2 d3
  replace d4 := cellB hb2 d4
  replace d5 := cellB hb2 d5
  replace d6 := cellB hb2 d6
  replace d7 := cellB hb2 d7
  replace a0 := cellB hb2 a0
  replace b0 := cellB hb2 b0
  replace HE := Lib.hid (HE.out.below hb2)
  replace HS := Lib.hid (HS.out.below hb2)
  replace HR := Lib.hid (HR.out.below hb2)
  replace HVA := Lib.hid (HVA.out.below hb2)
  replace HVB := Lib.hid (HVB.out.below hb2)
  replace HVP := Lib.hid (HVP.out.below hb2)
  replace HVQ := Lib.hid (HVQ.out.below hb2)
  replace HVU := Lib.hid (HVU.out.below hb2)
  replace HVV := Lib.hid (HVV.out.below hb2)
  replace HB := Lib.hid (below_up HB.out hb2 HB.out.size)
  clear hb hb2
  go_wp2_with fail
  go_ret
  exact ⟨rfl, HB.out⟩
theorem tables_law (s : List TabT) (v : Value) (c d : ChgT) (raw : UInt8) (row : List T3) (rv : Value) (w : World) (he : L2.Env w) (h : Tabs w v s) (hr : Vals w rv row) :
    Calls Tryz.prog 8 #[.agg #[v], Cv c, Cv d, .int .u8 (raw.toNat : Int), rv] w (fun e w' => e = .returned (.bool true) ∧ Below w.heap.size w w') := by
  by_cases hsm : SmallC s c row
  · by_cases hsn : SmallC s d row
    · by_cases ht : c.table = d.table
      · exact tbl_one s v c d raw row rv w he h hr hsm hsn ht
      · by_cases h0 : s.length = 0
        · exact tbl_none s v c d raw row rv w he h hr hsm hsn ht h0
        · have hpos : 0 < s.length := by omega
          have hn := rem_tab raw.toNat s.length
          have hns : raw.toNat % s.length < s.length := Nat.mod_lt _ hpos
          by_cases ha : (applyT s c).2 = 0
          · by_cases hb : (applyT s d).2 = 0
            · obtain ⟨k, t, u, hal⟩ := apply_alt ha
              obtain ⟨j, t2, u2, hbl⟩ := apply_alt hb
              obtain ⟨s3, e1, e2⟩ := tabs_apply hal hbl ht
              have hm1 : Mid (s.set k u) := (hal.siz hsm.siz).mid (by omega)
              have hm2 : Mid (s.set j u2) := (hbl.siz hsm.siz).mid (by omega)
              have h3 := tabs_alt hal hbl ht
              have e3 : s3 = (s.set k u).set j u2 := by
                have := h3.app.symm.trans e1
                exact (Prod.mk.inj this).1.symm
              have hm3 : Mid s3 := by rw [e3]; exact (h3.siz (hal.siz hsm.siz)).mid (by omega)
              by_cases hp : (convT s c (raw.toNat % s.length : Nat) row).2 = 0
              · by_cases hq : (convT s d (raw.toNat % s.length : Nat) row).2 = 0
                · obtain ⟨x, hx1, hx2⟩ := tabs_rows hal hbl ht hns hp hq
                  exact tbl_all s v c d raw row rv w he h hr hsm hsn ht hpos _ hn hns _ _ s3 hal.app hbl.app e1 e2 hm1 hm2 hm3 _ _ x (pair_of rfl hp) (pair_of rfl hq) hx1 hx2
                · exact tbl_conv2 s v c d raw row rv w he h hr hsm hsn ht hpos _ hn hns _ _ s3 hal.app hbl.app e1 e2 hm1 hm2 hm3 _ _ _ (pair_of rfl hp) (pair_of rfl rfl) hq
              · exact tbl_conv1 s v c d raw row rv w he h hr hsm hsn ht hpos _ hn hns _ _ s3 hal.app hbl.app e1 e2 hm1 hm2 hm3 _ _ _ _ (pair_of rfl rfl) (pair_of rfl rfl) hp
            · exact tbl_err2 s v c d raw row rv w he h hr hsm hsn ht hpos _ hn hns _ _ _ (pair_of rfl ha) (pair_of rfl rfl) hb
          · exact tbl_err1 s v c d raw row rv w he h hr hsm hsn ht hpos _ hn hns _ _ _ _ (pair_of rfl rfl) (pair_of rfl rfl) ha
    · exact tbl_big2 s v c d raw row rv w he h hr hsm hsn
  · exact tbl_big1 s v c d raw row rv w he h hr hsm
end Go.Proofs.YteokcgfbhaeklaaGreatDoor
