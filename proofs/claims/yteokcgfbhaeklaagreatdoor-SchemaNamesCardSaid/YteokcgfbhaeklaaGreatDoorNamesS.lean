/- SchemaNames in plain words: names and former names find what they found; the key has the same attributes. -/
import Derived.Test.YteokcgfbhaeklaaGreatDoorScLawC
namespace Go.Proofs.YteokcgfbhaeklaaGreatDoor
open Go.RowKit

set_option maxRecDepth 100000 in
set_option maxHeartbeats 8000000 in
theorem nam_big (s : List TabT) (v : Value) (c : ChgT) (w : World) (he : L2.Env w) (h : Tabs w v s) (hsm : ¬ SmallC s c []) :
    Calls Tryz.prog 5 #[.agg #[v], Cv c] w (fun e w' => e = .returned (.bool true) ∧ Below w.heap.size w w') := by
  have HSM := Lib.hid hsm
  clear hsm
  obtain ⟨A, cp, rfl, _⟩ := h.form
  have HE := Lib.hid he
  have HS := Lib.hid h
  clear he h
  go_enter Tryz.func5, Tryz.ntmps5
  go_wp2_with fail
  refine (head_any _ ((HE.out.alloc _).alloc _)).mono ?_
  rintro e w1 ⟨rfl, hb⟩
  have hb2 : Below w.heap.size w w1 := below_up ((below_box w _).alloc (by simp) _) hb (by simp; omega)
  replace HE := Lib.hid (HE.out.below hb2)
  replace HS := Lib.hid (HS.out.below hb2)
  have HB := Lib.hid hb2
  have z0 : w1.cell? ⟨w.heap.size, 0, none⟩ = some (.slice A s.length cp) := cellB hb (by simp [go_sem])
  have c0 : w1.cell? ⟨w.heap.size + 1, 0, none⟩ = some (.int .i64 c.kind) := cellB hb (by simp [go_sem])
  have c1 : w1.cell? ⟨w.heap.size + 1, 1, none⟩ = some (str c.table) := cellB hb (by simp [go_sem])
  have c2 : w1.cell? ⟨w.heap.size + 1, 2, none⟩ = some (str c.attr) := cellB hb (by simp [go_sem])
  have c3 : w1.cell? ⟨w.heap.size + 1, 3, none⟩ = some (str c.name) := cellB hb (by simp [go_sem])
  have c4 : w1.cell? ⟨w.heap.size + 1, 4, none⟩ = some (.int .i64 c.to) := cellB hb (by simp [go_sem])
  have c5 : w1.cell? ⟨w.heap.size + 1, 5, none⟩ = some (.int .i64 c.dft.1) := cellB hb (by simp [go_sem])
  have c6 : w1.cell? ⟨w.heap.size + 1, 6, none⟩ = some (.int .i64 c.dft.2.1) := cellB hb (by simp [go_sem])
  have c7 : w1.cell? ⟨w.heap.size + 1, 7, none⟩ = some (str c.dft.2.2) := cellB hb (by simp [go_sem])
  clear hb hb2
  go_wp2_with fail
  refine (smallC_not s _ _ c [] HSM.out _ HS.out ⟨none, 0, rfl⟩).mono ?_
  rintro e w2 ⟨rfl, hb⟩
  have hb2 : Below w1.heap.size w1 w2 := hb
  replace z0 := cellB hb2 z0
  replace c0 := cellB hb2 c0
  replace c1 := cellB hb2 c1
  replace c2 := cellB hb2 c2
  replace c3 := cellB hb2 c3
  replace c4 := cellB hb2 c4
  replace c5 := cellB hb2 c5
  replace c6 := cellB hb2 c6
  replace c7 := cellB hb2 c7
  replace HE := Lib.hid (HE.out.below hb2)
  replace HS := Lib.hid (HS.out.below hb2)
  replace HB := Lib.hid (below_up HB.out hb2 HB.out.size)
  clear hb hb2
  go_wp2_with fail
  go_ret
  exact ⟨rfl, HB.out⟩
set_option maxRecDepth 100000 in
set_option maxHeartbeats 8000000 in
theorem nam_err (s : List TabT) (v : Value) (c : ChgT) (w : World) (he : L2.Env w) (h : Tabs w v s) (hsm : SmallC s c []) (er : Int) (ha : applyT s c = ([], er)) (her : er ≠ 0) :
    Calls Tryz.prog 5 #[.agg #[v], Cv c] w (fun e w' => e = .returned (.bool true) ∧ Below w.heap.size w w') := by
  have HSM := Lib.hid hsm
  have HA := Lib.hid ha
  have q6 : (er != 0) = true := by simpa using her
  clear hsm ha her
  obtain ⟨A, cp, rfl, _⟩ := h.form
  have HE := Lib.hid he
  have HS := Lib.hid h
  clear he h
  go_enter Tryz.func5, Tryz.ntmps5
  go_wp2_with fail
  refine (head_any _ ((HE.out.alloc _).alloc _)).mono ?_
  rintro e w1 ⟨rfl, hb⟩
  have hb2 : Below w.heap.size w w1 := below_up ((below_box w _).alloc (by simp) _) hb (by simp; omega)
  replace HE := Lib.hid (HE.out.below hb2)
  replace HS := Lib.hid (HS.out.below hb2)
  have HB := Lib.hid hb2
  have z0 : w1.cell? ⟨w.heap.size, 0, none⟩ = some (.slice A s.length cp) := cellB hb (by simp [go_sem])
  have c0 : w1.cell? ⟨w.heap.size + 1, 0, none⟩ = some (.int .i64 c.kind) := cellB hb (by simp [go_sem])
  have c1 : w1.cell? ⟨w.heap.size + 1, 1, none⟩ = some (str c.table) := cellB hb (by simp [go_sem])
  have c2 : w1.cell? ⟨w.heap.size + 1, 2, none⟩ = some (str c.attr) := cellB hb (by simp [go_sem])
  have c3 : w1.cell? ⟨w.heap.size + 1, 3, none⟩ = some (str c.name) := cellB hb (by simp [go_sem])
  have c4 : w1.cell? ⟨w.heap.size + 1, 4, none⟩ = some (.int .i64 c.to) := cellB hb (by simp [go_sem])
  have c5 : w1.cell? ⟨w.heap.size + 1, 5, none⟩ = some (.int .i64 c.dft.1) := cellB hb (by simp [go_sem])
  have c6 : w1.cell? ⟨w.heap.size + 1, 6, none⟩ = some (.int .i64 c.dft.2.1) := cellB hb (by simp [go_sem])
  have c7 : w1.cell? ⟨w.heap.size + 1, 7, none⟩ = some (str c.dft.2.2) := cellB hb (by simp [go_sem])
  clear hb hb2
  go_wp2_with fail
  refine (smallC_is s _ _ c [] HSM.out _ HS.out ⟨none, 0, rfl⟩).mono ?_
  rintro e w2 ⟨rfl, hb⟩
  have hb2 : Below w1.heap.size w1 w2 := hb
  replace z0 := cellB hb2 z0
  replace c0 := cellB hb2 c0
  replace c1 := cellB hb2 c1
  replace c2 := cellB hb2 c2
  replace c3 := cellB hb2 c3
  replace c4 := cellB hb2 c4
  replace c5 := cellB hb2 c5
  replace c6 := cellB hb2 c6
  replace c7 := cellB hb2 c7
  replace HE := Lib.hid (HE.out.below hb2)
  replace HS := Lib.hid (HS.out.below hb2)
  replace HB := Lib.hid (below_up HB.out hb2 HB.out.size)
  clear hb hb2
  go_wp2_with fail
  refine (apply_is s _ c _ HA.out HSM.out.mid _ HS.out).mono ?_
  rintro e w3 ⟨va, rfl, hva, hb⟩
  have hb2 : Below w2.heap.size w2 w3 := hb
  replace z0 := cellB hb2 z0
  replace c0 := cellB hb2 c0
  replace c1 := cellB hb2 c1
  replace c2 := cellB hb2 c2
  replace c3 := cellB hb2 c3
  replace c4 := cellB hb2 c4
  replace c5 := cellB hb2 c5
  replace c6 := cellB hb2 c6
  replace c7 := cellB hb2 c7
  replace HE := Lib.hid (HE.out.below hb2)
  replace HS := Lib.hid (HS.out.below hb2)
  replace HB := Lib.hid (below_up HB.out hb2 HB.out.size)
  clear hb hb2
  obtain ⟨Aa, ca, rfl⟩ := slcNil hva
  clear hva
  go_wp2_with fail
  go_ret
  exact ⟨rfl, HB.out.alloc HB.out.size _⟩
end Go.Proofs.YteokcgfbhaeklaaGreatDoor
