/- SchemaChanges in plain words: what can be applied gives a valid schema with the same tables in the same order; only the table of the change differs. -/
import Derived.Test.YteokcgfbhaeklaaGreatDoorScLawB
namespace Go.Proofs.YteokcgfbhaeklaaGreatDoor
open Go.RowKit

set_option maxRecDepth 100000 in
set_option maxHeartbeats 4000000 in
theorem chg_big (s : List TabT) (v : Value) (c : ChgT) (w : World) (he : L2.Env w) (h : Tabs w v s) (hsm : ¬ SmallC s c []) :
    Calls Tryz.prog 4 #[.agg #[v], Cv c] w (fun e w' => e = .returned (.bool true) ∧ Below w.heap.size w w') := by
  have HSM := Lib.hid hsm
  clear hsm
  obtain ⟨A, cp, rfl, _⟩ := h.form
  have HE := Lib.hid he
  have HS := Lib.hid h
  clear he h
  go_enter Tryz.func4, Tryz.ntmps4
  go_wp2_with fail
  refine (head_any _ ((HE.out.alloc _).alloc _)).mono ?_
  rintro e w1 ⟨rfl, hb⟩
  have hb2 : Below w.heap.size w w1 := below_up ((below_box w _).alloc (by simp) _) hb (by simp; omega)
  replace HE := Lib.hid (HE.out.below hb2)
  replace HS := Lib.hid (HS.out.below hb2)
  have HB := Lib.hid hb2
  have z0 : w1.cell? ⟨w.heap.size, 0, none⟩ = some (.slice A s.length cp) := cellB hb (by simp [go_sem])
  have c0 : w1.cell? ⟨w.heap.size + 1, 0, none⟩ = some (.int .i64 c.kind) := cellB hb (by simp [go_sem])
  have c1 : w1.cell? ⟨w.heap.size + 1, 1, none⟩ = some (str c.table) := cellB hb (by simp [go_sem])
  have c2 : w1.cell? ⟨w.heap.size + 1, 2, none⟩ = some (str c.attr) := cellB hb (by simp [go_sem])
  have c3 : w1.cell? ⟨w.heap.size + 1, 3, none⟩ = some (str c.name) := cellB hb (by simp [go_sem])
  have c4 : w1.cell? ⟨w.heap.size + 1, 4, none⟩ = some (.int .i64 c.to) := cellB hb (by simp [go_sem])
  have c5 : w1.cell? ⟨w.heap.size + 1, 5, none⟩ = some (.int .i64 c.dft.1) := cellB hb (by simp [go_sem])
  have c6 : w1.cell? ⟨w.heap.size + 1, 6, none⟩ = some (.int .i64 c.dft.2.1) := cellB hb (by simp [go_sem])
  have c7 : w1.cell? ⟨w.heap.size + 1, 7, none⟩ = some (str c.dft.2.2) := cellB hb (by simp [go_sem])
  clear hb hb2
  go_wp2_with fail
  refine (smallC_not s _ _ c [] HSM.out _ HS.out ⟨none, 0, rfl⟩).mono ?_
  rintro e w2 ⟨rfl, hb⟩
  have hb2 : Below w1.heap.size w1 w2 := hb
  replace z0 := cellB hb2 z0
  replace c0 := cellB hb2 c0
  replace c1 := cellB hb2 c1
  replace c2 := cellB hb2 c2
  replace c3 := cellB hb2 c3
  replace c4 := cellB hb2 c4
  replace c5 := cellB hb2 c5
  replace c6 := cellB hb2 c6
  replace c7 := cellB hb2 c7
  replace HE := Lib.hid (HE.out.below hb2)
  replace HS := Lib.hid (HS.out.below hb2)
  replace HB := Lib.hid (below_up HB.out hb2 HB.out.size)
  clear hb hb2
  go_wp2_with fail
  go_ret
  exact ⟨rfl, HB.out⟩
set_option maxRecDepth 100000 in
set_option maxHeartbeats 4000000 in
theorem chg_err (s : List TabT) (v : Value) (c : ChgT) (w : World) (he : L2.Env w) (h : Tabs w v s) (hsm : SmallC s c []) (er : Int) (ha : applyT s c = ([], er)) (her : er ≠ 0) :
    Calls Tryz.prog 4 #[.agg #[v], Cv c] w (fun e w' => e = .returned (.bool true) ∧ Below w.heap.size w w') := by
  have HSM := Lib.hid hsm
  have HA := Lib.hid ha
  have q6 : (er != 0) = true := by simpa using her
  clear hsm ha her
  obtain ⟨A, cp, rfl, _⟩ := h.form
  have HE := Lib.hid he
  have HS := Lib.hid h
  clear he h
  go_enter Tryz.func4, Tryz.ntmps4
  go_wp2_with fail
  refine (head_any _ ((HE.out.alloc _).alloc _)).mono ?_
  rintro e w1 ⟨rfl, hb⟩
  have hb2 : Below w.heap.size w w1 := below_up ((below_box w _).alloc (by simp) _) hb (by simp; omega)
  replace HE := Lib.hid (HE.out.below hb2)
  replace HS := Lib.hid (HS.out.below hb2)
  have HB := Lib.hid hb2
  have z0 : w1.cell? ⟨w.heap.size, 0, none⟩ = some (.slice A s.length cp) := cellB hb (by simp [go_sem])
  have c0 : w1.cell? ⟨w.heap.size + 1, 0, none⟩ = some (.int .i64 c.kind) := cellB hb (by simp [go_sem])
  have c1 : w1.cell? ⟨w.heap.size + 1, 1, none⟩ = some (str c.table) := cellB hb (by simp [go_sem])
  have c2 : w1.cell? ⟨w.heap.size + 1, 2, none⟩ = some (str c.attr) := cellB hb (by simp [go_sem])
  have c3 : w1.cell? ⟨w.heap.size + 1, 3, none⟩ = some (str c.name) := cellB hb (by simp [go_sem])
  have c4 : w1.cell? ⟨w.heap.size + 1, 4, none⟩ = some (.int .i64 c.to) := cellB hb (by simp [go_sem])
  have c5 : w1.cell? ⟨w.heap.size + 1, 5, none⟩ = some (.int .i64 c.dft.1) := cellB hb (by simp [go_sem])
  have c6 : w1.cell? ⟨w.heap.size + 1, 6, none⟩ = some (.int .i64 c.dft.2.1) := cellB hb (by simp [go_sem])
  have c7 : w1.cell? ⟨w.heap.size + 1, 7, none⟩ = some (str c.dft.2.2) := cellB hb (by simp [go_sem])
  clear hb hb2
  go_wp2_with fail
  refine (smallC_is s _ _ c [] HSM.out _ HS.out ⟨none, 0, rfl⟩).mono ?_
  rintro e w2 ⟨rfl, hb⟩
  have hb2 : Below w1.heap.size w1 w2 := hb
  replace z0 := cellB hb2 z0
  replace c0 := cellB hb2 c0
  replace c1 := cellB hb2 c1
  replace c2 := cellB hb2 c2
  replace c3 := cellB hb2 c3
  replace c4 := cellB hb2 c4
  replace c5 := cellB hb2 c5
  replace c6 := cellB hb2 c6
  replace c7 := cellB hb2 c7
  replace HE := Lib.hid (HE.out.below hb2)
  replace HS := Lib.hid (HS.out.below hb2)
  replace HB := Lib.hid (below_up HB.out hb2 HB.out.size)
  clear hb hb2
  go_wp2_with fail
  refine (apply_is s _ c _ HA.out HSM.out.mid _ HS.out).mono ?_
  rintro e w3 ⟨va, rfl, hva, hb⟩
  have hb2 : Below w2.heap.size w2 w3 := hb
  replace z0 := cellB hb2 z0
  replace c0 := cellB hb2 c0
  replace c1 := cellB hb2 c1
  replace c2 := cellB hb2 c2
  replace c3 := cellB hb2 c3
  replace c4 := cellB hb2 c4
  replace c5 := cellB hb2 c5
  replace c6 := cellB hb2 c6
  replace c7 := cellB hb2 c7
  replace HE := Lib.hid (HE.out.below hb2)
  replace HS := Lib.hid (HS.out.below hb2)
  replace HB := Lib.hid (below_up HB.out hb2 HB.out.size)
  clear hb hb2
  obtain ⟨Aa, ca, rfl⟩ := slcNil hva
  clear hva
  go_wp2_with fail
  go_ret
  exact ⟨rfl, HB.out.alloc HB.out.size _⟩
set_option maxRecDepth 100000 in
set_option maxHeartbeats 8000000 in
theorem chg_all (s : List TabT) (v : Value) (c : ChgT) (w : World) (he : L2.Env w) (h : Tabs w v s) (hsm : SmallC s c []) (s1 : List TabT) (k : Nat) (ha : applyT s c = (s1, 0)) (hm1 : Mid s1) (hv0 : validB s = true) (hv1 : validB s1 = true) (hl : s1.length = s.length) (hf : k < s.length ∧ findT s c.table = (k : Int) ∧ True)
    (hn : ∀ i (h0 : i < s.length) (h1 : i < s1.length), s[i].name = s1[i].name ∧ (s[i].name = c.table ∨ s[i] = s1[i])) (ht : ∀ (h0 : k < s.length) (h1 : k < s1.length), s[k] ≠ s1[k]) :
    Calls Tryz.prog 4 #[.agg #[v], Cv c] w (fun e w' => e = .returned (.bool true) ∧ Below w.heap.size w w') := by
  have HSM := Lib.hid hsm
  have HA := Lib.hid ha
  have HM1 := Lib.hid hm1
  have HV1 := Lib.hid hv1
  have HV0 := Lib.hid hv0
  have HF := Lib.hid hf
  have HN := Lib.hid hn
  have HT := Lib.hid ht
  have HL := Lib.hid hl
  have q0 : ((s1.length : Int) != (s.length : Int)) = false := by simp [hl]
  have q4 : s.length ≤ 24 := hsm.1.1
  clear hsm ha hm1 hv1 hv0 hf hn ht hl
  obtain ⟨A, cp, rfl, _⟩ := h.form
  have HE := Lib.hid he
  have HS := Lib.hid h
  clear he h
  go_enter Tryz.func4, Tryz.ntmps4
  go_wp2_with fail
  refine (head_any _ ((HE.out.alloc _).alloc _)).mono ?_
  rintro e w1 ⟨rfl, hb⟩
  have hb2 : Below w.heap.size w w1 := below_up ((below_box w _).alloc (by simp) _) hb (by simp; omega)
  replace HE := Lib.hid (HE.out.below hb2)
  replace HS := Lib.hid (HS.out.below hb2)
  have HB := Lib.hid hb2
  have z0 : w1.cell? ⟨w.heap.size, 0, none⟩ = some (.slice A s.length cp) := cellB hb (by simp [go_sem])
  have c0 : w1.cell? ⟨w.heap.size + 1, 0, none⟩ = some (.int .i64 c.kind) := cellB hb (by simp [go_sem])
  have c1 : w1.cell? ⟨w.heap.size + 1, 1, none⟩ = some (str c.table) := cellB hb (by simp [go_sem])
  have c2 : w1.cell? ⟨w.heap.size + 1, 2, none⟩ = some (str c.attr) := cellB hb (by simp [go_sem])
  have c3 : w1.cell? ⟨w.heap.size + 1, 3, none⟩ = some (str c.name) := cellB hb (by simp [go_sem])
  have c4 : w1.cell? ⟨w.heap.size + 1, 4, none⟩ = some (.int .i64 c.to) := cellB hb (by simp [go_sem])
  have c5 : w1.cell? ⟨w.heap.size + 1, 5, none⟩ = some (.int .i64 c.dft.1) := cellB hb (by simp [go_sem])
  have c6 : w1.cell? ⟨w.heap.size + 1, 6, none⟩ = some (.int .i64 c.dft.2.1) := cellB hb (by simp [go_sem])
  have c7 : w1.cell? ⟨w.heap.size + 1, 7, none⟩ = some (str c.dft.2.2) := cellB hb (by simp [go_sem])
  clear hb hb2
  go_wp2_with fail
  refine (smallC_is s _ _ c [] HSM.out _ HS.out ⟨none, 0, rfl⟩).mono ?_
  rintro e w2 ⟨rfl, hb⟩
  have hb2 : Below w1.heap.size w1 w2 := hb
  replace z0 := cellB hb2 z0
  replace c0 := cellB hb2 c0
  replace c1 := cellB hb2 c1
  replace c2 := cellB hb2 c2
  replace c3 := cellB hb2 c3
  replace c4 := cellB hb2 c4
  replace c5 := cellB hb2 c5
  replace c6 := cellB hb2 c6
  replace c7 := cellB hb2 c7
  replace HE := Lib.hid (HE.out.below hb2)
  replace HS := Lib.hid (HS.out.below hb2)
  replace HB := Lib.hid (below_up HB.out hb2 HB.out.size)
  clear hb hb2
  go_wp2_with fail
  refine (apply_is s _ c _ HA.out HSM.out.mid _ HS.out).mono ?_
  rintro e w3 ⟨va, rfl, hva, hb⟩
  have hb2 : Below w2.heap.size w2 w3 := hb
  replace z0 := cellB hb2 z0
  replace c0 := cellB hb2 c0
  replace c1 := cellB hb2 c1
  replace c2 := cellB hb2 c2
  replace c3 := cellB hb2 c3
  replace c4 := cellB hb2 c4
  replace c5 := cellB hb2 c5
  replace c6 := cellB hb2 c6
  replace c7 := cellB hb2 c7
  replace HE := Lib.hid (HE.out.below hb2)
  replace HS := Lib.hid (HS.out.below hb2)
  replace HB := Lib.hid (below_up HB.out hb2 HB.out.size)
  clear hb hb2
  obtain ⟨Aa, ca, rfl, _⟩ := hva.form
  have HVA := Lib.hid hva
  clear hva
  have yz0 := fun o => Cell.alloc z0 o
  have yc0 := fun o => Cell.alloc c0 o
  have yc1 := fun o => Cell.alloc c1 o
  have yc2 := fun o => Cell.alloc c2 o
  have yc3 := fun o => Cell.alloc c3 o
  have yc4 := fun o => Cell.alloc c4 o
  have yc5 := fun o => Cell.alloc c5 o
  have yc6 := fun o => Cell.alloc c6 o
  have yc7 := fun o => Cell.alloc c7 o
  go_wp2_with fail
  refine (valid_is s _ true HV0.out HSM.out.mid _ (HS.out.below (below_box w3 _))).mono ?_
  rintro e w4 ⟨rfl, hb⟩
  have hb2 : Below w3.heap.size w3 w4 := below_up (below_box w3 _) hb (by simp)
  replace z0 := cellB hb2 z0
  replace c0 := cellB hb2 c0
  replace c1 := cellB hb2 c1
  replace c2 := cellB hb2 c2
  replace c3 := cellB hb2 c3
  replace c4 := cellB hb2 c4
  replace c5 := cellB hb2 c5
  replace c6 := cellB hb2 c6
  replace c7 := cellB hb2 c7
  replace HE := Lib.hid (HE.out.below hb2)
  replace HS := Lib.hid (HS.out.below hb2)
  replace HVA := Lib.hid (HVA.out.below hb2)
  replace HB := Lib.hid (below_up HB.out hb2 HB.out.size)
  have a0 : w4.cell? ⟨w3.heap.size, 0, none⟩ = some (.slice Aa s1.length ca) := cellB hb (by simp [go_sem])
  clear hb hb2 yz0 yc0 yc1 yc2 yc3 yc4 yc5 yc6 yc7
  go_wp2_with fail
  refine (valid_is s1 _ true HV1.out HM1.out _ HVA.out).mono ?_
  rintro e w5 ⟨rfl, hb⟩
  have hb2 : Below w4.heap.size w4 w5 := hb
  replace z0 := cellB hb2 z0
  replace c0 := cellB hb2 c0
  replace c1 := cellB hb2 c1
  replace c2 := cellB hb2 c2
  replace c3 := cellB hb2 c3
  replace c4 := cellB hb2 c4
  replace c5 := cellB hb2 c5
  replace c6 := cellB hb2 c6
  replace c7 := cellB hb2 c7
  replace a0 := cellB hb2 a0
  replace HE := Lib.hid (HE.out.below hb2)
  replace HS := Lib.hid (HS.out.below hb2)
  replace HVA := Lib.hid (HVA.out.below hb2)
  replace HB := Lib.hid (below_up HB.out hb2 HB.out.size)
  clear hb hb2
  go_wp2_with fail
  go_loopw [8] (fun i wr => ∃ j : Nat, j ≤ s.length ∧ i = .int .i64 (j : Int) ∧ Below w5.heap.size w5 wr) (fun i _ => s.length - (intOf i).toNat)
  case atStart => exact ⟨0, by omega, by simp, Below.refl _ _⟩
  case round =>
    obtain ⟨j, hj, rfl, hw⟩ := hrel
    have z0 := cellB hw z0
    have c0 := cellB hw c0
    have c1 := cellB hw c1
    have c2 := cellB hw c2
    have c3 := cellB hw c3
    have c4 := cellB hw c4
    have c5 := cellB hw c5
    have c6 := cellB hw c6
    have c7 := cellB hw c7
    have a0 := cellB hw a0
    have HW := Lib.hid hw
    have HE := Lib.hid (HE.out.below hw)
    have HS := Lib.hid (HS.out.below hw)
    have HVA := Lib.hid (HVA.out.below hw)
    have HB := Lib.hid (below_up HB.out hw HB.out.size)
    clear hw
    by_cases hlt : j < s.length
    · have hlt1 : j < s1.length := by rw [HL.out]; exact hlt
      obtain ⟨b1, o1, rfl, xa, xk, hax, hxa, hxk⟩ := tab_at HS.out hlt
      obtain ⟨b2, o2, rfl, ya, yk, hay, hya, hyk⟩ := tab_at HVA.out hlt1
      obtain ⟨Xa, na, rfl, _⟩ := hxa.form
      obtain ⟨Xk, nk, rfl, _⟩ := hxk.form
      obtain ⟨Ya, ma, rfl, _⟩ := hya.form
      obtain ⟨Yk, mk, rfl, _⟩ := hyk.form
      have x0 := hax.c0
      have x1 := hax.c1
      have x2 := hax.c2
      have y0 := hay.c0
      have y1 := hay.c1
      have y2 := hay.c2
      have hmx := HSM.out.mid.2 s[j] (List.getElem_mem hlt)
      obtain ⟨h1, h2⟩ := HN.out j hlt hlt1
      have CT := Lib.hid (fun (he : s[j] = s1[j]) W (hW : Below wr.heap.size wr W) => sameTable_is s[j] s1[j] _ _ _ _ true (decide_eq_true he) hmx W (hxa.below hW) (hxk.below hW) (hya.below hW) (hyk.below hW))
      obtain ⟨x, hx⟩ : ∃ x, s[j] = x := ⟨_, rfl⟩
      obtain ⟨y, hy⟩ : ∃ y, s1[j] = y := ⟨_, rfl⟩
      rw [hx] at h1 h2 CT x0 x1 x2
      rw [hy] at h1 h2 CT y0 y1 y2
      have H2 := Lib.hid h2
      have d1 : (x.name == y.name) = true := by simpa using h1
      have d2 : (x.name != y.name) = false := by simp [h1]
      have i1 : (0 : Int) ≤ (j : Int) := by omega
      have i2 : (j : Int) < (s.length : Int) := by omega
      have i3 : (j : Int) < (s1.length : Int) := by omega
      clear hax hay hxa hxk hya hyk hmx hx hy h1 h2
      by_cases hct : x.name = c.table
      · have d3 : (x.name == c.table) = true := by simpa using hct
        have d4 : (x.name != c.table) = false := by simp [hct]
        clear hct CT
        have mz0 := fun m => (show (wr.drewN m).cell? _ = _ from z0)
        have mc1 := fun m => (show (wr.drewN m).cell? _ = _ from c1)
        have ma0 := fun m => (show (wr.drewN m).cell? _ = _ from a0)
        have mx0 := fun m => (show (wr.drewN m).cell? _ = _ from x0)
        have my0 := fun m => (show (wr.drewN m).cell? _ = _ from y0)
        go_wp2_with fail
        go_quiet (fail)
        go_wp2_with fail
        go_roundw
        case rel => exact ⟨j + 1, by omega, by simp, (by first | exact HW.out | exact HW.out.trans (below_drewN _ _ _))⟩
        case measure => simp [intOf]; omega
      · have d3 : (x.name == c.table) = false := by simpa using hct
        have d4 : (x.name != c.table) = true := by simpa using hct
        have CS := Lib.hid (CT.out (H2.out.resolve_left hct))
        clear hct CT
        go_wp2_with fail
        go_region_held3 (fun w' => w'.cell? ⟨w.heap.size, 0, none⟩ = some (.slice (some ⟨b1, o1, none⟩) s.length cp) ∧ w'.cell? ⟨w3.heap.size, 0, none⟩ = some (.slice (some ⟨b2, o2, none⟩) s1.length ca) ∧ w'.cell? ⟨w.heap.size + 1, 1, none⟩ = some (str c.table) ∧ w'.cell? ⟨b1, o1 + j * 3, none⟩ = some (str x.name) ∧ w'.cell? ⟨b1, o1 + j * 3 + 1, none⟩ = some (.slice Xa x.attrs.length na) ∧ w'.cell? ⟨b1, o1 + j * 3 + 2, none⟩ = some (.slice Xk x.key.length nk) ∧ w'.cell? ⟨b2, o2 + j * 3, none⟩ = some (str y.name) ∧ w'.cell? ⟨b2, o2 + j * 3 + 1, none⟩ = some (.slice Ya y.attrs.length ma) ∧ w'.cell? ⟨b2, o2 + j * 3 + 2, none⟩ = some (.slice Yk y.key.length mk)) (go_keep)
          (first | (go_at_call 25; refine (CS.out _ (below_drewN _ _ 1)).mono ?_; rintro e wq ⟨rfl, hb⟩; have hb1 := (below_drewN wr.heap.size wr 1).trans hb; have g1 := Lib.hid hb1; have p0 := cellB hb1 z0; have p1 := cellB hb1 a0; have p2 := cellB hb1 c1; have p3 := cellB hb1 x0; have p4 := cellB hb1 x1; have p5 := cellB hb1 x2; have p6 := cellB hb1 y0; have p7 := cellB hb1 y1; have p8 := cellB hb1 y2; clear hb hb1))
        have HW2 := Lib.hid (HW.out.trans (g1.out.mono HW.out.size))
        clear p0 p1 p2 p3 p4 p5 p6 p7 p8 g1
        go_wp2_with fail
        go_roundw
        case rel => exact ⟨j + 1, by omega, by simp, HW2.out⟩
        case measure => simp [intOf]; omega
    · go_wp2_with fail
      obtain ⟨hkl, hkf, hk2⟩ := HF.out
      refine (find_is s _ c.table (k : Int) hkf HSM.out.mid _ HS.out).mono ?_
      rintro e wf ⟨rfl, hb⟩
      have z0 := cellB hb z0
      have a0 := cellB hb a0
      have c1 := cellB hb c1
      have HS := Lib.hid (HS.out.below hb)
      have HVA := Lib.hid (HVA.out.below hb)
      have HB := Lib.hid (below_up HB.out hb HB.out.size)
      have hk1 : k < s1.length := by rw [HL.out]; exact hkl
      clear hb hlt hj
      obtain ⟨b1, o1, rfl, xa, xk, hax, hxa, hxk⟩ := tab_at HS.out hkl
      obtain ⟨b2, o2, rfl, ya, yk, hay, hya, hyk⟩ := tab_at HVA.out hk1
      obtain ⟨Xa, na, rfl, _⟩ := hxa.form
      obtain ⟨Xk, nk, rfl, _⟩ := hxk.form
      obtain ⟨Ya, ma, rfl, _⟩ := hya.form
      obtain ⟨Yk, mk, rfl, _⟩ := hyk.form
      have x0 := hax.c0
      have x1 := hax.c1
      have x2 := hax.c2
      have y0 := hay.c0
      have y1 := hay.c1
      have y2 := hay.c2
      have hmx := HSM.out.mid.2 s[k] (List.getElem_mem hkl)
      have CT := Lib.hid (fun W (hW : Below wf.heap.size wf W) => sameTable_is s[k] s1[k] _ _ _ _ false (decide_eq_false (HT.out hkl hk1)) hmx W (hxa.below hW) (hxk.below hW) (hya.below hW) (hyk.below hW))
      obtain ⟨x, hx⟩ : ∃ x, s[k] = x := ⟨_, rfl⟩
      obtain ⟨y, hy⟩ : ∃ y, s1[k] = y := ⟨_, rfl⟩
      rw [hx] at CT x0 x1 x2
      rw [hy] at CT y0 y1 y2
      have i1 : (0 : Int) ≤ (k : Int) := by omega
      have i2 : (k : Int) < (s.length : Int) := by omega
      have i3 : (k : Int) < (s1.length : Int) := by omega
      clear hax hay hxa hxk hya hyk hmx hx hy hkf hk2
      go_wp2_with fail
      go_region_held3 (fun w' => w'.cell? ⟨w.heap.size, 0, none⟩ = some (.slice (some ⟨b1, o1, none⟩) s.length cp) ∧ w'.cell? ⟨w3.heap.size, 0, none⟩ = some (.slice (some ⟨b2, o2, none⟩) s1.length ca) ∧ w'.cell? ⟨w.heap.size + 1, 1, none⟩ = some (str c.table) ∧ w'.cell? ⟨b1, o1 + k * 3, none⟩ = some (str x.name) ∧ w'.cell? ⟨b1, o1 + k * 3 + 1, none⟩ = some (.slice Xa x.attrs.length na) ∧ w'.cell? ⟨b1, o1 + k * 3 + 2, none⟩ = some (.slice Xk x.key.length nk) ∧ w'.cell? ⟨b2, o2 + k * 3, none⟩ = some (str y.name) ∧ w'.cell? ⟨b2, o2 + k * 3 + 1, none⟩ = some (.slice Ya y.attrs.length ma) ∧ w'.cell? ⟨b2, o2 + k * 3 + 2, none⟩ = some (.slice Yk y.key.length mk)) (go_keep)
        (first | (go_at_call 25; refine (CT.out _ (below_drewN _ _ 1)).mono ?_; rintro e wq ⟨rfl, hb⟩; have hb1 := (below_drewN wf.heap.size wf 1).trans hb; have g1 := Lib.hid hb1; have p0 := cellB hb1 z0; have p1 := cellB hb1 a0; have p2 := cellB hb1 c1; have p3 := cellB hb1 x0; have p4 := cellB hb1 x1; have p5 := cellB hb1 x2; have p6 := cellB hb1 y0; have p7 := cellB hb1 y1; have p8 := cellB hb1 y2; clear hb hb1))
      have HW2 := Lib.hid (HB.out.trans (g1.out.mono HB.out.size))
      go_wp2_with fail
      go_ret
      exact ⟨rfl, HW2.out⟩
theorem changes_law (s : List TabT) (v : Value) (c : ChgT) (w : World) (he : L2.Env w) (h : Tabs w v s) :
    Calls Tryz.prog 4 #[.agg #[v], Cv c] w (fun e w' => e = .returned (.bool true) ∧ Below w.heap.size w w') := by
  by_cases hsm : SmallC s c []
  · by_cases ha : (applyT s c).2 = 0
    · obtain ⟨k, t, u, hal⟩ := apply_alt ha
      refine chg_all s v c w he h hsm (s.set k u) k hal.app ((hal.siz hsm.siz).mid (by omega)) hal.loc.valid hal.valid (by simp) ⟨hal.loc.lt, hal.loc.find, trivial⟩ (fun i h0 h1 => ?_) (fun h0 h1 => ?_)
      · obtain ⟨_, h2⟩ := changes_math hal i h0
        exact h2
      · rw [hal.loc.get, List.getElem_set_self]
        exact hal.ne
    · exact chg_err s v c w he h hsm _ (pair_of (apply_no ha) rfl) ha
  · exact chg_big s v c w he h hsm
end Go.Proofs.YteokcgfbhaeklaaGreatDoor
