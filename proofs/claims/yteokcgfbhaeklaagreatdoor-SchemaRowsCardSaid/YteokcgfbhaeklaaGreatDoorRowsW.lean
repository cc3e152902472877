/- SchemaRows in plain words: a row that is converted. -/
import Derived.Test.YteokcgfbhaeklaaGreatDoorRowsA
import Derived.Test.YteokcgfbhaeklaaGreatDoorScLawC
namespace Go.Proofs.YteokcgfbhaeklaaGreatDoor
open Go.RowKit

set_option maxRecDepth 100000 in
set_option maxHeartbeats 4000000 in
theorem rows_same (s : List TabT) (v : Value) (c : ChgT) (raw : UInt8) (row : List T3) (rv : Value) (w : World) (he : L2.Env w) (h : Tabs w v s) (hr : Vals w rv row) (hsm : SmallC s c row) (h0 : 0 < s.length) (n : Nat) (hn : (raw.toNat : Int).tmod (s.length : Int) = (n : Int)) (hns : n < s.length) (s1 : List TabT) (xs : List T3) (ha : applyT s c = (s1, 0)) (hm1 : Mid s1) (hl : s1.length = s.length) (hcv : convT s c n row = (xs, 0)) (hfi : fitsB s[n].attrs row = true) (hfx : ∀ h1 : n < s1.length, fitsB s1[n].attrs xs = true) (hxl : xs.length ≤ 4000) (col : Int) (hcol : colT s[n].attrs c.attr = col) (htt : ¬ s[n].name = c.table) (hmv : ∀ i (hi : i < row.length), 0 ≤ (i : Int) → ∃ j : Nat, (i : Int) = (j : Int) ∧ ∃ hj : j < xs.length, xs[j] = row[i] ∨ (c.kind = 4 ∧ (i : Int) = col)) :
    Calls Tryz.prog 6 #[.agg #[v], Cv c, .int .u8 (raw.toNat : Int), rv] w (fun e w' => e = .returned (.bool true) ∧ Below w.heap.size w w') := by
  have HSM := Lib.hid hsm
  have q1 : ((s.length : Int) == 0) = false := beq_eq_false_iff_ne.2 (by omega)
  have q2 : ¬ (s.length : Int) = 0 := by omega
  have q3 := raw.toNat_lt
  have q4 : (s.length : Int) ≤ 24 := by have := hsm.1.1; omega
  have q5 : (0 : Int) < (s.length : Int) := by omega
  have hrl : row.length ≤ 20 := hsm.2.2.2
  have HA := Lib.hid ha
  have HCV := Lib.hid hcv
  have HM1 := Lib.hid hm1
  have HFI := Lib.hid hfi
  have HFX := Lib.hid hfx
  have HCOL := Lib.hid hcol
  have HTT := Lib.hid htt
  have HMV := Lib.hid hmv
  have q6 : ((s1.length : Int) != (s.length : Int)) = false := by simp [hl]
  have hn1 : n < s1.length := by omega
  have i3 : (n : Int) < (s1.length : Int) := by omega
  clear hsm h0 ha hm1 hl hcv hfi hfx hcol htt hmv
  obtain ⟨A, cp, rfl, _⟩ := h.form
  obtain ⟨Ar, cr, rfl, _⟩ := hr.form
  have HE := Lib.hid he
  have HS := Lib.hid h
  have HR := Lib.hid hr
  clear he h hr
  go_enter Tryz.func6, Tryz.ntmps6
  go_wp2_with fail
  refine (head_any _ ((HE.out.alloc _).alloc _)).mono ?_
  rintro e w1 ⟨rfl, hb⟩
  have hb2 : Below w.heap.size w w1 := below_up ((below_box w _).alloc (by simp) _) hb (by simp; omega)
  replace HE := Lib.hid (HE.out.below hb2)
  replace HS := Lib.hid (HS.out.below hb2)
  replace HR := Lib.hid (HR.out.below hb2)
  have HB := Lib.hid hb2
  have z0 : w1.cell? ⟨w.heap.size, 0, none⟩ = some (.slice A s.length cp) := cellB hb (by simp [go_sem])
  have c0 : w1.cell? ⟨w.heap.size + 1, 0, none⟩ = some (.int .i64 c.kind) := cellB hb (by simp [go_sem])
  have c1 : w1.cell? ⟨w.heap.size + 1, 1, none⟩ = some (str c.table) := cellB hb (by simp [go_sem])
  have c2 : w1.cell? ⟨w.heap.size + 1, 2, none⟩ = some (str c.attr) := cellB hb (by simp [go_sem])
  have c3 : w1.cell? ⟨w.heap.size + 1, 3, none⟩ = some (str c.name) := cellB hb (by simp [go_sem])
  have c4 : w1.cell? ⟨w.heap.size + 1, 4, none⟩ = some (.int .i64 c.to) := cellB hb (by simp [go_sem])
  have c5 : w1.cell? ⟨w.heap.size + 1, 5, none⟩ = some (.int .i64 c.dft.1) := cellB hb (by simp [go_sem])
  have c6 : w1.cell? ⟨w.heap.size + 1, 6, none⟩ = some (.int .i64 c.dft.2.1) := cellB hb (by simp [go_sem])
  have c7 : w1.cell? ⟨w.heap.size + 1, 7, none⟩ = some (str c.dft.2.2) := cellB hb (by simp [go_sem])
  clear hb hb2
  go_wp2_with fail
  refine (smallC_is s _ _ c row HSM.out _ HS.out ⟨_, _, rfl⟩).mono ?_
  rintro e w2 ⟨rfl, hb⟩
  have hb2 : Below w1.heap.size w1 w2 := hb
  replace z0 := cellB hb2 z0
  replace c0 := cellB hb2 c0
  replace c1 := cellB hb2 c1
  replace c2 := cellB hb2 c2
  replace c3 := cellB hb2 c3
  replace c4 := cellB hb2 c4
  replace c5 := cellB hb2 c5
  replace c6 := cellB hb2 c6
  replace c7 := cellB hb2 c7
  replace HE := Lib.hid (HE.out.below hb2)
  replace HS := Lib.hid (HS.out.below hb2)
  replace HR := Lib.hid (HR.out.below hb2)
  replace HB := Lib.hid (below_up HB.out hb2 HB.out.size)
  clear hb hb2
  go_wp2_with fail
  refine (apply_is s _ c _ HA.out HSM.out.mid _ HS.out).mono ?_
  rintro e w3 ⟨va, rfl, hva, hb⟩
  have hb2 : Below w2.heap.size w2 w3 := hb
  replace z0 := cellB hb2 z0
  replace c0 := cellB hb2 c0
  replace c1 := cellB hb2 c1
  replace c2 := cellB hb2 c2
  replace c3 := cellB hb2 c3
  replace c4 := cellB hb2 c4
  replace c5 := cellB hb2 c5
  replace c6 := cellB hb2 c6
  replace c7 := cellB hb2 c7
  replace HE := Lib.hid (HE.out.below hb2)
  replace HS := Lib.hid (HS.out.below hb2)
  replace HR := Lib.hid (HR.out.below hb2)
  replace HB := Lib.hid (below_up HB.out hb2 HB.out.size)
  clear hb hb2
  obtain ⟨Aa, ca, rfl, _⟩ := hva.form
  have HVA := Lib.hid hva
  clear hva
  have yz0 := fun o => Cell.alloc z0 o
  have yc0 := fun o => Cell.alloc c0 o
  have yc1 := fun o => Cell.alloc c1 o
  have yc2 := fun o => Cell.alloc c2 o
  have yc3 := fun o => Cell.alloc c3 o
  have yc4 := fun o => Cell.alloc c4 o
  have yc5 := fun o => Cell.alloc c5 o
  have yc6 := fun o => Cell.alloc c6 o
  have yc7 := fun o => Cell.alloc c7 o
  go_wp2_with fail
  refine (convert_is s _ _ c (n : Int) row _ HCV.out HSM.out.mid (by omega) _ (HE.out.alloc _) (HS.out.below (below_box w3 _)) (HR.out.below (below_box w3 _))).mono ?_
  rintro e w4 ⟨vx, rfl, hvx, hb⟩
  have hb2 : Below w3.heap.size w3 w4 := below_up (below_box w3 _) hb (by simp)
  replace z0 := cellB hb2 z0
  replace c0 := cellB hb2 c0
  replace c1 := cellB hb2 c1
  replace c2 := cellB hb2 c2
  replace c3 := cellB hb2 c3
  replace c4 := cellB hb2 c4
  replace c5 := cellB hb2 c5
  replace c6 := cellB hb2 c6
  replace c7 := cellB hb2 c7
  replace HE := Lib.hid (HE.out.below hb2)
  replace HS := Lib.hid (HS.out.below hb2)
  replace HR := Lib.hid (HR.out.below hb2)
  replace HVA := Lib.hid (HVA.out.below hb2)
  replace HB := Lib.hid (below_up HB.out hb2 HB.out.size)
  have a0 : w4.cell? ⟨w3.heap.size, 0, none⟩ = some (.slice Aa s1.length ca) := cellB hb (by simp [go_sem])
  clear hb hb2 yz0 yc0 yc1 yc2 yc3 yc4 yc5 yc6 yc7
  obtain ⟨Ax, cx, rfl, _⟩ := hvx.form
  have HVX := Lib.hid hvx
  clear hvx
  obtain ⟨b1, o1, rfl, xa, xk, hax, hxa, hxk⟩ := tab_at HS.out hns
  obtain ⟨Xa, na, rfl, _⟩ := hxa.form
  obtain ⟨Xk, nk, rfl, _⟩ := hxk.form
  have x0 := hax.c0
  have x1 := hax.c1
  have x2 := hax.c2
  have HXA := Lib.hid hxa
  have i1 : (0 : Int) ≤ (n : Int) := by omega
  have i2 : (n : Int) < (s.length : Int) := by omega
  have hmx := HSM.out.mid.2 s[n] (List.getElem_mem hns)
  clear hax hxa hxk
  obtain ⟨b2, o2, rfl, ya, yk, hay, hya, hyk⟩ := tab_at HVA.out hn1
  obtain ⟨Ya, ma, rfl, _⟩ := hya.form
  obtain ⟨Yk, mk, rfl, _⟩ := hyk.form
  have y0 := hay.c0
  have y1 := hay.c1
  have y2 := hay.c2
  have HYA := Lib.hid hya
  have hmy := HM1.out.2 s1[n] (List.getElem_mem hn1)
  have CF := Lib.hid (fun W (hW : Below w4.heap.size w4 W) => fits_is s[n].name s[n].attrs row _ (.slice Xk s[n].key.length nk) _ true HFI.out hmx.1 (by omega) W (HXA.out.below hW) (HR.out.below hW))
  have CX := Lib.hid (fun W (hW : Below w4.heap.size w4 W) => fits_is s1[n].name s1[n].attrs xs _ (.slice Yk s1[n].key.length mk) _ true (HFX.out hn1) hmy.1 hxl W (HYA.out.below hW) (HVX.out.below hW))
  have CC := Lib.hid (fun W (hW : Below w4.heap.size w4 W) => column_is s[n].name s[n].attrs _ (.slice Xk s[n].key.length nk) c.attr col HCOL.out hmx.1 hmx.2.2 W (HXA.out.below hW))
  obtain ⟨t, ht⟩ : ∃ t, s[n] = t := ⟨_, rfl⟩
  have htn := HTT.out
  have hmv := HMV.out
  rw [ht] at CF CC x0 x1 x2 htn
  obtain ⟨u, hu⟩ : ∃ u, s1[n] = u := ⟨_, rfl⟩
  rw [hu] at CX y0 y1 y2
  have HMT := Lib.hid hmv
  have t1 : (t.name == c.table) = false := by simpa using htn
  clear hmx hmy ht hu HXA HYA htn HTT HFI HFX HCOL hay hya hyk hmv HMV
  go_wp2_with fail
  refine (CF.out _ (Below.refl _ _)).mono ?_
  rintro e w5 ⟨rfl, hb⟩
  have hb2 : Below w4.heap.size w4 w5 := hb
  have HBX := Lib.hid hb2
  replace z0 := cellB hb2 z0
  replace c0 := cellB hb2 c0
  replace c1 := cellB hb2 c1
  replace c2 := cellB hb2 c2
  replace c3 := cellB hb2 c3
  replace c4 := cellB hb2 c4
  replace c5 := cellB hb2 c5
  replace c6 := cellB hb2 c6
  replace c7 := cellB hb2 c7
  replace a0 := cellB hb2 a0
  replace x0 := cellB hb2 x0
  replace x1 := cellB hb2 x1
  replace x2 := cellB hb2 x2
  replace y0 := cellB hb2 y0
  replace y1 := cellB hb2 y1
  replace y2 := cellB hb2 y2
  replace HE := Lib.hid (HE.out.below hb2)
  replace HS := Lib.hid (HS.out.below hb2)
  replace HR := Lib.hid (HR.out.below hb2)
  replace HVA := Lib.hid (HVA.out.below hb2)
  replace HVX := Lib.hid (HVX.out.below hb2)
  replace HB := Lib.hid (below_up HB.out hb2 HB.out.size)
  clear hb hb2
  go_wp2_with fail
  refine (CX.out _ HBX.out).mono ?_
  rintro e w6 ⟨rfl, hb⟩
  have hb2 : Below w5.heap.size w5 w6 := hb
  replace HBX := Lib.hid (HBX.out.trans (hb2.mono HBX.out.size))
  clear a0
  clear y0
  clear y1
  clear y2
  replace z0 := cellB hb2 z0
  replace c0 := cellB hb2 c0
  replace c1 := cellB hb2 c1
  replace c2 := cellB hb2 c2
  replace c3 := cellB hb2 c3
  replace c4 := cellB hb2 c4
  replace c5 := cellB hb2 c5
  replace c6 := cellB hb2 c6
  replace c7 := cellB hb2 c7
  replace x0 := cellB hb2 x0
  replace x1 := cellB hb2 x1
  replace x2 := cellB hb2 x2
  replace HE := Lib.hid (HE.out.below hb2)
  replace HS := Lib.hid (HS.out.below hb2)
  replace HR := Lib.hid (HR.out.below hb2)
  replace HVA := Lib.hid (HVA.out.below hb2)
  replace HVX := Lib.hid (HVX.out.below hb2)
  replace HB := Lib.hid (below_up HB.out hb2 HB.out.size)
  clear hb hb2
  clear CF CX HVA
  go_wp2_with fail
  go_region_held3 (fun w' => w'.cell? ⟨w.heap.size, 0, none⟩ = some (.slice (some ⟨b1, o1, none⟩) s.length cp) ∧ w'.cell? ⟨w.heap.size + 1, 2, none⟩ = some (str c.attr) ∧ w'.cell? ⟨b1, o1 + n * 3, none⟩ = some (str t.name) ∧ w'.cell? ⟨b1, o1 + n * 3 + 1, none⟩ = some (.slice Xa t.attrs.length na) ∧ w'.cell? ⟨b1, o1 + n * 3 + 2, none⟩ = some (.slice Xk t.key.length nk)) (go_keep)
    (first | (go_at_call 23; refine (CC.out _ (HBX.out.trans (below_drewN _ _ 1))).mono ?_; rintro e w7 ⟨rfl, hb⟩; have hb1 := (below_drewN w6.heap.size w6 1).trans hb; have g1 := Lib.hid hb1; have pz0 := cellB hb1 z0; have pc0 := cellB hb1 c0; have pc1 := cellB hb1 c1; have pc2 := cellB hb1 c2; have pc3 := cellB hb1 c3; have pc4 := cellB hb1 c4; have pc5 := cellB hb1 c5; have pc6 := cellB hb1 c6; have pc7 := cellB hb1 c7; have px0 := cellB hb1 x0; have px1 := cellB hb1 x1; have px2 := cellB hb1 x2; clear hb hb1))
  replace z0 := pz0
  replace c0 := pc0
  replace c1 := pc1
  replace c2 := pc2
  replace c3 := pc3
  replace c4 := pc4
  replace c5 := pc5
  replace c6 := pc6
  replace c7 := pc7
  replace x0 := px0
  replace x1 := px1
  replace x2 := px2
  replace HE := Lib.hid (HE.out.below g1.out)
  replace HS := Lib.hid (HS.out.below g1.out)
  replace HR := Lib.hid (HR.out.below g1.out)
  replace HVX := Lib.hid (HVX.out.below g1.out)
  replace HB := Lib.hid (below_up HB.out g1.out HB.out.size)
  replace HBX := Lib.hid (HBX.out.trans (g1.out.mono HBX.out.size))
  clear g1 pz0 pc0 pc1 pc2 pc3 pc4 pc5 pc6 pc7 px0 px1 px2
  clear CC
  go_wp2_with fail
  go_loopw [19] (fun i wr => ∃ j : Nat, j ≤ row.length ∧ i = .int .i64 (j : Int) ∧ Below w7.heap.size w7 wr) (fun i _ => row.length - (intOf i).toNat)
  case atStart => exact ⟨0, by omega, by simp, Below.refl _ _⟩
  case round =>
    obtain ⟨j, hj, rfl, hw⟩ := hrel
    have z0 := cellB hw z0
    have c0 := cellB hw c0
    have c1 := cellB hw c1
    have c2 := cellB hw c2
    have c3 := cellB hw c3
    have c4 := cellB hw c4
    have c5 := cellB hw c5
    have c6 := cellB hw c6
    have c7 := cellB hw c7
    have x0 := cellB hw x0
    have x1 := cellB hw x1
    have x2 := cellB hw x2
    have HE := Lib.hid (HE.out.below hw)
    have HS := Lib.hid (HS.out.below hw)
    have HR := Lib.hid (HR.out.below hw)
    have HVX := Lib.hid (HVX.out.below hw)
    have HB := Lib.hid (below_up HB.out hw HB.out.size)
    have HBX := Lib.hid (HBX.out.trans (hw.mono HBX.out.size))
    have HW := Lib.hid hw
    clear hw
    by_cases hlt : j < row.length
    · obtain ⟨bv, ov, e, hcell⟩ := val_at HR.out hlt
      subst e
      have v0 := hcell.c0
      have v1 := hcell.c1
      have v2 := hcell.c2
      have j1 : (0 : Int) ≤ (j : Int) := by omega
      have j2 : (j : Int) < (row.length : Int) := by omega
      clear hcell
      have mz0 := fun m => (show (wr.drewN m).cell? _ = _ from z0)
      have mc0 := fun m => (show (wr.drewN m).cell? _ = _ from c0)
      have mc1 := fun m => (show (wr.drewN m).cell? _ = _ from c1)
      have mc2 := fun m => (show (wr.drewN m).cell? _ = _ from c2)
      have mc3 := fun m => (show (wr.drewN m).cell? _ = _ from c3)
      have mc4 := fun m => (show (wr.drewN m).cell? _ = _ from c4)
      have mc5 := fun m => (show (wr.drewN m).cell? _ = _ from c5)
      have mc6 := fun m => (show (wr.drewN m).cell? _ = _ from c6)
      have mc7 := fun m => (show (wr.drewN m).cell? _ = _ from c7)
      have mx0 := fun m => (show (wr.drewN m).cell? _ = _ from x0)
      have mx1 := fun m => (show (wr.drewN m).cell? _ = _ from x1)
      have mx2 := fun m => (show (wr.drewN m).cell? _ = _ from x2)
      have mv0 := fun m => (show (wr.drewN m).cell? _ = _ from v0)
      have mv1 := fun m => (show (wr.drewN m).cell? _ = _ from v1)
      have mv2 := fun m => (show (wr.drewN m).cell? _ = _ from v2)
      go_wp2_with fail
      go_quiet (fail)
      obtain ⟨w8, hW⟩ : ∃ W, wr.drewN nq = W := ⟨_, rfl⟩
      rw [hW]
      have hb2 : Below wr.heap.size wr w8 := by rw [← hW]; exact below_drewN _ _ _
      replace z0 := cellB hb2 z0
      replace c0 := cellB hb2 c0
      replace c1 := cellB hb2 c1
      replace c2 := cellB hb2 c2
      replace c3 := cellB hb2 c3
      replace c4 := cellB hb2 c4
      replace c5 := cellB hb2 c5
      replace c6 := cellB hb2 c6
      replace c7 := cellB hb2 c7
      replace x0 := cellB hb2 x0
      replace x1 := cellB hb2 x1
      replace x2 := cellB hb2 x2
      replace v0 := cellB hb2 v0
      replace v1 := cellB hb2 v1
      replace v2 := cellB hb2 v2
      replace HE := Lib.hid (HE.out.below hb2)
      replace HS := Lib.hid (HS.out.below hb2)
      replace HR := Lib.hid (HR.out.below hb2)
      replace HVX := Lib.hid (HVX.out.below hb2)
      replace HB := Lib.hid (below_up HB.out hb2 HB.out.size)
      clear hW mz0 mc0 mc1 mc2 mc3 mc4 mc5 mc6 mc7 mx0 mx1 mx2 mv0 mv1 mv2
      replace HW := Lib.hid (HW.out.trans (hb2.mono HW.out.size))
      replace HBX := Lib.hid (HBX.out.trans (hb2.mono HBX.out.size))
      clear hb2
      have hmj := HMT.out j hlt
      obtain ⟨y, hy⟩ : ∃ y, row[j] = y := ⟨_, rfl⟩
      rw [hy] at v0 v1 v2 hmj
      clear hy
      obtain ⟨_, e, hjx, hor⟩ := hmj j1
      obtain rfl := Int.ofNat.inj e
      clear e
      go_wp2_with fail
      obtain ⟨bx, ox, e, hxc⟩ := val_at HVX.out hjx
      subst e
      obtain ⟨z, hz⟩ : ∃ z, xs[j] = z := ⟨_, rfl⟩
      rw [hz] at hxc hor
      have s0 := hxc.c0
      have s1_ := hxc.c1
      have s2 := hxc.c2
      clear hxc hz
      have l1 : (0 : Int) ≤ (j : Int) := by omega
      have l2 : (j : Int) < (xs.length : Int) := by omega
      by_cases hzy : z = y
      · have d1 : ∀ W, (binOp .neq 26 (.agg #[.int .i64 z.1, .int .i64 z.2.1, str z.2.2]) (.agg #[.int .i64 y.1, .int .i64 y.2.1, str y.2.2])).run Tryz.prog W = .ok (.bool false) W := fun W => by subst hzy; exact L2.neq_no _ _ _ W
        clear hzy hor
        have mz0 := fun m => (show (w8.drewN m).cell? _ = _ from z0)
        have mc0 := fun m => (show (w8.drewN m).cell? _ = _ from c0)
        have mc1 := fun m => (show (w8.drewN m).cell? _ = _ from c1)
        have mc2 := fun m => (show (w8.drewN m).cell? _ = _ from c2)
        have mc3 := fun m => (show (w8.drewN m).cell? _ = _ from c3)
        have mc4 := fun m => (show (w8.drewN m).cell? _ = _ from c4)
        have mc5 := fun m => (show (w8.drewN m).cell? _ = _ from c5)
        have mc6 := fun m => (show (w8.drewN m).cell? _ = _ from c6)
        have mc7 := fun m => (show (w8.drewN m).cell? _ = _ from c7)
        have mx0 := fun m => (show (w8.drewN m).cell? _ = _ from x0)
        have mx1 := fun m => (show (w8.drewN m).cell? _ = _ from x1)
        have mx2 := fun m => (show (w8.drewN m).cell? _ = _ from x2)
        have mv0 := fun m => (show (w8.drewN m).cell? _ = _ from v0)
        have mv1 := fun m => (show (w8.drewN m).cell? _ = _ from v1)
        have mv2 := fun m => (show (w8.drewN m).cell? _ = _ from v2)
        have ms0 := fun m => (show (w8.drewN m).cell? _ = _ from s0)
        have ms1_ := fun m => (show (w8.drewN m).cell? _ = _ from s1_)
        have ms2 := fun m => (show (w8.drewN m).cell? _ = _ from s2)
        go_wp2_with fail
        go_quiet (fail)
        obtain ⟨w9, hW⟩ : ∃ W, w8.drewN nq = W := ⟨_, rfl⟩
        rw [hW]
        have hb2 : Below w8.heap.size w8 w9 := by rw [← hW]; exact below_drewN _ _ _
        replace z0 := cellB hb2 z0
        replace c0 := cellB hb2 c0
        replace c1 := cellB hb2 c1
        replace c2 := cellB hb2 c2
        replace c3 := cellB hb2 c3
        replace c4 := cellB hb2 c4
        replace c5 := cellB hb2 c5
        replace c6 := cellB hb2 c6
        replace c7 := cellB hb2 c7
        replace x0 := cellB hb2 x0
        replace x1 := cellB hb2 x1
        replace x2 := cellB hb2 x2
        replace v0 := cellB hb2 v0
        replace v1 := cellB hb2 v1
        replace v2 := cellB hb2 v2
        replace s0 := cellB hb2 s0
        replace s1_ := cellB hb2 s1_
        replace s2 := cellB hb2 s2
        replace HE := Lib.hid (HE.out.below hb2)
        replace HS := Lib.hid (HS.out.below hb2)
        replace HR := Lib.hid (HR.out.below hb2)
        replace HVX := Lib.hid (HVX.out.below hb2)
        replace HB := Lib.hid (below_up HB.out hb2 HB.out.size)
        clear hW mz0 mc0 mc1 mc2 mc3 mc4 mc5 mc6 mc7 mx0 mx1 mx2 mv0 mv1 mv2 ms0 ms1_ ms2
        replace HW := Lib.hid (HW.out.trans (hb2.mono HW.out.size))
        replace HBX := Lib.hid (HBX.out.trans (hb2.mono HBX.out.size))
        clear hb2
        go_wp2_with fail
        go_roundw
        case rel => exact ⟨j + 1, by omega, by simp, HW.out⟩
        case measure => simp [intOf]; omega
      · have d1 : ∀ W, (binOp .neq 26 (.agg #[.int .i64 z.1, .int .i64 z.2.1, str z.2.2]) (.agg #[.int .i64 y.1, .int .i64 y.2.1, str y.2.2])).run Tryz.prog W = .ok (.bool true) W := fun W => L2.neq_yes (fun h => hzy (Prod.ext h.1 (Prod.ext h.2.1 h.2.2))) W
        obtain ⟨hk4, hcj⟩ := hor.resolve_left hzy
        have d2 : (c.kind != 4) = false := by simpa using hk4
        have d3 : ((j : Int) != col) = false := by simpa using hcj
        clear hzy hor hk4 hcj
        have mz0 := fun m => (show (w8.drewN m).cell? _ = _ from z0)
        have mc0 := fun m => (show (w8.drewN m).cell? _ = _ from c0)
        have mc1 := fun m => (show (w8.drewN m).cell? _ = _ from c1)
        have mc2 := fun m => (show (w8.drewN m).cell? _ = _ from c2)
        have mc3 := fun m => (show (w8.drewN m).cell? _ = _ from c3)
        have mc4 := fun m => (show (w8.drewN m).cell? _ = _ from c4)
        have mc5 := fun m => (show (w8.drewN m).cell? _ = _ from c5)
        have mc6 := fun m => (show (w8.drewN m).cell? _ = _ from c6)
        have mc7 := fun m => (show (w8.drewN m).cell? _ = _ from c7)
        have mx0 := fun m => (show (w8.drewN m).cell? _ = _ from x0)
        have mx1 := fun m => (show (w8.drewN m).cell? _ = _ from x1)
        have mx2 := fun m => (show (w8.drewN m).cell? _ = _ from x2)
        have mv0 := fun m => (show (w8.drewN m).cell? _ = _ from v0)
        have mv1 := fun m => (show (w8.drewN m).cell? _ = _ from v1)
        have mv2 := fun m => (show (w8.drewN m).cell? _ = _ from v2)
        have ms0 := fun m => (show (w8.drewN m).cell? _ = _ from s0)
        have ms1_ := fun m => (show (w8.drewN m).cell? _ = _ from s1_)
        have ms2 := fun m => (show (w8.drewN m).cell? _ = _ from s2)
        go_wp2_with fail
        go_quiet (fail)
        obtain ⟨w9, hW⟩ : ∃ W, w8.drewN nq = W := ⟨_, rfl⟩
        rw [hW]
        have hb2 : Below w8.heap.size w8 w9 := by rw [← hW]; exact below_drewN _ _ _
        replace z0 := cellB hb2 z0
        replace c0 := cellB hb2 c0
        replace c1 := cellB hb2 c1
        replace c2 := cellB hb2 c2
        replace c3 := cellB hb2 c3
        replace c4 := cellB hb2 c4
        replace c5 := cellB hb2 c5
        replace c6 := cellB hb2 c6
        replace c7 := cellB hb2 c7
        replace x0 := cellB hb2 x0
        replace x1 := cellB hb2 x1
        replace x2 := cellB hb2 x2
        replace v0 := cellB hb2 v0
        replace v1 := cellB hb2 v1
        replace v2 := cellB hb2 v2
        replace s0 := cellB hb2 s0
        replace s1_ := cellB hb2 s1_
        replace s2 := cellB hb2 s2
        replace HE := Lib.hid (HE.out.below hb2)
        replace HS := Lib.hid (HS.out.below hb2)
        replace HR := Lib.hid (HR.out.below hb2)
        replace HVX := Lib.hid (HVX.out.below hb2)
        replace HB := Lib.hid (below_up HB.out hb2 HB.out.size)
        clear hW mz0 mc0 mc1 mc2 mc3 mc4 mc5 mc6 mc7 mx0 mx1 mx2 mv0 mv1 mv2 ms0 ms1_ ms2
        replace HW := Lib.hid (HW.out.trans (hb2.mono HW.out.size))
        replace HBX := Lib.hid (HBX.out.trans (hb2.mono HBX.out.size))
        clear hb2
        go_wp2_with fail
        go_roundw
        case rel => exact ⟨j + 1, by omega, by simp, HW.out⟩
        case measure => simp [intOf]; omega
    · go_wp2_with fail
      go_ret
      exact ⟨rfl, HB.out⟩
set_option maxRecDepth 100000 in
set_option maxHeartbeats 4000000 in
theorem rows_chg (s : List TabT) (v : Value) (c : ChgT) (raw : UInt8) (row : List T3) (rv : Value) (w : World) (he : L2.Env w) (h : Tabs w v s) (hr : Vals w rv row) (hsm : SmallC s c row) (h0 : 0 < s.length) (n : Nat) (hn : (raw.toNat : Int).tmod (s.length : Int) = (n : Int)) (hns : n < s.length) (s1 : List TabT) (xs : List T3) (ha : applyT s c = (s1, 0)) (hm1 : Mid s1) (hl : s1.length = s.length) (hcv : convT s c n row = (xs, 0)) (hfi : fitsB s[n].attrs row = true) (hfx : ∀ h1 : n < s1.length, fitsB s1[n].attrs xs = true) (hxl : xs.length ≤ 4000) (col : Int) (hcol : colT s[n].attrs c.attr = col) (htt : s[n].name = c.table) (hmv : ∀ i (hi : i < row.length), 0 ≤ movT s[n].attrs c (i : Int) → ∃ j : Nat, movT s[n].attrs c (i : Int) = (j : Int) ∧ ∃ hj : j < xs.length, xs[j] = row[i] ∨ (c.kind = 4 ∧ (i : Int) = col)) :
    Calls Tryz.prog 6 #[.agg #[v], Cv c, .int .u8 (raw.toNat : Int), rv] w (fun e w' => e = .returned (.bool true) ∧ Below w.heap.size w w') := by
  have HSM := Lib.hid hsm
  have q1 : ((s.length : Int) == 0) = false := beq_eq_false_iff_ne.2 (by omega)
  have q2 : ¬ (s.length : Int) = 0 := by omega
  have q3 := raw.toNat_lt
  have q4 : (s.length : Int) ≤ 24 := by have := hsm.1.1; omega
  have q5 : (0 : Int) < (s.length : Int) := by omega
  have hrl : row.length ≤ 20 := hsm.2.2.2
  have HA := Lib.hid ha
  have HCV := Lib.hid hcv
  have HM1 := Lib.hid hm1
  have HFI := Lib.hid hfi
  have HFX := Lib.hid hfx
  have HCOL := Lib.hid hcol
  have HTT := Lib.hid htt
  have HMV := Lib.hid hmv
  have q6 : ((s1.length : Int) != (s.length : Int)) = false := by simp [hl]
  have hn1 : n < s1.length := by omega
  have i3 : (n : Int) < (s1.length : Int) := by omega
  clear hsm h0 ha hm1 hl hcv hfi hfx hcol htt hmv
  obtain ⟨A, cp, rfl, _⟩ := h.form
  obtain ⟨Ar, cr, rfl, _⟩ := hr.form
  have HE := Lib.hid he
  have HS := Lib.hid h
  have HR := Lib.hid hr
  clear he h hr
  go_enter Tryz.func6, Tryz.ntmps6
  go_wp2_with fail
  refine (head_any _ ((HE.out.alloc _).alloc _)).mono ?_
  rintro e w1 ⟨rfl, hb⟩
  have hb2 : Below w.heap.size w w1 := below_up ((below_box w _).alloc (by simp) _) hb (by simp; omega)
  replace HE := Lib.hid (HE.out.below hb2)
  replace HS := Lib.hid (HS.out.below hb2)
  replace HR := Lib.hid (HR.out.below hb2)
  have HB := Lib.hid hb2
  have z0 : w1.cell? ⟨w.heap.size, 0, none⟩ = some (.slice A s.length cp) := cellB hb (by simp [go_sem])
  have c0 : w1.cell? ⟨w.heap.size + 1, 0, none⟩ = some (.int .i64 c.kind) := cellB hb (by simp [go_sem])
  have c1 : w1.cell? ⟨w.heap.size + 1, 1, none⟩ = some (str c.table) := cellB hb (by simp [go_sem])
  have c2 : w1.cell? ⟨w.heap.size + 1, 2, none⟩ = some (str c.attr) := cellB hb (by simp [go_sem])
  have c3 : w1.cell? ⟨w.heap.size + 1, 3, none⟩ = some (str c.name) := cellB hb (by simp [go_sem])
  have c4 : w1.cell? ⟨w.heap.size + 1, 4, none⟩ = some (.int .i64 c.to) := cellB hb (by simp [go_sem])
  have c5 : w1.cell? ⟨w.heap.size + 1, 5, none⟩ = some (.int .i64 c.dft.1) := cellB hb (by simp [go_sem])
  have c6 : w1.cell? ⟨w.heap.size + 1, 6, none⟩ = some (.int .i64 c.dft.2.1) := cellB hb (by simp [go_sem])
  have c7 : w1.cell? ⟨w.heap.size + 1, 7, none⟩ = some (str c.dft.2.2) := cellB hb (by simp [go_sem])
  clear hb hb2
  go_wp2_with fail
  refine (smallC_is s _ _ c row HSM.out _ HS.out ⟨_, _, rfl⟩).mono ?_
  rintro e w2 ⟨rfl, hb⟩
  have hb2 : Below w1.heap.size w1 w2 := hb
  replace z0 := cellB hb2 z0
  replace c0 := cellB hb2 c0
  replace c1 := cellB hb2 c1
  replace c2 := cellB hb2 c2
  replace c3 := cellB hb2 c3
  replace c4 := cellB hb2 c4
  replace c5 := cellB hb2 c5
  replace c6 := cellB hb2 c6
  replace c7 := cellB hb2 c7
  replace HE := Lib.hid (HE.out.below hb2)
  replace HS := Lib.hid (HS.out.below hb2)
  replace HR := Lib.hid (HR.out.below hb2)
  replace HB := Lib.hid (below_up HB.out hb2 HB.out.size)
  clear hb hb2
  go_wp2_with fail
  refine (apply_is s _ c _ HA.out HSM.out.mid _ HS.out).mono ?_
  rintro e w3 ⟨va, rfl, hva, hb⟩
  have hb2 : Below w2.heap.size w2 w3 := hb
  replace z0 := cellB hb2 z0
  replace c0 := cellB hb2 c0
  replace c1 := cellB hb2 c1
  replace c2 := cellB hb2 c2
  replace c3 := cellB hb2 c3
  replace c4 := cellB hb2 c4
  replace c5 := cellB hb2 c5
  replace c6 := cellB hb2 c6
  replace c7 := cellB hb2 c7
  replace HE := Lib.hid (HE.out.below hb2)
  replace HS := Lib.hid (HS.out.below hb2)
  replace HR := Lib.hid (HR.out.below hb2)
  replace HB := Lib.hid (below_up HB.out hb2 HB.out.size)
  clear hb hb2
  obtain ⟨Aa, ca, rfl, _⟩ := hva.form
  have HVA := Lib.hid hva
  clear hva
  have yz0 := fun o => Cell.alloc z0 o
  have yc0 := fun o => Cell.alloc c0 o
  have yc1 := fun o => Cell.alloc c1 o
  have yc2 := fun o => Cell.alloc c2 o
  have yc3 := fun o => Cell.alloc c3 o
  have yc4 := fun o => Cell.alloc c4 o
  have yc5 := fun o => Cell.alloc c5 o
  have yc6 := fun o => Cell.alloc c6 o
  have yc7 := fun o => Cell.alloc c7 o
  go_wp2_with fail
  refine (convert_is s _ _ c (n : Int) row _ HCV.out HSM.out.mid (by omega) _ (HE.out.alloc _) (HS.out.below (below_box w3 _)) (HR.out.below (below_box w3 _))).mono ?_
  rintro e w4 ⟨vx, rfl, hvx, hb⟩
  have hb2 : Below w3.heap.size w3 w4 := below_up (below_box w3 _) hb (by simp)
  replace z0 := cellB hb2 z0
  replace c0 := cellB hb2 c0
  replace c1 := cellB hb2 c1
  replace c2 := cellB hb2 c2
  replace c3 := cellB hb2 c3
  replace c4 := cellB hb2 c4
  replace c5 := cellB hb2 c5
  replace c6 := cellB hb2 c6
  replace c7 := cellB hb2 c7
  replace HE := Lib.hid (HE.out.below hb2)
  replace HS := Lib.hid (HS.out.below hb2)
  replace HR := Lib.hid (HR.out.below hb2)
  replace HVA := Lib.hid (HVA.out.below hb2)
  replace HB := Lib.hid (below_up HB.out hb2 HB.out.size)
  have a0 : w4.cell? ⟨w3.heap.size, 0, none⟩ = some (.slice Aa s1.length ca) := cellB hb (by simp [go_sem])
  clear hb hb2 yz0 yc0 yc1 yc2 yc3 yc4 yc5 yc6 yc7
  obtain ⟨Ax, cx, rfl, _⟩ := hvx.form
  have HVX := Lib.hid hvx
  clear hvx
  obtain ⟨b1, o1, rfl, xa, xk, hax, hxa, hxk⟩ := tab_at HS.out hns
  obtain ⟨Xa, na, rfl, _⟩ := hxa.form
  obtain ⟨Xk, nk, rfl, _⟩ := hxk.form
  have x0 := hax.c0
  have x1 := hax.c1
  have x2 := hax.c2
  have HXA := Lib.hid hxa
  have i1 : (0 : Int) ≤ (n : Int) := by omega
  have i2 : (n : Int) < (s.length : Int) := by omega
  have hmx := HSM.out.mid.2 s[n] (List.getElem_mem hns)
  clear hax hxa hxk
  obtain ⟨b2, o2, rfl, ya, yk, hay, hya, hyk⟩ := tab_at HVA.out hn1
  obtain ⟨Ya, ma, rfl, _⟩ := hya.form
  obtain ⟨Yk, mk, rfl, _⟩ := hyk.form
  have y0 := hay.c0
  have y1 := hay.c1
  have y2 := hay.c2
  have HYA := Lib.hid hya
  have hmy := HM1.out.2 s1[n] (List.getElem_mem hn1)
  have CF := Lib.hid (fun W (hW : Below w4.heap.size w4 W) => fits_is s[n].name s[n].attrs row _ (.slice Xk s[n].key.length nk) _ true HFI.out hmx.1 (by omega) W (HXA.out.below hW) (HR.out.below hW))
  have CX := Lib.hid (fun W (hW : Below w4.heap.size w4 W) => fits_is s1[n].name s1[n].attrs xs _ (.slice Yk s1[n].key.length mk) _ true (HFX.out hn1) hmy.1 hxl W (HYA.out.below hW) (HVX.out.below hW))
  have CC := Lib.hid (fun W (hW : Below w4.heap.size w4 W) => column_is s[n].name s[n].attrs _ (.slice Xk s[n].key.length nk) c.attr col HCOL.out hmx.1 hmx.2.2 W (HXA.out.below hW))
  have CM := Lib.hid (fun (i : Nat) (hi : i ≤ 20) W (hW : Below w4.heap.size w4 W) => moved_is s[n].name s[n].attrs _ (.slice Xk s[n].key.length nk) c (i : Int) _ rfl hmx.1 hmx.2.2 (by omega) W (HXA.out.below hW))
  obtain ⟨t, ht⟩ : ∃ t, s[n] = t := ⟨_, rfl⟩
  have htn := HTT.out
  have hmv := HMV.out
  rw [ht] at CF CC x0 x1 x2 htn hmv CM
  obtain ⟨u, hu⟩ : ∃ u, s1[n] = u := ⟨_, rfl⟩
  rw [hu] at CX y0 y1 y2
  have HMT := Lib.hid hmv
  have t1 : (t.name == c.table) = true := by simpa using htn
  clear hmx hmy ht hu HXA HYA htn HTT HFI HFX HCOL hay hya hyk hmv HMV
  go_wp2_with fail
  refine (CF.out _ (Below.refl _ _)).mono ?_
  rintro e w5 ⟨rfl, hb⟩
  have hb2 : Below w4.heap.size w4 w5 := hb
  have HBX := Lib.hid hb2
  replace z0 := cellB hb2 z0
  replace c0 := cellB hb2 c0
  replace c1 := cellB hb2 c1
  replace c2 := cellB hb2 c2
  replace c3 := cellB hb2 c3
  replace c4 := cellB hb2 c4
  replace c5 := cellB hb2 c5
  replace c6 := cellB hb2 c6
  replace c7 := cellB hb2 c7
  replace a0 := cellB hb2 a0
  replace x0 := cellB hb2 x0
  replace x1 := cellB hb2 x1
  replace x2 := cellB hb2 x2
  replace y0 := cellB hb2 y0
  replace y1 := cellB hb2 y1
  replace y2 := cellB hb2 y2
  replace HE := Lib.hid (HE.out.below hb2)
  replace HS := Lib.hid (HS.out.below hb2)
  replace HR := Lib.hid (HR.out.below hb2)
  replace HVA := Lib.hid (HVA.out.below hb2)
  replace HVX := Lib.hid (HVX.out.below hb2)
  replace HB := Lib.hid (below_up HB.out hb2 HB.out.size)
  clear hb hb2
  go_wp2_with fail
  refine (CX.out _ HBX.out).mono ?_
  rintro e w6 ⟨rfl, hb⟩
  have hb2 : Below w5.heap.size w5 w6 := hb
  replace HBX := Lib.hid (HBX.out.trans (hb2.mono HBX.out.size))
  clear a0
  clear y0
  clear y1
  clear y2
  replace z0 := cellB hb2 z0
  replace c0 := cellB hb2 c0
  replace c1 := cellB hb2 c1
  replace c2 := cellB hb2 c2
  replace c3 := cellB hb2 c3
  replace c4 := cellB hb2 c4
  replace c5 := cellB hb2 c5
  replace c6 := cellB hb2 c6
  replace c7 := cellB hb2 c7
  replace x0 := cellB hb2 x0
  replace x1 := cellB hb2 x1
  replace x2 := cellB hb2 x2
  replace HE := Lib.hid (HE.out.below hb2)
  replace HS := Lib.hid (HS.out.below hb2)
  replace HR := Lib.hid (HR.out.below hb2)
  replace HVA := Lib.hid (HVA.out.below hb2)
  replace HVX := Lib.hid (HVX.out.below hb2)
  replace HB := Lib.hid (below_up HB.out hb2 HB.out.size)
  clear hb hb2
  clear CF CX HVA
  go_wp2_with fail
  go_region_held3 (fun w' => w'.cell? ⟨w.heap.size, 0, none⟩ = some (.slice (some ⟨b1, o1, none⟩) s.length cp) ∧ w'.cell? ⟨w.heap.size + 1, 2, none⟩ = some (str c.attr) ∧ w'.cell? ⟨b1, o1 + n * 3, none⟩ = some (str t.name) ∧ w'.cell? ⟨b1, o1 + n * 3 + 1, none⟩ = some (.slice Xa t.attrs.length na) ∧ w'.cell? ⟨b1, o1 + n * 3 + 2, none⟩ = some (.slice Xk t.key.length nk)) (go_keep)
    (first | (go_at_call 23; refine (CC.out _ (HBX.out.trans (below_drewN _ _ 1))).mono ?_; rintro e w7 ⟨rfl, hb⟩; have hb1 := (below_drewN w6.heap.size w6 1).trans hb; have g1 := Lib.hid hb1; have pz0 := cellB hb1 z0; have pc0 := cellB hb1 c0; have pc1 := cellB hb1 c1; have pc2 := cellB hb1 c2; have pc3 := cellB hb1 c3; have pc4 := cellB hb1 c4; have pc5 := cellB hb1 c5; have pc6 := cellB hb1 c6; have pc7 := cellB hb1 c7; have px0 := cellB hb1 x0; have px1 := cellB hb1 x1; have px2 := cellB hb1 x2; clear hb hb1))
  replace z0 := pz0
  replace c0 := pc0
  replace c1 := pc1
  replace c2 := pc2
  replace c3 := pc3
  replace c4 := pc4
  replace c5 := pc5
  replace c6 := pc6
  replace c7 := pc7
  replace x0 := px0
  replace x1 := px1
  replace x2 := px2
  replace HE := Lib.hid (HE.out.below g1.out)
  replace HS := Lib.hid (HS.out.below g1.out)
  replace HR := Lib.hid (HR.out.below g1.out)
  replace HVX := Lib.hid (HVX.out.below g1.out)
  replace HB := Lib.hid (below_up HB.out g1.out HB.out.size)
  replace HBX := Lib.hid (HBX.out.trans (g1.out.mono HBX.out.size))
  clear g1 pz0 pc0 pc1 pc2 pc3 pc4 pc5 pc6 pc7 px0 px1 px2
  clear CC
  go_wp2_with fail
  go_loopw [19] (fun i wr => ∃ j : Nat, j ≤ row.length ∧ i = .int .i64 (j : Int) ∧ Below w7.heap.size w7 wr) (fun i _ => row.length - (intOf i).toNat)
  case atStart => exact ⟨0, by omega, by simp, Below.refl _ _⟩
  case round =>
    obtain ⟨j, hj, rfl, hw⟩ := hrel
    have z0 := cellB hw z0
    have c0 := cellB hw c0
    have c1 := cellB hw c1
    have c2 := cellB hw c2
    have c3 := cellB hw c3
    have c4 := cellB hw c4
    have c5 := cellB hw c5
    have c6 := cellB hw c6
    have c7 := cellB hw c7
    have x0 := cellB hw x0
    have x1 := cellB hw x1
    have x2 := cellB hw x2
    have HE := Lib.hid (HE.out.below hw)
    have HS := Lib.hid (HS.out.below hw)
    have HR := Lib.hid (HR.out.below hw)
    have HVX := Lib.hid (HVX.out.below hw)
    have HB := Lib.hid (below_up HB.out hw HB.out.size)
    have HBX := Lib.hid (HBX.out.trans (hw.mono HBX.out.size))
    have HW := Lib.hid hw
    clear hw
    by_cases hlt : j < row.length
    · obtain ⟨bv, ov, e, hcell⟩ := val_at HR.out hlt
      subst e
      have v0 := hcell.c0
      have v1 := hcell.c1
      have v2 := hcell.c2
      have j1 : (0 : Int) ≤ (j : Int) := by omega
      have j2 : (j : Int) < (row.length : Int) := by omega
      clear hcell
      have mz0 := fun m => (show (wr.drewN m).cell? _ = _ from z0)
      have mc0 := fun m => (show (wr.drewN m).cell? _ = _ from c0)
      have mc1 := fun m => (show (wr.drewN m).cell? _ = _ from c1)
      have mc2 := fun m => (show (wr.drewN m).cell? _ = _ from c2)
      have mc3 := fun m => (show (wr.drewN m).cell? _ = _ from c3)
      have mc4 := fun m => (show (wr.drewN m).cell? _ = _ from c4)
      have mc5 := fun m => (show (wr.drewN m).cell? _ = _ from c5)
      have mc6 := fun m => (show (wr.drewN m).cell? _ = _ from c6)
      have mc7 := fun m => (show (wr.drewN m).cell? _ = _ from c7)
      have mx0 := fun m => (show (wr.drewN m).cell? _ = _ from x0)
      have mx1 := fun m => (show (wr.drewN m).cell? _ = _ from x1)
      have mx2 := fun m => (show (wr.drewN m).cell? _ = _ from x2)
      have mv0 := fun m => (show (wr.drewN m).cell? _ = _ from v0)
      have mv1 := fun m => (show (wr.drewN m).cell? _ = _ from v1)
      have mv2 := fun m => (show (wr.drewN m).cell? _ = _ from v2)
      go_wp2_with fail
      go_quiet (fail)
      obtain ⟨w8, hW⟩ : ∃ W, wr.drewN nq = W := ⟨_, rfl⟩
      rw [hW]
      have hb2 : Below wr.heap.size wr w8 := by rw [← hW]; exact below_drewN _ _ _
      replace z0 := cellB hb2 z0
      replace c0 := cellB hb2 c0
      replace c1 := cellB hb2 c1
      replace c2 := cellB hb2 c2
      replace c3 := cellB hb2 c3
      replace c4 := cellB hb2 c4
      replace c5 := cellB hb2 c5
      replace c6 := cellB hb2 c6
      replace c7 := cellB hb2 c7
      replace x0 := cellB hb2 x0
      replace x1 := cellB hb2 x1
      replace x2 := cellB hb2 x2
      replace v0 := cellB hb2 v0
      replace v1 := cellB hb2 v1
      replace v2 := cellB hb2 v2
      replace HE := Lib.hid (HE.out.below hb2)
      replace HS := Lib.hid (HS.out.below hb2)
      replace HR := Lib.hid (HR.out.below hb2)
      replace HVX := Lib.hid (HVX.out.below hb2)
      replace HB := Lib.hid (below_up HB.out hb2 HB.out.size)
      clear hW mz0 mc0 mc1 mc2 mc3 mc4 mc5 mc6 mc7 mx0 mx1 mx2 mv0 mv1 mv2
      replace HW := Lib.hid (HW.out.trans (hb2.mono HW.out.size))
      replace HBX := Lib.hid (HBX.out.trans (hb2.mono HBX.out.size))
      clear hb2
      have hmj := HMT.out j hlt
      obtain ⟨y, hy⟩ : ∃ y, row[j] = y := ⟨_, rfl⟩
      rw [hy] at v0 v1 v2 hmj
      clear hy
      obtain ⟨m, hm⟩ : ∃ m, movT t.attrs c (j : Int) = m := ⟨_, rfl⟩
      have CMJ := Lib.hid (CM.out j (by omega))
      rw [hm] at CMJ hmj
      clear hm
      go_wp2_with fail
      go_region_held3 (fun w' => w'.cell? ⟨w.heap.size, 0, none⟩ = some (.slice (some ⟨b1, o1, none⟩) s.length cp) ∧ w'.cell? ⟨b1, o1 + n * 3, none⟩ = some (str t.name) ∧ w'.cell? ⟨b1, o1 + n * 3 + 1, none⟩ = some (.slice Xa t.attrs.length na) ∧ w'.cell? ⟨b1, o1 + n * 3 + 2, none⟩ = some (.slice Xk t.key.length nk) ∧ w'.cell? ⟨w.heap.size + 1, 0, none⟩ = some (.int .i64 c.kind) ∧ w'.cell? ⟨w.heap.size + 1, 1, none⟩ = some (str c.table) ∧ w'.cell? ⟨w.heap.size + 1, 2, none⟩ = some (str c.attr) ∧ w'.cell? ⟨w.heap.size + 1, 3, none⟩ = some (str c.name) ∧ w'.cell? ⟨w.heap.size + 1, 4, none⟩ = some (.int .i64 c.to) ∧ w'.cell? ⟨w.heap.size + 1, 5, none⟩ = some (.int .i64 c.dft.1) ∧ w'.cell? ⟨w.heap.size + 1, 6, none⟩ = some (.int .i64 c.dft.2.1) ∧ w'.cell? ⟨w.heap.size + 1, 7, none⟩ = some (str c.dft.2.2)) (go_keep)
        (first | (go_at_call 26; refine (CMJ.out _ (HBX.out.trans (below_drewN _ _ 1))).mono ?_; rintro e w9 ⟨rfl, hb⟩; have hb1 := (below_drewN w8.heap.size w8 1).trans hb; have g1 := Lib.hid hb1; have pz0 := cellB hb1 z0; have pc0 := cellB hb1 c0; have pc1 := cellB hb1 c1; have pc2 := cellB hb1 c2; have pc3 := cellB hb1 c3; have pc4 := cellB hb1 c4; have pc5 := cellB hb1 c5; have pc6 := cellB hb1 c6; have pc7 := cellB hb1 c7; have px0 := cellB hb1 x0; have px1 := cellB hb1 x1; have px2 := cellB hb1 x2; have pv0 := cellB hb1 v0; have pv1 := cellB hb1 v1; have pv2 := cellB hb1 v2; clear hb hb1))
      replace z0 := pz0
      replace c0 := pc0
      replace c1 := pc1
      replace c2 := pc2
      replace c3 := pc3
      replace c4 := pc4
      replace c5 := pc5
      replace c6 := pc6
      replace c7 := pc7
      replace x0 := px0
      replace x1 := px1
      replace x2 := px2
      replace v0 := pv0
      replace v1 := pv1
      replace v2 := pv2
      replace HE := Lib.hid (HE.out.below g1.out)
      replace HS := Lib.hid (HS.out.below g1.out)
      replace HR := Lib.hid (HR.out.below g1.out)
      replace HVX := Lib.hid (HVX.out.below g1.out)
      replace HB := Lib.hid (below_up HB.out g1.out HB.out.size)
      replace HW := Lib.hid (HW.out.trans (g1.out.mono HW.out.size))
      replace HBX := Lib.hid (HBX.out.trans (g1.out.mono HBX.out.size))
      clear g1 pz0 pc0 pc1 pc2 pc3 pc4 pc5 pc6 pc7 px0 px1 px2 pv0 pv1 pv2
      by_cases hm0 : m < 0
      · have l0 : ¬ (0 : Int) ≤ m := by omega
        have l3 : decide ((0 : Int) ≤ m) = false := decide_eq_false l0
        clear hmj CMJ
        go_wp2_with fail
        have mz0 := fun m => (show (w9.drewN m).cell? _ = _ from z0)
        have mc0 := fun m => (show (w9.drewN m).cell? _ = _ from c0)
        have mc1 := fun m => (show (w9.drewN m).cell? _ = _ from c1)
        have mc2 := fun m => (show (w9.drewN m).cell? _ = _ from c2)
        have mc3 := fun m => (show (w9.drewN m).cell? _ = _ from c3)
        have mc4 := fun m => (show (w9.drewN m).cell? _ = _ from c4)
        have mc5 := fun m => (show (w9.drewN m).cell? _ = _ from c5)
        have mc6 := fun m => (show (w9.drewN m).cell? _ = _ from c6)
        have mc7 := fun m => (show (w9.drewN m).cell? _ = _ from c7)
        have mx0 := fun m => (show (w9.drewN m).cell? _ = _ from x0)
        have mx1 := fun m => (show (w9.drewN m).cell? _ = _ from x1)
        have mx2 := fun m => (show (w9.drewN m).cell? _ = _ from x2)
        have mv0 := fun m => (show (w9.drewN m).cell? _ = _ from v0)
        have mv1 := fun m => (show (w9.drewN m).cell? _ = _ from v1)
        have mv2 := fun m => (show (w9.drewN m).cell? _ = _ from v2)
        go_wp2_with fail
        go_quiet (fail)
        obtain ⟨w10, hW⟩ : ∃ W, w9.drewN nq = W := ⟨_, rfl⟩
        rw [hW]
        have hb2 : Below w9.heap.size w9 w10 := by rw [← hW]; exact below_drewN _ _ _
        replace z0 := cellB hb2 z0
        replace c0 := cellB hb2 c0
        replace c1 := cellB hb2 c1
        replace c2 := cellB hb2 c2
        replace c3 := cellB hb2 c3
        replace c4 := cellB hb2 c4
        replace c5 := cellB hb2 c5
        replace c6 := cellB hb2 c6
        replace c7 := cellB hb2 c7
        replace x0 := cellB hb2 x0
        replace x1 := cellB hb2 x1
        replace x2 := cellB hb2 x2
        replace v0 := cellB hb2 v0
        replace v1 := cellB hb2 v1
        replace v2 := cellB hb2 v2
        replace HE := Lib.hid (HE.out.below hb2)
        replace HS := Lib.hid (HS.out.below hb2)
        replace HR := Lib.hid (HR.out.below hb2)
        replace HVX := Lib.hid (HVX.out.below hb2)
        replace HB := Lib.hid (below_up HB.out hb2 HB.out.size)
        clear hW mz0 mc0 mc1 mc2 mc3 mc4 mc5 mc6 mc7 mx0 mx1 mx2 mv0 mv1 mv2
        replace HW := Lib.hid (HW.out.trans (hb2.mono HW.out.size))
        replace HBX := Lib.hid (HBX.out.trans (hb2.mono HBX.out.size))
        clear hb2
        go_wp2_with fail
        go_roundw
        case rel => exact ⟨j + 1, by omega, by simp, HW.out⟩
        case measure => simp [intOf]; omega
      · obtain ⟨p, e, hjx, hor⟩ := hmj (by omega)
        subst e
        clear hm0 CMJ
        go_wp2_with fail
        obtain ⟨bx, ox, e, hxc⟩ := val_at HVX.out hjx
        subst e
        obtain ⟨z, hz⟩ : ∃ z, xs[p] = z := ⟨_, rfl⟩
        rw [hz] at hxc hor
        have s0 := hxc.c0
        have s1_ := hxc.c1
        have s2 := hxc.c2
        clear hxc hz
        have l1 : (0 : Int) ≤ (p : Int) := by omega
        have l2 : (p : Int) < (xs.length : Int) := by omega
        by_cases hzy : z = y
        · have d1 : ∀ W, (binOp .neq 26 (.agg #[.int .i64 z.1, .int .i64 z.2.1, str z.2.2]) (.agg #[.int .i64 y.1, .int .i64 y.2.1, str y.2.2])).run Tryz.prog W = .ok (.bool false) W := fun W => by subst hzy; exact L2.neq_no _ _ _ W
          clear hzy hor
          have mz0 := fun m => (show (w9.drewN m).cell? _ = _ from z0)
          have mc0 := fun m => (show (w9.drewN m).cell? _ = _ from c0)
          have mc1 := fun m => (show (w9.drewN m).cell? _ = _ from c1)
          have mc2 := fun m => (show (w9.drewN m).cell? _ = _ from c2)
          have mc3 := fun m => (show (w9.drewN m).cell? _ = _ from c3)
          have mc4 := fun m => (show (w9.drewN m).cell? _ = _ from c4)
          have mc5 := fun m => (show (w9.drewN m).cell? _ = _ from c5)
          have mc6 := fun m => (show (w9.drewN m).cell? _ = _ from c6)
          have mc7 := fun m => (show (w9.drewN m).cell? _ = _ from c7)
          have mx0 := fun m => (show (w9.drewN m).cell? _ = _ from x0)
          have mx1 := fun m => (show (w9.drewN m).cell? _ = _ from x1)
          have mx2 := fun m => (show (w9.drewN m).cell? _ = _ from x2)
          have mv0 := fun m => (show (w9.drewN m).cell? _ = _ from v0)
          have mv1 := fun m => (show (w9.drewN m).cell? _ = _ from v1)
          have mv2 := fun m => (show (w9.drewN m).cell? _ = _ from v2)
          have ms0 := fun m => (show (w9.drewN m).cell? _ = _ from s0)
          have ms1_ := fun m => (show (w9.drewN m).cell? _ = _ from s1_)
          have ms2 := fun m => (show (w9.drewN m).cell? _ = _ from s2)
          go_wp2_with fail
          go_quiet (fail)
          obtain ⟨w10, hW⟩ : ∃ W, w9.drewN nq = W := ⟨_, rfl⟩
          rw [hW]
          have hb2 : Below w9.heap.size w9 w10 := by rw [← hW]; exact below_drewN _ _ _
          replace z0 := cellB hb2 z0
          replace c0 := cellB hb2 c0
          replace c1 := cellB hb2 c1
          replace c2 := cellB hb2 c2
          replace c3 := cellB hb2 c3
          replace c4 := cellB hb2 c4
          replace c5 := cellB hb2 c5
          replace c6 := cellB hb2 c6
          replace c7 := cellB hb2 c7
          replace x0 := cellB hb2 x0
          replace x1 := cellB hb2 x1
          replace x2 := cellB hb2 x2
          replace v0 := cellB hb2 v0
          replace v1 := cellB hb2 v1
          replace v2 := cellB hb2 v2
          replace s0 := cellB hb2 s0
          replace s1_ := cellB hb2 s1_
          replace s2 := cellB hb2 s2
          replace HE := Lib.hid (HE.out.below hb2)
          replace HS := Lib.hid (HS.out.below hb2)
          replace HR := Lib.hid (HR.out.below hb2)
          replace HVX := Lib.hid (HVX.out.below hb2)
          replace HB := Lib.hid (below_up HB.out hb2 HB.out.size)
          clear hW mz0 mc0 mc1 mc2 mc3 mc4 mc5 mc6 mc7 mx0 mx1 mx2 mv0 mv1 mv2 ms0 ms1_ ms2
          replace HW := Lib.hid (HW.out.trans (hb2.mono HW.out.size))
          replace HBX := Lib.hid (HBX.out.trans (hb2.mono HBX.out.size))
          clear hb2
          go_wp2_with fail
          go_roundw
          case rel => exact ⟨j + 1, by omega, by simp, HW.out⟩
          case measure => simp [intOf]; omega
        · have d1 : ∀ W, (binOp .neq 26 (.agg #[.int .i64 z.1, .int .i64 z.2.1, str z.2.2]) (.agg #[.int .i64 y.1, .int .i64 y.2.1, str y.2.2])).run Tryz.prog W = .ok (.bool true) W := fun W => L2.neq_yes (fun h => hzy (Prod.ext h.1 (Prod.ext h.2.1 h.2.2))) W
          obtain ⟨hk4, hcj⟩ := hor.resolve_left hzy
          have d2 : (c.kind != 4) = false := by simpa using hk4
          have d3 : ((j : Int) != col) = false := by simpa using hcj
          clear hzy hor hk4 hcj
          have mz0 := fun m => (show (w9.drewN m).cell? _ = _ from z0)
          have mc0 := fun m => (show (w9.drewN m).cell? _ = _ from c0)
          have mc1 := fun m => (show (w9.drewN m).cell? _ = _ from c1)
          have mc2 := fun m => (show (w9.drewN m).cell? _ = _ from c2)
          have mc3 := fun m => (show (w9.drewN m).cell? _ = _ from c3)
          have mc4 := fun m => (show (w9.drewN m).cell? _ = _ from c4)
          have mc5 := fun m => (show (w9.drewN m).cell? _ = _ from c5)
          have mc6 := fun m => (show (w9.drewN m).cell? _ = _ from c6)
          have mc7 := fun m => (show (w9.drewN m).cell? _ = _ from c7)
          have mx0 := fun m => (show (w9.drewN m).cell? _ = _ from x0)
          have mx1 := fun m => (show (w9.drewN m).cell? _ = _ from x1)
          have mx2 := fun m => (show (w9.drewN m).cell? _ = _ from x2)
          have mv0 := fun m => (show (w9.drewN m).cell? _ = _ from v0)
          have mv1 := fun m => (show (w9.drewN m).cell? _ = _ from v1)
          have mv2 := fun m => (show (w9.drewN m).cell? _ = _ from v2)
          have ms0 := fun m => (show (w9.drewN m).cell? _ = _ from s0)
          have ms1_ := fun m => (show (w9.drewN m).cell? _ = _ from s1_)
          have ms2 := fun m => (show (w9.drewN m).cell? _ = _ from s2)
          go_wp2_with fail
          go_quiet (fail)
          obtain ⟨w10, hW⟩ : ∃ W, w9.drewN nq = W := ⟨_, rfl⟩
          rw [hW]
          have hb2 : Below w9.heap.size w9 w10 := by rw [← hW]; exact below_drewN _ _ _
          replace z0 := cellB hb2 z0
          replace c0 := cellB hb2 c0
          replace c1 := cellB hb2 c1
          replace c2 := cellB hb2 c2
          replace c3 := cellB hb2 c3
          replace c4 := cellB hb2 c4
          replace c5 := cellB hb2 c5
          replace c6 := cellB hb2 c6
          replace c7 := cellB hb2 c7
          replace x0 := cellB hb2 x0
          replace x1 := cellB hb2 x1
          replace x2 := cellB hb2 x2
          replace v0 := cellB hb2 v0
          replace v1 := cellB hb2 v1
          replace v2 := cellB hb2 v2
          replace s0 := cellB hb2 s0
          replace s1_ := cellB hb2 s1_
          replace s2 := cellB hb2 s2
          replace HE := Lib.hid (HE.out.below hb2)
          replace HS := Lib.hid (HS.out.below hb2)
          replace HR := Lib.hid (HR.out.below hb2)
          replace HVX := Lib.hid (HVX.out.below hb2)
          replace HB := Lib.hid (below_up HB.out hb2 HB.out.size)
          clear hW mz0 mc0 mc1 mc2 mc3 mc4 mc5 mc6 mc7 mx0 mx1 mx2 mv0 mv1 mv2 ms0 ms1_ ms2
          replace HW := Lib.hid (HW.out.trans (hb2.mono HW.out.size))
          replace HBX := Lib.hid (HBX.out.trans (hb2.mono HBX.out.size))
          clear hb2
          go_wp2_with fail
          go_roundw
          case rel => exact ⟨j + 1, by omega, by simp, HW.out⟩
          case measure => simp [intOf]; omega
    · go_wp2_with fail
      go_ret
      exact ⟨rfl, HB.out⟩
end Go.Proofs.YteokcgfbhaeklaaGreatDoor
