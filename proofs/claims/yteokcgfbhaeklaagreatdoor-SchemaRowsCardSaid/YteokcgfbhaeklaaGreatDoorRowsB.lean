/- SchemaRows in plain words: a cast that is not possible. -/
import Derived.Test.YteokcgfbhaeklaaGreatDoorRowsA
namespace Go.Proofs.YteokcgfbhaeklaaGreatDoor
open Go.RowKit

set_option maxRecDepth 100000 in
set_option maxHeartbeats 4000000 in
theorem rows_bad (s : List TabT) (v : Value) (c : ChgT) (raw : UInt8) (row : List T3) (rv : Value) (w : World) (he : L2.Env w) (h : Tabs w v s) (hr : Vals w rv row) (hsm : SmallC s c row) (h0 : 0 < s.length) (n : Nat) (hn : (raw.toNat : Int).tmod (s.length : Int) = (n : Int)) (hns : n < s.length) (s1 : List TabT) (p : Nat) (ha : applyT s c = (s1, 0)) (hcv : convT s c n row = ([], 15)) (hfi : fitsB s[n].attrs row = true) (hk : c.kind = 4) (htn : s[n].name = c.table) (hp : colT s[n].attrs c.attr = (p : Int)) (hpl : p < row.length) (hc : (castV row[p] c.to).2 ≠ 0) :
    Calls Tryz.prog 6 #[.agg #[v], Cv c, .int .u8 (raw.toNat : Int), rv] w (fun e w' => e = .returned (.bool true) ∧ Below w.heap.size w w') := by
  have HSM := Lib.hid hsm
  have q1 : ((s.length : Int) == 0) = false := beq_eq_false_iff_ne.2 (by omega)
  have q2 : ¬ (s.length : Int) = 0 := by omega
  have q3 := raw.toNat_lt
  have q4 : (s.length : Int) ≤ 24 := by have := hsm.1.1; omega
  have q5 : (0 : Int) < (s.length : Int) := by omega
  have hrl : row.length ≤ 20 := hsm.2.2.2
  have HA := Lib.hid ha
  have HCV := Lib.hid hcv
  have HFI := Lib.hid hfi
  have q8 : (c.kind != 4) = false := by simpa using hk
  have HP := Lib.hid hp
  have HC := Lib.hid hc
  have HTN := Lib.hid htn
  clear hsm h0 ha hcv hfi hk hp hc htn
  obtain ⟨A, cp, rfl, _⟩ := h.form
  obtain ⟨Ar, cr, rfl, _⟩ := hr.form
  have HE := Lib.hid he
  have HS := Lib.hid h
  have HR := Lib.hid hr
  clear he h hr
  go_enter Tryz.func6, Tryz.ntmps6
  go_wp2_with fail
  refine (head_any _ ((HE.out.alloc _).alloc _)).mono ?_
  rintro e w1 ⟨rfl, hb⟩
  have hb2 : Below w.heap.size w w1 := below_up ((below_box w _).alloc (by simp) _) hb (by simp; omega)
  replace HE := Lib.hid (HE.out.below hb2)
  replace HS := Lib.hid (HS.out.below hb2)
  replace HR := Lib.hid (HR.out.below hb2)
  have HB := Lib.hid hb2
  have z0 : w1.cell? ⟨w.heap.size, 0, none⟩ = some (.slice A s.length cp) := cellB hb (by simp [go_sem])
  have c0 : w1.cell? ⟨w.heap.size + 1, 0, none⟩ = some (.int .i64 c.kind) := cellB hb (by simp [go_sem])
  have c1 : w1.cell? ⟨w.heap.size + 1, 1, none⟩ = some (str c.table) := cellB hb (by simp [go_sem])
  have c2 : w1.cell? ⟨w.heap.size + 1, 2, none⟩ = some (str c.attr) := cellB hb (by simp [go_sem])
  have c3 : w1.cell? ⟨w.heap.size + 1, 3, none⟩ = some (str c.name) := cellB hb (by simp [go_sem])
  have c4 : w1.cell? ⟨w.heap.size + 1, 4, none⟩ = some (.int .i64 c.to) := cellB hb (by simp [go_sem])
  have c5 : w1.cell? ⟨w.heap.size + 1, 5, none⟩ = some (.int .i64 c.dft.1) := cellB hb (by simp [go_sem])
  have c6 : w1.cell? ⟨w.heap.size + 1, 6, none⟩ = some (.int .i64 c.dft.2.1) := cellB hb (by simp [go_sem])
  have c7 : w1.cell? ⟨w.heap.size + 1, 7, none⟩ = some (str c.dft.2.2) := cellB hb (by simp [go_sem])
  clear hb hb2
  go_wp2_with fail
  refine (smallC_is s _ _ c row HSM.out _ HS.out ⟨_, _, rfl⟩).mono ?_
  rintro e w2 ⟨rfl, hb⟩
  have hb2 : Below w1.heap.size w1 w2 := hb
  replace z0 := cellB hb2 z0
  replace c0 := cellB hb2 c0
  replace c1 := cellB hb2 c1
  replace c2 := cellB hb2 c2
  replace c3 := cellB hb2 c3
  replace c4 := cellB hb2 c4
  replace c5 := cellB hb2 c5
  replace c6 := cellB hb2 c6
  replace c7 := cellB hb2 c7
  replace HE := Lib.hid (HE.out.below hb2)
  replace HS := Lib.hid (HS.out.below hb2)
  replace HR := Lib.hid (HR.out.below hb2)
  replace HB := Lib.hid (below_up HB.out hb2 HB.out.size)
  clear hb hb2
  go_wp2_with fail
  refine (apply_is s _ c _ HA.out HSM.out.mid _ HS.out).mono ?_
  rintro e w3 ⟨va, rfl, hva, hb⟩
  have hb2 : Below w2.heap.size w2 w3 := hb
  replace z0 := cellB hb2 z0
  replace c0 := cellB hb2 c0
  replace c1 := cellB hb2 c1
  replace c2 := cellB hb2 c2
  replace c3 := cellB hb2 c3
  replace c4 := cellB hb2 c4
  replace c5 := cellB hb2 c5
  replace c6 := cellB hb2 c6
  replace c7 := cellB hb2 c7
  replace HE := Lib.hid (HE.out.below hb2)
  replace HS := Lib.hid (HS.out.below hb2)
  replace HR := Lib.hid (HR.out.below hb2)
  replace HB := Lib.hid (below_up HB.out hb2 HB.out.size)
  clear hb hb2
  obtain ⟨Aa, ca, rfl, _⟩ := hva.form
  have HVA := Lib.hid hva
  clear hva
  have yz0 := fun o => Cell.alloc z0 o
  have yc0 := fun o => Cell.alloc c0 o
  have yc1 := fun o => Cell.alloc c1 o
  have yc2 := fun o => Cell.alloc c2 o
  have yc3 := fun o => Cell.alloc c3 o
  have yc4 := fun o => Cell.alloc c4 o
  have yc5 := fun o => Cell.alloc c5 o
  have yc6 := fun o => Cell.alloc c6 o
  have yc7 := fun o => Cell.alloc c7 o
  go_wp2_with fail
  refine (convert_is s _ _ c (n : Int) row _ HCV.out HSM.out.mid (by omega) _ (HE.out.alloc _) (HS.out.below (below_box w3 _)) (HR.out.below (below_box w3 _))).mono ?_
  rintro e w4 ⟨vx, rfl, hvx, hb⟩
  have hb2 : Below w3.heap.size w3 w4 := below_up (below_box w3 _) hb (by simp)
  replace z0 := cellB hb2 z0
  replace c0 := cellB hb2 c0
  replace c1 := cellB hb2 c1
  replace c2 := cellB hb2 c2
  replace c3 := cellB hb2 c3
  replace c4 := cellB hb2 c4
  replace c5 := cellB hb2 c5
  replace c6 := cellB hb2 c6
  replace c7 := cellB hb2 c7
  replace HE := Lib.hid (HE.out.below hb2)
  replace HS := Lib.hid (HS.out.below hb2)
  replace HR := Lib.hid (HR.out.below hb2)
  replace HVA := Lib.hid (HVA.out.below hb2)
  replace HB := Lib.hid (below_up HB.out hb2 HB.out.size)
  have a0 : w4.cell? ⟨w3.heap.size, 0, none⟩ = some (.slice Aa s1.length ca) := cellB hb (by simp [go_sem])
  clear hb hb2 yz0 yc0 yc1 yc2 yc3 yc4 yc5 yc6 yc7
  obtain ⟨Ax, cx, rfl⟩ := slcNil hvx
  clear hvx
  obtain ⟨b1, o1, rfl, xa, xk, hax, hxa, hxk⟩ := tab_at HS.out hns
  obtain ⟨Xa, na, rfl, _⟩ := hxa.form
  obtain ⟨Xk, nk, rfl, _⟩ := hxk.form
  have x0 := hax.c0
  have x1 := hax.c1
  have x2 := hax.c2
  have HXA := Lib.hid hxa
  have i1 : (0 : Int) ≤ (n : Int) := by omega
  have i2 : (n : Int) < (s.length : Int) := by omega
  have hmx := HSM.out.mid.2 s[n] (List.getElem_mem hns)
  clear hax hxa hxk
  have CF := Lib.hid (fun W (hW : Below w4.heap.size w4 W) => fits_is s[n].name s[n].attrs row _ (.slice Xk s[n].key.length nk) _ true HFI.out hmx.1 (by omega) W (HXA.out.below hW) (HR.out.below hW))
  have CC := Lib.hid (fun W (hW : Below w4.heap.size w4 W) => column_is s[n].name s[n].attrs _ (.slice Xk s[n].key.length nk) c.attr (p : Int) HP.out hmx.1 hmx.2.2 W (HXA.out.below hW))
  obtain ⟨t, ht⟩ : ∃ t, s[n] = t := ⟨_, rfl⟩
  have htn := HTN.out
  rw [ht] at CF CC x0 x1 x2 htn
  have t1 : (t.name == c.table) = true := by simpa using htn
  have t2 : (t.name != c.table) = false := by simp [htn]
  clear hmx ht HXA htn HTN HFI HP
  go_wp2_with fail
  refine (CF.out _ (Below.refl _ _)).mono ?_
  rintro e w5 ⟨rfl, hb⟩
  have hb2 : Below w4.heap.size w4 w5 := hb
  have HBX := Lib.hid hb2
  replace z0 := cellB hb2 z0
  replace c0 := cellB hb2 c0
  replace c1 := cellB hb2 c1
  replace c2 := cellB hb2 c2
  replace c3 := cellB hb2 c3
  replace c4 := cellB hb2 c4
  replace c5 := cellB hb2 c5
  replace c6 := cellB hb2 c6
  replace c7 := cellB hb2 c7
  replace a0 := cellB hb2 a0
  replace x0 := cellB hb2 x0
  replace x1 := cellB hb2 x1
  replace x2 := cellB hb2 x2
  replace HE := Lib.hid (HE.out.below hb2)
  replace HS := Lib.hid (HS.out.below hb2)
  replace HR := Lib.hid (HR.out.below hb2)
  replace HVA := Lib.hid (HVA.out.below hb2)
  replace HB := Lib.hid (below_up HB.out hb2 HB.out.size)
  clear hb hb2
  go_wp2_with fail
  go_region_held3 (fun w' => w'.cell? ⟨w.heap.size, 0, none⟩ = some (.slice (some ⟨b1, o1, none⟩) s.length cp) ∧ w'.cell? ⟨w.heap.size + 1, 2, none⟩ = some (str c.attr) ∧ w'.cell? ⟨b1, o1 + n * 3, none⟩ = some (str t.name) ∧ w'.cell? ⟨b1, o1 + n * 3 + 1, none⟩ = some (.slice Xa t.attrs.length na) ∧ w'.cell? ⟨b1, o1 + n * 3 + 2, none⟩ = some (.slice Xk t.key.length nk)) (go_keep)
    (first | (go_at_call 23; refine (CC.out _ (HBX.out.trans (below_drewN _ _ 1))).mono ?_; rintro e w6 ⟨rfl, hb⟩; have hb1 := (below_drewN w5.heap.size w5 1).trans hb; have g1 := Lib.hid hb1; have pz0 := cellB hb1 z0; have pc0 := cellB hb1 c0; have pc1 := cellB hb1 c1; have pc2 := cellB hb1 c2; have pc3 := cellB hb1 c3; have pc4 := cellB hb1 c4; have pc5 := cellB hb1 c5; have pc6 := cellB hb1 c6; have pc7 := cellB hb1 c7; have pa0 := cellB hb1 a0; have px0 := cellB hb1 x0; have px1 := cellB hb1 x1; have px2 := cellB hb1 x2; clear hb hb1))
  replace z0 := pz0
  replace c0 := pc0
  replace c1 := pc1
  replace c2 := pc2
  replace c3 := pc3
  replace c4 := pc4
  replace c5 := pc5
  replace c6 := pc6
  replace c7 := pc7
  replace a0 := pa0
  replace x0 := px0
  replace x1 := px1
  replace x2 := px2
  replace HE := Lib.hid (HE.out.below g1.out)
  replace HS := Lib.hid (HS.out.below g1.out)
  replace HR := Lib.hid (HR.out.below g1.out)
  replace HVA := Lib.hid (HVA.out.below g1.out)
  replace HB := Lib.hid (below_up HB.out g1.out HB.out.size)
  clear g1 pz0 pc0 pc1 pc2 pc3 pc4 pc5 pc6 pc7 pa0 px0 px1 px2
  obtain ⟨bv, ov, e, hcell⟩ := (show ∃ bv ov, Ar = some ⟨bv, ov, none⟩ ∧ ValAt w6 bv (ov + p * 3) row[p] from by obtain ⟨_, _, b, o, e, f⟩ := Slc.spot HR.out (by omega); exact ⟨b, o, e, f p hpl⟩)
  subst e
  have v0 := hcell.c0
  have v1 := hcell.c1
  have v2 := hcell.c2
  have j1 : (0 : Int) ≤ (p : Int) := by omega
  have j2 : (p : Int) < (row.length : Int) := by omega
  have j3 : ¬ (p : Int) < 0 := by omega
  obtain ⟨y, hy⟩ : ∃ y, row[p] = y := ⟨_, rfl⟩
  have hcy := HC.out
  rw [hy] at v0 v1 v2 hcy
  obtain ⟨⟨⟨a, m, tx⟩, g⟩, hres⟩ : ∃ r, castV y c.to = r := ⟨_, rfl⟩
  rw [hres] at hcy
  have q9 : (g != 0) = true := by simpa using hcy
  have CK := Lib.hid (fun W (hW : L2.Env W) => by
    have h := L2.cast_any y.1 y.2.1 y.2.2 c.to W hW
    have e1 : L2.cast y.1 y.2.1 y.2.2 c.to = (a, m, tx, g) := by
      unfold castV at hres
      simp only [Prod.mk.injEq] at hres
      obtain ⟨⟨h1, h2, h3⟩, h4⟩ := hres
      exact Prod.ext h1 (Prod.ext h2 (Prod.ext h3 h4))
    rw [e1] at h
    exact h)
  clear hcell hy hcy hres HC
  have mz0 := fun m => (show (w6.drewN m).cell? _ = _ from z0)
  have mc0 := fun m => (show (w6.drewN m).cell? _ = _ from c0)
  have mc1 := fun m => (show (w6.drewN m).cell? _ = _ from c1)
  have mc2 := fun m => (show (w6.drewN m).cell? _ = _ from c2)
  have mc3 := fun m => (show (w6.drewN m).cell? _ = _ from c3)
  have mc4 := fun m => (show (w6.drewN m).cell? _ = _ from c4)
  have mc5 := fun m => (show (w6.drewN m).cell? _ = _ from c5)
  have mc6 := fun m => (show (w6.drewN m).cell? _ = _ from c6)
  have mc7 := fun m => (show (w6.drewN m).cell? _ = _ from c7)
  have ma0 := fun m => (show (w6.drewN m).cell? _ = _ from a0)
  have mx0 := fun m => (show (w6.drewN m).cell? _ = _ from x0)
  have mx1 := fun m => (show (w6.drewN m).cell? _ = _ from x1)
  have mx2 := fun m => (show (w6.drewN m).cell? _ = _ from x2)
  have mv0 := fun m => (show (w6.drewN m).cell? _ = _ from v0)
  have mv1 := fun m => (show (w6.drewN m).cell? _ = _ from v1)
  have mv2 := fun m => (show (w6.drewN m).cell? _ = _ from v2)
  go_wp2_with fail
  go_quiet (fail)
  obtain ⟨w7, hW⟩ : ∃ W, w6.drewN nq = W := ⟨_, rfl⟩
  rw [hW]
  have hb2 : Below w6.heap.size w6 w7 := by rw [← hW]; exact below_drewN _ _ _
  replace z0 := cellB hb2 z0
  replace c0 := cellB hb2 c0
  replace c1 := cellB hb2 c1
  replace c2 := cellB hb2 c2
  replace c3 := cellB hb2 c3
  replace c4 := cellB hb2 c4
  replace c5 := cellB hb2 c5
  replace c6 := cellB hb2 c6
  replace c7 := cellB hb2 c7
  replace a0 := cellB hb2 a0
  replace x0 := cellB hb2 x0
  replace x1 := cellB hb2 x1
  replace x2 := cellB hb2 x2
  replace v0 := cellB hb2 v0
  replace v1 := cellB hb2 v1
  replace v2 := cellB hb2 v2
  replace HE := Lib.hid (HE.out.below hb2)
  replace HS := Lib.hid (HS.out.below hb2)
  replace HR := Lib.hid (HR.out.below hb2)
  replace HVA := Lib.hid (HVA.out.below hb2)
  replace HB := Lib.hid (below_up HB.out hb2 HB.out.size)
  clear hW mz0 mc0 mc1 mc2 mc3 mc4 mc5 mc6 mc7 ma0 mx0 mx1 mx2 mv0 mv1 mv2
  clear hb2
  have xav0 := Cell.alloc v0 (.cells #[.int .i64 0, .int .i64 0, .string ⟨#[]⟩] 26)
  have xav1 := Cell.alloc v1 (.cells #[.int .i64 0, .int .i64 0, .string ⟨#[]⟩] 26)
  have xav2 := Cell.alloc v2 (.cells #[.int .i64 0, .int .i64 0, .string ⟨#[]⟩] 26)
  have xac4 := Cell.alloc c4 (.cells #[.int .i64 0, .int .i64 0, .string ⟨#[]⟩] 26)
  have nq1 := Nat.ne_of_lt (cellLt v0)
  have nq2 := Nat.ne_of_gt (cellLt v0)
  have nq3 := Nat.ne_of_lt (cellLt c4)
  have nq4 := Nat.ne_of_gt (cellLt c4)
  have HSZ := Lib.hid HB.out.size
  go_wp2_with fail
  go_region_held3 (fun w' => w'.cell? ⟨bv, ov + p * 3, none⟩ = some (.int .i64 y.1) ∧ w'.cell? ⟨bv, ov + p * 3 + 1, none⟩ = some (.int .i64 y.2.1) ∧ w'.cell? ⟨bv, ov + p * 3 + 2, none⟩ = some (str y.2.2) ∧ w'.cell? ⟨w.heap.size + 1, 4, none⟩ = some (.int .i64 c.to)) (go_keep)
    (first | (go_at_call 27; refine (CK.out _ (HE.out.below (below_drewN _ _ 1))).mono ?_; rintro e wk ⟨rfl, hb⟩; have hb1 := (below_drewN w7.heap.size w7 1).trans hb; have g1 := Lib.hid hb1; have pv0 := cellB hb1 v0; have pv1 := cellB hb1 v1; have pv2 := cellB hb1 v2; have pc4 := cellB hb1 c4; have pav0 := Cell.alloc pv0 (.cells #[.int .i64 a, .int .i64 m, str tx] 26); have pav1 := Cell.alloc pv1 (.cells #[.int .i64 a, .int .i64 m, str tx] 26); have pav2 := Cell.alloc pv2 (.cells #[.int .i64 a, .int .i64 m, str tx] 26); have pac4 := Cell.alloc pc4 (.cells #[.int .i64 a, .int .i64 m, str tx] 26); clear hb hb1) | (go_at_call 27; refine (CK.out _ (HE.out.below ((below_box w7 _).trans (below_drewN _ _ 1)))).mono ?_; rintro e wk ⟨rfl, hb⟩; have hb1 := ((below_box w7 (.cells #[.int .i64 0, .int .i64 0, .string ⟨#[]⟩] 26)).trans (below_drewN _ _ 1)).trans (hb.mono (by simp)); have g1 := Lib.hid hb1; have pv0 := cellB hb1 v0; have pv1 := cellB hb1 v1; have pv2 := cellB hb1 v2; have pc4 := cellB hb1 c4; have z0_ : wk.cell? ⟨w7.heap.size, 0, none⟩ = some (.int .i64 0) := cellB hb (by simp [go_sem]); have z1_ : wk.cell? ⟨w7.heap.size, 1, none⟩ = some (.int .i64 0) := cellB hb (by simp [go_sem]); have z2_ : wk.cell? ⟨w7.heap.size, 2, none⟩ = some (.string ⟨#[]⟩) := cellB hb (by simp [go_sem]); have f0_ := frozenB (v := .int .i64 0) (o := 0) (b := w7.heap.size) hb (by simp [go_sem]) (by simp [go_sem]); have f1_ := frozenB (v := .int .i64 0) (o := 1) (b := w7.heap.size) hb (by simp [go_sem]) (by simp [go_sem]); have f2_ := frozenB (v := .string ⟨#[]⟩) (o := 2) (b := w7.heap.size) hb (by simp [go_sem]) (by simp [go_sem]); clear hb hb1))
  · have HBF := Lib.hid ((HB.out.trans (g1.out.mono HB.out.size)).alloc (by have := g1.out.size; have := HB.out.size; omega) (.cells #[.int .i64 a, .int .i64 m, str tx] 26))
    go_wp2_with fail
    go_ret
    exact ⟨rfl, HBF.out⟩
  · have HBF := Lib.hid ((((HB.out.trans (g1.out.mono HB.out.size)).setCell (p := ⟨w7.heap.size, 0, none⟩) HSZ.out (.int .i64 a)).setCell (p := ⟨w7.heap.size, 1, none⟩) HSZ.out (.int .i64 m)).setCell (p := ⟨w7.heap.size, 2, none⟩) HSZ.out (str tx))
    go_wp2_with fail
    go_ret
    exact ⟨rfl, HBF.out⟩
end Go.Proofs.YteokcgfbhaeklaaGreatDoor
