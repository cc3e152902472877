/- The law's fixed examples: head returns true. -/
import Derived.Test.YteokcgfbhaeklaaGreatDoorPHelp
import Derived.Test.YteokcgfbhaeklaaGreatDoorScApply
import Derived.Test.YteokcgfbhaeklaaGreatDoorScConvert
import Derived.Test.YteokcgfbhaeklaaGreatDoorScValid
namespace Go.Proofs.YteokcgfbhaeklaaGreatDoor
open Go.RowKit
theorem slcOne {α : Type} {sz : Nat} {R : World → Nat → Nat → α → Prop} {w : World} {v : Value} {x : α} (h : Slc sz R w v [x]) : ∃ b off cap, v = .slice (some ⟨b, off, none⟩) 1 cap ∧ 1 ≤ cap ∧ R w b off x := by
  obtain ⟨A, cap, e, hc, _, f⟩ := h
  obtain ⟨b, off, e1, h1⟩ := f 0 (by simp)
  subst e1
  rw [Nat.zero_mul] at h1
  exact ⟨b, off, cap, e, hc, h1⟩
theorem slcTwo {α : Type} {sz : Nat} {R : World → Nat → Nat → α → Prop} {w : World} {v : Value} {x y : α} (h : Slc sz R w v [x, y]) : ∃ b off cap, v = .slice (some ⟨b, off, none⟩) 2 cap ∧ 2 ≤ cap ∧ R w b off x ∧ R w b (off + sz) y := by
  obtain ⟨A, cap, e, hc, _, f⟩ := h
  obtain ⟨b, off, e1, h1⟩ := f 0 (by simp)
  obtain ⟨b2, off2, e2, h2⟩ := f 1 (by simp)
  subst e1
  cases e2
  rw [Nat.zero_mul] at h1
  rw [Nat.one_mul] at h2
  exact ⟨b, off, cap, e, hc, h1, h2⟩
theorem slcNil {α : Type} {sz : Nat} {R : World → Nat → Nat → α → Prop} {w : World} {v : Value} (h : Slc sz R w v []) : ∃ A cap, v = .slice A 0 cap := by
  obtain ⟨A, cap, e, _⟩ := h
  exact ⟨A, cap, e⟩
theorem attrsLen {w : World} {v : Value} {l : List AttrT} (n : Nat) (h : Attrs w v l) (hl : l.length = n) : ∃ A cap, v = .slice A n cap := by
  obtain ⟨A, cap, e, _⟩ := h.form
  exact ⟨A, cap, by rw [e, hl]⟩
set_option maxRecDepth 100000 in
set_option maxHeartbeats 4000000 in
theorem head_any (w : World) (he : L2.Env w) : Calls Tryz.prog 9 #[] w (fun e w' => e = .returned (.bool true) ∧ Below w.heap.size w w') := by
  have AA := Lib.hid (fun W v (hW : Tabs W v sampleT) => hd_a ▸ apply_any sampleT v hdA hd_m W hW)
  have BB := Lib.hid (fun W v rv (hE : L2.Env W) (hW : Tabs W v sampleT) (hR : Vals W rv rowS) => hd_b ▸ convert_any sampleT v rv hdB 0 rowS hd_m (by decide) W hE hW hR)
  have GG := Lib.hid (fun W v (hW : Tabs W v sampleT) => hd_g ▸ apply_any sampleT v hdG hd_m W hW)
  have HH := Lib.hid (fun W v (hW : Tabs W v sampleT) => hd_h ▸ apply_any sampleT v hdH hd_m W hW)
  have II := Lib.hid (fun W v rv (hE : L2.Env W) (hW : Tabs W v sampleT) (hR : Vals W rv rowS) => hd_i ▸ convert_any sampleT v rv hdI 0 rowS hd_m (by decide) W hE hW hR)
  have DD := Lib.hid (fun W v (hW : Tabs W v sampleT) => hd_d ▸ apply_any sampleT v hdD hd_m W hW)
  have VV := Lib.hid (fun W v (hW : Tabs W v sampleT) => hd_v ▸ valid_any sampleT v hd_m W hW)
  have FF := Lib.hid (fun W va vk rv (hA : Attrs W va smTab.attrs) (hR : Vals W rv rowS) => hd_f ▸ fits2_any smTab.name smTab.attrs rowS va vk rv (by decide) (by decide) W hA hR)
  have CC := Lib.hid (fun W va vk (hA : Attrs W va smTab.attrs) => hd_c ▸ column_any smTab.name smTab.attrs va vk xyears (by decide) (by decide) W hA)
  have HE := Lib.hid he
  clear he
  go_enter Tryz.func9, Tryz.ntmps9
  go_wp2_with fail
  refine (sample_any _).mono ?_
  rintro e w1 ⟨v, rfl, hv, hb⟩
  have hb2 : Below w.heap.size w w1 := hb
  have HB := Lib.hid hb2
  clear hb hb2
  obtain ⟨bs, os, cs, rfl, _, ta, tk, hat, hta, htk⟩ := slcOne hv
  obtain ⟨Ata, cta, rfl⟩ := attrsLen 2 hta rfl
  obtain ⟨Atk, ctk, e, _⟩ := htk.form
  replace e : tk = .slice Atk 1 ctk := e
  subst e
  have HV := Lib.hid hv
  have HT := Lib.hid hta
  have h0 := hat.c0
  have h1 := hat.c1
  have h2 := hat.c2
  replace HE := Lib.hid (HE.out.below HB.out)
  clear hv hta htk hat
  have yh0 := fun o => Cell.alloc h0 o
  have yh1 := fun o => Cell.alloc h1 o
  have yh2 := fun o => Cell.alloc h2 o
  go_wp2_with fail
  refine (AA.out _ _ (HV.out.below (below_box w1 _))).mono ?_
  rintro e w2 ⟨va, rfl, hva, hb⟩
  have hb2 : Below w1.heap.size w1 w2 := below_up (below_box w1 _) hb (by simp)
  replace h0 := cellB hb2 h0
  replace h1 := cellB hb2 h1
  replace h2 := cellB hb2 h2
  replace HV := Lib.hid (HV.out.below hb2)
  replace HT := Lib.hid (HT.out.below hb2)
  replace HE := Lib.hid (HE.out.below hb2)
  replace HB := Lib.hid (below_up HB.out hb2 HB.out.size)
  have s0 : w2.cell? ⟨w1.heap.size, 0, none⟩ = some (.slice (some ⟨bs, os, none⟩) 1 cs) := cellB hb (by simp [go_sem])
  clear hb hb2 yh0 yh1 yh2
  obtain ⟨ba, oa, ca, rfl, _, aa, ak, haat, haa, _⟩ := slcOne hva
  obtain ⟨Aaa, caa, rfl⟩ := attrsLen 3 haa rfl
  have a1 := haat.c1
  clear hva haat haa AA
  go_wp2_with fail
  obtain ⟨v3, hW⟩ : ∃ W, w2.alloc (.cells #[.slice (some ⟨ba, oa, none⟩) 1 ca] 24) = W := ⟨_, rfl⟩
  rw [hW]
  have hb2 : Below w2.heap.size w2 v3 := by rw [← hW]; exact below_box w2 _
  replace h0 := cellB hb2 h0
  replace h1 := cellB hb2 h1
  replace h2 := cellB hb2 h2
  replace s0 := cellB hb2 s0
  replace a1 := cellB hb2 a1
  replace HV := Lib.hid (HV.out.below hb2)
  replace HT := Lib.hid (HT.out.below hb2)
  replace HE := Lib.hid (HE.out.below hb2)
  replace HB := Lib.hid (below_up HB.out hb2 HB.out.size)
  have b0 : v3.cell? ⟨w2.heap.size, 0, none⟩ = some (.slice (some ⟨ba, oa, none⟩) 1 ca) := by rw [← hW]; simp [go_sem]
  clear hW hb2
  go_region_held3 (fun w' => w'.cell? ⟨w1.heap.size, 0, none⟩ = some (.slice (some ⟨bs, os, none⟩) 1 cs)) (go_keep)
    (first | (go_at_call 29; refine (row_any _).mono ?_; rintro e u3_0 ⟨rv, rfl, hrv, hb⟩; have hb1 : Below v3.heap.size v3 u3_0 := (below_drewN v3.heap.size v3 1).trans hb; replace h0 := cellB hb1 h0; replace h1 := cellB hb1 h1; replace h2 := cellB hb1 h2; replace s0 := cellB hb1 s0; replace a1 := cellB hb1 a1; replace b0 := cellB hb1 b0; replace HV := Lib.hid (HV.out.below hb1); replace HT := Lib.hid (HT.out.below hb1); replace HE := Lib.hid (HE.out.below hb1); replace HB := Lib.hid (below_up HB.out hb1 HB.out.size); have HRV := Lib.hid hrv; clear hrv; clear hb hb1) | (go_at_call 13; refine (BB.out _ _ _ HE.out HV.out HRV.out).mono ?_; rintro e u3_1 ⟨vb, rfl, hvb, hb⟩; have hb1 : Below u3_0.heap.size u3_0 u3_1 := hb; replace h0 := cellB hb1 h0; replace h1 := cellB hb1 h1; replace h2 := cellB hb1 h2; replace s0 := cellB hb1 s0; replace a1 := cellB hb1 a1; replace b0 := cellB hb1 b0; replace HV := Lib.hid (HV.out.below hb1); replace HT := Lib.hid (HT.out.below hb1); replace HE := Lib.hid (HE.out.below hb1); replace HB := Lib.hid (below_up HB.out hb1 HB.out.size); have HVB := Lib.hid hvb; clear hvb HRV; clear hb hb1))
  obtain ⟨bb, ob, cb, rfl, _, _, hb1⟩ := slcTwo HVB.out
  have r0 := hb1.c0
  have r1 := hb1.c1
  have r2 := hb1.c2
  clear hb1 HVB BB
  go_wp2_with fail
  refine (GG.out _ _ HV.out).mono ?_
  rintro e w4 ⟨vg, rfl, hvg, hb⟩
  have hb2 : Below u3_1.heap.size u3_1 w4 := hb
  replace h0 := cellB hb2 h0
  replace h1 := cellB hb2 h1
  replace h2 := cellB hb2 h2
  replace s0 := cellB hb2 s0
  replace a1 := cellB hb2 a1
  replace b0 := cellB hb2 b0
  replace r0 := cellB hb2 r0
  replace r1 := cellB hb2 r1
  replace r2 := cellB hb2 r2
  replace HV := Lib.hid (HV.out.below hb2)
  replace HT := Lib.hid (HT.out.below hb2)
  replace HE := Lib.hid (HE.out.below hb2)
  replace HB := Lib.hid (below_up HB.out hb2 HB.out.size)
  clear hb hb2
  obtain ⟨Ag, cg, rfl⟩ := slcNil hvg
  clear hvg GG
  have yh0 := fun o => Cell.alloc h0 o
  have yh1 := fun o => Cell.alloc h1 o
  have yh2 := fun o => Cell.alloc h2 o
  have ys0 := fun o => Cell.alloc s0 o
  have ya1 := fun o => Cell.alloc a1 o
  have yb0 := fun o => Cell.alloc b0 o
  have yr0 := fun o => Cell.alloc r0 o
  have yr1 := fun o => Cell.alloc r1 o
  have yr2 := fun o => Cell.alloc r2 o
  go_wp2_with fail
  refine (HH.out _ _ (HV.out.below (below_box w4 _))).mono ?_
  rintro e w5 ⟨vh, rfl, hvh, hb⟩
  have hb2 : Below w4.heap.size w4 w5 := below_up (below_box w4 _) hb (by simp)
  replace h0 := cellB hb2 h0
  replace h1 := cellB hb2 h1
  replace h2 := cellB hb2 h2
  replace s0 := cellB hb2 s0
  replace a1 := cellB hb2 a1
  replace b0 := cellB hb2 b0
  replace r0 := cellB hb2 r0
  replace r1 := cellB hb2 r1
  replace r2 := cellB hb2 r2
  replace HV := Lib.hid (HV.out.below hb2)
  replace HT := Lib.hid (HT.out.below hb2)
  replace HE := Lib.hid (HE.out.below hb2)
  replace HB := Lib.hid (below_up HB.out hb2 HB.out.size)
  clear hb hb2 yh0 yh1 yh2 ys0 ya1 yb0 yr0 yr1 yr2
  obtain ⟨Ah, ch, rfl⟩ := slcNil hvh
  clear hvh HH
  go_wp2_with fail
  obtain ⟨v6, hW⟩ : ∃ W, w5.alloc (.cells #[.slice Ah 0 ch] 24) = W := ⟨_, rfl⟩
  rw [hW]
  have hb2 : Below w5.heap.size w5 v6 := by rw [← hW]; exact below_box w5 _
  replace h0 := cellB hb2 h0
  replace h1 := cellB hb2 h1
  replace h2 := cellB hb2 h2
  replace s0 := cellB hb2 s0
  replace a1 := cellB hb2 a1
  replace b0 := cellB hb2 b0
  replace r0 := cellB hb2 r0
  replace r1 := cellB hb2 r1
  replace r2 := cellB hb2 r2
  replace HV := Lib.hid (HV.out.below hb2)
  replace HT := Lib.hid (HT.out.below hb2)
  replace HE := Lib.hid (HE.out.below hb2)
  replace HB := Lib.hid (below_up HB.out hb2 HB.out.size)
  clear hW hb2
  go_region_held3 (fun w' => w'.cell? ⟨w1.heap.size, 0, none⟩ = some (.slice (some ⟨bs, os, none⟩) 1 cs)) (go_keep)
    (first | (go_at_call 29; refine (row_any _).mono ?_; rintro e u6_0 ⟨rv, rfl, hrv, hb⟩; have hb1 : Below v6.heap.size v6 u6_0 := (below_drewN v6.heap.size v6 1).trans hb; replace h0 := cellB hb1 h0; replace h1 := cellB hb1 h1; replace h2 := cellB hb1 h2; replace s0 := cellB hb1 s0; replace a1 := cellB hb1 a1; replace b0 := cellB hb1 b0; replace r0 := cellB hb1 r0; replace r1 := cellB hb1 r1; replace r2 := cellB hb1 r2; replace HV := Lib.hid (HV.out.below hb1); replace HT := Lib.hid (HT.out.below hb1); replace HE := Lib.hid (HE.out.below hb1); replace HB := Lib.hid (below_up HB.out hb1 HB.out.size); have HRV := Lib.hid hrv; clear hrv; clear hb hb1) | (go_at_call 13; refine (II.out _ _ _ HE.out HV.out HRV.out).mono ?_; rintro e u6_1 ⟨vb, rfl, hvb, hb⟩; have hb1 : Below u6_0.heap.size u6_0 u6_1 := hb; replace h0 := cellB hb1 h0; replace h1 := cellB hb1 h1; replace h2 := cellB hb1 h2; replace s0 := cellB hb1 s0; replace a1 := cellB hb1 a1; replace b0 := cellB hb1 b0; replace r0 := cellB hb1 r0; replace r1 := cellB hb1 r1; replace r2 := cellB hb1 r2; replace HV := Lib.hid (HV.out.below hb1); replace HT := Lib.hid (HT.out.below hb1); replace HE := Lib.hid (HE.out.below hb1); replace HB := Lib.hid (below_up HB.out hb1 HB.out.size); have HVI := Lib.hid hvb; clear hvb HRV; clear hb hb1))
  obtain ⟨Ai, ci, rfl⟩ := slcNil HVI.out
  clear HVI II
  go_wp2_with fail
  refine (DD.out _ _ HV.out).mono ?_
  rintro e w7 ⟨vd, rfl, hvd, hb⟩
  have hb2 : Below u6_1.heap.size u6_1 w7 := hb
  replace h0 := cellB hb2 h0
  replace h1 := cellB hb2 h1
  replace h2 := cellB hb2 h2
  replace s0 := cellB hb2 s0
  replace a1 := cellB hb2 a1
  replace b0 := cellB hb2 b0
  replace r0 := cellB hb2 r0
  replace r1 := cellB hb2 r1
  replace r2 := cellB hb2 r2
  replace HV := Lib.hid (HV.out.below hb2)
  replace HT := Lib.hid (HT.out.below hb2)
  replace HE := Lib.hid (HE.out.below hb2)
  replace HB := Lib.hid (below_up HB.out hb2 HB.out.size)
  clear hb hb2
  obtain ⟨bd, od, cd, rfl, _, da, dk, hdat, hda, _⟩ := slcOne hvd
  obtain ⟨Ada, cda, rfl⟩ := attrsLen 1 hda rfl
  have e1 := hdat.c1
  clear hvd hdat hda DD
  have yh0 := fun o => Cell.alloc h0 o
  have yh1 := fun o => Cell.alloc h1 o
  have yh2 := fun o => Cell.alloc h2 o
  have ys0 := fun o => Cell.alloc s0 o
  have ya1 := fun o => Cell.alloc a1 o
  have yb0 := fun o => Cell.alloc b0 o
  have yr0 := fun o => Cell.alloc r0 o
  have yr1 := fun o => Cell.alloc r1 o
  have yr2 := fun o => Cell.alloc r2 o
  have ye1 := fun o => Cell.alloc e1 o
  go_wp2_with fail
  obtain ⟨v8, hW⟩ : ∃ W, w7.alloc (.cells #[.slice (some ⟨bd, od, none⟩) 1 cd] 24) = W := ⟨_, rfl⟩
  rw [hW]
  have hb2 : Below w7.heap.size w7 v8 := by rw [← hW]; exact below_box w7 _
  replace h0 := cellB hb2 h0
  replace h1 := cellB hb2 h1
  replace h2 := cellB hb2 h2
  replace s0 := cellB hb2 s0
  replace a1 := cellB hb2 a1
  replace b0 := cellB hb2 b0
  replace r0 := cellB hb2 r0
  replace r1 := cellB hb2 r1
  replace r2 := cellB hb2 r2
  replace e1 := cellB hb2 e1
  replace HV := Lib.hid (HV.out.below hb2)
  replace HT := Lib.hid (HT.out.below hb2)
  replace HE := Lib.hid (HE.out.below hb2)
  replace HB := Lib.hid (below_up HB.out hb2 HB.out.size)
  have d0 : v8.cell? ⟨w7.heap.size, 0, none⟩ = some (.slice (some ⟨bd, od, none⟩) 1 cd) := by rw [← hW]; simp [go_sem]
  clear hW hb2
  go_region_held3 (fun w' => w'.cell? ⟨w1.heap.size, 0, none⟩ = some (.slice (some ⟨bs, os, none⟩) 1 cs) ∧ w'.cell? ⟨bs, os, none⟩ = some (str smTab.name) ∧ w'.cell? ⟨bs, os + 1, none⟩ = some (.slice Ata 2 cta) ∧ w'.cell? ⟨bs, os + 2, none⟩ = some (.slice Atk 1 ctk) ∧ w'.cell? ⟨w7.heap.size, 0, none⟩ = some (.slice (some ⟨bd, od, none⟩) 1 cd) ∧ w'.cell? ⟨bd, od + 1, none⟩ = some (.slice Ada 1 cda)) (go_keep)
    (first | (go_at_call 17; refine (VV.out _ _ (HV.out.below (below_drewN _ _ 1))).mono ?_; rintro e u8_0 ⟨rfl, hb⟩; have hb1 : Below v8.heap.size v8 u8_0 := (below_drewN v8.heap.size v8 1).trans hb; replace h0 := cellB hb1 h0; replace h1 := cellB hb1 h1; replace h2 := cellB hb1 h2; replace s0 := cellB hb1 s0; replace a1 := cellB hb1 a1; replace b0 := cellB hb1 b0; replace r0 := cellB hb1 r0; replace r1 := cellB hb1 r1; replace r2 := cellB hb1 r2; replace e1 := cellB hb1 e1; replace d0 := cellB hb1 d0; replace HV := Lib.hid (HV.out.below hb1); replace HT := Lib.hid (HT.out.below hb1); replace HE := Lib.hid (HE.out.below hb1); replace HB := Lib.hid (below_up HB.out hb1 HB.out.size); clear hb hb1) | (go_at_call 29; refine (row_any _).mono ?_; rintro e u8_1 ⟨rv, rfl, hrv, hb⟩; have hb1 : Below u8_0.heap.size u8_0 u8_1 := hb; replace h0 := cellB hb1 h0; replace h1 := cellB hb1 h1; replace h2 := cellB hb1 h2; replace s0 := cellB hb1 s0; replace a1 := cellB hb1 a1; replace b0 := cellB hb1 b0; replace r0 := cellB hb1 r0; replace r1 := cellB hb1 r1; replace r2 := cellB hb1 r2; replace e1 := cellB hb1 e1; replace d0 := cellB hb1 d0; replace HV := Lib.hid (HV.out.below hb1); replace HT := Lib.hid (HT.out.below hb1); replace HE := Lib.hid (HE.out.below hb1); replace HB := Lib.hid (below_up HB.out hb1 HB.out.size); have HRV := Lib.hid hrv; clear hrv; clear hb hb1) | (go_at_call 21; refine (FF.out _ _ _ _ HT.out HRV.out).mono ?_; rintro e u8_2 ⟨rfl, hb⟩; have hb1 : Below u8_1.heap.size u8_1 u8_2 := hb; replace h0 := cellB hb1 h0; replace h1 := cellB hb1 h1; replace h2 := cellB hb1 h2; replace s0 := cellB hb1 s0; replace a1 := cellB hb1 a1; replace b0 := cellB hb1 b0; replace r0 := cellB hb1 r0; replace r1 := cellB hb1 r1; replace r2 := cellB hb1 r2; replace e1 := cellB hb1 e1; replace d0 := cellB hb1 d0; replace HV := Lib.hid (HV.out.below hb1); replace HT := Lib.hid (HT.out.below hb1); replace HE := Lib.hid (HE.out.below hb1); replace HB := Lib.hid (below_up HB.out hb1 HB.out.size); clear HRV; clear hb hb1) | (go_at_call 23; refine (CC.out _ _ _ HT.out).mono ?_; rintro e u8_3 ⟨rfl, hb⟩; have hb1 : Below u8_2.heap.size u8_2 u8_3 := hb; replace h0 := cellB hb1 h0; replace h1 := cellB hb1 h1; replace h2 := cellB hb1 h2; replace s0 := cellB hb1 s0; replace a1 := cellB hb1 a1; replace b0 := cellB hb1 b0; replace r0 := cellB hb1 r0; replace r1 := cellB hb1 r1; replace r2 := cellB hb1 r2; replace e1 := cellB hb1 e1; replace d0 := cellB hb1 d0; replace HV := Lib.hid (HV.out.below hb1); replace HT := Lib.hid (HT.out.below hb1); replace HE := Lib.hid (HE.out.below hb1); replace HB := Lib.hid (below_up HB.out hb1 HB.out.size); clear hb hb1))
  go_wp2_with fail
  go_ret
  exact ⟨rfl, HB.out⟩
end Go.Proofs.YteokcgfbhaeklaaGreatDoor
