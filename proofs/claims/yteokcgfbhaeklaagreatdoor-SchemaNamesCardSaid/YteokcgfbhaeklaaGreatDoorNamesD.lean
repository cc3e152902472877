/- SchemaNames in plain words, at a change of kind 2 or 4. -/
import Derived.Test.YteokcgfbhaeklaaGreatDoorScLawC
namespace Go.Proofs.YteokcgfbhaeklaaGreatDoor
open Go.RowKit

set_option maxRecDepth 100000 in
set_option maxHeartbeats 40000000 in
theorem nam_0 (s : List TabT) (v : Value) (c : ChgT) (w : World) (he : L2.Env w) (h : Tabs w v s) (hsm : SmallC s c []) (s1 : List TabT) (k : Nat) (t u : TabT) (ha : applyT s c = (s1, 0)) (hkl : k < s.length) (hf : findT s c.table = (k : Int)) (htk : ∀ h0 : k < s.length, s[k] = t) (huk : ∀ h1 : k < s1.length, s1[k] = u) (hl : s1.length = s.length)
    (hmt : t.attrs.length ≤ 20 ∧ t.key.length ≤ 20 ∧ ∀ a ∈ t.attrs, a.was.length ≤ 10) (hmu : u.attrs.length ≤ 24 ∧ u.key.length ≤ 24 ∧ ∀ a ∈ u.attrs, a.was.length ≤ 24)
    (hnm : ∀ i (hi : i < t.attrs.length), 0 ≤ movT t.attrs c i → ∀ nm ∈ namesA t.attrs[i], colT u.attrs nm = movT t.attrs c i)
    (hkey : u.key = t.key.map (movT t.attrs c)) (hkb : ∀ x ∈ t.key, 0 ≤ x ∧ x < (t.attrs.length : Int)) (hk : ¬ c.kind = 1 ∧ ¬ c.kind = 3) :
    Calls Tryz.prog 5 #[.agg #[v], Cv c] w (fun e w' => e = .returned (.bool true) ∧ Below w.heap.size w w') := by
  have e1 : (c.kind == 1) = false := by simpa using hk.1
  have e3 : (c.kind == 3) = false := by simpa using hk.2
  clear hk
  have HSM := Lib.hid hsm
  have HA := Lib.hid ha
  have HF := Lib.hid hf
  have HTK := Lib.hid htk
  have HUK := Lib.hid huk
  have HL := Lib.hid hl
  have HMT := Lib.hid hmt
  have HMU := Lib.hid hmu
  have HNM := Lib.hid hnm
  have HKEY := Lib.hid hkey
  have HKB := Lib.hid hkb
  have i1 : (0 : Int) ≤ (k : Int) := by omega
  have i2 : (k : Int) < (s.length : Int) := by omega
  have i3 : (k : Int) < (s1.length : Int) := by omega
  have i4 : ¬ (k : Int) < 0 := by omega
  have i5 : ¬ (s1.length : Int) ≤ (k : Int) := by omega
  have hk1 : k < s1.length := by omega
  clear hsm ha hf htk huk hl hmt hmu hnm hkey hkb
  obtain ⟨A, cp, rfl, _⟩ := h.form
  have HE := Lib.hid he
  have HS := Lib.hid h
  clear he h
  go_enter Tryz.func5, Tryz.ntmps5
  go_wp2_with fail
  refine (head_any _ ((HE.out.alloc _).alloc _)).mono ?_
  rintro e w1 ⟨rfl, hb⟩
  have hb2 : Below w.heap.size w w1 := below_up ((below_box w _).alloc (by simp) _) hb (by simp; omega)
  replace HE := Lib.hid (HE.out.below hb2)
  replace HS := Lib.hid (HS.out.below hb2)
  have HB := Lib.hid hb2
  have z0 : w1.cell? ⟨w.heap.size, 0, none⟩ = some (.slice A s.length cp) := cellB hb (by simp [go_sem])
  have c0 : w1.cell? ⟨w.heap.size + 1, 0, none⟩ = some (.int .i64 c.kind) := cellB hb (by simp [go_sem])
  have c1 : w1.cell? ⟨w.heap.size + 1, 1, none⟩ = some (str c.table) := cellB hb (by simp [go_sem])
  have c2 : w1.cell? ⟨w.heap.size + 1, 2, none⟩ = some (str c.attr) := cellB hb (by simp [go_sem])
  have c3 : w1.cell? ⟨w.heap.size + 1, 3, none⟩ = some (str c.name) := cellB hb (by simp [go_sem])
  have c4 : w1.cell? ⟨w.heap.size + 1, 4, none⟩ = some (.int .i64 c.to) := cellB hb (by simp [go_sem])
  have c5 : w1.cell? ⟨w.heap.size + 1, 5, none⟩ = some (.int .i64 c.dft.1) := cellB hb (by simp [go_sem])
  have c6 : w1.cell? ⟨w.heap.size + 1, 6, none⟩ = some (.int .i64 c.dft.2.1) := cellB hb (by simp [go_sem])
  have c7 : w1.cell? ⟨w.heap.size + 1, 7, none⟩ = some (str c.dft.2.2) := cellB hb (by simp [go_sem])
  clear hb hb2
  go_wp2_with fail
  refine (smallC_is s _ _ c [] HSM.out _ HS.out ⟨none, 0, rfl⟩).mono ?_
  rintro e w2 ⟨rfl, hb⟩
  have hb2 : Below w1.heap.size w1 w2 := hb
  replace z0 := cellB hb2 z0
  replace c0 := cellB hb2 c0
  replace c1 := cellB hb2 c1
  replace c2 := cellB hb2 c2
  replace c3 := cellB hb2 c3
  replace c4 := cellB hb2 c4
  replace c5 := cellB hb2 c5
  replace c6 := cellB hb2 c6
  replace c7 := cellB hb2 c7
  replace HE := Lib.hid (HE.out.below hb2)
  replace HS := Lib.hid (HS.out.below hb2)
  replace HB := Lib.hid (below_up HB.out hb2 HB.out.size)
  clear hb hb2
  go_wp2_with fail
  refine (apply_is s _ c _ HA.out HSM.out.mid _ HS.out).mono ?_
  rintro e w3 ⟨va, rfl, hva, hb⟩
  have hb2 : Below w2.heap.size w2 w3 := hb
  replace z0 := cellB hb2 z0
  replace c0 := cellB hb2 c0
  replace c1 := cellB hb2 c1
  replace c2 := cellB hb2 c2
  replace c3 := cellB hb2 c3
  replace c4 := cellB hb2 c4
  replace c5 := cellB hb2 c5
  replace c6 := cellB hb2 c6
  replace c7 := cellB hb2 c7
  replace HE := Lib.hid (HE.out.below hb2)
  replace HS := Lib.hid (HS.out.below hb2)
  replace HB := Lib.hid (below_up HB.out hb2 HB.out.size)
  clear hb hb2
  obtain ⟨Aa, ca, rfl, _⟩ := hva.form
  have HVA := Lib.hid hva
  clear hva
  have yz0 := fun o => Cell.alloc z0 o
  have yc0 := fun o => Cell.alloc c0 o
  have yc1 := fun o => Cell.alloc c1 o
  have yc2 := fun o => Cell.alloc c2 o
  have yc3 := fun o => Cell.alloc c3 o
  have yc4 := fun o => Cell.alloc c4 o
  have yc5 := fun o => Cell.alloc c5 o
  have yc6 := fun o => Cell.alloc c6 o
  have yc7 := fun o => Cell.alloc c7 o
  go_wp2_with fail
  refine (find_is s _ c.table (k : Int) HF.out HSM.out.mid _ (HS.out.below (below_box w3 _))).mono ?_
  rintro e w4 ⟨rfl, hb⟩
  have hb2 : Below w3.heap.size w3 w4 := below_up (below_box w3 _) hb (by simp)
  replace z0 := cellB hb2 z0
  replace c0 := cellB hb2 c0
  replace c1 := cellB hb2 c1
  replace c2 := cellB hb2 c2
  replace c3 := cellB hb2 c3
  replace c4 := cellB hb2 c4
  replace c5 := cellB hb2 c5
  replace c6 := cellB hb2 c6
  replace c7 := cellB hb2 c7
  replace HE := Lib.hid (HE.out.below hb2)
  replace HS := Lib.hid (HS.out.below hb2)
  replace HVA := Lib.hid (HVA.out.below hb2)
  replace HB := Lib.hid (below_up HB.out hb2 HB.out.size)
  have a0 : w4.cell? ⟨w3.heap.size, 0, none⟩ = some (.slice Aa s1.length ca) := cellB hb (by simp [go_sem])
  clear hb hb2 yz0 yc0 yc1 yc2 yc3 yc4 yc5 yc6 yc7
  obtain ⟨b1, o1, rfl, xa, xk, hax, hxa, hxk⟩ := tab_at HS.out hkl
  obtain ⟨b2, o2, rfl, ya, yk, hay, hya, hyk⟩ := tab_at HVA.out hk1
  rw [HTK.out hkl] at hax hxa hxk
  rw [HUK.out hk1] at hay hya hyk
  obtain ⟨Xa, na, rfl, _⟩ := hxa.form
  obtain ⟨Xk, nk, rfl, _⟩ := hxk.form
  obtain ⟨Ya, ma, rfl, _⟩ := hya.form
  obtain ⟨Yk, mk, rfl, _⟩ := hyk.form
  have x0 := hax.c0
  have x1 := hax.c1
  have x2 := hax.c2
  have y0 := hay.c0
  have y1 := hay.c1
  have y2 := hay.c2
  have HXA := Lib.hid hxa
  have HXK := Lib.hid hxk
  have HYA := Lib.hid hya
  have HYK := Lib.hid hyk
  clear hax hay hxa hxk hya hyk
  go_wp2_with fail
  go_region_held3 (fun w' => w'.cell? ⟨w.heap.size, 0, none⟩ = some (.slice (some ⟨b1, o1, none⟩) s.length cp) ∧ w'.cell? ⟨w3.heap.size, 0, none⟩ = some (.slice (some ⟨b2, o2, none⟩) s1.length ca) ∧ w'.cell? ⟨b1, o1 + k * 3, none⟩ = some (str t.name) ∧ w'.cell? ⟨b1, o1 + k * 3 + 1, none⟩ = some (.slice Xa t.attrs.length na) ∧ w'.cell? ⟨b1, o1 + k * 3 + 2, none⟩ = some (.slice Xk t.key.length nk) ∧ w'.cell? ⟨b2, o2 + k * 3, none⟩ = some (str u.name) ∧ w'.cell? ⟨b2, o2 + k * 3 + 1, none⟩ = some (.slice Ya u.attrs.length ma) ∧ w'.cell? ⟨b2, o2 + k * 3 + 2, none⟩ = some (.slice Yk u.key.length mk)) (go_keep) (fail)
  all_goals
    clear z0 a0 x0 x1 x2 y0 y1 y2
    first | (obtain ⟨W5, hW⟩ : ∃ W, ((w4.alloc (.cells #[.string ⟨t.name.toArray⟩, .slice Xa t.attrs.length na, .slice Xk t.key.length nk] 44)).alloc (.cells #[.string ⟨u.name.toArray⟩, .slice Ya u.attrs.length ma, .slice Yk u.key.length mk] 44)).drew = W := ⟨_, rfl⟩; rw [hW]; have hb2 : Below w4.heap.size w4 W5 := (by rw [← hW]; exact ((below_box w4 _).alloc (by simp) _).trans (below_drewN _ _ 1)); replace c0 := cellB hb2 c0; replace c1 := cellB hb2 c1; replace c2 := cellB hb2 c2; replace c3 := cellB hb2 c3; replace c4 := cellB hb2 c4; replace c5 := cellB hb2 c5; replace c6 := cellB hb2 c6; replace c7 := cellB hb2 c7; replace HE := Lib.hid (HE.out.below hb2); replace HS := Lib.hid (HS.out.below hb2); replace HVA := Lib.hid (HVA.out.below hb2); replace HXA := Lib.hid (HXA.out.below hb2); replace HXK := Lib.hid (HXK.out.below hb2); replace HYA := Lib.hid (HYA.out.below hb2); replace HYK := Lib.hid (HYK.out.below hb2); replace HB := Lib.hid (below_up HB.out hb2 HB.out.size); have t0 : W5.cell? ⟨w4.heap.size, 0, none⟩ = some (str t.name) := (by rw [← hW]; simp [go_sem]); have t1 : W5.cell? ⟨w4.heap.size, 1, none⟩ = some (.slice Xa t.attrs.length na) := (by rw [← hW]; simp [go_sem]); have t2 : W5.cell? ⟨w4.heap.size, 2, none⟩ = some (.slice Xk t.key.length nk) := (by rw [← hW]; simp [go_sem]); have u0 : W5.cell? ⟨w4.heap.size + 1, 0, none⟩ = some (str u.name) := (by rw [← hW]; simp [go_sem]); have u1 : W5.cell? ⟨w4.heap.size + 1, 1, none⟩ = some (.slice Ya u.attrs.length ma) := (by rw [← hW]; simp [go_sem]); have u2 : W5.cell? ⟨w4.heap.size + 1, 2, none⟩ = some (.slice Yk u.key.length mk) := (by rw [← hW]; simp [go_sem]); clear hW hb2; obtain ⟨ub, hq⟩ : ∃ b, w4.heap.size + 1 = b := ⟨_, rfl⟩; rw [hq] at u0 u1 u2 ⊢; clear hq; obtain ⟨tb, hq⟩ : ∃ b, w4.heap.size = b := ⟨_, rfl⟩; rw [hq] at t0 t1 t2 ⊢; clear hq) | (obtain ⟨W5, hW⟩ : ∃ W, ((w4.alloc (.cells #[.string ⟨u.name.toArray⟩, .slice Ya u.attrs.length ma, .slice Yk u.key.length mk] 44)).alloc (.cells #[.string ⟨t.name.toArray⟩, .slice Xa t.attrs.length na, .slice Xk t.key.length nk] 44)).drew = W := ⟨_, rfl⟩; rw [hW]; have hb2 : Below w4.heap.size w4 W5 := (by rw [← hW]; exact ((below_box w4 _).alloc (by simp) _).trans (below_drewN _ _ 1)); replace c0 := cellB hb2 c0; replace c1 := cellB hb2 c1; replace c2 := cellB hb2 c2; replace c3 := cellB hb2 c3; replace c4 := cellB hb2 c4; replace c5 := cellB hb2 c5; replace c6 := cellB hb2 c6; replace c7 := cellB hb2 c7; replace HE := Lib.hid (HE.out.below hb2); replace HS := Lib.hid (HS.out.below hb2); replace HVA := Lib.hid (HVA.out.below hb2); replace HXA := Lib.hid (HXA.out.below hb2); replace HXK := Lib.hid (HXK.out.below hb2); replace HYA := Lib.hid (HYA.out.below hb2); replace HYK := Lib.hid (HYK.out.below hb2); replace HB := Lib.hid (below_up HB.out hb2 HB.out.size); have t0 : W5.cell? ⟨w4.heap.size + 1, 0, none⟩ = some (str t.name) := (by rw [← hW]; simp [go_sem]); have t1 : W5.cell? ⟨w4.heap.size + 1, 1, none⟩ = some (.slice Xa t.attrs.length na) := (by rw [← hW]; simp [go_sem]); have t2 : W5.cell? ⟨w4.heap.size + 1, 2, none⟩ = some (.slice Xk t.key.length nk) := (by rw [← hW]; simp [go_sem]); have u0 : W5.cell? ⟨w4.heap.size, 0, none⟩ = some (str u.name) := (by rw [← hW]; simp [go_sem]); have u1 : W5.cell? ⟨w4.heap.size, 1, none⟩ = some (.slice Ya u.attrs.length ma) := (by rw [← hW]; simp [go_sem]); have u2 : W5.cell? ⟨w4.heap.size, 2, none⟩ = some (.slice Yk u.key.length mk) := (by rw [← hW]; simp [go_sem]); clear hW hb2; obtain ⟨tb, hq⟩ : ∃ b, w4.heap.size + 1 = b := ⟨_, rfl⟩; rw [hq] at t0 t1 t2 ⊢; clear hq; obtain ⟨ub, hq⟩ : ∃ b, w4.heap.size = b := ⟨_, rfl⟩; rw [hq] at u0 u1 u2 ⊢; clear hq)
    clear HE HS HVA
    go_wp2_with fail
    go_loopw [11] (fun i wr => ∃ j : Nat, j ≤ t.attrs.length ∧ i = .int .i64 (j : Int) ∧ Below W5.heap.size W5 wr) (fun i _ => t.attrs.length - (intOf i).toNat)
    case atStart => exact ⟨0, by omega, by simp, Below.refl _ _⟩
    case round =>
      obtain ⟨j, hj, rfl, hw⟩ := hrel
      obtain ⟨wo, rfl⟩ : ∃ wo, wo = wr := ⟨_, rfl⟩
      have c0 := cellB hw c0
      have c1 := cellB hw c1
      have c2 := cellB hw c2
      have c3 := cellB hw c3
      have c4 := cellB hw c4
      have c5 := cellB hw c5
      have c6 := cellB hw c6
      have c7 := cellB hw c7
      have t0 := cellB hw t0
      have t1 := cellB hw t1
      have t2 := cellB hw t2
      have u0 := cellB hw u0
      have u1 := cellB hw u1
      have u2 := cellB hw u2
      have HXA := Lib.hid (HXA.out.below hw)
      have HXK := Lib.hid (HXK.out.below hw)
      have HYA := Lib.hid (HYA.out.below hw)
      have HYK := Lib.hid (HYK.out.below hw)
      have HB := Lib.hid (below_up HB.out hw HB.out.size)
      have HW := Lib.hid hw
      clear hw
      by_cases hlt : j < t.attrs.length
      · obtain ⟨ba, oa, e, wv, hat, hws⟩ := attr_at HXA.out hlt
        subst e
        obtain ⟨Aw, cw, rfl, _⟩ : ∃ A c, wv = .slice A t.attrs[j].was.length c ∧ t.attrs[j].was.length ≤ c := by
          obtain ⟨A, c, e, hc, _⟩ := hws
          exact ⟨A, c, e, hc⟩
        have at0 := hat.c0
        have at2 := hat.c2
        obtain ⟨m, hm⟩ : ∃ m, movT t.attrs c (j : Int) = m := ⟨_, rfl⟩
        have HN := Lib.hid (fun (h : 0 ≤ m) nm hn => (HNM.out j hlt (by rw [hm]; exact h) nm hn).trans hm)
        have HMM := Lib.hid hm
        obtain ⟨a, ha⟩ : ∃ a, t.attrs[j] = a := ⟨_, rfl⟩
        rw [ha] at at0 at2 hws HN
        have hwl : a.was.length ≤ 10 := by rw [← ha]; exact HMT.out.2.2 _ (List.getElem_mem hlt)
        have HWS := Lib.hid hws
        have j1 : (0 : Int) ≤ (j : Int) := by omega
        have j2 : (j : Int) < (t.attrs.length : Int) := by omega
        have hjl : -4000 ≤ (j : Int) ∧ (j : Int) ≤ 4000 := by have := HMT.out.1; omega
        clear hat hws hm ha
        go_wp2_with fail
        refine (moved_is t.name t.attrs _ (.slice Xk t.key.length nk) c (j : Int) m HMM.out (by have := HMT.out.1; omega) (fun a ha => by have := HMT.out.2.2 a ha; omega) hjl _ HXA.out).mono ?_
        rintro e w5 ⟨rfl, hb⟩
        have hb2 : Below wo.heap.size wo w5 := hb
        have HBW := Lib.hid hb2
        replace c0 := cellB hb2 c0
        replace c1 := cellB hb2 c1
        replace c2 := cellB hb2 c2
        replace c3 := cellB hb2 c3
        replace c4 := cellB hb2 c4
        replace c5 := cellB hb2 c5
        replace c6 := cellB hb2 c6
        replace c7 := cellB hb2 c7
        replace t0 := cellB hb2 t0
        replace t1 := cellB hb2 t1
        replace t2 := cellB hb2 t2
        replace u0 := cellB hb2 u0
        replace u1 := cellB hb2 u1
        replace u2 := cellB hb2 u2
        replace at0 := cellB hb2 at0
        replace at2 := cellB hb2 at2
        replace HXA := Lib.hid (HXA.out.below hb2)
        replace HXK := Lib.hid (HXK.out.below hb2)
        replace HYA := Lib.hid (HYA.out.below hb2)
        replace HYK := Lib.hid (HYK.out.below hb2)
        replace HWS := Lib.hid (HWS.out.below hb2)
        replace HB := Lib.hid (below_up HB.out hb2 HB.out.size)
        clear hb hb2
        replace HW := Lib.hid (HW.out.trans ((show Below wo.heap.size wo w5 from HBW.out).mono HW.out.size))
        by_cases hm0 : m < 0
        · go_wp2_with fail
          go_roundw
          case rel => exact ⟨j + 1, by omega, by simp, HW.out⟩
          case measure => simp [intOf]; omega
        · have m1 : (m != m) = false := by simp
          have hm1 : 0 ≤ m := by omega
          go_wp2_with fail
          go_region_held3 (fun w' => w'.cell? ⟨ub, 0, none⟩ = some (str u.name) ∧ w'.cell? ⟨ub, 1, none⟩ = some (.slice Ya u.attrs.length ma) ∧ w'.cell? ⟨ub, 2, none⟩ = some (.slice Yk u.key.length mk) ∧ w'.cell? ⟨tb, 1, none⟩ = some (.slice (some ⟨ba, oa, none⟩) t.attrs.length na) ∧ w'.cell? ⟨ba, oa + j * 6, none⟩ = some (str a.name)) (go_keep)
            (first | (go_at_call 23; refine (column_is u.name u.attrs _ (.slice Yk u.key.length mk) a.name m (HN.out hm1 _ (by simp [namesA])) HMU.out.1 HMU.out.2.2 _ (HYA.out.below (below_drewN _ _ 1))).mono ?_; rintro e w6 ⟨rfl, hb⟩; have hb1 := (below_drewN w5.heap.size w5 1).trans hb; have g1 := Lib.hid hb1; have pc0 := cellB hb1 c0; have pc1 := cellB hb1 c1; have pc2 := cellB hb1 c2; have pc3 := cellB hb1 c3; have pc4 := cellB hb1 c4; have pc5 := cellB hb1 c5; have pc6 := cellB hb1 c6; have pc7 := cellB hb1 c7; have pt0 := cellB hb1 t0; have pt1 := cellB hb1 t1; have pt2 := cellB hb1 t2; have pu0 := cellB hb1 u0; have pu1 := cellB hb1 u1; have pu2 := cellB hb1 u2; have pat0 := cellB hb1 at0; have pat2 := cellB hb1 at2; clear hb hb1))
          replace c0 := pc0
          replace c1 := pc1
          replace c2 := pc2
          replace c3 := pc3
          replace c4 := pc4
          replace c5 := pc5
          replace c6 := pc6
          replace c7 := pc7
          replace t0 := pt0
          replace t1 := pt1
          replace t2 := pt2
          replace u0 := pu0
          replace u1 := pu1
          replace u2 := pu2
          replace at0 := pat0
          replace at2 := pat2
          replace HXA := Lib.hid (HXA.out.below g1.out)
          replace HXK := Lib.hid (HXK.out.below g1.out)
          replace HYA := Lib.hid (HYA.out.below g1.out)
          replace HYK := Lib.hid (HYK.out.below g1.out)
          replace HWS := Lib.hid (HWS.out.below g1.out)
          replace HB := Lib.hid (below_up HB.out g1.out HB.out.size)
          replace HW := Lib.hid (HW.out.trans (g1.out.mono HW.out.size))
          clear g1 pc0 pc1 pc2 pc3 pc4 pc5 pc6 pc7 pt0 pt1 pt2 pu0 pu1 pu2 pat0 pat2
          go_wp2_with fail
          go_loopw [13] (fun i wr => ∃ q : Nat, q ≤ a.was.length ∧ i = .int .i64 (q : Int) ∧ Below w6.heap.size w6 wr) (fun i _ => a.was.length - (intOf i).toNat)
          case atStart => exact ⟨0, by omega, by simp, Below.refl _ _⟩
          case round =>
            obtain ⟨q, hq, rfl, hv⟩ := hrel
            have c0 := cellB hv c0
            have c1 := cellB hv c1
            have c2 := cellB hv c2
            have c3 := cellB hv c3
            have c4 := cellB hv c4
            have c5 := cellB hv c5
            have c6 := cellB hv c6
            have c7 := cellB hv c7
            have t0 := cellB hv t0
            have t1 := cellB hv t1
            have t2 := cellB hv t2
            have u0 := cellB hv u0
            have u1 := cellB hv u1
            have u2 := cellB hv u2
            have at0 := cellB hv at0
            have at2 := cellB hv at2
            have HXA := Lib.hid (HXA.out.below hv)
            have HXK := Lib.hid (HXK.out.below hv)
            have HYA := Lib.hid (HYA.out.below hv)
            have HYK := Lib.hid (HYK.out.below hv)
            have HWS := Lib.hid (HWS.out.below hv)
            have HB := Lib.hid (below_up HB.out hv HB.out.size)
            have HV := Lib.hid hv
            have HW := Lib.hid (HW.out.trans (hv.mono HW.out.size))
            clear hv
            by_cases hqt : q < a.was.length
            · obtain ⟨_, _, e, _, _, f⟩ := HWS.out
              cases e
              obtain ⟨bw, ow, e, wq⟩ := f q hqt
              subst e
              have k1 : (0 : Int) ≤ (q : Int) := by omega
              have k2 : (q : Int) < (a.was.length : Int) := by omega
              have hmem := List.getElem_mem hqt
              obtain ⟨b, hb0⟩ : ∃ b, a.was[q] = b := ⟨_, rfl⟩
              rw [hb0] at wq hmem
              clear f hb0
              go_wp2_with fail
              go_region_held3 (fun w' => w'.cell? ⟨ub, 0, none⟩ = some (str u.name) ∧ w'.cell? ⟨ub, 1, none⟩ = some (.slice Ya u.attrs.length ma) ∧ w'.cell? ⟨ub, 2, none⟩ = some (.slice Yk u.key.length mk) ∧ w'.cell? ⟨tb, 1, none⟩ = some (.slice (some ⟨ba, oa, none⟩) t.attrs.length na) ∧ w'.cell? ⟨ba, oa + j * 6 + 2, none⟩ = some (.slice (some ⟨bw, ow, none⟩) a.was.length cw) ∧ w'.cell? ⟨bw, ow + q, none⟩ = some (str b)) (go_keep)
                (first | (go_at_call 23; refine (column_is u.name u.attrs _ (.slice Yk u.key.length mk) b m (HN.out hm1 _ (by exact List.mem_cons_of_mem _ hmem)) HMU.out.1 HMU.out.2.2 _ (HYA.out.below (below_drewN _ _ 1))).mono ?_; rintro e w7 ⟨rfl, hb⟩; have hb1 := (below_drewN wr.heap.size wr 1).trans hb; have g1 := Lib.hid hb1; have pc0 := cellB hb1 c0; have pc1 := cellB hb1 c1; have pc2 := cellB hb1 c2; have pc3 := cellB hb1 c3; have pc4 := cellB hb1 c4; have pc5 := cellB hb1 c5; have pc6 := cellB hb1 c6; have pc7 := cellB hb1 c7; have pt0 := cellB hb1 t0; have pt1 := cellB hb1 t1; have pt2 := cellB hb1 t2; have pu0 := cellB hb1 u0; have pu1 := cellB hb1 u1; have pu2 := cellB hb1 u2; have pat0 := cellB hb1 at0; have pat2 := cellB hb1 at2; have pwq := cellB hb1 wq; clear hb hb1))
              replace c0 := pc0
              replace c1 := pc1
              replace c2 := pc2
              replace c3 := pc3
              replace c4 := pc4
              replace c5 := pc5
              replace c6 := pc6
              replace c7 := pc7
              replace t0 := pt0
              replace t1 := pt1
              replace t2 := pt2
              replace u0 := pu0
              replace u1 := pu1
              replace u2 := pu2
              replace at0 := pat0
              replace at2 := pat2
              replace wq := pwq
              replace HXA := Lib.hid (HXA.out.below g1.out)
              replace HXK := Lib.hid (HXK.out.below g1.out)
              replace HYA := Lib.hid (HYA.out.below g1.out)
              replace HYK := Lib.hid (HYK.out.below g1.out)
              replace HWS := Lib.hid (HWS.out.below g1.out)
              replace HB := Lib.hid (below_up HB.out g1.out HB.out.size)
              replace HV := Lib.hid (HV.out.trans (g1.out.mono HV.out.size))
              replace HW := Lib.hid (HW.out.trans (g1.out.mono HW.out.size))
              clear g1 pc0 pc1 pc2 pc3 pc4 pc5 pc6 pc7 pt0 pt1 pt2 pu0 pu1 pu2 pat0 pat2 pwq
              go_wp2_with fail
              go_roundw
              case rel => exact ⟨q + 1, by omega, by simp, HV.out⟩
              case measure => simp [intOf]; omega
            · go_wp2_with fail
              go_roundw
              case rel => exact ⟨j + 1, by omega, by simp, HW.out⟩
              case measure => simp [intOf]; omega
      · clear HW
        have kl : t.key.length ≤ 20 := HMT.out.2.1
        have e5 : ((u.key.length : Int) != (t.key.length : Int)) = false := by rw [HKEY.out]; simp
        have e6 : ((t.attrs.length : Int) != (t.attrs.length : Int)) = false := by simp
        have mc0 := fun m => (show (wo.drewN m).cell? _ = _ from c0)
        have mc1 := fun m => (show (wo.drewN m).cell? _ = _ from c1)
        have mc2 := fun m => (show (wo.drewN m).cell? _ = _ from c2)
        have mc3 := fun m => (show (wo.drewN m).cell? _ = _ from c3)
        have mc4 := fun m => (show (wo.drewN m).cell? _ = _ from c4)
        have mc5 := fun m => (show (wo.drewN m).cell? _ = _ from c5)
        have mc6 := fun m => (show (wo.drewN m).cell? _ = _ from c6)
        have mc7 := fun m => (show (wo.drewN m).cell? _ = _ from c7)
        have mt0 := fun m => (show (wo.drewN m).cell? _ = _ from t0)
        have mt1 := fun m => (show (wo.drewN m).cell? _ = _ from t1)
        have mt2 := fun m => (show (wo.drewN m).cell? _ = _ from t2)
        have mu0 := fun m => (show (wo.drewN m).cell? _ = _ from u0)
        have mu1 := fun m => (show (wo.drewN m).cell? _ = _ from u1)
        have mu2 := fun m => (show (wo.drewN m).cell? _ = _ from u2)
        go_wp2_with fail
        go_quiet (fail)
        obtain ⟨w8, hW⟩ : ∃ W, wo.drewN nq = W := ⟨_, rfl⟩
        rw [hW]
        have hb2 : Below wo.heap.size wo w8 := by rw [← hW]; exact below_drewN _ _ _
        replace c0 := cellB hb2 c0
        replace c1 := cellB hb2 c1
        replace c2 := cellB hb2 c2
        replace c3 := cellB hb2 c3
        replace c4 := cellB hb2 c4
        replace c5 := cellB hb2 c5
        replace c6 := cellB hb2 c6
        replace c7 := cellB hb2 c7
        replace t0 := cellB hb2 t0
        replace t1 := cellB hb2 t1
        replace t2 := cellB hb2 t2
        replace u0 := cellB hb2 u0
        replace u1 := cellB hb2 u1
        replace u2 := cellB hb2 u2
        replace HXA := Lib.hid (HXA.out.below hb2)
        replace HXK := Lib.hid (HXK.out.below hb2)
        replace HYA := Lib.hid (HYA.out.below hb2)
        replace HYK := Lib.hid (HYK.out.below hb2)
        replace HB := Lib.hid (below_up HB.out hb2 HB.out.size)
        clear hW mc0 mc1 mc2 mc3 mc4 mc5 mc6 mc7 mt0 mt1 mt2 mu0 mu1 mu2
        clear hb2
        go_wp2_with fail
        go_loopw [14] (fun i wr => ∃ j : Nat, j ≤ t.key.length ∧ i = .int .i64 (j : Int) ∧ Below w8.heap.size w8 wr) (fun i _ => t.key.length - (intOf i).toNat)
        case atStart => exact ⟨0, by omega, by simp, Below.refl _ _⟩
        case round =>
          obtain ⟨p, hp, rfl, hv⟩ := hrel
          have c0 := cellB hv c0
          have c1 := cellB hv c1
          have c2 := cellB hv c2
          have c3 := cellB hv c3
          have c4 := cellB hv c4
          have c5 := cellB hv c5
          have c6 := cellB hv c6
          have c7 := cellB hv c7
          have t0 := cellB hv t0
          have t1 := cellB hv t1
          have t2 := cellB hv t2
          have u0 := cellB hv u0
          have u1 := cellB hv u1
          have u2 := cellB hv u2
          have HXA := Lib.hid (HXA.out.below hv)
          have HXK := Lib.hid (HXK.out.below hv)
          have HYA := Lib.hid (HYA.out.below hv)
          have HYK := Lib.hid (HYK.out.below hv)
          have HB := Lib.hid (below_up HB.out hv HB.out.size)
          have HV := Lib.hid hv
          clear hv
          by_cases hpt : p < t.key.length
          · have hpu : p < u.key.length := by rw [HKEY.out]; simpa using hpt
            obtain ⟨bk, ok, e, tk⟩ := int_at HXK.out hpt
            subst e
            obtain ⟨bl, ol, e, uk⟩ := int_at HYK.out hpu
            subst e
            have hm : u.key[p] = movT t.attrs c t.key[p] := by
              have := List.getElem_of_eq HKEY.out hpu
              rw [this, List.getElem_map]
            have hy := HKB.out _ (List.getElem_mem hpt)
            rw [hm] at uk
            obtain ⟨y, hy0⟩ : ∃ y, t.key[p] = y := ⟨_, rfl⟩
            rw [hy0] at tk uk hy
            obtain ⟨m, hm0⟩ : ∃ m, movT t.attrs c y = m := ⟨_, rfl⟩
            rw [hm0] at uk
            have HMM := Lib.hid hm0
            have e8 : (m != m) = false := by simp
            have hyl : -4000 ≤ y ∧ y ≤ 4000 := by have := HMT.out.1; omega
            have k1 : (0 : Int) ≤ (p : Int) := by omega
            have k2 : (p : Int) < (t.key.length : Int) := by omega
            have k3 : (p : Int) < (u.key.length : Int) := by omega
            clear hm hm0 hy hy0
            go_wp2_with fail
            go_region_held3 (fun w' => w'.cell? ⟨ub, 2, none⟩ = some (.slice (some ⟨bl, ol, none⟩) u.key.length mk) ∧ w'.cell? ⟨bl, ol + p, none⟩ = some (.int .i64 m) ∧ w'.cell? ⟨tb, 0, none⟩ = some (str t.name) ∧ w'.cell? ⟨tb, 1, none⟩ = some (.slice Xa t.attrs.length na) ∧ w'.cell? ⟨tb, 2, none⟩ = some (.slice (some ⟨bk, ok, none⟩) t.key.length nk) ∧ w'.cell? ⟨bk, ok + p, none⟩ = some (.int .i64 y) ∧ w'.cell? ⟨w.heap.size + 1, 0, none⟩ = some (.int .i64 c.kind) ∧ w'.cell? ⟨w.heap.size + 1, 1, none⟩ = some (str c.table) ∧ w'.cell? ⟨w.heap.size + 1, 2, none⟩ = some (str c.attr) ∧ w'.cell? ⟨w.heap.size + 1, 3, none⟩ = some (str c.name) ∧ w'.cell? ⟨w.heap.size + 1, 4, none⟩ = some (.int .i64 c.to) ∧ w'.cell? ⟨w.heap.size + 1, 5, none⟩ = some (.int .i64 c.dft.1) ∧ w'.cell? ⟨w.heap.size + 1, 6, none⟩ = some (.int .i64 c.dft.2.1) ∧ w'.cell? ⟨w.heap.size + 1, 7, none⟩ = some (str c.dft.2.2)) (go_keep)
              (first | (go_at_call 26; refine (moved_is t.name t.attrs _ (.slice (some ⟨bk, ok, none⟩) t.key.length nk) c y m HMM.out (by have := HMT.out.1; omega) (fun a ha => by have := HMT.out.2.2 a ha; omega) hyl _ (HXA.out.below (below_drewN _ _ 1))).mono ?_; rintro e w9 ⟨rfl, hb⟩; have hb1 := (below_drewN wr.heap.size wr 1).trans hb; have g1 := Lib.hid hb1; have pc0 := cellB hb1 c0; have pc1 := cellB hb1 c1; have pc2 := cellB hb1 c2; have pc3 := cellB hb1 c3; have pc4 := cellB hb1 c4; have pc5 := cellB hb1 c5; have pc6 := cellB hb1 c6; have pc7 := cellB hb1 c7; have pt0 := cellB hb1 t0; have pt1 := cellB hb1 t1; have pt2 := cellB hb1 t2; have pu0 := cellB hb1 u0; have pu1 := cellB hb1 u1; have pu2 := cellB hb1 u2; have ptk := cellB hb1 tk; have puk := cellB hb1 uk; clear hb hb1))
            replace c0 := pc0
            replace c1 := pc1
            replace c2 := pc2
            replace c3 := pc3
            replace c4 := pc4
            replace c5 := pc5
            replace c6 := pc6
            replace c7 := pc7
            replace t0 := pt0
            replace t1 := pt1
            replace t2 := pt2
            replace u0 := pu0
            replace u1 := pu1
            replace u2 := pu2
            replace tk := ptk
            replace uk := puk
            replace HXA := Lib.hid (HXA.out.below g1.out)
            replace HXK := Lib.hid (HXK.out.below g1.out)
            replace HYA := Lib.hid (HYA.out.below g1.out)
            replace HYK := Lib.hid (HYK.out.below g1.out)
            replace HB := Lib.hid (below_up HB.out g1.out HB.out.size)
            replace HV := Lib.hid (HV.out.trans (g1.out.mono HV.out.size))
            clear g1 pc0 pc1 pc2 pc3 pc4 pc5 pc6 pc7 pt0 pt1 pt2 pu0 pu1 pu2 ptk puk
            go_wp2_with fail
            go_roundw
            case rel => exact ⟨p + 1, by omega, by simp, HV.out⟩
            case measure => simp [intOf]; omega
          · go_wp2_with fail
            go_ret
            exact ⟨rfl, HB.out⟩
end Go.Proofs.YteokcgfbhaeklaaGreatDoor
