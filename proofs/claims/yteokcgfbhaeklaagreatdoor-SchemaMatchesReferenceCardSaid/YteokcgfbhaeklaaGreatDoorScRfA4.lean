/- The reference's Apply, at a change of kind 4. -/
import Derived.Test.YteokcgfbhaeklaaGreatDoorScRfA
namespace Go.Proofs.YteokcgfbhaeklaaGreatDoor
open Go.RowKit

set_option maxRecDepth 100000 in
set_option maxHeartbeats 16000000 in
theorem apply4_rf (s : List TabT) (v : Value) (c : ChgT) (hk : c.kind = 4) (hm : Mid s) (hlen : Lens s) (hcn : c.name.length ≤ maxLen) (w : World) (h : Tabs w v s) :
    Calls Tryz.prog 12 #[.agg #[v], Cv c] w (ApplyPost w (applyT s c)) := by
  have HK := Lib.hid hk
  have e1 : (c.kind == 1) = false := by rw [hk]; rfl
  have e2 : (c.kind == 2) = false := by rw [hk]; rfl
  have e3 : (c.kind == 3) = false := by rw [hk]; rfl
  have e4 : (c.kind == 4) = true := by rw [hk]; rfl
  obtain ⟨ps, hfst, hP, hps⟩ := h.open
  have hpl : ps.length = s.length := by rw [← hfst, List.length_map]
  obtain ⟨A, cp, rfl, _⟩ := h.form
  have HS := Lib.hid h
  have HM := Lib.hid hm
  have hsl : s.length ≤ 24 := hm.1
  have HP := Lib.hid hP
  have HPS := Lib.hid hps
  have HFS := Lib.hid hfst
  have HPL := Lib.hid hpl
  have CK := Lib.hid (fun W (hW : Tabs W (.slice A s.length cp) s) => check_rf s _ c hm hlen hcn W hW)
  clear h hm hlen hcn hk hP hps hfst hpl
  go_enter Tryz.func12, Tryz.ntmps12
  go_wp2_with fail
  refine (CK.out _ (HS.out.below (((below_box w _).alloc (by simp) _).alloc (by simp; omega) _))).mono ?_
  rintro e w1 ⟨⟨ci, cj, rfl, hij⟩, hb⟩
  have hb2 : Below w.heap.size w w1 := below_up (((below_box w _).alloc (by simp) _).alloc (by simp; omega) _) hb (by simp; omega)
  replace HS := Lib.hid (HS.out.below hb2)
  have HB := Lib.hid hb2
  have z0 : w1.cell? ⟨w.heap.size, 0, none⟩ = some (.slice A s.length cp) := cellB hb (by simp [go_sem])
  have c0 : w1.cell? ⟨w.heap.size + 1, 0, none⟩ = some (.int .i64 c.kind) := cellB hb (by simp [go_sem])
  have c1 : w1.cell? ⟨w.heap.size + 1, 1, none⟩ = some (str c.table) := cellB hb (by simp [go_sem])
  have c2 : w1.cell? ⟨w.heap.size + 1, 2, none⟩ = some (str c.attr) := cellB hb (by simp [go_sem])
  have c3 : w1.cell? ⟨w.heap.size + 1, 3, none⟩ = some (str c.name) := cellB hb (by simp [go_sem])
  have c4 : w1.cell? ⟨w.heap.size + 1, 4, none⟩ = some (.int .i64 c.to) := cellB hb (by simp [go_sem])
  have c5 : w1.cell? ⟨w.heap.size + 1, 5, none⟩ = some (.int .i64 c.dft.1) := cellB hb (by simp [go_sem])
  have c6 : w1.cell? ⟨w.heap.size + 1, 6, none⟩ = some (.int .i64 c.dft.2.1) := cellB hb (by simp [go_sem])
  have c7 : w1.cell? ⟨w.heap.size + 1, 7, none⟩ = some (str c.dft.2.2) := cellB hb (by simp [go_sem])
  have r0 : w1.cell? ⟨w.heap.size + 1 + 1, 0, none⟩ = some (.slice none 0 0) := cellB hb (by simp [go_sem])
  have rf : w1.frozen? ⟨w.heap.size + 1 + 1, 0, none⟩ = false := frozenB (v := .slice none 0 0) hb (by simp [go_sem]) (by simp [go_sem])
  clear hb hb2
  clear CK
  obtain ⟨er, her⟩ : ∃ er, (locT s c).1 = er := ⟨_, rfl⟩
  rw [her] at hij
  rw [her]
  by_cases he0 : er = 0
  · subst he0
    obtain ⟨k, t, hloc⟩ := loc_ok her
    obtain ⟨e1_, e2_⟩ := hij rfl
    rw [hloc.loc] at e1_ e2_
    simp only at e1_ e2_
    subst e1_ e2_
    obtain ⟨u, hal⟩ := alt_ok hloc
    have HAL := Lib.hid hal
    have hkl : k < s.length := hloc.lt
    have hkp : k < ps.length := by rw [HPL.out]; exact hkl
    obtain ⟨⟨t', va, vk⟩, hpk⟩ : ∃ p, ps[k] = p := ⟨_, rfl⟩
    have htt : t' = t := by
      have h1 := fst_get HFS.out hkp hkl
      rw [hpk] at h1
      exact h1.symm.trans hloc.get
    subst htt
    obtain ⟨hva, hvk⟩ : Attrs w va t'.attrs ∧ Ints w vk t'.key := by
      have h1 := HPS.out _ (List.getElem_mem hkp)
      rw [hpk] at h1
      exact h1
    obtain ⟨qs, hqf, hQ, hqw⟩ := Attrs.open hva
    have hql : qs.length = t'.attrs.length := by rw [← hqf, List.length_map]
    obtain ⟨Aa, na, rfl, _⟩ := hva.form
    obtain ⟨Ak, nk, rfl, _⟩ := hvk.form
    have hmt := HM.out.2 t' hloc.mem
    have hlen1 := hal.t_ok.len
    obtain ⟨y, hy⟩ : ∃ y, colT t'.attrs c.attr = y := ⟨_, rfl⟩
    rw [hy]
    have HY := Lib.hid hy
    have HVK := Lib.hid hvk
    have HQ := Lib.hid hQ
    have HQW := Lib.hid hqw
    have HQF := Lib.hid hqf
    have HQL := Lib.hid hql
    have HMT := Lib.hid hmt
    have HPK := Lib.hid hpk
    have i1 : (0 : Int) ≤ (k : Int) := by omega
    have i2 : (k : Int) < (s.length : Int) := by omega
    obtain ⟨_, _, e, _, _, f⟩ := HP.out
    injection e with e1_ e2_ e3_
    subst e1_ e3_
    obtain ⟨b, o, rfl, hat⟩ := f k hkp
    rw [hpk] at hat
    have hbw : b < w.heap.size := cellLt hat.c0
    have x0 := cellB HB.out hat.c0
    have x1 := cellB HB.out hat.c1
    have x2 := cellB HB.out hat.c2
    clear hat f e2_ hij her hloc hal hva hvk hQ hqw hqf hql hmt hpk hy
    have HST := Lib.hid (src_tabs (A := some ⟨b, o, none⟩) (n := ps.length) (cap := cp) (w := w) (ps := ps) (by
      obtain ⟨A', c', e, h1, h2, h3⟩ := HP.out
      injection e with e1 e2 e3
      subst e1 e3
      exact ⟨_, _, by rfl, h1, h2, h3⟩) (fun p hp => ⟨(HPS.out p hp).1.isSl, (HPS.out p hp).2.isSl⟩)).2
    rw [HPL.out] at HST
    have HSA := Lib.hid (src_attrs (A := Aa) (n := t'.attrs.length) (cap := na) (w := w) (ps := qs) HQ.out (fun q hq => (HQW.out q hq).isSl)).2
    have HB1 := Lib.hid (fun W1 (g : (w1.alloc (.cells #[] 44)).grownBy W1 (some w1.heap.size)) => (show Below w1.heap.size w1 W1 from (below_box w1 _).grown g (by simp) (by intro k hk; cases hk; exact Nat.le_refl _)))
    have yz0 := fun o => Cell.alloc z0 o
    have yc0 := fun o => Cell.alloc c0 o
    have yc1 := fun o => Cell.alloc c1 o
    have yc2 := fun o => Cell.alloc c2 o
    have yc3 := fun o => Cell.alloc c3 o
    have yc4 := fun o => Cell.alloc c4 o
    have yc5 := fun o => Cell.alloc c5 o
    have yc6 := fun o => Cell.alloc c6 o
    have yc7 := fun o => Cell.alloc c7 o
    have yr0 := fun o => Cell.alloc r0 o
    have yx0 := fun o => Cell.alloc x0 o
    have yx1 := fun o => Cell.alloc x1 o
    have yx2 := fun o => Cell.alloc x2 o
    go_upto_region 5 with (at_builtin; refine wpList_app elemTab rfl (.tmp 24) (.tmp 26) rfl (base := w1.heap.size) (by rfl) (World.ownsRow_made w1 #[] 0 (Nat.le_refl _) (Nat.zero_le _) rfl) (by rfl) (HST.out.below (HB.out.trans ((below_box w1 _).mono HB.out.size))) (by omega) (by simp) ?_; intro v1 W1 hown1 hg1 hat1; have hB1 := HB1.out W1 hg1; have o1 : W1.ownsRow w1.heap.size 44 3 v1 s.length (ps.flatMap tabC) := (by simpa using hown1); obtain ⟨g, cap1, rfl, hc1, hgb, hgl⟩ := own_form o1 (by omega))
    have rz := r0
    clear yz0 yc0 yc1 yc2 yc3 yc4 yc5 yc6 yc7 yr0 yx0 yx1 yx2
    obtain ⟨W2, hW⟩ : ∃ W, W1.alloc (.cells #[.slice (some ⟨g, 0, none⟩) s.length cap1] 24) = W := ⟨_, rfl⟩
    rw [hW]
    have hb2 : Below w1.heap.size w1 W2 := by rw [← hW]; exact hB1.trans ((below_box W1 _).mono hB1.size)
    replace z0 := cellB hb2 z0
    replace c0 := cellB hb2 c0
    replace c1 := cellB hb2 c1
    replace c2 := cellB hb2 c2
    replace c3 := cellB hb2 c3
    replace c4 := cellB hb2 c4
    replace c5 := cellB hb2 c5
    replace c6 := cellB hb2 c6
    replace c7 := cellB hb2 c7
    replace r0 := cellB hb2 r0
    replace x0 := cellB hb2 x0
    replace x1 := cellB hb2 x1
    replace x2 := cellB hb2 x2
    replace rf := frozenB hb2 rz rf
    replace HB := Lib.hid (HB.out.trans (hb2.mono HB.out.size))
    have ow2 : W2.ownsRow w1.heap.size 44 3 (.slice (some ⟨g, 0, none⟩) s.length cap1) s.length (ps.flatMap tabC) := by rw [← hW]; exact own_below o1 (below_box W1 _)
    have HOW := Lib.hid ow2
    have a0 : W2.cell? ⟨W1.heap.size, 0, none⟩ = some (.slice (some ⟨g, 0, none⟩) s.length cap1) := by rw [← hW]; simp [go_sem]
    have hob2 : W1.heap.size < W2.heap.size := by rw [← hW]; simp
    have hob1 := hB1.size
    have hw1w : w.heap.size + 1 + 1 < w1.heap.size := cellLt rz
    obtain ⟨ob, hob⟩ : ∃ b, W1.heap.size = b := ⟨_, rfl⟩
    rw [hob] at a0 hob1 hob2 hgl
    rw [hob]
    clear hW hb2 ow2 o1 hown1 hg1 hat1 hB1 hob rz HB1 HST
    go_upto_region 6 with fail
    have rz := r0
    obtain ⟨W3, hW⟩ : ∃ W, W2.alloc (.cells #[str t'.name, .slice Aa t'.attrs.length na, .slice Ak t'.key.length nk] 44) = W := ⟨_, rfl⟩
    rw [hW]
    have hb2 : Below W2.heap.size W2 W3 := by rw [← hW]; exact below_box W2 _
    replace z0 := cellB hb2 z0
    replace c0 := cellB hb2 c0
    replace c1 := cellB hb2 c1
    replace c2 := cellB hb2 c2
    replace c3 := cellB hb2 c3
    replace c4 := cellB hb2 c4
    replace c5 := cellB hb2 c5
    replace c6 := cellB hb2 c6
    replace c7 := cellB hb2 c7
    replace r0 := cellB hb2 r0
    replace x0 := cellB hb2 x0
    replace x1 := cellB hb2 x1
    replace x2 := cellB hb2 x2
    replace a0 := cellB hb2 a0
    replace rf := frozenB hb2 rz rf
    replace HB := Lib.hid (HB.out.trans (hb2.mono HB.out.size))
    have HOW3 := Lib.hid (own_below HOW.out hb2)
    have X0 : W3.cell? ⟨W2.heap.size, 0, none⟩ = some (str t'.name) := by rw [← hW]; simp [go_sem]
    have X1 : W3.cell? ⟨W2.heap.size, 1, none⟩ = some (.slice Aa t'.attrs.length na) := by rw [← hW]; simp [go_sem]
    have X2 : W3.cell? ⟨W2.heap.size, 2, none⟩ = some (.slice Ak t'.key.length nk) := by rw [← hW]; simp [go_sem]
    have XFA : ∀ j, W3.frozen? ⟨W2.heap.size, j, none⟩ = false := fun j => by rw [← hW]; exact frozen_new W2 _ _ j
    have hxb2 : W3.heap.size = W2.heap.size + 1 := by rw [← hW]; simp
    obtain ⟨xb, hxb⟩ : ∃ b, W2.heap.size = b := ⟨_, rfl⟩
    rw [hxb] at X0 X1 X2 XFA hxb2 hob2
    rw [hxb]
    have HXB := Lib.hid hxb2
    clear hW hb2 hxb rz HOW hxb2
    have yX1 := fun q => Cell.alloc X1 q
    have HSA3 := Lib.hid (HSA.out.below (HB.out.trans ((below_box W3 (.cells #[] 53)).mono HB.out.size)))
    have HB4 := Lib.hid (fun W4 (q : (W3.alloc (.cells #[] 53)).grownBy W4 (some W3.heap.size)) => (show Below W3.heap.size W3 W4 from (below_box W3 _).grown q (by simp) (by intro k hk; cases hk; exact Nat.le_refl _)))
    go_upto_region 7 with (at_builtin; (refine wpList_app elemAttr rfl (.tmp 34) (.tmp 36) rfl (base := W3.heap.size) (by rfl) (World.ownsRow_made W3 #[] 0 (Nat.le_refl _) (Nat.zero_le _) rfl) (by rfl) HSA3.out (by omega) (by simp) ?_; intro v4 W4 hown4 hg4 hat4; have hB4 := HB4.out W4 hg4; have o4 : W4.ownsRow W3.heap.size 53 6 v4 t'.attrs.length (qs.flatMap attrC) := (by simpa using hown4); obtain ⟨ga, capa, rfl, hca, hgab, hgal⟩ := own_form o4 (by omega); have Z1 := cellB hB4 X1; have ZF1 := frozenB hB4 X1 (XFA 1)))
    have hxb2 := HXB.out
    obtain ⟨W5, hW⟩ : ∃ W, W4.setCell ⟨xb, 1, none⟩ (.slice (some ⟨ga, 0, none⟩) t'.attrs.length capa) = W := ⟨_, rfl⟩
    rw [hW]
    have T5 : Tch (fun b => b = xb) W3 W5 := by rw [← hW]; exact Tch.set (S := fun b => b = xb) (p := ⟨xb, 1, none⟩) (Tch.of_below hB4) rfl _
    have hs5 : W5.heap.size = W4.heap.size := by rw [← hW]; simp
    have HB5 := Lib.hid (show Below w.heap.size w W5 from HB.out.trans (T5.below HB.out.size (fun i hi e => by omega)))
    skip
    have rzz := r0
    replace z0 := T5.cell z0 (by have := cellLt z0; omega)
    replace c0 := T5.cell c0 (by have := cellLt c0; omega)
    replace c1 := T5.cell c1 (by have := cellLt c1; omega)
    replace c2 := T5.cell c2 (by have := cellLt c2; omega)
    replace c3 := T5.cell c3 (by have := cellLt c3; omega)
    replace c4 := T5.cell c4 (by have := cellLt c4; omega)
    replace c5 := T5.cell c5 (by have := cellLt c5; omega)
    replace c6 := T5.cell c6 (by have := cellLt c6; omega)
    replace c7 := T5.cell c7 (by have := cellLt c7; omega)
    replace r0 := T5.cell r0 (by have := cellLt r0; omega)
    replace x0 := T5.cell x0 (by have := cellLt x0; omega)
    replace x1 := T5.cell x1 (by have := cellLt x1; omega)
    replace x2 := T5.cell x2 (by have := cellLt x2; omega)
    replace a0 := T5.cell a0 (by omega)
    replace rf := T5.frozen (o := 0) rzz rf (by omega)
    have HO5 := Lib.hid (own_heap HOW3.out (fun q e => by cases e; exact T5.block g (by omega) (by omega)))
    have HA5 := Lib.hid (show W5.ownsRow W3.heap.size 53 6 (.slice (some ⟨ga, 0, none⟩) t'.attrs.length capa) t'.attrs.length (qs.flatMap attrC) from own_heap o4 (fun q e => by cases e; rw [← hW]; exact Below.heap_setCell _ _ _ _ (by show ga ≠ xb; omega)))
    have X0 : W5.cell? ⟨xb, 0, none⟩ = some (str t'.name) := by rw [← hW, World.cell?_setCell_other _ _ _ _ (by simp)]; exact cellB hB4 X0
    have X2 : W5.cell? ⟨xb, 2, none⟩ = some (.slice Ak t'.key.length nk) := by rw [← hW, World.cell?_setCell_other _ _ _ _ (by simp)]; exact cellB hB4 X2
    have X1_ := X1
    replace X1 : W5.cell? ⟨xb, 1, none⟩ = some (.slice (some ⟨ga, 0, none⟩) t'.attrs.length capa) := by rw [← hW]; exact World.cell?_setCell_same _ _ _ Z1
    have XF : ∀ j, W5.frozen? ⟨xb, j, none⟩ = false := fun j => by rw [← hW, World.frozen?_setCell]; exact frz_all hB4 X1_ XFA j
    have hgg : g < ga := by omega
    have hgx : g < xb := by omega
    have hox : ob < xb := by omega
    have hxa : xb < ga := by omega
    have hgaw : ga < W5.heap.size := by omega
    clear hW T5 o4 hown4 hg4 hat4 hB4 Z1 ZF1 yX1 HSA HSA3 HB4 HOW3 X1_ XFA rzz HS hs5
    have hkk : Alt4 t' c u := by
      have hk := HK.out
      rcases HAL.out.kinds with h | h | h | h
      · have := h.1; omega
      · have := h.1; omega
      · have := h.1; omega
      · exact h
    obtain ⟨_, j, hj, hcj, hu, _⟩ := hkk
    rw [HY.out] at hcj
    subst hcj
    have hjq : j < qs.length := by rw [HQL.out]; exact hj
    obtain ⟨⟨a, wv⟩, hqj⟩ : ∃ q, qs[j] = q := ⟨_, rfl⟩
    have ea : t'.attrs[j] = a := by rw [fst_get HQF.out hjq hj, hqj]
    have hQ : ∀ i, i < 6 → W5.cell? ⟨ga, j * 6 + i, none⟩ = (attrC (a, wv))[i]? := fun i hi => by
      rw [HA5.out.cellAt _ (by omega), flat_get attrC_len qs j i hjq hi, hqj]
    have Q0 : W5.cell? ⟨ga, j * 6, none⟩ = some (str a.name) := hQ 0 (by decide)
    have Q1 : W5.cell? ⟨ga, j * 6 + 1, none⟩ = some (.int .i64 a.kind) := hQ 1 (by decide)
    have Q2 : W5.cell? ⟨ga, j * 6 + 2, none⟩ = some wv := hQ 2 (by decide)
    have Q3 : W5.cell? ⟨ga, j * 6 + 3, none⟩ = some (.int .i64 a.dft.1) := hQ 3 (by decide)
    have Q4 : W5.cell? ⟨ga, j * 6 + 4, none⟩ = some (.int .i64 a.dft.2.1) := hQ 4 (by decide)
    have Q5 : W5.cell? ⟨ga, j * 6 + 5, none⟩ = some (str a.dft.2.2) := hQ 5 (by decide)
    have QF0 := HA5.out.frozenAt (j * 6)
    have QF1 := HA5.out.frozenAt (j * 6 + 1)
    have QF2 := HA5.out.frozenAt (j * 6 + 2)
    have QF3 := HA5.out.frozenAt (j * 6 + 3)
    have QF4 := HA5.out.frozenAt (j * 6 + 4)
    have QF5 := HA5.out.frozenAt (j * 6 + 5)
    have j1 : (0 : Int) ≤ (j : Int) := by omega
    have j2 : (j : Int) < (t'.attrs.length : Int) := by omega
    have HQJ := Lib.hid hqj
    have HEA := Lib.hid ea
    clear hQ hqj ea
    have hlc := cellLt c0
    have n1 : ¬ ga = xb := by omega
    have n2 : ¬ xb = ga := by omega
    have n3 : ¬ ga = w.heap.size + 1 := by omega
    have n4 : ¬ w.heap.size + 1 = ga := by omega
    have n5 : ¬ w.heap.size + 1 = xb := by omega
    have n6 : ¬ xb = w.heap.size + 1 := by omega
    have HU := Lib.hid hu
    clear hu
    go_upto_region 26 with fail
    obtain ⟨W6, hW⟩ : ∃ W, (((W5.setCell ⟨ga, j * 6 + 1, none⟩ (.int .i64 c.to)).setCell ⟨ga, j * 6 + 3, none⟩ (.int .i64 c.dft.1)).setCell ⟨ga, j * 6 + 4, none⟩ (.int .i64 c.dft.2.1)).setCell ⟨ga, j * 6 + 5, none⟩ (str c.dft.2.2) = W := ⟨_, rfl⟩
    rw [hW]
    have T6 : Tch (fun b => b = ga) W5 W6 := by rw [← hW]; exact ((((Tch.refl (fun b => b = ga) _).set (p := ⟨ga, j * 6 + 1, none⟩) rfl _).set (p := ⟨ga, j * 6 + 3, none⟩) rfl _).set (p := ⟨ga, j * 6 + 4, none⟩) rfl _).set (p := ⟨ga, j * 6 + 5, none⟩) rfl _
    replace a0 := T6.cell a0 (by omega)
    have rzz := r0
    replace rf := T6.frozen rzz rf (by omega)
    replace r0 := T6.cell r0 (by omega)
    clear rzz
    replace X0 := T6.cell X0 (by omega)
    replace X1 := T6.cell X1 (by omega)
    replace X2 := T6.cell X2 (by omega)
    have HBX := Lib.hid (show Below w.heap.size w W6 from HB5.out.trans (T6.below HB5.out.size (fun i hi e => by omega)))
    have HOX := Lib.hid (own_heap HO5.out (fun q e => by cases e; exact T6.block g (by omega) (by omega)))
    have r1 := (HA5.out.stored (j * 6 + 1) (.int .i64 c.to)).1
    rw [flat_set attrC_len qs j 1 hjq _ ({ a with kind := c.to }, wv) (by decide) (by rw [HQJ.out]; rfl)] at r1
    have r2 := (r1.stored (j * 6 + 3) (.int .i64 c.dft.1)).1
    rw [flat_set attrC_len _ j 3 (by simpa using hjq) _ ({ a with kind := c.to, dft := (c.dft.1, a.dft.2) }, wv) (by decide) (by rw [List.getElem_set_self]; rfl), List.set_set] at r2
    have r3 := (r2.stored (j * 6 + 4) (.int .i64 c.dft.2.1)).1
    rw [flat_set attrC_len _ j 4 (by simpa using hjq) _ ({ a with kind := c.to, dft := (c.dft.1, c.dft.2.1, a.dft.2.2) }, wv) (by decide) (by rw [List.getElem_set_self]; rfl), List.set_set] at r3
    have r4 := (r3.stored (j * 6 + 5) (str c.dft.2.2)).1
    rw [flat_set attrC_len _ j 5 (by simpa using hjq) _ (casA c a, wv) (by decide) (by rw [List.getElem_set_self]; rfl), List.set_set] at r4
    rw [hW] at r4
    have HUA := Lib.hid (show ∀ W', Tch (fun b => b = g ∨ b = w.heap.size + 1 + 1) W6 W' → Attrs W' (.slice (some ⟨ga, 0, none⟩) t'.attrs.length capa) u.attrs ∧ Ints W' (.slice Ak t'.key.length nk) u.key from fun W' hT => by
      have hbw := HBX.out.trans (hT.below HBX.out.size (fun i hi e => by rcases e with e | e <;> omega))
      have hr : W'.ownsRow W3.heap.size 53 6 (.slice (some ⟨ga, 0, none⟩) t'.attrs.length capa) t'.attrs.length ((qs.set j (casA c a, wv)).flatMap attrC) := own_heap r4 (fun q e => by cases e; exact hT.block ga (by have := T6.size; omega) (fun e => by rcases e with e | e <;> omega))
      have h1 := attrs_shut (attrs_of_own (n := t'.attrs.length) (by rw [List.length_set, HQL.out]) hr) (fun q hq => by
        rcases List.mem_or_eq_of_mem_set hq with hq | rfl
        · exact (HQW.out q hq).below hbw
        · have h2 := HQW.out _ (List.getElem_mem hjq)
          rw [HQJ.out] at h2
          exact h2.below hbw)
      have e : u.attrs = (qs.set j (casA c a, wv)).map Prod.fst := by
        rw [HU.out, List.map_set, HQF.out]
        show t'.attrs.modify j (casA c) = _
        rw [modify_set _ _ hj, HEA.out]
      have e2 : u.key = t'.key := by rw [HU.out]
      rw [e, e2]
      exact ⟨h1, HVK.out.below hbw⟩)
    clear r1 r2 r3 r4 hW T6 Q0 Q1 Q2 Q3 Q4 Q5 QF0 QF1 QF2 QF3 QF4 QF5
    have HPK2 := HPK.out
    have hG : ∀ i, i < 3 → W6.cell? ⟨g, k * 3 + i, none⟩ = (tabC (t', .slice Aa t'.attrs.length na, .slice Ak t'.key.length nk))[i]? := fun i hi => by
      rw [HOX.out.cellAt _ (by omega), flat_get tabC_len ps k i hkp hi, HPK.out]
    have G0 : W6.cell? ⟨g, k * 3, none⟩ = some (str t'.name) := hG 0 (by decide)
    have G1 : W6.cell? ⟨g, k * 3 + 1, none⟩ = some (.slice Aa t'.attrs.length na) := hG 1 (by decide)
    have G2 : W6.cell? ⟨g, k * 3 + 2, none⟩ = some (.slice Ak t'.key.length nk) := hG 2 (by decide)
    have GF0 := HOX.out.frozenAt (k * 3)
    have GF1 := HOX.out.frozenAt (k * 3 + 1)
    have GF2 := HOX.out.frozenAt (k * 3 + 2)
    have hrg : w.heap.size + 1 + 1 < g := by omega
    have m1 : ¬ g = w.heap.size + 1 + 1 := by omega
    have m2 : ¬ w.heap.size + 1 + 1 = g := by omega
    have m3 : ¬ g = ob := by omega
    have m4 : ¬ ob = g := by omega
    have m5 : ¬ g = xb := by omega
    have m6 : ¬ xb = g := by omega
    have m7 : ¬ ob = w.heap.size + 1 + 1 := by omega
    have m8 : ¬ w.heap.size + 1 + 1 = ob := by omega
    have T7 : Tch (fun b => b = g ∨ b = w.heap.size + 1 + 1) W6 (((W6.setCell ⟨g, k * 3, none⟩ (str t'.name)).setCell ⟨g, k * 3 + 1, none⟩ (.slice (some ⟨ga, 0, none⟩) t'.attrs.length capa)).setCell ⟨g, k * 3 + 2, none⟩ (.slice Ak t'.key.length nk)) :=
      (((Tch.refl _ _).set (p := ⟨g, k * 3, none⟩) (Or.inl rfl) _).set (p := ⟨g, k * 3 + 1, none⟩) (Or.inl rfl) _).set (p := ⟨g, k * 3 + 2, none⟩) (Or.inl rfl) _
    have rr3 : (((W6.setCell ⟨g, k * 3, none⟩ (str t'.name)).setCell ⟨g, k * 3 + 1, none⟩ (.slice (some ⟨ga, 0, none⟩) t'.attrs.length capa)).setCell ⟨g, k * 3 + 2, none⟩ (.slice Ak t'.key.length nk)).cell? ⟨w.heap.size + 1 + 1, 0, none⟩ = some (.slice none 0 0) := by
      rw [World.cell?_setCell_other _ _ _ _ (by simp <;> omega), World.cell?_setCell_other _ _ _ _ (by simp <;> omega), World.cell?_setCell_other _ _ _ _ (by simp <;> omega)]
      exact r0
    have rz := World.cell?_setCell_same _ ⟨w.heap.size + 1 + 1, 0, none⟩ (.slice (some ⟨g, 0, none⟩) s.length cap1) rr3
    have T8 := Lib.hid (T7.set (p := ⟨w.heap.size + 1 + 1, 0, none⟩) (Or.inr rfl) (.slice (some ⟨g, 0, none⟩) s.length cap1))
    have s1 := (HOX.out.stored (k * 3 + 0) (str t'.name)).1
    rw [flat_set tabC_len ps k 0 hkp _ (u, .slice Aa t'.attrs.length na, .slice Ak t'.key.length nk) (by decide) (by rw [HPK.out]; show _ = [str u.name, _, _]; rw [HAL.out.name]; rfl)] at s1
    have s2 := (s1.stored (k * 3 + 1) (.slice (some ⟨ga, 0, none⟩) t'.attrs.length capa)).1
    rw [flat_set tabC_len _ k 1 (by simpa using hkp) _ (u, .slice (some ⟨ga, 0, none⟩) t'.attrs.length capa, .slice Ak t'.key.length nk) (by decide) (by rw [List.getElem_set_self]; rfl), List.set_set] at s2
    have s3 := (s2.stored (k * 3 + 2) (.slice Ak t'.key.length nk)).1
    rw [flat_set tabC_len _ k 2 (by simpa using hkp) _ (u, .slice (some ⟨ga, 0, none⟩) t'.attrs.length capa, .slice Ak t'.key.length nk) (by decide) (by rw [List.getElem_set_self]; rfl), List.set_set] at s3
    have HO8 := Lib.hid (own_heap (w' := (((W6.setCell ⟨g, k * 3, none⟩ (str t'.name)).setCell ⟨g, k * 3 + 1, none⟩ (.slice (some ⟨ga, 0, none⟩) t'.attrs.length capa)).setCell ⟨g, k * 3 + 2, none⟩ (.slice Ak t'.key.length nk)).setCell ⟨w.heap.size + 1 + 1, 0, none⟩ (.slice (some ⟨g, 0, none⟩) s.length cap1)) s3 (fun q e => by cases e; exact Below.heap_setCell _ _ _ _ (by show g ≠ w.heap.size + 1 + 1; omega)))
    have HB8 := Lib.hid (show Below w.heap.size w _ from HBX.out.trans (T8.out.below HBX.out.size (fun i hi e => by rcases e with e | e <;> omega)))
    have HU8 := Lib.hid (HUA.out _ T8.out)
    clear s1 s2 s3 T7 hG HPK2
    go_wp2_with fail
    refine bodyPost_ret (v := .tuple #[.agg #[.slice (some ⟨g, 0, none⟩) s.length cap1], .int .i64 0]) (by simp [results, Tryz.results12, go_sem, rz]) rfl ?_
    refine ⟨_, by rw [HAL.out.app], ?_, HB8.out⟩
    rw [HAL.out.app]
    exact apply_end HFS.out HPS.out HB8.out HO8.out HU8.out
  · have q1 : (er != 0) = true := by simpa using he0
    have HF := Lib.hid (apply_err her he0)
    have rr := World.cell?_setCell_same w1 ⟨w.heap.size + 1 + 1, 0, none⟩ (.slice none 0 0) r0
    clear hij her
    go_wp2_with fail
    refine bodyPost_ret (v := .tuple #[.agg #[.slice none 0 0], .int .i64 er]) (by simp [results, Tryz.results12, go_sem, rr]) rfl ?_
    exact ⟨.slice none 0 0, by rw [HF.out], by rw [HF.out]; exact Slc.nil _, HB.out.setCell (p := ⟨w.heap.size + 1 + 1, 0, none⟩) (by show w.heap.size ≤ w.heap.size + 1 + 1; omega) _⟩
end Go.Proofs.YteokcgfbhaeklaaGreatDoor
