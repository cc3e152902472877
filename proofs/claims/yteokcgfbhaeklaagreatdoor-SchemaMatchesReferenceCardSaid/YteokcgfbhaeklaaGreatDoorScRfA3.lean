/- The reference's Apply, at a change of kind 3. -/
import Derived.Test.YteokcgfbhaeklaaGreatDoorScRfA
namespace Go.Proofs.YteokcgfbhaeklaaGreatDoor
open Go.RowKit

/-- The attribute's former names have grown by its name, in a row of the call's own. -/
def RenAt (W5 : World) (base ga len capa j : Nat) (qs : List (AttrT × Value)) (a : AttrT) (wz : World) : Prop :=
  ∃ v2, Tch (fun b => b = ga) W5 wz ∧ wz.ownsRow base 53 6 (.slice (some ⟨ga, 0, none⟩) len capa) len ((qs.set j ({ a with was := a.was ++ [a.name] }, v2)).flatMap attrC) ∧ wz.ownsRow W5.heap.size 9 1 v2 (a.was.length + 1) ((a.was ++ [a.name]).map str)
theorem cell_new1 (w : World) (x : Value) (t : TypeId) : (w.alloc (.cells #[x] t)).cell? ⟨w.heap.size, 0, none⟩ = some x := by simp [go_sem]
theorem src_one {w : World} {b : Nat} {x : Value} (hc : w.cell? ⟨b, 0, none⟩ = some x) (h : x.oneCell' = true) : Src w (some ⟨b, 0, none⟩) 1 1 1 [x] :=
  ⟨rfl, Nat.le_refl _, (fun e => by cases e), fun ad e j u hj => by
    cases e
    cases j with
    | zero =>
      simp at hj
      subst hj
      exact hc
    | succ j => simp at hj, fun u hu => by simp at hu; subst hu; exact h⟩
theorem ren_at {W5 V2 : World} {base ga len capa j : Nat} {qs : List (AttrT × Value)} {a : AttrT} {wv : Value} {A2 : Option Addr} {c2 m : Nat} {ls : List Value} (ha : W5.ownsRow base 53 6 (.slice (some ⟨ga, 0, none⟩) len capa) len (qs.flatMap attrC)) (hga : ga < W5.heap.size) (hj : j < qs.length) (hq : qs[j] = (a, wv)) (hb : Below W5.heap.size W5 V2)
    (ho : V2.ownsRow W5.heap.size 9 1 (.slice A2 m c2) m ls) (hm : m = a.was.length + 1) (hl : ls = (a.was ++ [a.name]).map str) : RenAt W5 base ga len capa j qs a (V2.setCell ⟨ga, j * 6 + 2, none⟩ (.slice A2 m c2)) := by
  subst hm hl
  refine ⟨.slice A2 (a.was.length + 1) c2, Tch.set (S := fun b => b = ga) (Tch.of_below hb) (p := ⟨ga, j * 6 + 2, none⟩) rfl _, ?_, own_heap ho (fun q e => Below.heap_setCell _ _ _ _ (by show q ≠ ga; have := (ho.lt q e).1; omega))⟩
  have h1 := own_heap (w' := V2) ha (fun q e => by cases e; exact hb.block ga hga)
  have h2 := (h1.stored (j * 6 + 2) (.slice A2 (a.was.length + 1) c2)).1
  rw [flat_set attrC_len qs j 2 hj _ ({ a with was := a.was ++ [a.name] }, .slice A2 (a.was.length + 1) c2) (by decide) (by rw [hq]; rfl)] at h2
  exact h2
set_option maxRecDepth 100000 in
set_option maxHeartbeats 16000000 in
theorem apply3_rf (s : List TabT) (v : Value) (c : ChgT) (hk : c.kind = 3) (hm : Mid s) (hlen : Lens s) (hcn : c.name.length ≤ maxLen) (w : World) (h : Tabs w v s) :
    Calls Tryz.prog 12 #[.agg #[v], Cv c] w (ApplyPost w (applyT s c)) := by
  have HK := Lib.hid hk
  have e1 : (c.kind == 1) = false := by rw [hk]; rfl
  have e2 : (c.kind == 2) = false := by rw [hk]; rfl
  have e3 : (c.kind == 3) = true := by rw [hk]; rfl
  have e4 : (c.kind == 4) = false := by rw [hk]; rfl
  obtain ⟨ps, hfst, hP, hps⟩ := h.open
  have hpl : ps.length = s.length := by rw [← hfst, List.length_map]
  obtain ⟨A, cp, rfl, _⟩ := h.form
  have HS := Lib.hid h
  have HM := Lib.hid hm
  have hsl : s.length ≤ 24 := hm.1
  have HP := Lib.hid hP
  have HPS := Lib.hid hps
  have HFS := Lib.hid hfst
  have HPL := Lib.hid hpl
  have CK := Lib.hid (fun W (hW : Tabs W (.slice A s.length cp) s) => check_rf s _ c hm hlen hcn W hW)
  clear h hm hlen hcn hk hP hps hfst hpl
  go_enter Tryz.func12, Tryz.ntmps12
  go_wp2_with fail
  refine (CK.out _ (HS.out.below (((below_box w _).alloc (by simp) _).alloc (by simp; omega) _))).mono ?_
  rintro e w1 ⟨⟨ci, cj, rfl, hij⟩, hb⟩
  have hb2 : Below w.heap.size w w1 := below_up (((below_box w _).alloc (by simp) _).alloc (by simp; omega) _) hb (by simp; omega)
  replace HS := Lib.hid (HS.out.below hb2)
  have HB := Lib.hid hb2
  have z0 : w1.cell? ⟨w.heap.size, 0, none⟩ = some (.slice A s.length cp) := cellB hb (by simp [go_sem])
  have c0 : w1.cell? ⟨w.heap.size + 1, 0, none⟩ = some (.int .i64 c.kind) := cellB hb (by simp [go_sem])
  have c1 : w1.cell? ⟨w.heap.size + 1, 1, none⟩ = some (str c.table) := cellB hb (by simp [go_sem])
  have c2 : w1.cell? ⟨w.heap.size + 1, 2, none⟩ = some (str c.attr) := cellB hb (by simp [go_sem])
  have c3 : w1.cell? ⟨w.heap.size + 1, 3, none⟩ = some (str c.name) := cellB hb (by simp [go_sem])
  have c4 : w1.cell? ⟨w.heap.size + 1, 4, none⟩ = some (.int .i64 c.to) := cellB hb (by simp [go_sem])
  have c5 : w1.cell? ⟨w.heap.size + 1, 5, none⟩ = some (.int .i64 c.dft.1) := cellB hb (by simp [go_sem])
  have c6 : w1.cell? ⟨w.heap.size + 1, 6, none⟩ = some (.int .i64 c.dft.2.1) := cellB hb (by simp [go_sem])
  have c7 : w1.cell? ⟨w.heap.size + 1, 7, none⟩ = some (str c.dft.2.2) := cellB hb (by simp [go_sem])
  have r0 : w1.cell? ⟨w.heap.size + 1 + 1, 0, none⟩ = some (.slice none 0 0) := cellB hb (by simp [go_sem])
  have rf : w1.frozen? ⟨w.heap.size + 1 + 1, 0, none⟩ = false := frozenB (v := .slice none 0 0) hb (by simp [go_sem]) (by simp [go_sem])
  clear hb hb2
  clear CK
  obtain ⟨er, her⟩ : ∃ er, (locT s c).1 = er := ⟨_, rfl⟩
  rw [her] at hij
  rw [her]
  by_cases he0 : er = 0
  · subst he0
    obtain ⟨k, t, hloc⟩ := loc_ok her
    obtain ⟨e1_, e2_⟩ := hij rfl
    rw [hloc.loc] at e1_ e2_
    simp only at e1_ e2_
    subst e1_ e2_
    obtain ⟨u, hal⟩ := alt_ok hloc
    have HAL := Lib.hid hal
    have hkl : k < s.length := hloc.lt
    have hkp : k < ps.length := by rw [HPL.out]; exact hkl
    obtain ⟨⟨t', va, vk⟩, hpk⟩ : ∃ p, ps[k] = p := ⟨_, rfl⟩
    have htt : t' = t := by
      have h1 := fst_get HFS.out hkp hkl
      rw [hpk] at h1
      exact h1.symm.trans hloc.get
    subst htt
    obtain ⟨hva, hvk⟩ : Attrs w va t'.attrs ∧ Ints w vk t'.key := by
      have h1 := HPS.out _ (List.getElem_mem hkp)
      rw [hpk] at h1
      exact h1
    obtain ⟨qs, hqf, hQ, hqw⟩ := Attrs.open hva
    have hql : qs.length = t'.attrs.length := by rw [← hqf, List.length_map]
    obtain ⟨Aa, na, rfl, _⟩ := hva.form
    obtain ⟨Ak, nk, rfl, _⟩ := hvk.form
    have hmt := HM.out.2 t' hloc.mem
    have hlen1 := hal.t_ok.len
    obtain ⟨y, hy⟩ : ∃ y, colT t'.attrs c.attr = y := ⟨_, rfl⟩
    rw [hy]
    have HY := Lib.hid hy
    have HVK := Lib.hid hvk
    have HQ := Lib.hid hQ
    have HQW := Lib.hid hqw
    have HQF := Lib.hid hqf
    have HQL := Lib.hid hql
    have HMT := Lib.hid hmt
    have HPK := Lib.hid hpk
    have i1 : (0 : Int) ≤ (k : Int) := by omega
    have i2 : (k : Int) < (s.length : Int) := by omega
    obtain ⟨_, _, e, _, _, f⟩ := HP.out
    injection e with e1_ e2_ e3_
    subst e1_ e3_
    obtain ⟨b, o, rfl, hat⟩ := f k hkp
    rw [hpk] at hat
    have hbw : b < w.heap.size := cellLt hat.c0
    have x0 := cellB HB.out hat.c0
    have x1 := cellB HB.out hat.c1
    have x2 := cellB HB.out hat.c2
    clear hat f e2_ hij her hloc hal hva hvk hQ hqw hqf hql hmt hpk hy
    have HST := Lib.hid (src_tabs (A := some ⟨b, o, none⟩) (n := ps.length) (cap := cp) (w := w) (ps := ps) (by
      obtain ⟨A', c', e, h1, h2, h3⟩ := HP.out
      injection e with e1 e2 e3
      subst e1 e3
      exact ⟨_, _, by rfl, h1, h2, h3⟩) (fun p hp => ⟨(HPS.out p hp).1.isSl, (HPS.out p hp).2.isSl⟩)).2
    rw [HPL.out] at HST
    have HSA := Lib.hid (src_attrs (A := Aa) (n := t'.attrs.length) (cap := na) (w := w) (ps := qs) HQ.out (fun q hq => (HQW.out q hq).isSl)).2
    have HB1 := Lib.hid (fun W1 (g : (w1.alloc (.cells #[] 44)).grownBy W1 (some w1.heap.size)) => (show Below w1.heap.size w1 W1 from (below_box w1 _).grown g (by simp) (by intro k hk; cases hk; exact Nat.le_refl _)))
    have yz0 := fun o => Cell.alloc z0 o
    have yc0 := fun o => Cell.alloc c0 o
    have yc1 := fun o => Cell.alloc c1 o
    have yc2 := fun o => Cell.alloc c2 o
    have yc3 := fun o => Cell.alloc c3 o
    have yc4 := fun o => Cell.alloc c4 o
    have yc5 := fun o => Cell.alloc c5 o
    have yc6 := fun o => Cell.alloc c6 o
    have yc7 := fun o => Cell.alloc c7 o
    have yr0 := fun o => Cell.alloc r0 o
    have yx0 := fun o => Cell.alloc x0 o
    have yx1 := fun o => Cell.alloc x1 o
    have yx2 := fun o => Cell.alloc x2 o
    go_upto_region 5 with (at_builtin; refine wpList_app elemTab rfl (.tmp 24) (.tmp 26) rfl (base := w1.heap.size) (by rfl) (World.ownsRow_made w1 #[] 0 (Nat.le_refl _) (Nat.zero_le _) rfl) (by rfl) (HST.out.below (HB.out.trans ((below_box w1 _).mono HB.out.size))) (by omega) (by simp) ?_; intro v1 W1 hown1 hg1 hat1; have hB1 := HB1.out W1 hg1; have o1 : W1.ownsRow w1.heap.size 44 3 v1 s.length (ps.flatMap tabC) := (by simpa using hown1); obtain ⟨g, cap1, rfl, hc1, hgb, hgl⟩ := own_form o1 (by omega))
    have rz := r0
    clear yz0 yc0 yc1 yc2 yc3 yc4 yc5 yc6 yc7 yr0 yx0 yx1 yx2
    obtain ⟨W2, hW⟩ : ∃ W, W1.alloc (.cells #[.slice (some ⟨g, 0, none⟩) s.length cap1] 24) = W := ⟨_, rfl⟩
    rw [hW]
    have hb2 : Below w1.heap.size w1 W2 := by rw [← hW]; exact hB1.trans ((below_box W1 _).mono hB1.size)
    replace z0 := cellB hb2 z0
    replace c0 := cellB hb2 c0
    replace c1 := cellB hb2 c1
    replace c2 := cellB hb2 c2
    replace c3 := cellB hb2 c3
    replace c4 := cellB hb2 c4
    replace c5 := cellB hb2 c5
    replace c6 := cellB hb2 c6
    replace c7 := cellB hb2 c7
    replace r0 := cellB hb2 r0
    replace x0 := cellB hb2 x0
    replace x1 := cellB hb2 x1
    replace x2 := cellB hb2 x2
    replace rf := frozenB hb2 rz rf
    replace HB := Lib.hid (HB.out.trans (hb2.mono HB.out.size))
    have ow2 : W2.ownsRow w1.heap.size 44 3 (.slice (some ⟨g, 0, none⟩) s.length cap1) s.length (ps.flatMap tabC) := by rw [← hW]; exact own_below o1 (below_box W1 _)
    have HOW := Lib.hid ow2
    have a0 : W2.cell? ⟨W1.heap.size, 0, none⟩ = some (.slice (some ⟨g, 0, none⟩) s.length cap1) := by rw [← hW]; simp [go_sem]
    have hob2 : W1.heap.size < W2.heap.size := by rw [← hW]; simp
    have hob1 := hB1.size
    have hw1w : w.heap.size + 1 + 1 < w1.heap.size := cellLt rz
    obtain ⟨ob, hob⟩ : ∃ b, W1.heap.size = b := ⟨_, rfl⟩
    rw [hob] at a0 hob1 hob2 hgl
    rw [hob]
    clear hW hb2 ow2 o1 hown1 hg1 hat1 hB1 hob rz HB1 HST
    go_upto_region 6 with fail
    have rz := r0
    obtain ⟨W3, hW⟩ : ∃ W, W2.alloc (.cells #[str t'.name, .slice Aa t'.attrs.length na, .slice Ak t'.key.length nk] 44) = W := ⟨_, rfl⟩
    rw [hW]
    have hb2 : Below W2.heap.size W2 W3 := by rw [← hW]; exact below_box W2 _
    replace z0 := cellB hb2 z0
    replace c0 := cellB hb2 c0
    replace c1 := cellB hb2 c1
    replace c2 := cellB hb2 c2
    replace c3 := cellB hb2 c3
    replace c4 := cellB hb2 c4
    replace c5 := cellB hb2 c5
    replace c6 := cellB hb2 c6
    replace c7 := cellB hb2 c7
    replace r0 := cellB hb2 r0
    replace x0 := cellB hb2 x0
    replace x1 := cellB hb2 x1
    replace x2 := cellB hb2 x2
    replace a0 := cellB hb2 a0
    replace rf := frozenB hb2 rz rf
    replace HB := Lib.hid (HB.out.trans (hb2.mono HB.out.size))
    have HOW3 := Lib.hid (own_below HOW.out hb2)
    have X0 : W3.cell? ⟨W2.heap.size, 0, none⟩ = some (str t'.name) := by rw [← hW]; simp [go_sem]
    have X1 : W3.cell? ⟨W2.heap.size, 1, none⟩ = some (.slice Aa t'.attrs.length na) := by rw [← hW]; simp [go_sem]
    have X2 : W3.cell? ⟨W2.heap.size, 2, none⟩ = some (.slice Ak t'.key.length nk) := by rw [← hW]; simp [go_sem]
    have XFA : ∀ j, W3.frozen? ⟨W2.heap.size, j, none⟩ = false := fun j => by rw [← hW]; exact frozen_new W2 _ _ j
    have hxb2 : W3.heap.size = W2.heap.size + 1 := by rw [← hW]; simp
    obtain ⟨xb, hxb⟩ : ∃ b, W2.heap.size = b := ⟨_, rfl⟩
    rw [hxb] at X0 X1 X2 XFA hxb2 hob2
    rw [hxb]
    have HXB := Lib.hid hxb2
    clear hW hb2 hxb rz HOW hxb2
    have yX1 := fun q => Cell.alloc X1 q
    have HSA3 := Lib.hid (HSA.out.below (HB.out.trans ((below_box W3 (.cells #[] 53)).mono HB.out.size)))
    have HB4 := Lib.hid (fun W4 (q : (W3.alloc (.cells #[] 53)).grownBy W4 (some W3.heap.size)) => (show Below W3.heap.size W3 W4 from (below_box W3 _).grown q (by simp) (by intro k hk; cases hk; exact Nat.le_refl _)))
    go_upto_region 7 with (at_builtin; (refine wpList_app elemAttr rfl (.tmp 34) (.tmp 36) rfl (base := W3.heap.size) (by rfl) (World.ownsRow_made W3 #[] 0 (Nat.le_refl _) (Nat.zero_le _) rfl) (by rfl) HSA3.out (by omega) (by simp) ?_; intro v4 W4 hown4 hg4 hat4; have hB4 := HB4.out W4 hg4; have o4 : W4.ownsRow W3.heap.size 53 6 v4 t'.attrs.length (qs.flatMap attrC) := (by simpa using hown4); obtain ⟨ga, capa, rfl, hca, hgab, hgal⟩ := own_form o4 (by omega); have Z1 := cellB hB4 X1; have ZF1 := frozenB hB4 X1 (XFA 1)))
    have hxb2 := HXB.out
    obtain ⟨W5, hW⟩ : ∃ W, W4.setCell ⟨xb, 1, none⟩ (.slice (some ⟨ga, 0, none⟩) t'.attrs.length capa) = W := ⟨_, rfl⟩
    rw [hW]
    have T5 : Tch (fun b => b = xb) W3 W5 := by rw [← hW]; exact Tch.set (S := fun b => b = xb) (p := ⟨xb, 1, none⟩) (Tch.of_below hB4) rfl _
    have hs5 : W5.heap.size = W4.heap.size := by rw [← hW]; simp
    have HB5 := Lib.hid (show Below w.heap.size w W5 from HB.out.trans (T5.below HB.out.size (fun i hi e => by omega)))
    skip
    have rzz := r0
    replace z0 := T5.cell z0 (by have := cellLt z0; omega)
    replace c0 := T5.cell c0 (by have := cellLt c0; omega)
    replace c1 := T5.cell c1 (by have := cellLt c1; omega)
    replace c2 := T5.cell c2 (by have := cellLt c2; omega)
    replace c3 := T5.cell c3 (by have := cellLt c3; omega)
    replace c4 := T5.cell c4 (by have := cellLt c4; omega)
    replace c5 := T5.cell c5 (by have := cellLt c5; omega)
    replace c6 := T5.cell c6 (by have := cellLt c6; omega)
    replace c7 := T5.cell c7 (by have := cellLt c7; omega)
    replace r0 := T5.cell r0 (by have := cellLt r0; omega)
    replace x0 := T5.cell x0 (by have := cellLt x0; omega)
    replace x1 := T5.cell x1 (by have := cellLt x1; omega)
    replace x2 := T5.cell x2 (by have := cellLt x2; omega)
    replace a0 := T5.cell a0 (by omega)
    replace rf := T5.frozen (o := 0) rzz rf (by omega)
    have HO5 := Lib.hid (own_heap HOW3.out (fun q e => by cases e; exact T5.block g (by omega) (by omega)))
    have HA5 := Lib.hid (show W5.ownsRow W3.heap.size 53 6 (.slice (some ⟨ga, 0, none⟩) t'.attrs.length capa) t'.attrs.length (qs.flatMap attrC) from own_heap o4 (fun q e => by cases e; rw [← hW]; exact Below.heap_setCell _ _ _ _ (by show ga ≠ xb; omega)))
    have X0 : W5.cell? ⟨xb, 0, none⟩ = some (str t'.name) := by rw [← hW, World.cell?_setCell_other _ _ _ _ (by simp)]; exact cellB hB4 X0
    have X2 : W5.cell? ⟨xb, 2, none⟩ = some (.slice Ak t'.key.length nk) := by rw [← hW, World.cell?_setCell_other _ _ _ _ (by simp)]; exact cellB hB4 X2
    have X1_ := X1
    replace X1 : W5.cell? ⟨xb, 1, none⟩ = some (.slice (some ⟨ga, 0, none⟩) t'.attrs.length capa) := by rw [← hW]; exact World.cell?_setCell_same _ _ _ Z1
    have XF : ∀ j, W5.frozen? ⟨xb, j, none⟩ = false := fun j => by rw [← hW, World.frozen?_setCell]; exact frz_all hB4 X1_ XFA j
    have hgg : g < ga := by omega
    have hgx : g < xb := by omega
    have hox : ob < xb := by omega
    have hxa : xb < ga := by omega
    have hgaw : ga < W5.heap.size := by omega
    clear hW T5 o4 hown4 hg4 hat4 hB4 Z1 ZF1 yX1 HSA HSA3 HB4 HOW3 X1_ XFA rzz HS hs5
    have hkk : Alt3 t' c u := by
      have hk := HK.out
      rcases HAL.out.kinds with h | h | h | h
      · have := h.1; omega
      · have := h.1; omega
      · exact h
      · have := h.1; omega
    obtain ⟨_, j, hj, hcj, hu, _⟩ := hkk
    rw [HY.out] at hcj
    subst hcj
    have hjq : j < qs.length := by rw [HQL.out]; exact hj
    obtain ⟨⟨a, wv⟩, hqj⟩ : ∃ q, qs[j] = q := ⟨_, rfl⟩
    have ea : t'.attrs[j] = a := by rw [fst_get HQF.out hjq hj, hqj]
    have hQ : ∀ i, i < 6 → W5.cell? ⟨ga, j * 6 + i, none⟩ = (attrC (a, wv))[i]? := fun i hi => by
      rw [HA5.out.cellAt _ (by omega), flat_get attrC_len qs j i hjq hi, hqj]
    have Q0 : W5.cell? ⟨ga, j * 6, none⟩ = some (str a.name) := hQ 0 (by decide)
    have Q1 : W5.cell? ⟨ga, j * 6 + 1, none⟩ = some (.int .i64 a.kind) := hQ 1 (by decide)
    have Q2 : W5.cell? ⟨ga, j * 6 + 2, none⟩ = some wv := hQ 2 (by decide)
    have Q3 : W5.cell? ⟨ga, j * 6 + 3, none⟩ = some (.int .i64 a.dft.1) := hQ 3 (by decide)
    have Q4 : W5.cell? ⟨ga, j * 6 + 4, none⟩ = some (.int .i64 a.dft.2.1) := hQ 4 (by decide)
    have Q5 : W5.cell? ⟨ga, j * 6 + 5, none⟩ = some (str a.dft.2.2) := hQ 5 (by decide)
    have QF0 := HA5.out.frozenAt (j * 6)
    have QF1 := HA5.out.frozenAt (j * 6 + 1)
    have QF2 := HA5.out.frozenAt (j * 6 + 2)
    have QF3 := HA5.out.frozenAt (j * 6 + 3)
    have QF4 := HA5.out.frozenAt (j * 6 + 4)
    have QF5 := HA5.out.frozenAt (j * 6 + 5)
    have j1 : (0 : Int) ≤ (j : Int) := by omega
    have j2 : (j : Int) < (t'.attrs.length : Int) := by omega
    have HQJ := Lib.hid hqj
    have HEA := Lib.hid ea
    clear hQ hqj ea
    have hlc := cellLt c0
    have n1 : ¬ ga = xb := by omega
    have n2 : ¬ xb = ga := by omega
    have n3 : ¬ ga = w.heap.size + 1 := by omega
    have n4 : ¬ w.heap.size + 1 = ga := by omega
    have n5 : ¬ w.heap.size + 1 = xb := by omega
    have n6 : ¬ xb = w.heap.size + 1 := by omega
    have HU := Lib.hid hu
    clear hu
    have hstr : Strs w wv a.was := by
      have h2 := HQW.out _ (List.getElem_mem hjq)
      rw [HQJ.out] at h2
      exact h2
    obtain ⟨Aw, cw, rfl⟩ : ∃ A c, wv = .slice A a.was.length c := by
      obtain ⟨A, c, e, _⟩ := hstr
      exact ⟨A, c, e⟩
    have HSTR := Lib.hid (hstr.below HB5.out)
    have hwl : a.was.length ≤ 24 := by rw [← HEA.out]; exact HMT.out.2.2 _ (List.getElem_mem hj)
    clear hstr
    go_upto_region 21 with fail
    go_cut [15, 34] from 152 (fun _ _ wz => RenAt W5 W3.heap.size ga t'.attrs.length capa j qs a wz)
    case first =>
      have HBd := Lib.hid (below_drewN W5.heap.size W5 1)
      refine wp_region_held_drew (S := (fun w' => w'.cell? ⟨xb, 1, none⟩ = some (.slice (some ⟨ga, 0, none⟩) t'.attrs.length capa) ∧ w'.cell? ⟨ga, j * 6, none⟩ = some (str a.name))) (by kernel_rfl) ?_ (fun hHeld => ?_)
      · exact ⟨X1, Q0⟩
      refine wpAnyH_take (i := 0) (v := ?_) (by (simp only [List.getElem?_toArray, List.getElem?_cons_zero]; rfl)) (by kernel_rfl) (by kernel_rfl) (by kernel_rfl) (by intro _ _ _ h; exact h) (Or.inl ⟨by kernel_rfl, ?_⟩) hHeld ?_
      case refine_2 =>
        intro w hSw
        try dsimp only at hSw
        go_simp
        try with_reducible rfl
      try simp only [Act.put, List.setIfInBounds_toArray, List.set_cons_zero, List.set_cons_succ]
      refine wpAnyH_take (i := 1) (v := ?_) (by (simp only [List.getElem?_toArray, List.getElem?_cons_succ, List.getElem?_cons_zero]; rfl)) (by kernel_rfl) (by kernel_rfl) (by kernel_rfl) (by intro _ _ _ h; exact h) (Or.inl ⟨by kernel_rfl, ?_⟩) hHeld ?_
      case refine_2 =>
        intro w hSw
        try dsimp only at hSw
        go_simp
        try with_reducible rfl
      try simp only [Act.put, List.setIfInBounds_toArray, List.set_cons_zero, List.set_cons_succ]
      refine wpAnyH_take (i := 2) (v := ?_) (by (simp only [List.getElem?_toArray, List.getElem?_cons_succ, List.getElem?_cons_zero]; rfl)) (by kernel_rfl) (by kernel_rfl) (by kernel_rfl) (by intro _ _ _ h; exact h) (Or.inl ⟨by kernel_rfl, ?_⟩) hHeld ?_
      case refine_2 =>
        intro w hSw
        try dsimp only at hSw
        go_simp
        try with_reducible rfl
      try simp only [Act.put, List.setIfInBounds_toArray, List.set_cons_zero, List.set_cons_succ]
      refine wpAnyH_take (i := 4) (v := ?_) (by (simp only [List.getElem?_toArray, List.getElem?_cons_succ, List.getElem?_cons_zero]; rfl)) (by kernel_rfl) (by kernel_rfl) (by kernel_rfl) (by intro _ _ _ h; exact h) (Or.inl ⟨by kernel_rfl, ?_⟩) hHeld ?_
      case refine_2 =>
        intro w hSw
        try dsimp only at hSw
        go_simp
        try with_reducible rfl
      try simp only [Act.put, List.setIfInBounds_toArray, List.set_cons_zero, List.set_cons_succ]
      refine wpAnyH_take (i := 5) (v := ?_) (by (simp only [List.getElem?_toArray, List.getElem?_cons_succ, List.getElem?_cons_zero]; rfl)) (by kernel_rfl) (by kernel_rfl) (by kernel_rfl) (by intro _ _ _ h; exact h) (Or.inl ⟨by kernel_rfl, ?_⟩) hHeld ?_
      case refine_2 =>
        intro w hSw
        try dsimp only at hSw
        go_simp
        try with_reducible rfl
      try simp only [Act.put, List.setIfInBounds_toArray, List.set_cons_zero, List.set_cons_succ]
      refine wpAnyH_take (i := 6) (v := ?_) (by (simp only [List.getElem?_toArray, List.getElem?_cons_succ, List.getElem?_cons_zero]; rfl)) (by kernel_rfl) (by kernel_rfl) (by kernel_rfl) (by intro _ _ _ h; exact h) (Or.inl ⟨by kernel_rfl, ?_⟩) hHeld ?_
      case refine_2 =>
        intro w hSw
        try dsimp only at hSw
        go_simp
        try with_reducible rfl
      try simp only [Act.put, List.setIfInBounds_toArray, List.set_cons_zero, List.set_cons_succ]
      refine wpAnyH_take (i := 7) (v := ?_) (by (simp only [List.getElem?_toArray, List.getElem?_cons_succ, List.getElem?_cons_zero]; rfl)) (by kernel_rfl) (by kernel_rfl) (by kernel_rfl) (by intro _ _ _ h; exact h) (Or.inl ⟨by kernel_rfl, ?_⟩) hHeld ?_
      case refine_2 =>
        intro w hSw
        try dsimp only at hSw
        go_simp
        try with_reducible rfl
      try simp only [Act.put, List.setIfInBounds_toArray, List.set_cons_zero, List.set_cons_succ]
      refine wpAnyH_take (i := 8) (v := ?_) (by (simp only [List.getElem?_toArray, List.getElem?_cons_succ, List.getElem?_cons_zero]; rfl)) (by kernel_rfl) (by kernel_rfl) (by kernel_rfl) (by intro _ _ _ h; exact h) (Or.inl ⟨by kernel_rfl, ?_⟩) hHeld ?_
      case refine_2 =>
        intro w hSw
        try dsimp only at hSw
        go_simp
        try with_reducible rfl
      try simp only [Act.put, List.setIfInBounds_toArray, List.set_cons_zero, List.set_cons_succ]
      refine wpAnyH_take (i := 11) (v := ?_) (by (simp only [List.getElem?_toArray, List.getElem?_cons_succ, List.getElem?_cons_zero]; rfl)) (by kernel_rfl) (by kernel_rfl) (by kernel_rfl) (by intro _ _ _ h; exact h) (Or.inl ⟨by kernel_rfl, ?_⟩) hHeld ?_
      case refine_2 =>
        intro w hSw
        try dsimp only at hSw
        go_simp
        try with_reducible rfl
      try simp only [Act.put, List.setIfInBounds_toArray, List.set_cons_zero, List.set_cons_succ]
      refine wpAnyH_take (i := 12) (v := ?_) (by (simp only [List.getElem?_toArray, List.getElem?_cons_succ, List.getElem?_cons_zero]; rfl)) (by kernel_rfl) (by kernel_rfl) (by kernel_rfl) (by intro _ _ _ h; exact h) (Or.inl ⟨by kernel_rfl, ?_⟩) hHeld ?_
      case refine_2 =>
        intro w hSw
        try dsimp only at hSw
        go_simp
        try with_reducible rfl
      try simp only [Act.put, List.setIfInBounds_toArray, List.set_cons_zero, List.set_cons_succ]
      refine wpAnyH_take (i := 13) (v := ?_) (by (simp only [List.getElem?_toArray, List.getElem?_cons_succ, List.getElem?_cons_zero]; rfl)) (by kernel_rfl) (by kernel_rfl) (by kernel_rfl) (by intro _ _ _ h; exact h) (Or.inl ⟨by kernel_rfl, ?_⟩) hHeld ?_
      case refine_2 =>
        intro w hSw
        try dsimp only at hSw
        go_simp
        try with_reducible rfl
      try simp only [Act.put, List.setIfInBounds_toArray, List.set_cons_zero, List.set_cons_succ]
      refine wpAnyH_take (i := 14) (v := ?_) (by (simp only [List.getElem?_toArray, List.getElem?_cons_succ, List.getElem?_cons_zero]; rfl)) (by kernel_rfl) (by kernel_rfl) (by kernel_rfl) (by intro _ _ _ h; exact h) (Or.inl ⟨by kernel_rfl, ?_⟩) hHeld ?_
      case refine_2 =>
        intro w hSw
        try dsimp only at hSw
        go_simp
        try with_reducible rfl
      try simp only [Act.put, List.setIfInBounds_toArray, List.set_cons_zero, List.set_cons_succ]
      refine wpAnyH_take (i := 15) (v := ?_) (by (simp only [List.getElem?_toArray, List.getElem?_cons_succ, List.getElem?_cons_zero]; rfl)) (by kernel_rfl) (by kernel_rfl) (by kernel_rfl) (by intro _ _ _ h; exact h) (Or.inl ⟨by kernel_rfl, ?_⟩) hHeld ?_
      case refine_2 =>
        intro w hSw
        try dsimp only at hSw
        go_simp
        try with_reducible rfl
      try simp only [Act.put, List.setIfInBounds_toArray, List.set_cons_zero, List.set_cons_succ]
      refine wpAnyH_take (i := 16) (v := ?_) (by (simp only [List.getElem?_toArray, List.getElem?_cons_succ, List.getElem?_cons_zero]; rfl)) (by kernel_rfl) (by kernel_rfl) (by kernel_rfl) (by intro _ _ _ h; exact h) (Or.inl ⟨by kernel_rfl, ?_⟩) hHeld ?_
      case refine_2 =>
        intro w hSw
        try dsimp only at hSw
        go_simp
        try with_reducible rfl
      try simp only [Act.put, List.setIfInBounds_toArray, List.set_cons_zero, List.set_cons_succ]
      refine wpAnyH_ready (rs := [3, 9, 17]) (by kernel_rfl) (by simp) ?_
      refine (AllReadyH.cons (by (simp only [List.getElem?_toArray, List.getElem?_cons_succ, List.getElem?_cons_zero]; rfl)) (fun K hK => ?_) (AllReadyH.cons (by (simp only [List.getElem?_toArray, List.getElem?_cons_succ, List.getElem?_cons_zero]; rfl)) (fun K hK => ?_) (AllReadyH.cons (by (simp only [List.getElem?_toArray, List.getElem?_cons_succ, List.getElem?_cons_zero]; rfl)) (fun K hK => ?_) AllReadyH.nil)))
      · skip
        have HB1 := Lib.hid (HBd.out.alloc HBd.out.size (.cells #[] 9))
        have OW1 : Hid (World.ownsRow (World.alloc (W5.drewN 1) (.cells #[] 9)) W5.heap.size 9 1 (.slice (some ⟨W5.heap.size, 0, none⟩) 0 0) 0 []) := Lib.hid (by have h1 := own_base (World.ownsRow_made (W5.drewN 1) #[] 0 (e := 9) (size := 1) (Nat.le_refl _) (Nat.zero_le _) rfl) HBd.out.size; simpa using h1)
        go_simp
        clear hHeld
        refine hK.out _ _ ?_ (fun hHeld => ?_)
        · exact ⟨cellB HB1.out X1, cellB HB1.out Q0⟩
        clear hK K
        try simp only [Act.put, List.setIfInBounds_toArray, List.set_cons_zero, List.set_cons_succ]
        refine wpAnyH_ready (rs := [9, 17]) (by kernel_rfl) (by simp) ?_
        refine (AllReadyH.cons (by (simp only [List.getElem?_toArray, List.getElem?_cons_succ, List.getElem?_cons_zero]; rfl)) (fun K hK => ?_) (AllReadyH.cons (by (simp only [List.getElem?_toArray, List.getElem?_cons_succ, List.getElem?_cons_zero]; rfl)) (fun K hK => ?_) AllReadyH.nil))
        · skip
          have sQ2 := cellB HB1.out Q2
          go_simp
          clear sQ2
          clear hHeld
          refine hK.out _ _ ?_ (fun hHeld => ?_)
          · exact ⟨cellB HB1.out X1, cellB HB1.out Q0⟩
          clear hK K
          try simp only [Act.put, List.setIfInBounds_toArray, List.set_cons_zero, List.set_cons_succ]
          refine wpAnyH_ready (rs := [10, 17]) (by kernel_rfl) (by simp) ?_
          refine (AllReadyH.cons (by (simp only [List.getElem?_toArray, List.getElem?_cons_succ, List.getElem?_cons_zero]; rfl)) (fun K hK => ?_) (AllReadyH.cons (by (simp only [List.getElem?_toArray, List.getElem?_cons_succ, List.getElem?_cons_zero]; rfl)) (fun K hK => ?_) AllReadyH.nil))
          · skip
            refine step_app elemStr rfl (.tmp 105) (.tmp 111) rfl (base := W5.heap.size) (by rfl) OW1.out (by rfl) (src_strs (HSTR.out.below HB1.out)).2 (by omega) HB1.out.size ?_
            intro v1 V1 hown1 hg1 hat1
            have HB3 := Lib.hid (HB1.out.grown hg1 HB1.out.size (fun k hk => (OW1.out.lt k hk).1))
            have OW3 := Lib.hid hown1
            clear hown1 hg1 hat1
            clear hHeld
            refine hK.out _ _ ?_ (fun hHeld => ?_)
            · exact ⟨cellB HB3.out X1, cellB HB3.out Q0⟩
            clear hK K
            try simp only [Act.put, List.setIfInBounds_toArray, List.set_cons_zero, List.set_cons_succ]
            refine wpAnyH_ready (rs := [17]) (by kernel_rfl) (by simp) ?_
            refine (AllReadyH.cons (by (simp only [List.getElem?_toArray, List.getElem?_cons_succ, List.getElem?_cons_zero]; rfl)) (fun K hK => ?_) AllReadyH.nil)
            have HB4 := Lib.hid (HB3.out.alloc HB3.out.size (.cells #[str a.name] 9))
            have OW4 := Lib.hid (World.ownsRow.alloc OW3.out (.cells #[str a.name] 9))
            have BX4 : Hid ((World.alloc V1 (.cells #[str a.name] 9)).cell? ⟨V1.heap.size, 0, none⟩ = some (str a.name)) := Lib.hid (by first | (simp [go_sem]; done) | exact cell_new1 _ _ _)
            go_simp
            clear hHeld
            refine hK.out _ _ ?_ (fun hHeld => ?_)
            · exact ⟨cellB HB4.out X1, cellB HB4.out Q0⟩
            clear hK K
            try simp only [Act.put, List.setIfInBounds_toArray, List.set_cons_zero, List.set_cons_succ]
            refine wpAnyH_ready (rs := [18]) (by kernel_rfl) (by simp) ?_
            refine (AllReadyH.cons (by (simp only [List.getElem?_toArray, List.getElem?_cons_succ, List.getElem?_cons_zero]; rfl)) (fun K hK => ?_) AllReadyH.nil)
            refine step_app elemStr rfl (.tmp 112) (.tmp 119) rfl (base := W5.heap.size) (by rfl) OW4.out (by rfl) (src_one BX4.out rfl) (by omega) HB4.out.size ?_
            intro v2 V2 hown2 hg2 hat2
            have HB5 := Lib.hid (HB4.out.grown hg2 HB4.out.size (fun k hk => (OW4.out.lt k hk).1))
            replace hown2 : V2.ownsRow W5.heap.size 9 1 v2 (a.was.length + 1) ((a.was ++ [a.name]).map str) := by simpa using hown2
            obtain ⟨A2, c2, rfl⟩ := own_isSl hown2
            clear hg2 hat2
            clear hHeld
            refine hK.out _ _ ?_ (fun hHeld => ?_)
            · exact ⟨cellB HB5.out X1, cellB HB5.out Q0⟩
            clear hK K
            try simp only [Act.put, List.setIfInBounds_toArray, List.set_cons_zero, List.set_cons_succ]
            refine wpAnyH_take (i := 19) (v := ?_) (by (simp only [List.getElem?_toArray, List.getElem?_cons_succ, List.getElem?_cons_zero]; rfl)) (by kernel_rfl) (by kernel_rfl) (by kernel_rfl) (by intro _ _ _ h; exact h) (Or.inl ⟨by kernel_rfl, ?_⟩) hHeld ?_
            case refine_2 =>
              intro w hSw
              try dsimp only at hSw
              go_simp
              try with_reducible rfl
            try simp only [Act.put, List.setIfInBounds_toArray, List.set_cons_zero, List.set_cons_succ]
            refine wpAnyH_take (i := 20) (v := ?_) (by (simp only [List.getElem?_toArray, List.getElem?_cons_succ, List.getElem?_cons_zero]; rfl)) (by kernel_rfl) (by kernel_rfl) (by kernel_rfl) (by intro _ _ _ h; exact h) (Or.inl ⟨by kernel_rfl, ?_⟩) hHeld ?_
            case refine_2 =>
              intro w hSw
              try dsimp only at hSw
              go_simp
              try with_reducible rfl
            try simp only [Act.put, List.setIfInBounds_toArray, List.set_cons_zero, List.set_cons_succ]
            have sQ2 := cellB HB5.out Q2
            have sF2 := frozenB HB5.out Q2 QF2
            refine wpAnyH_ready (rs := [21]) (by kernel_rfl) (by simp) ?_
            refine AllReadyH.cons (by (simp only [List.getElem?_toArray, List.getElem?_cons_succ, List.getElem?_cons_zero]; rfl)) (fun K hK => ?_) AllReadyH.nil
            go_simp
            clear hHeld
            refine hK.out _ _ ?_ (fun hHeld => ?_)
            · exact ⟨(World.cell?_setCell_other _ _ _ _ (by simp <;> omega)).trans (cellB HB5.out X1), (World.cell?_setCell_other _ _ _ _ (by simp <;> omega)).trans (cellB HB5.out Q0)⟩
            clear hK K
            try simp only [Act.put, List.setIfInBounds_toArray, List.set_cons_zero, List.set_cons_succ]
            refine wpAnyH_done (by kernel_rfl) ?_ _
            clear hHeld
            go_wp2_with fail
            go_meet
            case rel => exact ren_at HA5.out hgaw hjq HQJ.out HB5.out hown2 rfl rfl
          · skip
            have HB6 := Lib.hid (HB1.out.alloc HB1.out.size (.cells #[str a.name] 9))
            have OW6 := Lib.hid (World.ownsRow.alloc OW1.out (.cells #[str a.name] 9))
            have BX6 : Hid ((World.alloc (World.alloc (W5.drewN 1) (.cells #[] 9)) (.cells #[str a.name] 9)).cell? ⟨W5.heap.size + 1, 0, none⟩ = some (str a.name)) := Lib.hid (by first | (simp [go_sem]; done) | exact cell_new1 _ _ _)
            go_simp
            clear hHeld
            refine hK.out _ _ ?_ (fun hHeld => ?_)
            · exact ⟨cellB HB6.out X1, cellB HB6.out Q0⟩
            clear hK K
            try simp only [Act.put, List.setIfInBounds_toArray, List.set_cons_zero, List.set_cons_succ]
            refine wpAnyH_ready (rs := [10]) (by kernel_rfl) (by simp) ?_
            refine (AllReadyH.cons (by (simp only [List.getElem?_toArray, List.getElem?_cons_succ, List.getElem?_cons_zero]; rfl)) (fun K hK => ?_) AllReadyH.nil)
            refine step_app elemStr rfl (.tmp 105) (.tmp 111) rfl (base := W5.heap.size) (by rfl) OW6.out (by rfl) (src_strs (HSTR.out.below HB6.out)).2 (by omega) HB6.out.size ?_
            intro v1 V1 hown1 hg1 hat1
            have HB7 := Lib.hid (HB6.out.grown hg1 HB6.out.size (fun k hk => (OW6.out.lt k hk).1))
            have OW7 := Lib.hid hown1
            have BX7 := Lib.hid (hg1.cell BX6.out (fun e => by simp [Value.ownBlock] at e))
            clear hown1 hg1 hat1
            clear hHeld
            refine hK.out _ _ ?_ (fun hHeld => ?_)
            · exact ⟨cellB HB7.out X1, cellB HB7.out Q0⟩
            clear hK K
            try simp only [Act.put, List.setIfInBounds_toArray, List.set_cons_zero, List.set_cons_succ]
            refine wpAnyH_ready (rs := [18]) (by kernel_rfl) (by simp) ?_
            refine (AllReadyH.cons (by (simp only [List.getElem?_toArray, List.getElem?_cons_succ, List.getElem?_cons_zero]; rfl)) (fun K hK => ?_) AllReadyH.nil)
            refine step_app elemStr rfl (.tmp 112) (.tmp 119) rfl (base := W5.heap.size) (by rfl) OW7.out (by rfl) (src_one BX7.out rfl) (by omega) HB7.out.size ?_
            intro v2 V2 hown2 hg2 hat2
            have HB8 := Lib.hid (HB7.out.grown hg2 HB7.out.size (fun k hk => (OW7.out.lt k hk).1))
            replace hown2 : V2.ownsRow W5.heap.size 9 1 v2 (a.was.length + 1) ((a.was ++ [a.name]).map str) := by simpa using hown2
            obtain ⟨A2, c2, rfl⟩ := own_isSl hown2
            clear hg2 hat2
            clear hHeld
            refine hK.out _ _ ?_ (fun hHeld => ?_)
            · exact ⟨cellB HB8.out X1, cellB HB8.out Q0⟩
            clear hK K
            try simp only [Act.put, List.setIfInBounds_toArray, List.set_cons_zero, List.set_cons_succ]
            refine wpAnyH_take (i := 19) (v := ?_) (by (simp only [List.getElem?_toArray, List.getElem?_cons_succ, List.getElem?_cons_zero]; rfl)) (by kernel_rfl) (by kernel_rfl) (by kernel_rfl) (by intro _ _ _ h; exact h) (Or.inl ⟨by kernel_rfl, ?_⟩) hHeld ?_
            case refine_2 =>
              intro w hSw
              try dsimp only at hSw
              go_simp
              try with_reducible rfl
            try simp only [Act.put, List.setIfInBounds_toArray, List.set_cons_zero, List.set_cons_succ]
            refine wpAnyH_take (i := 20) (v := ?_) (by (simp only [List.getElem?_toArray, List.getElem?_cons_succ, List.getElem?_cons_zero]; rfl)) (by kernel_rfl) (by kernel_rfl) (by kernel_rfl) (by intro _ _ _ h; exact h) (Or.inl ⟨by kernel_rfl, ?_⟩) hHeld ?_
            case refine_2 =>
              intro w hSw
              try dsimp only at hSw
              go_simp
              try with_reducible rfl
            try simp only [Act.put, List.setIfInBounds_toArray, List.set_cons_zero, List.set_cons_succ]
            have sQ2 := cellB HB8.out Q2
            have sF2 := frozenB HB8.out Q2 QF2
            refine wpAnyH_ready (rs := [21]) (by kernel_rfl) (by simp) ?_
            refine AllReadyH.cons (by (simp only [List.getElem?_toArray, List.getElem?_cons_succ, List.getElem?_cons_zero]; rfl)) (fun K hK => ?_) AllReadyH.nil
            go_simp
            clear hHeld
            refine hK.out _ _ ?_ (fun hHeld => ?_)
            · exact ⟨(World.cell?_setCell_other _ _ _ _ (by simp <;> omega)).trans (cellB HB8.out X1), (World.cell?_setCell_other _ _ _ _ (by simp <;> omega)).trans (cellB HB8.out Q0)⟩
            clear hK K
            try simp only [Act.put, List.setIfInBounds_toArray, List.set_cons_zero, List.set_cons_succ]
            refine wpAnyH_done (by kernel_rfl) ?_ _
            clear hHeld
            go_wp2_with fail
            go_meet
            case rel => exact ren_at HA5.out hgaw hjq HQJ.out HB8.out hown2 rfl rfl
        · skip
          have HB9 := Lib.hid (HB1.out.alloc HB1.out.size (.cells #[str a.name] 9))
          have OW9 := Lib.hid (World.ownsRow.alloc OW1.out (.cells #[str a.name] 9))
          have BX9 : Hid ((World.alloc (World.alloc (W5.drewN 1) (.cells #[] 9)) (.cells #[str a.name] 9)).cell? ⟨W5.heap.size + 1, 0, none⟩ = some (str a.name)) := Lib.hid (by first | (simp [go_sem]; done) | exact cell_new1 _ _ _)
          go_simp
          clear hHeld
          refine hK.out _ _ ?_ (fun hHeld => ?_)
          · exact ⟨cellB HB9.out X1, cellB HB9.out Q0⟩
          clear hK K
          try simp only [Act.put, List.setIfInBounds_toArray, List.set_cons_zero, List.set_cons_succ]
          refine wpAnyH_ready (rs := [9]) (by kernel_rfl) (by simp) ?_
          refine (AllReadyH.cons (by (simp only [List.getElem?_toArray, List.getElem?_cons_succ, List.getElem?_cons_zero]; rfl)) (fun K hK => ?_) AllReadyH.nil)
          have sQ2 := cellB HB9.out Q2
          go_simp
          clear sQ2
          clear hHeld
          refine hK.out _ _ ?_ (fun hHeld => ?_)
          · exact ⟨cellB HB9.out X1, cellB HB9.out Q0⟩
          clear hK K
          try simp only [Act.put, List.setIfInBounds_toArray, List.set_cons_zero, List.set_cons_succ]
          refine wpAnyH_ready (rs := [10]) (by kernel_rfl) (by simp) ?_
          refine (AllReadyH.cons (by (simp only [List.getElem?_toArray, List.getElem?_cons_succ, List.getElem?_cons_zero]; rfl)) (fun K hK => ?_) AllReadyH.nil)
          refine step_app elemStr rfl (.tmp 105) (.tmp 111) rfl (base := W5.heap.size) (by rfl) OW9.out (by rfl) (src_strs (HSTR.out.below HB9.out)).2 (by omega) HB9.out.size ?_
          intro v1 V1 hown1 hg1 hat1
          have HB11 := Lib.hid (HB9.out.grown hg1 HB9.out.size (fun k hk => (OW9.out.lt k hk).1))
          have OW11 := Lib.hid hown1
          have BX11 := Lib.hid (hg1.cell BX9.out (fun e => by simp [Value.ownBlock] at e))
          clear hown1 hg1 hat1
          clear hHeld
          refine hK.out _ _ ?_ (fun hHeld => ?_)
          · exact ⟨cellB HB11.out X1, cellB HB11.out Q0⟩
          clear hK K
          try simp only [Act.put, List.setIfInBounds_toArray, List.set_cons_zero, List.set_cons_succ]
          refine wpAnyH_ready (rs := [18]) (by kernel_rfl) (by simp) ?_
          refine (AllReadyH.cons (by (simp only [List.getElem?_toArray, List.getElem?_cons_succ, List.getElem?_cons_zero]; rfl)) (fun K hK => ?_) AllReadyH.nil)
          refine step_app elemStr rfl (.tmp 112) (.tmp 119) rfl (base := W5.heap.size) (by rfl) OW11.out (by rfl) (src_one BX11.out rfl) (by omega) HB11.out.size ?_
          intro v2 V2 hown2 hg2 hat2
          have HB12 := Lib.hid (HB11.out.grown hg2 HB11.out.size (fun k hk => (OW11.out.lt k hk).1))
          replace hown2 : V2.ownsRow W5.heap.size 9 1 v2 (a.was.length + 1) ((a.was ++ [a.name]).map str) := by simpa using hown2
          obtain ⟨A2, c2, rfl⟩ := own_isSl hown2
          clear hg2 hat2
          clear hHeld
          refine hK.out _ _ ?_ (fun hHeld => ?_)
          · exact ⟨cellB HB12.out X1, cellB HB12.out Q0⟩
          clear hK K
          try simp only [Act.put, List.setIfInBounds_toArray, List.set_cons_zero, List.set_cons_succ]
          refine wpAnyH_take (i := 19) (v := ?_) (by (simp only [List.getElem?_toArray, List.getElem?_cons_succ, List.getElem?_cons_zero]; rfl)) (by kernel_rfl) (by kernel_rfl) (by kernel_rfl) (by intro _ _ _ h; exact h) (Or.inl ⟨by kernel_rfl, ?_⟩) hHeld ?_
          case refine_2 =>
            intro w hSw
            try dsimp only at hSw
            go_simp
            try with_reducible rfl
          try simp only [Act.put, List.setIfInBounds_toArray, List.set_cons_zero, List.set_cons_succ]
          refine wpAnyH_take (i := 20) (v := ?_) (by (simp only [List.getElem?_toArray, List.getElem?_cons_succ, List.getElem?_cons_zero]; rfl)) (by kernel_rfl) (by kernel_rfl) (by kernel_rfl) (by intro _ _ _ h; exact h) (Or.inl ⟨by kernel_rfl, ?_⟩) hHeld ?_
          case refine_2 =>
            intro w hSw
            try dsimp only at hSw
            go_simp
            try with_reducible rfl
          try simp only [Act.put, List.setIfInBounds_toArray, List.set_cons_zero, List.set_cons_succ]
          have sQ2 := cellB HB12.out Q2
          have sF2 := frozenB HB12.out Q2 QF2
          refine wpAnyH_ready (rs := [21]) (by kernel_rfl) (by simp) ?_
          refine AllReadyH.cons (by (simp only [List.getElem?_toArray, List.getElem?_cons_succ, List.getElem?_cons_zero]; rfl)) (fun K hK => ?_) AllReadyH.nil
          go_simp
          clear hHeld
          refine hK.out _ _ ?_ (fun hHeld => ?_)
          · exact ⟨(World.cell?_setCell_other _ _ _ _ (by simp <;> omega)).trans (cellB HB12.out X1), (World.cell?_setCell_other _ _ _ _ (by simp <;> omega)).trans (cellB HB12.out Q0)⟩
          clear hK K
          try simp only [Act.put, List.setIfInBounds_toArray, List.set_cons_zero, List.set_cons_succ]
          refine wpAnyH_done (by kernel_rfl) ?_ _
          clear hHeld
          go_wp2_with fail
          go_meet
          case rel => exact ren_at HA5.out hgaw hjq HQJ.out HB12.out hown2 rfl rfl
      · skip
        have sQ2 := cellB HBd.out Q2
        go_simp
        clear sQ2
        clear hHeld
        refine hK.out _ _ ?_ (fun hHeld => ?_)
        · exact ⟨cellB HBd.out X1, cellB HBd.out Q0⟩
        clear hK K
        try simp only [Act.put, List.setIfInBounds_toArray, List.set_cons_zero, List.set_cons_succ]
        refine wpAnyH_ready (rs := [3, 17]) (by kernel_rfl) (by simp) ?_
        refine (AllReadyH.cons (by (simp only [List.getElem?_toArray, List.getElem?_cons_succ, List.getElem?_cons_zero]; rfl)) (fun K hK => ?_) (AllReadyH.cons (by (simp only [List.getElem?_toArray, List.getElem?_cons_succ, List.getElem?_cons_zero]; rfl)) (fun K hK => ?_) AllReadyH.nil))
        · skip
          have HB14 := Lib.hid (HBd.out.alloc HBd.out.size (.cells #[] 9))
          have OW14 : Hid (World.ownsRow (World.alloc (W5.drewN 1) (.cells #[] 9)) W5.heap.size 9 1 (.slice (some ⟨W5.heap.size, 0, none⟩) 0 0) 0 []) := Lib.hid (by have h1 := own_base (World.ownsRow_made (W5.drewN 1) #[] 0 (e := 9) (size := 1) (Nat.le_refl _) (Nat.zero_le _) rfl) HBd.out.size; simpa using h1)
          go_simp
          clear hHeld
          refine hK.out _ _ ?_ (fun hHeld => ?_)
          · exact ⟨cellB HB14.out X1, cellB HB14.out Q0⟩
          clear hK K
          try simp only [Act.put, List.setIfInBounds_toArray, List.set_cons_zero, List.set_cons_succ]
          refine wpAnyH_ready (rs := [10, 17]) (by kernel_rfl) (by simp) ?_
          refine (AllReadyH.cons (by (simp only [List.getElem?_toArray, List.getElem?_cons_succ, List.getElem?_cons_zero]; rfl)) (fun K hK => ?_) (AllReadyH.cons (by (simp only [List.getElem?_toArray, List.getElem?_cons_succ, List.getElem?_cons_zero]; rfl)) (fun K hK => ?_) AllReadyH.nil))
          · skip
            refine step_app elemStr rfl (.tmp 105) (.tmp 111) rfl (base := W5.heap.size) (by rfl) OW14.out (by rfl) (src_strs (HSTR.out.below HB14.out)).2 (by omega) HB14.out.size ?_
            intro v1 V1 hown1 hg1 hat1
            have HB15 := Lib.hid (HB14.out.grown hg1 HB14.out.size (fun k hk => (OW14.out.lt k hk).1))
            have OW15 := Lib.hid hown1
            clear hown1 hg1 hat1
            clear hHeld
            refine hK.out _ _ ?_ (fun hHeld => ?_)
            · exact ⟨cellB HB15.out X1, cellB HB15.out Q0⟩
            clear hK K
            try simp only [Act.put, List.setIfInBounds_toArray, List.set_cons_zero, List.set_cons_succ]
            refine wpAnyH_ready (rs := [17]) (by kernel_rfl) (by simp) ?_
            refine (AllReadyH.cons (by (simp only [List.getElem?_toArray, List.getElem?_cons_succ, List.getElem?_cons_zero]; rfl)) (fun K hK => ?_) AllReadyH.nil)
            have HB16 := Lib.hid (HB15.out.alloc HB15.out.size (.cells #[str a.name] 9))
            have OW16 := Lib.hid (World.ownsRow.alloc OW15.out (.cells #[str a.name] 9))
            have BX16 : Hid ((World.alloc V1 (.cells #[str a.name] 9)).cell? ⟨V1.heap.size, 0, none⟩ = some (str a.name)) := Lib.hid (by first | (simp [go_sem]; done) | exact cell_new1 _ _ _)
            go_simp
            clear hHeld
            refine hK.out _ _ ?_ (fun hHeld => ?_)
            · exact ⟨cellB HB16.out X1, cellB HB16.out Q0⟩
            clear hK K
            try simp only [Act.put, List.setIfInBounds_toArray, List.set_cons_zero, List.set_cons_succ]
            refine wpAnyH_ready (rs := [18]) (by kernel_rfl) (by simp) ?_
            refine (AllReadyH.cons (by (simp only [List.getElem?_toArray, List.getElem?_cons_succ, List.getElem?_cons_zero]; rfl)) (fun K hK => ?_) AllReadyH.nil)
            refine step_app elemStr rfl (.tmp 112) (.tmp 119) rfl (base := W5.heap.size) (by rfl) OW16.out (by rfl) (src_one BX16.out rfl) (by omega) HB16.out.size ?_
            intro v2 V2 hown2 hg2 hat2
            have HB17 := Lib.hid (HB16.out.grown hg2 HB16.out.size (fun k hk => (OW16.out.lt k hk).1))
            replace hown2 : V2.ownsRow W5.heap.size 9 1 v2 (a.was.length + 1) ((a.was ++ [a.name]).map str) := by simpa using hown2
            obtain ⟨A2, c2, rfl⟩ := own_isSl hown2
            clear hg2 hat2
            clear hHeld
            refine hK.out _ _ ?_ (fun hHeld => ?_)
            · exact ⟨cellB HB17.out X1, cellB HB17.out Q0⟩
            clear hK K
            try simp only [Act.put, List.setIfInBounds_toArray, List.set_cons_zero, List.set_cons_succ]
            refine wpAnyH_take (i := 19) (v := ?_) (by (simp only [List.getElem?_toArray, List.getElem?_cons_succ, List.getElem?_cons_zero]; rfl)) (by kernel_rfl) (by kernel_rfl) (by kernel_rfl) (by intro _ _ _ h; exact h) (Or.inl ⟨by kernel_rfl, ?_⟩) hHeld ?_
            case refine_2 =>
              intro w hSw
              try dsimp only at hSw
              go_simp
              try with_reducible rfl
            try simp only [Act.put, List.setIfInBounds_toArray, List.set_cons_zero, List.set_cons_succ]
            refine wpAnyH_take (i := 20) (v := ?_) (by (simp only [List.getElem?_toArray, List.getElem?_cons_succ, List.getElem?_cons_zero]; rfl)) (by kernel_rfl) (by kernel_rfl) (by kernel_rfl) (by intro _ _ _ h; exact h) (Or.inl ⟨by kernel_rfl, ?_⟩) hHeld ?_
            case refine_2 =>
              intro w hSw
              try dsimp only at hSw
              go_simp
              try with_reducible rfl
            try simp only [Act.put, List.setIfInBounds_toArray, List.set_cons_zero, List.set_cons_succ]
            have sQ2 := cellB HB17.out Q2
            have sF2 := frozenB HB17.out Q2 QF2
            refine wpAnyH_ready (rs := [21]) (by kernel_rfl) (by simp) ?_
            refine AllReadyH.cons (by (simp only [List.getElem?_toArray, List.getElem?_cons_succ, List.getElem?_cons_zero]; rfl)) (fun K hK => ?_) AllReadyH.nil
            go_simp
            clear hHeld
            refine hK.out _ _ ?_ (fun hHeld => ?_)
            · exact ⟨(World.cell?_setCell_other _ _ _ _ (by simp <;> omega)).trans (cellB HB17.out X1), (World.cell?_setCell_other _ _ _ _ (by simp <;> omega)).trans (cellB HB17.out Q0)⟩
            clear hK K
            try simp only [Act.put, List.setIfInBounds_toArray, List.set_cons_zero, List.set_cons_succ]
            refine wpAnyH_done (by kernel_rfl) ?_ _
            clear hHeld
            go_wp2_with fail
            go_meet
            case rel => exact ren_at HA5.out hgaw hjq HQJ.out HB17.out hown2 rfl rfl
          · skip
            have HB18 := Lib.hid (HB14.out.alloc HB14.out.size (.cells #[str a.name] 9))
            have OW18 := Lib.hid (World.ownsRow.alloc OW14.out (.cells #[str a.name] 9))
            have BX18 : Hid ((World.alloc (World.alloc (W5.drewN 1) (.cells #[] 9)) (.cells #[str a.name] 9)).cell? ⟨W5.heap.size + 1, 0, none⟩ = some (str a.name)) := Lib.hid (by first | (simp [go_sem]; done) | exact cell_new1 _ _ _)
            go_simp
            clear hHeld
            refine hK.out _ _ ?_ (fun hHeld => ?_)
            · exact ⟨cellB HB18.out X1, cellB HB18.out Q0⟩
            clear hK K
            try simp only [Act.put, List.setIfInBounds_toArray, List.set_cons_zero, List.set_cons_succ]
            refine wpAnyH_ready (rs := [10]) (by kernel_rfl) (by simp) ?_
            refine (AllReadyH.cons (by (simp only [List.getElem?_toArray, List.getElem?_cons_succ, List.getElem?_cons_zero]; rfl)) (fun K hK => ?_) AllReadyH.nil)
            refine step_app elemStr rfl (.tmp 105) (.tmp 111) rfl (base := W5.heap.size) (by rfl) OW18.out (by rfl) (src_strs (HSTR.out.below HB18.out)).2 (by omega) HB18.out.size ?_
            intro v1 V1 hown1 hg1 hat1
            have HB19 := Lib.hid (HB18.out.grown hg1 HB18.out.size (fun k hk => (OW18.out.lt k hk).1))
            have OW19 := Lib.hid hown1
            have BX19 := Lib.hid (hg1.cell BX18.out (fun e => by simp [Value.ownBlock] at e))
            clear hown1 hg1 hat1
            clear hHeld
            refine hK.out _ _ ?_ (fun hHeld => ?_)
            · exact ⟨cellB HB19.out X1, cellB HB19.out Q0⟩
            clear hK K
            try simp only [Act.put, List.setIfInBounds_toArray, List.set_cons_zero, List.set_cons_succ]
            refine wpAnyH_ready (rs := [18]) (by kernel_rfl) (by simp) ?_
            refine (AllReadyH.cons (by (simp only [List.getElem?_toArray, List.getElem?_cons_succ, List.getElem?_cons_zero]; rfl)) (fun K hK => ?_) AllReadyH.nil)
            refine step_app elemStr rfl (.tmp 112) (.tmp 119) rfl (base := W5.heap.size) (by rfl) OW19.out (by rfl) (src_one BX19.out rfl) (by omega) HB19.out.size ?_
            intro v2 V2 hown2 hg2 hat2
            have HB20 := Lib.hid (HB19.out.grown hg2 HB19.out.size (fun k hk => (OW19.out.lt k hk).1))
            replace hown2 : V2.ownsRow W5.heap.size 9 1 v2 (a.was.length + 1) ((a.was ++ [a.name]).map str) := by simpa using hown2
            obtain ⟨A2, c2, rfl⟩ := own_isSl hown2
            clear hg2 hat2
            clear hHeld
            refine hK.out _ _ ?_ (fun hHeld => ?_)
            · exact ⟨cellB HB20.out X1, cellB HB20.out Q0⟩
            clear hK K
            try simp only [Act.put, List.setIfInBounds_toArray, List.set_cons_zero, List.set_cons_succ]
            refine wpAnyH_take (i := 19) (v := ?_) (by (simp only [List.getElem?_toArray, List.getElem?_cons_succ, List.getElem?_cons_zero]; rfl)) (by kernel_rfl) (by kernel_rfl) (by kernel_rfl) (by intro _ _ _ h; exact h) (Or.inl ⟨by kernel_rfl, ?_⟩) hHeld ?_
            case refine_2 =>
              intro w hSw
              try dsimp only at hSw
              go_simp
              try with_reducible rfl
            try simp only [Act.put, List.setIfInBounds_toArray, List.set_cons_zero, List.set_cons_succ]
            refine wpAnyH_take (i := 20) (v := ?_) (by (simp only [List.getElem?_toArray, List.getElem?_cons_succ, List.getElem?_cons_zero]; rfl)) (by kernel_rfl) (by kernel_rfl) (by kernel_rfl) (by intro _ _ _ h; exact h) (Or.inl ⟨by kernel_rfl, ?_⟩) hHeld ?_
            case refine_2 =>
              intro w hSw
              try dsimp only at hSw
              go_simp
              try with_reducible rfl
            try simp only [Act.put, List.setIfInBounds_toArray, List.set_cons_zero, List.set_cons_succ]
            have sQ2 := cellB HB20.out Q2
            have sF2 := frozenB HB20.out Q2 QF2
            refine wpAnyH_ready (rs := [21]) (by kernel_rfl) (by simp) ?_
            refine AllReadyH.cons (by (simp only [List.getElem?_toArray, List.getElem?_cons_succ, List.getElem?_cons_zero]; rfl)) (fun K hK => ?_) AllReadyH.nil
            go_simp
            clear hHeld
            refine hK.out _ _ ?_ (fun hHeld => ?_)
            · exact ⟨(World.cell?_setCell_other _ _ _ _ (by simp <;> omega)).trans (cellB HB20.out X1), (World.cell?_setCell_other _ _ _ _ (by simp <;> omega)).trans (cellB HB20.out Q0)⟩
            clear hK K
            try simp only [Act.put, List.setIfInBounds_toArray, List.set_cons_zero, List.set_cons_succ]
            refine wpAnyH_done (by kernel_rfl) ?_ _
            clear hHeld
            go_wp2_with fail
            go_meet
            case rel => exact ren_at HA5.out hgaw hjq HQJ.out HB20.out hown2 rfl rfl
        · skip
          have HB21 := Lib.hid (HBd.out.alloc HBd.out.size (.cells #[str a.name] 9))
          have BX21 : Hid ((World.alloc (W5.drewN 1) (.cells #[str a.name] 9)).cell? ⟨W5.heap.size, 0, none⟩ = some (str a.name)) := Lib.hid (by first | (simp [go_sem]; done) | exact cell_new1 _ _ _)
          go_simp
          clear hHeld
          refine hK.out _ _ ?_ (fun hHeld => ?_)
          · exact ⟨cellB HB21.out X1, cellB HB21.out Q0⟩
          clear hK K
          try simp only [Act.put, List.setIfInBounds_toArray, List.set_cons_zero, List.set_cons_succ]
          refine wpAnyH_ready (rs := [3]) (by kernel_rfl) (by simp) ?_
          refine (AllReadyH.cons (by (simp only [List.getElem?_toArray, List.getElem?_cons_succ, List.getElem?_cons_zero]; rfl)) (fun K hK => ?_) AllReadyH.nil)
          have HB22 := Lib.hid (HB21.out.alloc HB21.out.size (.cells #[] 9))
          have OW22 : Hid (World.ownsRow (World.alloc (World.alloc (W5.drewN 1) (.cells #[str a.name] 9)) (.cells #[] 9)) W5.heap.size 9 1 (.slice (some ⟨W5.heap.size + 1, 0, none⟩) 0 0) 0 []) := Lib.hid (by have h1 := own_base (World.ownsRow_made (World.alloc (W5.drewN 1) (.cells #[str a.name] 9)) #[] 0 (e := 9) (size := 1) (Nat.le_refl _) (Nat.zero_le _) rfl) HB21.out.size; simpa using h1)
          have BX22 := Lib.hid (Cell.alloc BX21.out (.cells #[] 9))
          go_simp
          clear hHeld
          refine hK.out _ _ ?_ (fun hHeld => ?_)
          · exact ⟨cellB HB22.out X1, cellB HB22.out Q0⟩
          clear hK K
          try simp only [Act.put, List.setIfInBounds_toArray, List.set_cons_zero, List.set_cons_succ]
          refine wpAnyH_ready (rs := [10]) (by kernel_rfl) (by simp) ?_
          refine (AllReadyH.cons (by (simp only [List.getElem?_toArray, List.getElem?_cons_succ, List.getElem?_cons_zero]; rfl)) (fun K hK => ?_) AllReadyH.nil)
          refine step_app elemStr rfl (.tmp 105) (.tmp 111) rfl (base := W5.heap.size) (by rfl) OW22.out (by rfl) (src_strs (HSTR.out.below HB22.out)).2 (by omega) HB22.out.size ?_
          intro v1 V1 hown1 hg1 hat1
          have HB23 := Lib.hid (HB22.out.grown hg1 HB22.out.size (fun k hk => (OW22.out.lt k hk).1))
          have OW23 := Lib.hid hown1
          have BX23 := Lib.hid (hg1.cell BX22.out (fun e => by simp [Value.ownBlock] at e))
          clear hown1 hg1 hat1
          clear hHeld
          refine hK.out _ _ ?_ (fun hHeld => ?_)
          · exact ⟨cellB HB23.out X1, cellB HB23.out Q0⟩
          clear hK K
          try simp only [Act.put, List.setIfInBounds_toArray, List.set_cons_zero, List.set_cons_succ]
          refine wpAnyH_ready (rs := [18]) (by kernel_rfl) (by simp) ?_
          refine (AllReadyH.cons (by (simp only [List.getElem?_toArray, List.getElem?_cons_succ, List.getElem?_cons_zero]; rfl)) (fun K hK => ?_) AllReadyH.nil)
          refine step_app elemStr rfl (.tmp 112) (.tmp 119) rfl (base := W5.heap.size) (by rfl) OW23.out (by rfl) (src_one BX23.out rfl) (by omega) HB23.out.size ?_
          intro v2 V2 hown2 hg2 hat2
          have HB24 := Lib.hid (HB23.out.grown hg2 HB23.out.size (fun k hk => (OW23.out.lt k hk).1))
          replace hown2 : V2.ownsRow W5.heap.size 9 1 v2 (a.was.length + 1) ((a.was ++ [a.name]).map str) := by simpa using hown2
          obtain ⟨A2, c2, rfl⟩ := own_isSl hown2
          clear hg2 hat2
          clear hHeld
          refine hK.out _ _ ?_ (fun hHeld => ?_)
          · exact ⟨cellB HB24.out X1, cellB HB24.out Q0⟩
          clear hK K
          try simp only [Act.put, List.setIfInBounds_toArray, List.set_cons_zero, List.set_cons_succ]
          refine wpAnyH_take (i := 19) (v := ?_) (by (simp only [List.getElem?_toArray, List.getElem?_cons_succ, List.getElem?_cons_zero]; rfl)) (by kernel_rfl) (by kernel_rfl) (by kernel_rfl) (by intro _ _ _ h; exact h) (Or.inl ⟨by kernel_rfl, ?_⟩) hHeld ?_
          case refine_2 =>
            intro w hSw
            try dsimp only at hSw
            go_simp
            try with_reducible rfl
          try simp only [Act.put, List.setIfInBounds_toArray, List.set_cons_zero, List.set_cons_succ]
          refine wpAnyH_take (i := 20) (v := ?_) (by (simp only [List.getElem?_toArray, List.getElem?_cons_succ, List.getElem?_cons_zero]; rfl)) (by kernel_rfl) (by kernel_rfl) (by kernel_rfl) (by intro _ _ _ h; exact h) (Or.inl ⟨by kernel_rfl, ?_⟩) hHeld ?_
          case refine_2 =>
            intro w hSw
            try dsimp only at hSw
            go_simp
            try with_reducible rfl
          try simp only [Act.put, List.setIfInBounds_toArray, List.set_cons_zero, List.set_cons_succ]
          have sQ2 := cellB HB24.out Q2
          have sF2 := frozenB HB24.out Q2 QF2
          refine wpAnyH_ready (rs := [21]) (by kernel_rfl) (by simp) ?_
          refine AllReadyH.cons (by (simp only [List.getElem?_toArray, List.getElem?_cons_succ, List.getElem?_cons_zero]; rfl)) (fun K hK => ?_) AllReadyH.nil
          go_simp
          clear hHeld
          refine hK.out _ _ ?_ (fun hHeld => ?_)
          · exact ⟨(World.cell?_setCell_other _ _ _ _ (by simp <;> omega)).trans (cellB HB24.out X1), (World.cell?_setCell_other _ _ _ _ (by simp <;> omega)).trans (cellB HB24.out Q0)⟩
          clear hK K
          try simp only [Act.put, List.setIfInBounds_toArray, List.set_cons_zero, List.set_cons_succ]
          refine wpAnyH_done (by kernel_rfl) ?_ _
          clear hHeld
          go_wp2_with fail
          go_meet
          case rel => exact ren_at HA5.out hgaw hjq HQJ.out HB24.out hown2 rfl rfl
      · skip
        have HB25 := Lib.hid (HBd.out.alloc HBd.out.size (.cells #[str a.name] 9))
        have BX25 : Hid ((World.alloc (W5.drewN 1) (.cells #[str a.name] 9)).cell? ⟨W5.heap.size, 0, none⟩ = some (str a.name)) := Lib.hid (by first | (simp [go_sem]; done) | exact cell_new1 _ _ _)
        go_simp
        clear hHeld
        refine hK.out _ _ ?_ (fun hHeld => ?_)
        · exact ⟨cellB HB25.out X1, cellB HB25.out Q0⟩
        clear hK K
        try simp only [Act.put, List.setIfInBounds_toArray, List.set_cons_zero, List.set_cons_succ]
        refine wpAnyH_ready (rs := [3, 9]) (by kernel_rfl) (by simp) ?_
        refine (AllReadyH.cons (by (simp only [List.getElem?_toArray, List.getElem?_cons_succ, List.getElem?_cons_zero]; rfl)) (fun K hK => ?_) (AllReadyH.cons (by (simp only [List.getElem?_toArray, List.getElem?_cons_succ, List.getElem?_cons_zero]; rfl)) (fun K hK => ?_) AllReadyH.nil))
        · skip
          have HB26 := Lib.hid (HB25.out.alloc HB25.out.size (.cells #[] 9))
          have OW26 : Hid (World.ownsRow (World.alloc (World.alloc (W5.drewN 1) (.cells #[str a.name] 9)) (.cells #[] 9)) W5.heap.size 9 1 (.slice (some ⟨W5.heap.size + 1, 0, none⟩) 0 0) 0 []) := Lib.hid (by have h1 := own_base (World.ownsRow_made (World.alloc (W5.drewN 1) (.cells #[str a.name] 9)) #[] 0 (e := 9) (size := 1) (Nat.le_refl _) (Nat.zero_le _) rfl) HB25.out.size; simpa using h1)
          have BX26 := Lib.hid (Cell.alloc BX25.out (.cells #[] 9))
          go_simp
          clear hHeld
          refine hK.out _ _ ?_ (fun hHeld => ?_)
          · exact ⟨cellB HB26.out X1, cellB HB26.out Q0⟩
          clear hK K
          try simp only [Act.put, List.setIfInBounds_toArray, List.set_cons_zero, List.set_cons_succ]
          refine wpAnyH_ready (rs := [9]) (by kernel_rfl) (by simp) ?_
          refine (AllReadyH.cons (by (simp only [List.getElem?_toArray, List.getElem?_cons_succ, List.getElem?_cons_zero]; rfl)) (fun K hK => ?_) AllReadyH.nil)
          have sQ2 := cellB HB26.out Q2
          go_simp
          clear sQ2
          clear hHeld
          refine hK.out _ _ ?_ (fun hHeld => ?_)
          · exact ⟨cellB HB26.out X1, cellB HB26.out Q0⟩
          clear hK K
          try simp only [Act.put, List.setIfInBounds_toArray, List.set_cons_zero, List.set_cons_succ]
          refine wpAnyH_ready (rs := [10]) (by kernel_rfl) (by simp) ?_
          refine (AllReadyH.cons (by (simp only [List.getElem?_toArray, List.getElem?_cons_succ, List.getElem?_cons_zero]; rfl)) (fun K hK => ?_) AllReadyH.nil)
          refine step_app elemStr rfl (.tmp 105) (.tmp 111) rfl (base := W5.heap.size) (by rfl) OW26.out (by rfl) (src_strs (HSTR.out.below HB26.out)).2 (by omega) HB26.out.size ?_
          intro v1 V1 hown1 hg1 hat1
          have HB28 := Lib.hid (HB26.out.grown hg1 HB26.out.size (fun k hk => (OW26.out.lt k hk).1))
          have OW28 := Lib.hid hown1
          have BX28 := Lib.hid (hg1.cell BX26.out (fun e => by simp [Value.ownBlock] at e))
          clear hown1 hg1 hat1
          clear hHeld
          refine hK.out _ _ ?_ (fun hHeld => ?_)
          · exact ⟨cellB HB28.out X1, cellB HB28.out Q0⟩
          clear hK K
          try simp only [Act.put, List.setIfInBounds_toArray, List.set_cons_zero, List.set_cons_succ]
          refine wpAnyH_ready (rs := [18]) (by kernel_rfl) (by simp) ?_
          refine (AllReadyH.cons (by (simp only [List.getElem?_toArray, List.getElem?_cons_succ, List.getElem?_cons_zero]; rfl)) (fun K hK => ?_) AllReadyH.nil)
          refine step_app elemStr rfl (.tmp 112) (.tmp 119) rfl (base := W5.heap.size) (by rfl) OW28.out (by rfl) (src_one BX28.out rfl) (by omega) HB28.out.size ?_
          intro v2 V2 hown2 hg2 hat2
          have HB29 := Lib.hid (HB28.out.grown hg2 HB28.out.size (fun k hk => (OW28.out.lt k hk).1))
          replace hown2 : V2.ownsRow W5.heap.size 9 1 v2 (a.was.length + 1) ((a.was ++ [a.name]).map str) := by simpa using hown2
          obtain ⟨A2, c2, rfl⟩ := own_isSl hown2
          clear hg2 hat2
          clear hHeld
          refine hK.out _ _ ?_ (fun hHeld => ?_)
          · exact ⟨cellB HB29.out X1, cellB HB29.out Q0⟩
          clear hK K
          try simp only [Act.put, List.setIfInBounds_toArray, List.set_cons_zero, List.set_cons_succ]
          refine wpAnyH_take (i := 19) (v := ?_) (by (simp only [List.getElem?_toArray, List.getElem?_cons_succ, List.getElem?_cons_zero]; rfl)) (by kernel_rfl) (by kernel_rfl) (by kernel_rfl) (by intro _ _ _ h; exact h) (Or.inl ⟨by kernel_rfl, ?_⟩) hHeld ?_
          case refine_2 =>
            intro w hSw
            try dsimp only at hSw
            go_simp
            try with_reducible rfl
          try simp only [Act.put, List.setIfInBounds_toArray, List.set_cons_zero, List.set_cons_succ]
          refine wpAnyH_take (i := 20) (v := ?_) (by (simp only [List.getElem?_toArray, List.getElem?_cons_succ, List.getElem?_cons_zero]; rfl)) (by kernel_rfl) (by kernel_rfl) (by kernel_rfl) (by intro _ _ _ h; exact h) (Or.inl ⟨by kernel_rfl, ?_⟩) hHeld ?_
          case refine_2 =>
            intro w hSw
            try dsimp only at hSw
            go_simp
            try with_reducible rfl
          try simp only [Act.put, List.setIfInBounds_toArray, List.set_cons_zero, List.set_cons_succ]
          have sQ2 := cellB HB29.out Q2
          have sF2 := frozenB HB29.out Q2 QF2
          refine wpAnyH_ready (rs := [21]) (by kernel_rfl) (by simp) ?_
          refine AllReadyH.cons (by (simp only [List.getElem?_toArray, List.getElem?_cons_succ, List.getElem?_cons_zero]; rfl)) (fun K hK => ?_) AllReadyH.nil
          go_simp
          clear hHeld
          refine hK.out _ _ ?_ (fun hHeld => ?_)
          · exact ⟨(World.cell?_setCell_other _ _ _ _ (by simp <;> omega)).trans (cellB HB29.out X1), (World.cell?_setCell_other _ _ _ _ (by simp <;> omega)).trans (cellB HB29.out Q0)⟩
          clear hK K
          try simp only [Act.put, List.setIfInBounds_toArray, List.set_cons_zero, List.set_cons_succ]
          refine wpAnyH_done (by kernel_rfl) ?_ _
          clear hHeld
          go_wp2_with fail
          go_meet
          case rel => exact ren_at HA5.out hgaw hjq HQJ.out HB29.out hown2 rfl rfl
        · skip
          have sQ2 := cellB HB25.out Q2
          go_simp
          clear sQ2
          clear hHeld
          refine hK.out _ _ ?_ (fun hHeld => ?_)
          · exact ⟨cellB HB25.out X1, cellB HB25.out Q0⟩
          clear hK K
          try simp only [Act.put, List.setIfInBounds_toArray, List.set_cons_zero, List.set_cons_succ]
          refine wpAnyH_ready (rs := [3]) (by kernel_rfl) (by simp) ?_
          refine (AllReadyH.cons (by (simp only [List.getElem?_toArray, List.getElem?_cons_succ, List.getElem?_cons_zero]; rfl)) (fun K hK => ?_) AllReadyH.nil)
          have HB31 := Lib.hid (HB25.out.alloc HB25.out.size (.cells #[] 9))
          have OW31 : Hid (World.ownsRow (World.alloc (World.alloc (W5.drewN 1) (.cells #[str a.name] 9)) (.cells #[] 9)) W5.heap.size 9 1 (.slice (some ⟨W5.heap.size + 1, 0, none⟩) 0 0) 0 []) := Lib.hid (by have h1 := own_base (World.ownsRow_made (World.alloc (W5.drewN 1) (.cells #[str a.name] 9)) #[] 0 (e := 9) (size := 1) (Nat.le_refl _) (Nat.zero_le _) rfl) HB25.out.size; simpa using h1)
          have BX31 := Lib.hid (Cell.alloc BX25.out (.cells #[] 9))
          go_simp
          clear hHeld
          refine hK.out _ _ ?_ (fun hHeld => ?_)
          · exact ⟨cellB HB31.out X1, cellB HB31.out Q0⟩
          clear hK K
          try simp only [Act.put, List.setIfInBounds_toArray, List.set_cons_zero, List.set_cons_succ]
          refine wpAnyH_ready (rs := [10]) (by kernel_rfl) (by simp) ?_
          refine (AllReadyH.cons (by (simp only [List.getElem?_toArray, List.getElem?_cons_succ, List.getElem?_cons_zero]; rfl)) (fun K hK => ?_) AllReadyH.nil)
          refine step_app elemStr rfl (.tmp 105) (.tmp 111) rfl (base := W5.heap.size) (by rfl) OW31.out (by rfl) (src_strs (HSTR.out.below HB31.out)).2 (by omega) HB31.out.size ?_
          intro v1 V1 hown1 hg1 hat1
          have HB32 := Lib.hid (HB31.out.grown hg1 HB31.out.size (fun k hk => (OW31.out.lt k hk).1))
          have OW32 := Lib.hid hown1
          have BX32 := Lib.hid (hg1.cell BX31.out (fun e => by simp [Value.ownBlock] at e))
          clear hown1 hg1 hat1
          clear hHeld
          refine hK.out _ _ ?_ (fun hHeld => ?_)
          · exact ⟨cellB HB32.out X1, cellB HB32.out Q0⟩
          clear hK K
          try simp only [Act.put, List.setIfInBounds_toArray, List.set_cons_zero, List.set_cons_succ]
          refine wpAnyH_ready (rs := [18]) (by kernel_rfl) (by simp) ?_
          refine (AllReadyH.cons (by (simp only [List.getElem?_toArray, List.getElem?_cons_succ, List.getElem?_cons_zero]; rfl)) (fun K hK => ?_) AllReadyH.nil)
          refine step_app elemStr rfl (.tmp 112) (.tmp 119) rfl (base := W5.heap.size) (by rfl) OW32.out (by rfl) (src_one BX32.out rfl) (by omega) HB32.out.size ?_
          intro v2 V2 hown2 hg2 hat2
          have HB33 := Lib.hid (HB32.out.grown hg2 HB32.out.size (fun k hk => (OW32.out.lt k hk).1))
          replace hown2 : V2.ownsRow W5.heap.size 9 1 v2 (a.was.length + 1) ((a.was ++ [a.name]).map str) := by simpa using hown2
          obtain ⟨A2, c2, rfl⟩ := own_isSl hown2
          clear hg2 hat2
          clear hHeld
          refine hK.out _ _ ?_ (fun hHeld => ?_)
          · exact ⟨cellB HB33.out X1, cellB HB33.out Q0⟩
          clear hK K
          try simp only [Act.put, List.setIfInBounds_toArray, List.set_cons_zero, List.set_cons_succ]
          refine wpAnyH_take (i := 19) (v := ?_) (by (simp only [List.getElem?_toArray, List.getElem?_cons_succ, List.getElem?_cons_zero]; rfl)) (by kernel_rfl) (by kernel_rfl) (by kernel_rfl) (by intro _ _ _ h; exact h) (Or.inl ⟨by kernel_rfl, ?_⟩) hHeld ?_
          case refine_2 =>
            intro w hSw
            try dsimp only at hSw
            go_simp
            try with_reducible rfl
          try simp only [Act.put, List.setIfInBounds_toArray, List.set_cons_zero, List.set_cons_succ]
          refine wpAnyH_take (i := 20) (v := ?_) (by (simp only [List.getElem?_toArray, List.getElem?_cons_succ, List.getElem?_cons_zero]; rfl)) (by kernel_rfl) (by kernel_rfl) (by kernel_rfl) (by intro _ _ _ h; exact h) (Or.inl ⟨by kernel_rfl, ?_⟩) hHeld ?_
          case refine_2 =>
            intro w hSw
            try dsimp only at hSw
            go_simp
            try with_reducible rfl
          try simp only [Act.put, List.setIfInBounds_toArray, List.set_cons_zero, List.set_cons_succ]
          have sQ2 := cellB HB33.out Q2
          have sF2 := frozenB HB33.out Q2 QF2
          refine wpAnyH_ready (rs := [21]) (by kernel_rfl) (by simp) ?_
          refine AllReadyH.cons (by (simp only [List.getElem?_toArray, List.getElem?_cons_succ, List.getElem?_cons_zero]; rfl)) (fun K hK => ?_) AllReadyH.nil
          go_simp
          clear hHeld
          refine hK.out _ _ ?_ (fun hHeld => ?_)
          · exact ⟨(World.cell?_setCell_other _ _ _ _ (by simp <;> omega)).trans (cellB HB33.out X1), (World.cell?_setCell_other _ _ _ _ (by simp <;> omega)).trans (cellB HB33.out Q0)⟩
          clear hK K
          try simp only [Act.put, List.setIfInBounds_toArray, List.set_cons_zero, List.set_cons_succ]
          refine wpAnyH_done (by kernel_rfl) ?_ _
          clear hHeld
          go_wp2_with fail
          go_meet
          case rel => exact ren_at HA5.out hgaw hjq HQJ.out HB33.out hown2 rfl rfl
    case rest =>
      obtain ⟨v2, t6, ha6, ho6⟩ := hcut
      have HA6 := Lib.hid ha6
      have HO6 := Lib.hid ho6
      have hs6 := t6.size
      replace X0 := t6.cell X0 (by omega)
      replace X1 := t6.cell X1 (by omega)
      replace X2 := t6.cell X2 (by omega)
      replace a0 := t6.cell a0 (by omega)
      replace c3 := t6.cell c3 (by omega)
      have rzz := r0
      replace rf := t6.frozen (o := 0) rzz rf (by omega)
      replace r0 := t6.cell r0 (by omega)
      have HB6 := Lib.hid (show Below w.heap.size w wc from HB5.out.trans (t6.below HB5.out.size (fun i hi e => by omega)))
      have HOX6 := Lib.hid (own_heap HO5.out (fun q e => by cases e; exact t6.block g (by omega) (by omega)))
      have hjs : j < (qs.set j ({ a with was := a.was ++ [a.name] }, v2)).length := by simpa using hjq
      have hq6 : wc.cell? ⟨ga, j * 6, none⟩ = some (str a.name) := by
        have h1 := HA6.out.cellAt (j * 6 + 0) (by omega)
        rw [flat_get attrC_len _ j 0 hjs (by decide), List.getElem_set_self] at h1
        exact h1
      have hf6 : wc.frozen? ⟨ga, j * 6, none⟩ = false := HA6.out.frozenAt (j * 6)
      have hs7 : ga < wc.heap.size := by omega
      clear ha6 ho6 t6 rzz z0 x0 x1 x2 c0 c1 c2 c4 c5 c6 c7 Q0 Q1 Q2 Q3 Q4 Q5 QF0 QF1 QF2 QF3 QF4 QF5 HA5 HO5 HB5 XF HSTR
      go_upto_region 26 with fail
      obtain ⟨W7, hW⟩ : ∃ W, wc.setCell ⟨ga, j * 6, none⟩ (str c.name) = W := ⟨_, rfl⟩
      rw [hW]
      have T7 : Tch (fun b => b = ga) wc W7 := by rw [← hW]; exact Tch.set (S := fun b => b = ga) (Tch.refl _ _) (p := ⟨ga, j * 6, none⟩) rfl _
      have hw7 : wc.heap.size ≤ W7.heap.size := T7.size
      replace X0 := T7.cell X0 (by omega)
      replace X1 := T7.cell X1 (by omega)
      replace X2 := T7.cell X2 (by omega)
      replace a0 := T7.cell a0 (by omega)
      have rzz := r0
      replace rf := T7.frozen (o := 0) rzz rf (by omega)
      replace r0 := T7.cell r0 (by omega)
      have HBX := Lib.hid (show Below w.heap.size w W7 from HB6.out.trans (T7.below HB6.out.size (fun i hi e => by omega)))
      have HOX := Lib.hid (own_heap HOX6.out (fun q e => by cases e; exact T7.block g (by omega) (by omega)))
      have r1 := (HA6.out.stored (j * 6 + 0) (str c.name)).1
      rw [flat_set attrC_len _ j 0 hjs _ (renA c a, v2) (by decide) (by rw [List.getElem_set_self]; rfl), List.set_set] at r1
      replace r1 : W7.ownsRow W3.heap.size 53 6 (.slice (some ⟨ga, 0, none⟩) t'.attrs.length capa) t'.attrs.length ((qs.set j (renA c a, v2)).flatMap attrC) := by rw [← hW]; exact r1
      have r2 : W7.ownsRow W5.heap.size 9 1 v2 (a.was.length + 1) ((a.was ++ [a.name]).map str) := own_heap HO6.out (fun q e => T7.block q (HO6.out.lt q e).2 (by have := (HO6.out.lt q e).1; omega))
      have HUA := Lib.hid (show ∀ W', Tch (fun b => b = g ∨ b = w.heap.size + 1 + 1) W7 W' → Attrs W' (.slice (some ⟨ga, 0, none⟩) t'.attrs.length capa) u.attrs ∧ Ints W' (.slice Ak t'.key.length nk) u.key from fun W' hT => by
        have hbw := HBX.out.trans (hT.below HBX.out.size (fun i hi e => by rcases e with e | e <;> omega))
        have hr := own_heap (w' := W') r1 (fun q e => by cases e; exact hT.block ga (by omega) (fun e => by rcases e with e | e <;> omega))
        have hs := own_heap (w' := W') r2 (fun q e => hT.block q (r2.lt q e).2 (fun e2 => by have := (r2.lt q e).1; rcases e2 with e2 | e2 <;> omega))
        have h1 := attrs_shut (attrs_of_own (n := t'.attrs.length) (by rw [List.length_set, HQL.out]) hr) (fun q hq => by
          rcases List.mem_or_eq_of_mem_set hq with hq | rfl
          · exact (HQW.out q hq).below hbw
          · exact strs_of_own (base := W5.heap.size) (l := a.was ++ [a.name]) (by unfold OwnS; rw [List.length_append]; exact hs))
        have e : u.attrs = (qs.set j (renA c a, v2)).map Prod.fst := by
          rw [HU.out, List.map_set, HQF.out]
          show t'.attrs.modify j (renA c) = _
          rw [modify_set _ _ hj, HEA.out]
        have e2 : u.key = t'.key := by rw [HU.out]
        rw [e, e2]
        exact ⟨h1, HVK.out.below hbw⟩)
      clear r1 r2 hW T7 rzz hq6 hf6
      have HPK2 := HPK.out
      have hG : ∀ i, i < 3 → W7.cell? ⟨g, k * 3 + i, none⟩ = (tabC (t', .slice Aa t'.attrs.length na, .slice Ak t'.key.length nk))[i]? := fun i hi => by
        rw [HOX.out.cellAt _ (by omega), flat_get tabC_len ps k i hkp hi, HPK.out]
      have G0 : W7.cell? ⟨g, k * 3, none⟩ = some (str t'.name) := hG 0 (by decide)
      have G1 : W7.cell? ⟨g, k * 3 + 1, none⟩ = some (.slice Aa t'.attrs.length na) := hG 1 (by decide)
      have G2 : W7.cell? ⟨g, k * 3 + 2, none⟩ = some (.slice Ak t'.key.length nk) := hG 2 (by decide)
      have GF0 := HOX.out.frozenAt (k * 3)
      have GF1 := HOX.out.frozenAt (k * 3 + 1)
      have GF2 := HOX.out.frozenAt (k * 3 + 2)
      have hrg : w.heap.size + 1 + 1 < g := by omega
      have m1 : ¬ g = w.heap.size + 1 + 1 := by omega
      have m2 : ¬ w.heap.size + 1 + 1 = g := by omega
      have m3 : ¬ g = ob := by omega
      have m4 : ¬ ob = g := by omega
      have m5 : ¬ g = xb := by omega
      have m6 : ¬ xb = g := by omega
      have m7 : ¬ ob = w.heap.size + 1 + 1 := by omega
      have m8 : ¬ w.heap.size + 1 + 1 = ob := by omega
      have T7 : Tch (fun b => b = g ∨ b = w.heap.size + 1 + 1) W7 (((W7.setCell ⟨g, k * 3, none⟩ (str t'.name)).setCell ⟨g, k * 3 + 1, none⟩ (.slice (some ⟨ga, 0, none⟩) t'.attrs.length capa)).setCell ⟨g, k * 3 + 2, none⟩ (.slice Ak t'.key.length nk)) :=
        (((Tch.refl _ _).set (p := ⟨g, k * 3, none⟩) (Or.inl rfl) _).set (p := ⟨g, k * 3 + 1, none⟩) (Or.inl rfl) _).set (p := ⟨g, k * 3 + 2, none⟩) (Or.inl rfl) _
      have rr3 : (((W7.setCell ⟨g, k * 3, none⟩ (str t'.name)).setCell ⟨g, k * 3 + 1, none⟩ (.slice (some ⟨ga, 0, none⟩) t'.attrs.length capa)).setCell ⟨g, k * 3 + 2, none⟩ (.slice Ak t'.key.length nk)).cell? ⟨w.heap.size + 1 + 1, 0, none⟩ = some (.slice none 0 0) := by
        rw [World.cell?_setCell_other _ _ _ _ (by simp <;> omega), World.cell?_setCell_other _ _ _ _ (by simp <;> omega), World.cell?_setCell_other _ _ _ _ (by simp <;> omega)]
        exact r0
      have rz := World.cell?_setCell_same _ ⟨w.heap.size + 1 + 1, 0, none⟩ (.slice (some ⟨g, 0, none⟩) s.length cap1) rr3
      have T8 := Lib.hid (T7.set (p := ⟨w.heap.size + 1 + 1, 0, none⟩) (Or.inr rfl) (.slice (some ⟨g, 0, none⟩) s.length cap1))
      have s1 := (HOX.out.stored (k * 3 + 0) (str t'.name)).1
      rw [flat_set tabC_len ps k 0 hkp _ (u, .slice Aa t'.attrs.length na, .slice Ak t'.key.length nk) (by decide) (by rw [HPK.out]; show _ = [str u.name, _, _]; rw [HAL.out.name]; rfl)] at s1
      have s2 := (s1.stored (k * 3 + 1) (.slice (some ⟨ga, 0, none⟩) t'.attrs.length capa)).1
      rw [flat_set tabC_len _ k 1 (by simpa using hkp) _ (u, .slice (some ⟨ga, 0, none⟩) t'.attrs.length capa, .slice Ak t'.key.length nk) (by decide) (by rw [List.getElem_set_self]; rfl), List.set_set] at s2
      have s3 := (s2.stored (k * 3 + 2) (.slice Ak t'.key.length nk)).1
      rw [flat_set tabC_len _ k 2 (by simpa using hkp) _ (u, .slice (some ⟨ga, 0, none⟩) t'.attrs.length capa, .slice Ak t'.key.length nk) (by decide) (by rw [List.getElem_set_self]; rfl), List.set_set] at s3
      have HO8 := Lib.hid (own_heap (w' := (((W7.setCell ⟨g, k * 3, none⟩ (str t'.name)).setCell ⟨g, k * 3 + 1, none⟩ (.slice (some ⟨ga, 0, none⟩) t'.attrs.length capa)).setCell ⟨g, k * 3 + 2, none⟩ (.slice Ak t'.key.length nk)).setCell ⟨w.heap.size + 1 + 1, 0, none⟩ (.slice (some ⟨g, 0, none⟩) s.length cap1)) s3 (fun q e => by cases e; exact Below.heap_setCell _ _ _ _ (by show g ≠ w.heap.size + 1 + 1; omega)))
      have HB8 := Lib.hid (show Below w.heap.size w _ from HBX.out.trans (T8.out.below HBX.out.size (fun i hi e => by rcases e with e | e <;> omega)))
      have HU8 := Lib.hid (HUA.out _ T8.out)
      clear s1 s2 s3 T7 hG HPK2
      go_wp2_with fail
      refine bodyPost_ret (v := .tuple #[.agg #[.slice (some ⟨g, 0, none⟩) s.length cap1], .int .i64 0]) (by simp [results, Tryz.results12, go_sem, rz]) rfl ?_
      refine ⟨_, by rw [HAL.out.app], ?_, HB8.out⟩
      rw [HAL.out.app]
      exact apply_end HFS.out HPS.out HB8.out HO8.out HU8.out
  · have q1 : (er != 0) = true := by simpa using he0
    have HF := Lib.hid (apply_err her he0)
    have rr := World.cell?_setCell_same w1 ⟨w.heap.size + 1 + 1, 0, none⟩ (.slice none 0 0) r0
    clear hij her
    go_wp2_with fail
    refine bodyPost_ret (v := .tuple #[.agg #[.slice none 0 0], .int .i64 er]) (by simp [results, Tryz.results12, go_sem, rr]) rfl ?_
    exact ⟨.slice none 0 0, by rw [HF.out], by rw [HF.out]; exact Slc.nil _, HB.out.setCell (p := ⟨w.heap.size + 1 + 1, 0, none⟩) (by show w.heap.size ≤ w.heap.size + 1 + 1; omega) _⟩
end Go.Proofs.YteokcgfbhaeklaaGreatDoor
