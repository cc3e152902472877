/- The reference's Apply, at a change of kind 2. -/
import Derived.Test.YteokcgfbhaeklaaGreatDoorScRfA
namespace Go.Proofs.YteokcgfbhaeklaaGreatDoor
open Go.RowKit

/-- The loop over the key: the first j indices are lowered, in a row of the call's own. -/
def KeyAt (xb : Nat) (nm : Txt) (ga n capa : Nat) (l : List Int) (p : Nat) (W8 wr : World) (i : Value) : Prop :=
  ∃ (j : Nat) (vk : Value), j ≤ l.length ∧ i = .int .i64 (j : Int) ∧ wr.cell? ⟨xb, 2, none⟩ = some vk ∧ wr.frozen? ⟨xb, 2, none⟩ = false ∧ wr.cell? ⟨xb, 0, none⟩ = some (str nm) ∧ wr.cell? ⟨xb, 1, none⟩ = some (.slice (some ⟨ga, 0, none⟩) n capa) ∧ wr.ownsRow W8.heap.size 3 1 vk j (((l.take j).map (lower (p : Int))).flatMap intC) ∧ Tch (fun b => b = xb) W8 wr
theorem int_row {w : World} {A : Option Addr} {n cp : Nat} {l : List Int} (h : Ints w (.slice A n cp) l) {k : Nat} (hk : k < l.length) :
    ∃ b o, A = some ⟨b, o, none⟩ ∧ w.cell? ⟨b, o + k, none⟩ = some (.int .i64 l[k]) := by
  obtain ⟨_, _, b, o, e, f⟩ := Slc.spot h (by omega)
  have := f k hk
  rw [Nat.mul_one] at this
  exact ⟨b, o, e, this⟩
theorem erase_mapR {α β : Type} (f : α → β) : ∀ (l : List α) (i : Nat), (l.eraseIdx i).map f = (l.map f).eraseIdx i
  | [], _ => rfl
  | _ :: _, 0 => rfl
  | a :: l, i + 1 => by
    show f a :: (l.eraseIdx i).map f = f a :: (l.map f).eraseIdx i
    rw [erase_mapR f l i]
set_option maxRecDepth 100000 in
set_option maxHeartbeats 16000000 in
theorem apply2_rf (s : List TabT) (v : Value) (c : ChgT) (hk : c.kind = 2) (hm : Mid s) (hlen : Lens s) (hcn : c.name.length ≤ maxLen) (w : World) (h : Tabs w v s) :
    Calls Tryz.prog 12 #[.agg #[v], Cv c] w (ApplyPost w (applyT s c)) := by
  have HK := Lib.hid hk
  have e1 : (c.kind == 1) = false := by rw [hk]; rfl
  have e2 : (c.kind == 2) = true := by rw [hk]; rfl
  have e3 : (c.kind == 3) = false := by rw [hk]; rfl
  have e4 : (c.kind == 4) = false := by rw [hk]; rfl
  obtain ⟨ps, hfst, hP, hps⟩ := h.open
  have hpl : ps.length = s.length := by rw [← hfst, List.length_map]
  obtain ⟨A, cp, rfl, _⟩ := h.form
  have HS := Lib.hid h
  have HM := Lib.hid hm
  have hsl : s.length ≤ 24 := hm.1
  have HP := Lib.hid hP
  have HPS := Lib.hid hps
  have HFS := Lib.hid hfst
  have HPL := Lib.hid hpl
  have CK := Lib.hid (fun W (hW : Tabs W (.slice A s.length cp) s) => check_rf s _ c hm hlen hcn W hW)
  clear h hm hlen hcn hk hP hps hfst hpl
  go_enter Tryz.func12, Tryz.ntmps12
  go_wp2_with fail
  refine (CK.out _ (HS.out.below (((below_box w _).alloc (by simp) _).alloc (by simp; omega) _))).mono ?_
  rintro e w1 ⟨⟨ci, cj, rfl, hij⟩, hb⟩
  have hb2 : Below w.heap.size w w1 := below_up (((below_box w _).alloc (by simp) _).alloc (by simp; omega) _) hb (by simp; omega)
  replace HS := Lib.hid (HS.out.below hb2)
  have HB := Lib.hid hb2
  have z0 : w1.cell? ⟨w.heap.size, 0, none⟩ = some (.slice A s.length cp) := cellB hb (by simp [go_sem])
  have c0 : w1.cell? ⟨w.heap.size + 1, 0, none⟩ = some (.int .i64 c.kind) := cellB hb (by simp [go_sem])
  have c1 : w1.cell? ⟨w.heap.size + 1, 1, none⟩ = some (str c.table) := cellB hb (by simp [go_sem])
  have c2 : w1.cell? ⟨w.heap.size + 1, 2, none⟩ = some (str c.attr) := cellB hb (by simp [go_sem])
  have c3 : w1.cell? ⟨w.heap.size + 1, 3, none⟩ = some (str c.name) := cellB hb (by simp [go_sem])
  have c4 : w1.cell? ⟨w.heap.size + 1, 4, none⟩ = some (.int .i64 c.to) := cellB hb (by simp [go_sem])
  have c5 : w1.cell? ⟨w.heap.size + 1, 5, none⟩ = some (.int .i64 c.dft.1) := cellB hb (by simp [go_sem])
  have c6 : w1.cell? ⟨w.heap.size + 1, 6, none⟩ = some (.int .i64 c.dft.2.1) := cellB hb (by simp [go_sem])
  have c7 : w1.cell? ⟨w.heap.size + 1, 7, none⟩ = some (str c.dft.2.2) := cellB hb (by simp [go_sem])
  have r0 : w1.cell? ⟨w.heap.size + 1 + 1, 0, none⟩ = some (.slice none 0 0) := cellB hb (by simp [go_sem])
  have rf : w1.frozen? ⟨w.heap.size + 1 + 1, 0, none⟩ = false := frozenB (v := .slice none 0 0) hb (by simp [go_sem]) (by simp [go_sem])
  clear hb hb2
  clear CK
  obtain ⟨er, her⟩ : ∃ er, (locT s c).1 = er := ⟨_, rfl⟩
  rw [her] at hij
  rw [her]
  by_cases he0 : er = 0
  · subst he0
    obtain ⟨k, t, hloc⟩ := loc_ok her
    obtain ⟨e1_, e2_⟩ := hij rfl
    rw [hloc.loc] at e1_ e2_
    simp only at e1_ e2_
    subst e1_ e2_
    obtain ⟨u, hal⟩ := alt_ok hloc
    have HAL := Lib.hid hal
    have hkl : k < s.length := hloc.lt
    have hkp : k < ps.length := by rw [HPL.out]; exact hkl
    obtain ⟨⟨t', va, vk⟩, hpk⟩ : ∃ p, ps[k] = p := ⟨_, rfl⟩
    have htt : t' = t := by
      have h1 := fst_get HFS.out hkp hkl
      rw [hpk] at h1
      exact h1.symm.trans hloc.get
    subst htt
    obtain ⟨hva, hvk⟩ : Attrs w va t'.attrs ∧ Ints w vk t'.key := by
      have h1 := HPS.out _ (List.getElem_mem hkp)
      rw [hpk] at h1
      exact h1
    obtain ⟨qs, hqf, hQ, hqw⟩ := Attrs.open hva
    have hql : qs.length = t'.attrs.length := by rw [← hqf, List.length_map]
    obtain ⟨Aa, na, rfl, _⟩ := hva.form
    obtain ⟨Ak, nk, rfl, _⟩ := hvk.form
    have hmt := HM.out.2 t' hloc.mem
    have hlen1 := hal.t_ok.len
    obtain ⟨y, hy⟩ : ∃ y, colT t'.attrs c.attr = y := ⟨_, rfl⟩
    rw [hy]
    have HY := Lib.hid hy
    have HVK := Lib.hid hvk
    have HQ := Lib.hid hQ
    have HQW := Lib.hid hqw
    have HQF := Lib.hid hqf
    have HQL := Lib.hid hql
    have HMT := Lib.hid hmt
    have HPK := Lib.hid hpk
    have i1 : (0 : Int) ≤ (k : Int) := by omega
    have i2 : (k : Int) < (s.length : Int) := by omega
    obtain ⟨_, _, e, _, _, f⟩ := HP.out
    injection e with e1_ e2_ e3_
    subst e1_ e3_
    obtain ⟨b, o, rfl, hat⟩ := f k hkp
    rw [hpk] at hat
    have hbw : b < w.heap.size := cellLt hat.c0
    have x0 := cellB HB.out hat.c0
    have x1 := cellB HB.out hat.c1
    have x2 := cellB HB.out hat.c2
    clear hat f e2_ hij her hloc hal hva hvk hQ hqw hqf hql hmt hpk hy
    have HST := Lib.hid (src_tabs (A := some ⟨b, o, none⟩) (n := ps.length) (cap := cp) (w := w) (ps := ps) (by
      obtain ⟨A', c', e, h1, h2, h3⟩ := HP.out
      injection e with e1 e2 e3
      subst e1 e3
      exact ⟨_, _, by rfl, h1, h2, h3⟩) (fun p hp => ⟨(HPS.out p hp).1.isSl, (HPS.out p hp).2.isSl⟩)).2
    rw [HPL.out] at HST
    have HSA := Lib.hid (src_attrs (A := Aa) (n := t'.attrs.length) (cap := na) (w := w) (ps := qs) HQ.out (fun q hq => (HQW.out q hq).isSl)).2
    have HB1 := Lib.hid (fun W1 (g : (w1.alloc (.cells #[] 44)).grownBy W1 (some w1.heap.size)) => (show Below w1.heap.size w1 W1 from (below_box w1 _).grown g (by simp) (by intro k hk; cases hk; exact Nat.le_refl _)))
    have yz0 := fun o => Cell.alloc z0 o
    have yc0 := fun o => Cell.alloc c0 o
    have yc1 := fun o => Cell.alloc c1 o
    have yc2 := fun o => Cell.alloc c2 o
    have yc3 := fun o => Cell.alloc c3 o
    have yc4 := fun o => Cell.alloc c4 o
    have yc5 := fun o => Cell.alloc c5 o
    have yc6 := fun o => Cell.alloc c6 o
    have yc7 := fun o => Cell.alloc c7 o
    have yr0 := fun o => Cell.alloc r0 o
    have yx0 := fun o => Cell.alloc x0 o
    have yx1 := fun o => Cell.alloc x1 o
    have yx2 := fun o => Cell.alloc x2 o
    go_upto_region 5 with (at_builtin; refine wpList_app elemTab rfl (.tmp 24) (.tmp 26) rfl (base := w1.heap.size) (by rfl) (World.ownsRow_made w1 #[] 0 (Nat.le_refl _) (Nat.zero_le _) rfl) (by rfl) (HST.out.below (HB.out.trans ((below_box w1 _).mono HB.out.size))) (by omega) (by simp) ?_; intro v1 W1 hown1 hg1 hat1; have hB1 := HB1.out W1 hg1; have o1 : W1.ownsRow w1.heap.size 44 3 v1 s.length (ps.flatMap tabC) := (by simpa using hown1); obtain ⟨g, cap1, rfl, hc1, hgb, hgl⟩ := own_form o1 (by omega))
    have rz := r0
    clear yz0 yc0 yc1 yc2 yc3 yc4 yc5 yc6 yc7 yr0 yx0 yx1 yx2
    obtain ⟨W2, hW⟩ : ∃ W, W1.alloc (.cells #[.slice (some ⟨g, 0, none⟩) s.length cap1] 24) = W := ⟨_, rfl⟩
    rw [hW]
    have hb2 : Below w1.heap.size w1 W2 := by rw [← hW]; exact hB1.trans ((below_box W1 _).mono hB1.size)
    replace z0 := cellB hb2 z0
    replace c0 := cellB hb2 c0
    replace c1 := cellB hb2 c1
    replace c2 := cellB hb2 c2
    replace c3 := cellB hb2 c3
    replace c4 := cellB hb2 c4
    replace c5 := cellB hb2 c5
    replace c6 := cellB hb2 c6
    replace c7 := cellB hb2 c7
    replace r0 := cellB hb2 r0
    replace x0 := cellB hb2 x0
    replace x1 := cellB hb2 x1
    replace x2 := cellB hb2 x2
    replace rf := frozenB hb2 rz rf
    replace HB := Lib.hid (HB.out.trans (hb2.mono HB.out.size))
    have ow2 : W2.ownsRow w1.heap.size 44 3 (.slice (some ⟨g, 0, none⟩) s.length cap1) s.length (ps.flatMap tabC) := by rw [← hW]; exact own_below o1 (below_box W1 _)
    have HOW := Lib.hid ow2
    have a0 : W2.cell? ⟨W1.heap.size, 0, none⟩ = some (.slice (some ⟨g, 0, none⟩) s.length cap1) := by rw [← hW]; simp [go_sem]
    have hob2 : W1.heap.size < W2.heap.size := by rw [← hW]; simp
    have hob1 := hB1.size
    have hw1w : w.heap.size + 1 + 1 < w1.heap.size := cellLt rz
    obtain ⟨ob, hob⟩ : ∃ b, W1.heap.size = b := ⟨_, rfl⟩
    rw [hob] at a0 hob1 hob2 hgl
    rw [hob]
    clear hW hb2 ow2 o1 hown1 hg1 hat1 hB1 hob rz HB1 HST
    go_upto_region 6 with fail
    have rz := r0
    obtain ⟨W3, hW⟩ : ∃ W, W2.alloc (.cells #[str t'.name, .slice Aa t'.attrs.length na, .slice Ak t'.key.length nk] 44) = W := ⟨_, rfl⟩
    rw [hW]
    have hb2 : Below W2.heap.size W2 W3 := by rw [← hW]; exact below_box W2 _
    replace z0 := cellB hb2 z0
    replace c0 := cellB hb2 c0
    replace c1 := cellB hb2 c1
    replace c2 := cellB hb2 c2
    replace c3 := cellB hb2 c3
    replace c4 := cellB hb2 c4
    replace c5 := cellB hb2 c5
    replace c6 := cellB hb2 c6
    replace c7 := cellB hb2 c7
    replace r0 := cellB hb2 r0
    replace x0 := cellB hb2 x0
    replace x1 := cellB hb2 x1
    replace x2 := cellB hb2 x2
    replace a0 := cellB hb2 a0
    replace rf := frozenB hb2 rz rf
    replace HB := Lib.hid (HB.out.trans (hb2.mono HB.out.size))
    have HOW3 := Lib.hid (own_below HOW.out hb2)
    have X0 : W3.cell? ⟨W2.heap.size, 0, none⟩ = some (str t'.name) := by rw [← hW]; simp [go_sem]
    have X1 : W3.cell? ⟨W2.heap.size, 1, none⟩ = some (.slice Aa t'.attrs.length na) := by rw [← hW]; simp [go_sem]
    have X2 : W3.cell? ⟨W2.heap.size, 2, none⟩ = some (.slice Ak t'.key.length nk) := by rw [← hW]; simp [go_sem]
    have XFA : ∀ j, W3.frozen? ⟨W2.heap.size, j, none⟩ = false := fun j => by rw [← hW]; exact frozen_new W2 _ _ j
    have hxb2 : W3.heap.size = W2.heap.size + 1 := by rw [← hW]; simp
    obtain ⟨xb, hxb⟩ : ∃ b, W2.heap.size = b := ⟨_, rfl⟩
    rw [hxb] at X0 X1 X2 XFA hxb2 hob2
    rw [hxb]
    have HXB := Lib.hid hxb2
    clear hW hb2 hxb rz HOW hxb2
    have yX1 := fun q => Cell.alloc X1 q
    have HSA3 := Lib.hid (HSA.out.below (HB.out.trans ((below_box W3 (.cells #[] 53)).mono HB.out.size)))
    have HB4 := Lib.hid (fun W4 (q : (W3.alloc (.cells #[] 53)).grownBy W4 (some W3.heap.size)) => (show Below W3.heap.size W3 W4 from (below_box W3 _).grown q (by simp) (by intro k hk; cases hk; exact Nat.le_refl _)))
    go_upto_region 7 with (at_builtin; (refine wpList_app elemAttr rfl (.tmp 34) (.tmp 36) rfl (base := W3.heap.size) (by rfl) (World.ownsRow_made W3 #[] 0 (Nat.le_refl _) (Nat.zero_le _) rfl) (by rfl) HSA3.out (by omega) (by simp) ?_; intro v4 W4 hown4 hg4 hat4; have hB4 := HB4.out W4 hg4; have o4 : W4.ownsRow W3.heap.size 53 6 v4 t'.attrs.length (qs.flatMap attrC) := (by simpa using hown4); obtain ⟨ga, capa, rfl, hca, hgab, hgal⟩ := own_form o4 (by omega); have Z1 := cellB hB4 X1; have ZF1 := frozenB hB4 X1 (XFA 1)))
    have hxb2 := HXB.out
    obtain ⟨W5, hW⟩ : ∃ W, W4.setCell ⟨xb, 1, none⟩ (.slice (some ⟨ga, 0, none⟩) t'.attrs.length capa) = W := ⟨_, rfl⟩
    rw [hW]
    have T5 : Tch (fun b => b = xb) W3 W5 := by rw [← hW]; exact Tch.set (S := fun b => b = xb) (p := ⟨xb, 1, none⟩) (Tch.of_below hB4) rfl _
    have hs5 : W5.heap.size = W4.heap.size := by rw [← hW]; simp
    have HB5 := Lib.hid (show Below w.heap.size w W5 from HB.out.trans (T5.below HB.out.size (fun i hi e => by omega)))
    skip
    have rzz := r0
    replace z0 := T5.cell z0 (by have := cellLt z0; omega)
    replace c0 := T5.cell c0 (by have := cellLt c0; omega)
    replace c1 := T5.cell c1 (by have := cellLt c1; omega)
    replace c2 := T5.cell c2 (by have := cellLt c2; omega)
    replace c3 := T5.cell c3 (by have := cellLt c3; omega)
    replace c4 := T5.cell c4 (by have := cellLt c4; omega)
    replace c5 := T5.cell c5 (by have := cellLt c5; omega)
    replace c6 := T5.cell c6 (by have := cellLt c6; omega)
    replace c7 := T5.cell c7 (by have := cellLt c7; omega)
    replace r0 := T5.cell r0 (by have := cellLt r0; omega)
    replace x0 := T5.cell x0 (by have := cellLt x0; omega)
    replace x1 := T5.cell x1 (by have := cellLt x1; omega)
    replace x2 := T5.cell x2 (by have := cellLt x2; omega)
    replace a0 := T5.cell a0 (by omega)
    replace rf := T5.frozen (o := 0) rzz rf (by omega)
    have HO5 := Lib.hid (own_heap HOW3.out (fun q e => by cases e; exact T5.block g (by omega) (by omega)))
    have HA5 := Lib.hid (show W5.ownsRow W3.heap.size 53 6 (.slice (some ⟨ga, 0, none⟩) t'.attrs.length capa) t'.attrs.length (qs.flatMap attrC) from own_heap o4 (fun q e => by cases e; rw [← hW]; exact Below.heap_setCell _ _ _ _ (by show ga ≠ xb; omega)))
    have X0 : W5.cell? ⟨xb, 0, none⟩ = some (str t'.name) := by rw [← hW, World.cell?_setCell_other _ _ _ _ (by simp)]; exact cellB hB4 X0
    have X2 : W5.cell? ⟨xb, 2, none⟩ = some (.slice Ak t'.key.length nk) := by rw [← hW, World.cell?_setCell_other _ _ _ _ (by simp)]; exact cellB hB4 X2
    have X1_ := X1
    replace X1 : W5.cell? ⟨xb, 1, none⟩ = some (.slice (some ⟨ga, 0, none⟩) t'.attrs.length capa) := by rw [← hW]; exact World.cell?_setCell_same _ _ _ Z1
    have XF : ∀ j, W5.frozen? ⟨xb, j, none⟩ = false := fun j => by rw [← hW, World.frozen?_setCell]; exact frz_all hB4 X1_ XFA j
    have hgg : g < ga := by omega
    have hgx : g < xb := by omega
    have hox : ob < xb := by omega
    have hxa : xb < ga := by omega
    have hgaw : ga < W5.heap.size := by omega
    clear hW T5 o4 hown4 hg4 hat4 hB4 Z1 ZF1 yX1 HSA HSA3 HB4 HOW3 X1_ XFA rzz HS hs5
    have hkk : Alt2 t' c u := by
      have hk := HK.out
      rcases HAL.out.kinds with h | h | h | h
      · have := h.1; omega
      · exact h
      · have := h.1; omega
      · have := h.1; omega
    obtain ⟨_, p, hp, hcp, hu, _⟩ := hkk
    rw [HY.out] at hcp
    subst hcp
    have hlc := cellLt c0
    have n1 : ¬ ga = xb := by omega
    have n2 : ¬ xb = ga := by omega
    have n3 : ¬ ga = w.heap.size + 1 := by omega
    have n4 : ¬ w.heap.size + 1 = ga := by omega
    have n5 : ¬ w.heap.size + 1 = xb := by omega
    have n6 : ¬ xb = w.heap.size + 1 := by omega
    have HU := Lib.hid hu
    clear hu
    have hwn := HMT.out.1
    obtain ⟨q, hq⟩ : ∃ q, q = p + 1 := ⟨_, rfl⟩
    have HA6 := HA5.out
    rw [← HQL.out] at HA6
    have hpq : p < qs.length := by rw [HQL.out]; exact hp
    obtain ⟨E, news, hE, hnl, hsrc, hone, hroom, hbg, hle, hcm, hown, hgr⟩ := eraseA attrC_len qs W3.heap.size ga capa p q hq hpq W5.drew HA6 (fun x hx u hu => by
      simp only [attrC, List.mem_cons, List.not_mem_nil, or_false] at hu
      rcases hu with rfl | rfl | rfl | rfl | rfl | rfl <;> first | exact (HQW.out x hx).isSl.one | rfl)
    rw [HQL.out] at hnl hle hown
    obtain ⟨i0, hi0, hz0, hz1, hz2⟩ := info_parts elemAttr.hi
    obtain ⟨W6, hW6⟩ : ∃ W6, W6 = W5.drew.setCells ga (0 + p * 6) news := ⟨_, rfl⟩
    rw [← hW6] at hown hgr
    have T6 := Lib.hid ((Tch.drewN (fun b => b = ga) W5 1).trans (Tch.of_grown (S := fun b => b = ga) (a := W5.drew) (b := W6) hgr (fun i e => by cases e; rfl)))
    have y1 := T6.out.cell X1 (by omega)
    have yf1 := T6.out.frozen X1 (XF 1) (by omega)
    have y2 := T6.out.cell X2 (by omega)
    have yf2 := T6.out.frozen X2 (XF 2) (by omega)
    have HW6 := Lib.hid hW6
    have HOW := Lib.hid hown
    have HSRC := Lib.hid hsrc
    have HONE := Lib.hid hone
    have HROOM := Lib.hid hroom
    have HNL := Lib.hid hnl
    have HQ := Lib.hid hq
    have h1 : p ≤ capa := by omega
    have h2 : q ≤ capa := by omega
    have h3 : q ≤ t'.attrs.length := by omega
    have h6 : IntKind.i64.wrap ((p : Int) + 1) = (q : Int) := (IntWalk.i64_in _ (by omega)).trans (by omega)
    have h7 : p ≤ t'.attrs.length := by omega
    have h4 : capa ≤ 9223372036854775807 := by unfold maxLen at hcm; omega
    have h5 : ¬ capa = p + (t'.attrs.length - q) := by omega
    have h9 : p + (t'.attrs.length - q) ≤ capa := by omega
    clear hown hgr hsrc hone hroom hnl hW6 hbg hcm hq HA6
    go_upto_region 11 with fail
    go_cut [15, 34] from 152 (fun _ _ wz => wz = W6.setCell ⟨xb, 1, none⟩ (.slice (some ⟨ga, 0, none⟩) (p + (t'.attrs.length - q)) capa))
    case first =>
      have yX1 := fun m => (show (W5.drewN m).cell? ⟨xb, 1, none⟩ = some (.slice (some ⟨ga, 0, none⟩) t'.attrs.length capa) from X1)
      go_region_law (refine step_append_room rfl (.tmp 60) (.tmp 65) 41 rfl 53 i0 6 elemAttr.ht hi0 hz1 ga 0 p capa (by simp [Act.eval, Act.put]) E (t'.attrs.length - q) (capa - q) news (by simp [Act.eval, Act.put]) HNL.out HSRC.out HONE.out (by omega) HROOM.out ?_; rw [← HW6.out])
      all_goals
        clear yX1
        go_wp2_with fail
        go_meet
        case rel => rfl
    case rest =>
      subst hcut
      go_upto_region 13 with fail
      have hpq1 : p + (t'.attrs.length - q) = t'.attrs.length - 1 := by have := HQ.out; omega
      rw [hpq1]
      obtain ⟨W8, hW⟩ : ∃ W, (W6.setCell ⟨xb, 1, none⟩ (.slice (some ⟨ga, 0, none⟩) (t'.attrs.length - 1) capa)).setCell ⟨xb, 2, none⟩ (.slice none 0 0) = W := ⟨_, rfl⟩
      rw [hW]
      have T8 : Tch (fun b => b = ga ∨ b = xb) W5 W8 := by rw [← hW]; exact Tch.set (S := fun b => b = ga ∨ b = xb) (Tch.set (S := fun b => b = ga ∨ b = xb) (T6.out.wider (fun i _ h => Or.inl h)) (p := ⟨xb, 1, none⟩) (Or.inr rfl) _) (p := ⟨xb, 2, none⟩) (Or.inr rfl) _
      have hs8 : W6.heap.size = W8.heap.size := by rw [← hW]; simp
      have hs6 : W5.heap.size ≤ W8.heap.size := T8.size
      have hzl := cellLt z0
      have hbl : b < w.heap.size := hbw
      have hx3 := HXB.out
      have hw1 : w.heap.size + 1 + 1 < xb := by have := cellLt r0; omega
      have X0' : W8.cell? ⟨xb, 0, none⟩ = some (str t'.name) := by rw [← hW, World.cell?_setCell_other _ _ _ _ (by simp), World.cell?_setCell_other _ _ _ _ (by simp)]; exact T6.out.cell X0 (by omega)
      have X1' : W8.cell? ⟨xb, 1, none⟩ = some (.slice (some ⟨ga, 0, none⟩) (t'.attrs.length - 1) capa) := by rw [← hW, World.cell?_setCell_other _ _ _ _ (by simp)]; exact World.cell?_setCell_same _ _ _ y1
      have X2' : W8.cell? ⟨xb, 2, none⟩ = some (.slice none 0 0) := by
        rw [← hW]
        exact World.cell?_setCell_same _ _ _ ((World.cell?_setCell_other _ _ _ _ (by simp)).trans y2)
      have F2' : W8.frozen? ⟨xb, 2, none⟩ = false := by rw [← hW, World.frozen?_setCell, World.frozen?_setCell]; exact yf2
      have Z0 := T8.cell z0 (by omega)
      have K2 := T8.cell x2 (by omega)
      replace a0 := T8.cell a0 (by omega)
      have rzz := r0
      replace rf := T8.frozen (o := 0) rzz rf (by omega)
      replace r0 := T8.cell r0 (by omega)
      have HB8 := Lib.hid (show Below w.heap.size w W8 from HB5.out.trans (T8.below HB5.out.size (fun i hi e => by rcases e with e | e <;> omega)))
      have HO8 := Lib.hid (own_heap HO5.out (fun q e => by cases e; exact T8.block g (by omega) (by omega)))
      have HA8 := Lib.hid (show W8.ownsRow W3.heap.size 53 6 (.slice (some ⟨ga, 0, none⟩) (t'.attrs.length - 1) capa) (t'.attrs.length - 1) ((qs.eraseIdx p).flatMap attrC) from own_heap HOW.out (fun q e => by
        cases e
        rw [← hW]
        exact (Below.heap_setCell _ _ _ _ (by show ga ≠ xb; omega)).trans (Below.heap_setCell _ _ _ _ (by show ga ≠ xb; omega))))
      have hkn := HMT.out.2.1
      have HKR := Lib.hid (HAL.out.t_ok.key.2.1)
      have ha12 := HAL.out.t_ok.len
      clear hW T8 T6 y1 yf1 y2 yf2 HW6 HOW HSRC HONE HROOM HNL hs8 rzz z0 x0 x1 x2 c0 c1 c2 c3 c4 c5 c6 c7 X0 X1 X2 XF h1 h2 h3 h4 h5 h6 h7 h9 HA5 HO5 HB5
      go_wp2_with fail
      go_loopw [11] (fun i wr => KeyAt xb t'.name ga (t'.attrs.length - 1) capa t'.key p W8 wr i) (fun i _ => t'.key.length - (intOf i).toNat)
      case atStart => exact ⟨0, _, by omega, by simp, X2', F2', X0', X1', World.ownsRow_nil _ _ _ _, Tch.refl _ _⟩
      case round =>
        obtain ⟨j, vk, hj, rfl, M2, MF, M0, M1, hrow, ht⟩ := hrel
        obtain ⟨Ak2, ck2, rfl⟩ := own_isSl hrow
        have HR := Lib.hid hrow
        have HT := Lib.hid ht
        have z0 := ht.cell Z0 (by omega)
        have x2 := ht.cell K2 (by omega)
        have hsr := ht.size
        have HBr := Lib.hid (HB8.out.trans (ht.below HB8.out.size (fun i hi e => by omega)))
        clear X0' X1' X2' F2' hrow ht
        by_cases hlt : j < t'.key.length
        · obtain ⟨bk, ok, e, tk⟩ := int_row HVK.out hlt
          subst e
          obtain ⟨x, hx⟩ : ∃ x, t'.key[j] = x := ⟨_, rfl⟩
          obtain ⟨hr1, hr2⟩ := HKR.out x (by rw [← hx]; exact List.getElem_mem hlt)
          rw [hx] at tk
          have tk1 := cellB HBr.out tk
          have j1 : (0 : Int) ≤ (j : Int) := by omega
          have j2 : (j : Int) < (t'.key.length : Int) := by omega
          have l1 : j + 1 ≤ 100000 := by omega
          have hbk : bk < w.heap.size := cellLt tk
          have hfl : ((t'.key.take (j + 1)).map (lower (p : Int))).flatMap intC = ((t'.key.take j).map (lower (p : Int))).flatMap intC ++ [.int .i64 (lower (p : Int) x)] := by
            rw [List.take_succ_eq_append_getElem hlt, List.map_append, List.flatMap_append, hx]
            rfl
          have HFL := Lib.hid hfl
          clear tk hx hfl
          have BK : Hid (∀ y W1, (wr.alloc (.cells #[.int .i64 y] 3)).grownBy W1 (Value.slice Ak2 j ck2).ownBlock → Tch (fun b => b = xb) W8 W1 ∧ wr.heap.size ≤ W1.heap.size ∧ W1.cell? ⟨xb, 0, none⟩ = some (str t'.name) ∧ W1.cell? ⟨xb, 1, none⟩ = some (.slice (some ⟨ga, 0, none⟩) (t'.attrs.length - 1) capa) ∧ W1.cell? ⟨xb, 2, none⟩ = some (.slice Ak2 j ck2) ∧ W1.frozen? ⟨xb, 2, none⟩ = false) := Lib.hid (fun y W1 g1 => by
            have hown : ∀ i, (Value.slice Ak2 j ck2).ownBlock = some i → W8.heap.size ≤ i := fun i e => (HR.out.lt i e).1
            have h1 : Tch (fun b => (Value.slice Ak2 j ck2).ownBlock = some b) wr W1 := (Tch.of_below (below_box wr _)).trans (Tch.of_grown g1 (fun i e => e))
            have hn : ¬ (Value.slice Ak2 j ck2).ownBlock = some xb := fun e => by have := hown xb e; omega
            exact ⟨⟨h1.os.trans HT.out.os, h1.tape.trans HT.out.tape, h1.output.trans HT.out.output, Nat.le_trans HT.out.size h1.size, fun i hi hs => (h1.block i (Nat.lt_of_lt_of_le hi HT.out.size) (fun e => by have := hown i e; omega)).trans (HT.out.block i hi hs)⟩, h1.size, h1.cell M0 hn, h1.cell M1 hn, h1.cell M2 hn, h1.frozen M2 MF hn⟩)
          by_cases hgt : (p : Int) < x
          · have hlw : lower (p : Int) x = x - 1 := by unfold lower; rw [if_pos hgt]
            have HLW := Lib.hid hlw
            clear hlw
            go_wp2_with (at_builtin; (refine wpList_app elemInt rfl (.tmp 95) (.tmp 97) rfl (base := W8.heap.size) (by rfl) (World.ownsRow.alloc HR.out _) (by rfl) (src_new wr _ _ rfl) l1 (by simp; omega) ?_; intro v1 W1 hown1 hg1 hat1; obtain ⟨t1, s1, b0, b1, b2, f2⟩ := BK.out _ W1 hg1; obtain ⟨A1, cc1, rfl⟩ := own_isSl hown1))
            have HN := Lib.hid (show (W1.setCell ⟨xb, 2, none⟩ (.slice A1 (j + 1) cc1)).ownsRow W8.heap.size 3 1 (.slice A1 (j + 1) cc1) (j + 1) (((t'.key.take (j + 1)).map (lower (p : Int))).flatMap intC) from by
              rw [HFL.out, HLW.out]
              exact own_heap hown1 (fun q e => Below.heap_setCell _ _ _ _ (by show q ≠ xb; have := (hown1.lt q e).1; omega)))
            have HT1 := Lib.hid (t1.set (p := ⟨xb, 2, none⟩) rfl (.slice A1 (j + 1) cc1))
            have n0 := (World.cell?_setCell_other W1 ⟨xb, 2, none⟩ ⟨xb, 0, none⟩ (.slice A1 (j + 1) cc1) (by simp)).trans b0
            have n1 := (World.cell?_setCell_other W1 ⟨xb, 2, none⟩ ⟨xb, 1, none⟩ (.slice A1 (j + 1) cc1) (by simp)).trans b1
            have n2 := World.cell?_setCell_same W1 ⟨xb, 2, none⟩ (.slice A1 (j + 1) cc1) b2
            have nf := (World.frozen?_setCell W1 ⟨xb, 2, none⟩ ⟨xb, 2, none⟩ (.slice A1 (j + 1) cc1)).trans f2
            clear hown1 hg1 hat1 t1
            go_wp2_with fail
            go_roundw
            case rel => exact ⟨j + 1, _, by omega, by simp, n2, nf, n0, n1, HN.out, HT1.out⟩
            case measure => simp [intOf]; omega
          · have hlw : lower (p : Int) x = x := by unfold lower; rw [if_neg hgt]
            have HLW := Lib.hid hlw
            clear hlw
            go_wp2_with (at_builtin; (refine wpList_app elemInt rfl (.tmp 95) (.tmp 97) rfl (base := W8.heap.size) (by rfl) (World.ownsRow.alloc HR.out _) (by rfl) (src_new wr _ _ rfl) l1 (by simp; omega) ?_; intro v1 W1 hown1 hg1 hat1; obtain ⟨t1, s1, b0, b1, b2, f2⟩ := BK.out _ W1 hg1; obtain ⟨A1, cc1, rfl⟩ := own_isSl hown1))
            have HN := Lib.hid (show (W1.setCell ⟨xb, 2, none⟩ (.slice A1 (j + 1) cc1)).ownsRow W8.heap.size 3 1 (.slice A1 (j + 1) cc1) (j + 1) (((t'.key.take (j + 1)).map (lower (p : Int))).flatMap intC) from by
              rw [HFL.out, HLW.out]
              exact own_heap hown1 (fun q e => Below.heap_setCell _ _ _ _ (by show q ≠ xb; have := (hown1.lt q e).1; omega)))
            have HT1 := Lib.hid (t1.set (p := ⟨xb, 2, none⟩) rfl (.slice A1 (j + 1) cc1))
            have n0 := (World.cell?_setCell_other W1 ⟨xb, 2, none⟩ ⟨xb, 0, none⟩ (.slice A1 (j + 1) cc1) (by simp)).trans b0
            have n1 := (World.cell?_setCell_other W1 ⟨xb, 2, none⟩ ⟨xb, 1, none⟩ (.slice A1 (j + 1) cc1) (by simp)).trans b1
            have n2 := World.cell?_setCell_same W1 ⟨xb, 2, none⟩ (.slice A1 (j + 1) cc1) b2
            have nf := (World.frozen?_setCell W1 ⟨xb, 2, none⟩ ⟨xb, 2, none⟩ (.slice A1 (j + 1) cc1)).trans f2
            clear hown1 hg1 hat1 t1
            go_wp2_with fail
            go_roundw
            case rel => exact ⟨j + 1, _, by omega, by simp, n2, nf, n0, n1, HN.out, HT1.out⟩
            case measure => simp [intOf]; omega
        · have hje : j = t'.key.length := by omega
          subst hje
          have hrk := HR.out
          rw [List.take_length] at hrk
          have HRK := Lib.hid hrk
          have hjw := HT.out.size
          replace a0 := HT.out.cell a0 (by omega)
          have rzz := r0
          replace rf := HT.out.frozen (o := 0) rzz rf (by omega)
          replace r0 := HT.out.cell r0 (by omega)
          have HBX := Lib.hid HBr.out
          have HOX := Lib.hid (own_heap HO8.out (fun q e => by cases e; exact HT.out.block g (by omega) (by omega)))
          have HUA := Lib.hid (show ∀ W', Tch (fun b => b = g ∨ b = w.heap.size + 1 + 1) wr W' → Attrs W' (.slice (some ⟨ga, 0, none⟩) (t'.attrs.length - 1) capa) u.attrs ∧ Ints W' (.slice Ak2 t'.key.length ck2) u.key from fun W' hT => by
            have hbw := HBX.out.trans (hT.below HBX.out.size (fun i hi e => by rcases e with e | e <;> omega))
            have hr := own_heap (w' := W') HA8.out (fun q e => by cases e; exact (hT.block ga (by omega) (fun e => by rcases e with e | e <;> omega)).trans (HT.out.block ga (by omega) (by omega)))
            have hlen : (qs.eraseIdx p).length = t'.attrs.length - 1 := by rw [List.length_eraseIdx, if_pos hpq, HQL.out]
            have h1 := attrs_shut (attrs_of_own hlen.symm hr) (fun q hq => (HQW.out q (List.mem_of_mem_eraseIdx hq)).below hbw)
            rw [erase_mapR, HQF.out] at h1
            have h2 := ints_of_own (n := t'.key.length) (by simp) (own_heap (w' := W') hrk (fun q e => hT.block q (hrk.lt q e).2 (fun e2 => by have := (hrk.lt q e).1; rcases e2 with e2 | e2 <;> omega)))
            rw [HU.out]
            exact ⟨h1, h2⟩)
          clear hrk HR HT HRK rzz
          have X0 := M0
          have X1 := M1
          have X2 := M2
          go_upto_region 26 with fail
          have HPK2 := HPK.out
          have hG : ∀ i, i < 3 → wr.cell? ⟨g, k * 3 + i, none⟩ = (tabC (t', .slice Aa t'.attrs.length na, .slice Ak t'.key.length nk))[i]? := fun i hi => by
            rw [HOX.out.cellAt _ (by omega), flat_get tabC_len ps k i hkp hi, HPK.out]
          have G0 : wr.cell? ⟨g, k * 3, none⟩ = some (str t'.name) := hG 0 (by decide)
          have G1 : wr.cell? ⟨g, k * 3 + 1, none⟩ = some (.slice Aa t'.attrs.length na) := hG 1 (by decide)
          have G2 : wr.cell? ⟨g, k * 3 + 2, none⟩ = some (.slice Ak t'.key.length nk) := hG 2 (by decide)
          have GF0 := HOX.out.frozenAt (k * 3)
          have GF1 := HOX.out.frozenAt (k * 3 + 1)
          have GF2 := HOX.out.frozenAt (k * 3 + 2)
          have hrg : w.heap.size + 1 + 1 < g := by omega
          have m1 : ¬ g = w.heap.size + 1 + 1 := by omega
          have m2 : ¬ w.heap.size + 1 + 1 = g := by omega
          have m3 : ¬ g = ob := by omega
          have m4 : ¬ ob = g := by omega
          have m5 : ¬ g = xb := by omega
          have m6 : ¬ xb = g := by omega
          have m7 : ¬ ob = w.heap.size + 1 + 1 := by omega
          have m8 : ¬ w.heap.size + 1 + 1 = ob := by omega
          have T7 : Tch (fun b => b = g ∨ b = w.heap.size + 1 + 1) wr (((wr.setCell ⟨g, k * 3, none⟩ (str t'.name)).setCell ⟨g, k * 3 + 1, none⟩ (.slice (some ⟨ga, 0, none⟩) (t'.attrs.length - 1) capa)).setCell ⟨g, k * 3 + 2, none⟩ (.slice Ak2 t'.key.length ck2)) :=
            (((Tch.refl _ _).set (p := ⟨g, k * 3, none⟩) (Or.inl rfl) _).set (p := ⟨g, k * 3 + 1, none⟩) (Or.inl rfl) _).set (p := ⟨g, k * 3 + 2, none⟩) (Or.inl rfl) _
          have rr3 : (((wr.setCell ⟨g, k * 3, none⟩ (str t'.name)).setCell ⟨g, k * 3 + 1, none⟩ (.slice (some ⟨ga, 0, none⟩) (t'.attrs.length - 1) capa)).setCell ⟨g, k * 3 + 2, none⟩ (.slice Ak2 t'.key.length ck2)).cell? ⟨w.heap.size + 1 + 1, 0, none⟩ = some (.slice none 0 0) := by
            rw [World.cell?_setCell_other _ _ _ _ (by simp <;> omega), World.cell?_setCell_other _ _ _ _ (by simp <;> omega), World.cell?_setCell_other _ _ _ _ (by simp <;> omega)]
            exact r0
          have rz := World.cell?_setCell_same _ ⟨w.heap.size + 1 + 1, 0, none⟩ (.slice (some ⟨g, 0, none⟩) s.length cap1) rr3
          have T8 := Lib.hid (T7.set (p := ⟨w.heap.size + 1 + 1, 0, none⟩) (Or.inr rfl) (.slice (some ⟨g, 0, none⟩) s.length cap1))
          have s1 := (HOX.out.stored (k * 3 + 0) (str t'.name)).1
          rw [flat_set tabC_len ps k 0 hkp _ (u, .slice Aa t'.attrs.length na, .slice Ak t'.key.length nk) (by decide) (by rw [HPK.out]; show _ = [str u.name, _, _]; rw [HAL.out.name]; rfl)] at s1
          have s2 := (s1.stored (k * 3 + 1) (.slice (some ⟨ga, 0, none⟩) (t'.attrs.length - 1) capa)).1
          rw [flat_set tabC_len _ k 1 (by simpa using hkp) _ (u, .slice (some ⟨ga, 0, none⟩) (t'.attrs.length - 1) capa, .slice Ak t'.key.length nk) (by decide) (by rw [List.getElem_set_self]; rfl), List.set_set] at s2
          have s3 := (s2.stored (k * 3 + 2) (.slice Ak2 t'.key.length ck2)).1
          rw [flat_set tabC_len _ k 2 (by simpa using hkp) _ (u, .slice (some ⟨ga, 0, none⟩) (t'.attrs.length - 1) capa, .slice Ak2 t'.key.length ck2) (by decide) (by rw [List.getElem_set_self]; rfl), List.set_set] at s3
          have HO8 := Lib.hid (own_heap (w' := (((wr.setCell ⟨g, k * 3, none⟩ (str t'.name)).setCell ⟨g, k * 3 + 1, none⟩ (.slice (some ⟨ga, 0, none⟩) (t'.attrs.length - 1) capa)).setCell ⟨g, k * 3 + 2, none⟩ (.slice Ak2 t'.key.length ck2)).setCell ⟨w.heap.size + 1 + 1, 0, none⟩ (.slice (some ⟨g, 0, none⟩) s.length cap1)) s3 (fun q e => by cases e; exact Below.heap_setCell _ _ _ _ (by show g ≠ w.heap.size + 1 + 1; omega)))
          have HB8 := Lib.hid (show Below w.heap.size w _ from HBX.out.trans (T8.out.below HBX.out.size (fun i hi e => by rcases e with e | e <;> omega)))
          have HU8 := Lib.hid (HUA.out _ T8.out)
          clear s1 s2 s3 T7 hG HPK2
          go_wp2_with fail
          refine bodyPost_ret (v := .tuple #[.agg #[.slice (some ⟨g, 0, none⟩) s.length cap1], .int .i64 0]) (by simp [results, Tryz.results12, go_sem, rz]) rfl ?_
          refine ⟨_, by rw [HAL.out.app], ?_, HB8.out⟩
          rw [HAL.out.app]
          exact apply_end HFS.out HPS.out HB8.out HO8.out HU8.out
  · have q1 : (er != 0) = true := by simpa using he0
    have HF := Lib.hid (apply_err her he0)
    have rr := World.cell?_setCell_same w1 ⟨w.heap.size + 1 + 1, 0, none⟩ (.slice none 0 0) r0
    clear hij her
    go_wp2_with fail
    refine bodyPost_ret (v := .tuple #[.agg #[.slice none 0 0], .int .i64 er]) (by simp [results, Tryz.results12, go_sem, rr]) rfl ?_
    exact ⟨.slice none 0 0, by rw [HF.out], by rw [HF.out]; exact Slc.nil _, HB.out.setCell (p := ⟨w.heap.size + 1 + 1, 0, none⟩) (by show w.heap.size ≤ w.heap.size + 1 + 1; omega) _⟩
end Go.Proofs.YteokcgfbhaeklaaGreatDoor
