/- The program's expressions: a name of an operation without a bracket behind it. -/
import Derived.Test.YtcgkaecaddpenaaGreatDoorPsPgQ
namespace Go.Proofs.YtcgkaecaddpenaaGreatDoor
open Go.RowKit
open L7 (Tk)
open L8
set_option linter.unusedSimpArgs false

theorem St.second {w : World} {p : Ps} {r : List Tk} {lv : Int} {off cap : Nat} (h : St w p r lv off cap) (hr : r ≠ []) :
    w.cell? ⟨p.b, off + 4, none⟩ = some (.int .i64 (hdT p.n r.tail).kind) ∧ w.cell? ⟨p.b, off + 4 + 1, none⟩ = some (str (hdT p.n r.tail).text) ∧ w.cell? ⟨p.b, off + 4 + 2, none⟩ = some (.int .i64 (hdT p.n r.tail).n) ∧ w.cell? ⟨p.b, off + 4 + 3, none⟩ = some (.int .i64 (hdT p.n r.tail).at_) := by
  have hg : (r ++ [ending p.n])[1]? = some (hdT p.n r.tail) := by
    cases r with
    | nil => exact absurd rfl hr
    | cons t r =>
      cases r with
      | nil => rfl
      | cons u r => rfl
  exact ⟨h.toks 1 _ hg 0 (by decide), h.toks 1 _ hg 1 (by decide), h.toks 1 _ hg 2 (by decide), h.toks 1 _ hg 3 (by decide)⟩
set_option maxRecDepth 100000 in
set_option maxHeartbeats 8000000 in
theorem expr_b {p : Ps} {r : List Tk} {lv : Int} {d : Nat} {kk : Int} {F : Nat} (hlk : ∀ W m, Tab W (opVs p.g) m opsW → (Instr.lookup 143 (.map (some m)) (str (headW r)) true).run Tryz.prog W = .ok (.tuple #[.agg #[.int .i64 kk, .func (Fn.func F) #[ptr p.g] #[]], .bool true]) W) (hlv : lv + 1 ≤ 12) (hl0 : 0 ≤ lv) (hEx : ∀ W r, Sta W p r (lv + 1) → Calls Tryz.prog 76 #[ptr p.g] W (PPost p (lv + 1) W (isEx W.heap.size) (exprP d r)))
    (hopc : opC r = 0) (hrn : r ≠ []) (hwn : headW r.tail ≠ [40])  (w : World) (h : Sta w p r lv) : Calls Tryz.prog 76 #[ptr p.g] w (PPost p lv w (isEx w.heap.size) (exprP (d + 1) r)) := by
  obtain ⟨R, hR⟩ : ∃ R, exprP (d + 1) r = R := ⟨_, rfl⟩
  rw [hR]
  have R0 := Lib.hid hR.symm
  have HEX := Lib.hid hEx
  have HLO := Lib.hid hlk
  have S0 := Lib.hid h
  obtain ⟨A, hA⟩ : ∃ A, w.heap.size = A := ⟨_, rfl⟩
  have HA := Lib.hid hA
  have G := Lib.hid (show p.g < A ∧ p.b < A from by have q1 := h.lt; have q2 := h.lt2; rw [hA] at q1 q2; exact ⟨q1, q2⟩)
  obtain ⟨off, cap, hst⟩ := h
  have k0 := fun o => (hst.keep (below_box w o)).c1
  have k1 := fun o => (hst.keep (below_box w o)).f1
  have hL := hst.level (lv + 1)
  have k2 := fun o => (hL.keep (below_box _ o)).c1
  have k3 := fun o => (hL.keep (below_box _ o)).c0
  have k4 := fun o => (hL.keep (below_box _ o)).head.2.2.2
  have k5 := fun o => (hst.keep (below_box w o)).c0
  have k6 := fun o => (hst.keep (below_box w o)).head.2.2.2
  have n3 : (p.b = p.g) = False := eq_false hst.ne
  have n4 : (p.g = p.b) = False := eq_false (fun e => hst.ne e.symm)
  have hcap := hst.hc
  have n1 : (p.g = A) = False := eq_false (by have := G.out; omega)
  have n2 : (A = p.g) = False := eq_false (by have := G.out; omega)
  have i1 : IntKind.i64.wrap (lv + 1) = lv + 1 := IntWalk.i64_in _ (by omega)
  have i2 : ¬ (12 : Int) < lv + 1 := by omega
  have hstH := Lib.hid hst
  clear hR hEx hlk hst hL
  rw [hA]
  go_enter Tryz.func76, Tryz.ntmps76
  go_upto_region 5 with fail
  obtain ⟨w5, h5⟩ : ∃ x, (((w.alloc (.cells #[.int .i64 0, str [], .slice none 0 0, .slice none 0 0, .slice none 0 0, str [], str [], .int .i64 0, .int .i64 0] 49)).setCell ⟨p.g, 1, none⟩ (.int .i64 (lv + 1))).alloc (.cells #[.int .i64 1, str [], .slice none 0 0, .slice none 0 0, .slice none 0 0, str [], str [], .int .i64 0, .int .i64 (hdT p.n r).at_] 49)) = x := ⟨_, rfl⟩
  have hS5 := (((hstH.out.keep (below_box w (.cells #[.int .i64 0, str [], .slice none 0 0, .slice none 0 0, .slice none 0 0, str [], str [], .int .i64 0, .int .i64 0] 49))).level (lv + 1)).keep (below_box _ (.cells #[.int .i64 1, str [], .slice none 0 0, .slice none 0 0, .slice none 0 0, str [], str [], .int .i64 0, .int .i64 (hdT p.n r).at_] 49)))
  have hB5 : Blk (((w.alloc (.cells #[.int .i64 0, str [], .slice none 0 0, .slice none 0 0, .slice none 0 0, str [], str [], .int .i64 0, .int .i64 0] 49)).setCell ⟨p.g, 1, none⟩ (.int .i64 (lv + 1))).alloc (.cells #[.int .i64 1, str [], .slice none 0 0, .slice none 0 0, .slice none 0 0, str [], str [], .int .i64 0, .int .i64 (hdT p.n r).at_] 49)) (A + 1) 49 #[.int .i64 1, str [], .slice none 0 0, .slice none 0 0, .slice none 0 0, str [], str [], .int .i64 0, .int .i64 (hdT p.n r).at_] := by
    have q := Blk.new ((w.alloc (.cells #[.int .i64 0, str [], .slice none 0 0, .slice none 0 0, .slice none 0 0, str [], str [], .int .i64 0, .int .i64 0] 49)).setCell ⟨p.g, 1, none⟩ (.int .i64 (lv + 1))) 49 #[.int .i64 1, str [], .slice none 0 0, .slice none 0 0, .slice none 0 0, str [], str [], .int .i64 0, .int .i64 (hdT p.n r).at_]
    have e : ((w.alloc (.cells #[.int .i64 0, str [], .slice none 0 0, .slice none 0 0, .slice none 0 0, str [], str [], .int .i64 0, .int .i64 0] 49)).setCell ⟨p.g, 1, none⟩ (.int .i64 (lv + 1))).heap.size = A + 1 := by simp; exact HA.out
    rw [e] at q
    exact q
  have hA5 : Blk (((w.alloc (.cells #[.int .i64 0, str [], .slice none 0 0, .slice none 0 0, .slice none 0 0, str [], str [], .int .i64 0, .int .i64 0] 49)).setCell ⟨p.g, 1, none⟩ (.int .i64 (lv + 1))).alloc (.cells #[.int .i64 1, str [], .slice none 0 0, .slice none 0 0, .slice none 0 0, str [], str [], .int .i64 0, .int .i64 (hdT p.n r).at_] 49)) A 49 #[.int .i64 0, str [], .slice none 0 0, .slice none 0 0, .slice none 0 0, str [], str [], .int .i64 0, .int .i64 0] := by
    have q := Blk.new w 49 #[.int .i64 0, str [], .slice none 0 0, .slice none 0 0, .slice none 0 0, str [], str [], .int .i64 0, .int .i64 0]
    rw [HA.out] at q
    exact (q.far (p := ⟨p.g, 1, none⟩) (Nat.ne_of_gt G.out.1) _).alloc _
  have hN5 : Near p.g w (((w.alloc (.cells #[.int .i64 0, str [], .slice none 0 0, .slice none 0 0, .slice none 0 0, str [], str [], .int .i64 0, .int .i64 0] 49)).setCell ⟨p.g, 1, none⟩ (.int .i64 (lv + 1))).alloc (.cells #[.int .i64 1, str [], .slice none 0 0, .slice none 0 0, .slice none 0 0, str [], str [], .int .i64 0, .int .i64 (hdT p.n r).at_] 49)) := ((Tch.of_below (below_box w (.cells #[.int .i64 0, str [], .slice none 0 0, .slice none 0 0, .slice none 0 0, str [], str [], .int .i64 0, .int .i64 0] 49))).trans (near_set _ p.g 1 _)).trans (Tch.of_below (below_box _ (.cells #[.int .i64 1, str [], .slice none 0 0, .slice none 0 0, .slice none 0 0, str [], str [], .int .i64 0, .int .i64 (hdT p.n r).at_] 49)))
  rw [h5] at hS5 hB5 hA5 hN5 ⊢
  clear h5
  obtain ⟨B, hB⟩ : ∃ x, A + 1 = x := ⟨_, rfl⟩
  have HB := Lib.hid hB
  rw [hB] at hB5
  have S5 := Lib.hid hS5
  have B5 := Lib.hid hB5
  have A5 := Lib.hid hA5
  have N5 := Lib.hid hN5
  have GB := Lib.hid (show p.g < B ∧ p.b < B ∧ w.heap.size ≤ B ∧ A < B from by have q1 := G.out; have q2 := HA.out; omega)
  have e0 := hS5.c0
  obtain ⟨e1, e2, e3, e4⟩ := hS5.head
  obtain ⟨⟨tk, tx, tn, ta⟩, hh⟩ : ∃ x, hdT p.n r = x := ⟨_, rfl⟩
  have HH := Lib.hid hh
  rw [hh] at e1 e2 e3 e4
  simp only [hh]
  have CW := Lib.hid (fun W => word_any ⟨tk, tx, tn, ta⟩ W)
  have hlen : (wordT ⟨tk, tx, tn, ta⟩).length ≤ 200000 := by
    have hg := hS5.good
    rw [← hh]
    cases r with
    | nil => exact Nat.zero_le _
    | cons t r =>
      have := (hg t (by simp)).len
      show (wordT t).length ≤ 200000
      unfold wordT
      split
      · omega
      · simp
  obtain ⟨x, hx⟩ : ∃ x, wordT ⟨tk, tx, tn, ta⟩ = x := ⟨_, rfl⟩
  rw [hx] at CW hlen
  have HST := Lib.hid hS5
  have GL := Lib.hid (show p.g < w5.heap.size ∧ p.b < w5.heap.size from ⟨cellLt hS5.c0, cellLt hS5.head.1⟩)
  have HX := Lib.hid (show headW r = x from by rw [headW_hd p.n r, hh]; exact hx)
  have HLK := Lib.hid (fun W wo m (ht : Tab wo (opVs p.g) m opsW) (hb : Below wo.heap.size wo W) => (show (Instr.lookup 143 (.map (some m)) (str x) true).run Tryz.prog W = .ok (.tuple #[.agg #[.int .i64 kk, .func (Fn.func F) #[ptr p.g] #[]], .bool true]) W from by have q := HLO.out W m (ht.keep hb); rw [HX.out] at q; exact q))
  clear hS5 hB5 hA5 hN5 hh hx k0 k1 k2 k3 k4 k5 k6 n1 n2 n3 n4 hB hstH
  go_cut [4, 5] from 28 (fun u4 u5 wz => OpRel w5 wz u4 u5 (.int .i64 kk) (.func (Fn.func F) #[ptr p.g] #[]) true)
  case first =>
    have nf1 : ¬ w5.heap.size = p.g := by have := GL.out; omega
    have nf2 : ¬ w5.heap.size = p.b := by have := GL.out; omega
    have nf3 : ¬ p.g = w5.heap.size := by have := GL.out; omega
    have nf4 : ¬ p.b = w5.heap.size := by have := GL.out; omega
    go_region_held3 (fun w' => w'.cell? ⟨p.g, 0, none⟩ = some (.slice (some ⟨p.b, off, none⟩) (r.length + 1) cap) ∧ w'.cell? ⟨p.b, off, none⟩ = some (.int .i64 tk) ∧ w'.cell? ⟨p.b, off + 1, none⟩ = some (str tx) ∧ w'.cell? ⟨p.b, off + 2, none⟩ = some (.int .i64 tn) ∧ w'.cell? ⟨p.b, off + 3, none⟩ = some (.int .i64 ta)) (go_keep)
      (first | (go_at_call 87; refine (operations_any p.g _).mono ?_; rintro e wo ⟨rfl, ht, hbo⟩; (try (have gawo := cellB (b := w5.heap.size) (o := 0) (v := .int .i64 0) hbo (by first | (simp [go_sem]; done) | exact gaww); have gbwo := cellB (b := w5.heap.size) (o := 1) (v := .nilFunc) hbo (by first | (simp [go_sem]; done) | exact gbww); have gcwo := frozenB (b := w5.heap.size) (o := 0) (v := .int .i64 0) hbo (by first | (simp [go_sem]; done) | exact gaww) (by first | (simp [go_sem]; done) | exact gcww); have gdwo := frozenB (b := w5.heap.size) (o := 1) (v := .nilFunc) hbo (by first | (simp [go_sem]; done) | exact gbww) (by first | (simp [go_sem]; done) | exact gdww))); (try (have iawo := cellB (b := ww.heap.size) (o := 0) (v := .int .i64 0) hbo (by simp [go_sem]); have ibwo := cellB (b := ww.heap.size) (o := 1) (v := .nilFunc) hbo (by simp [go_sem]); have icwo := frozenB (b := ww.heap.size) (o := 0) (v := .int .i64 0) hbo (by simp [go_sem]) (by simp [go_sem]); have idwo := frozenB (b := ww.heap.size) (o := 1) (v := .nilFunc) hbo (by simp [go_sem]) (by simp [go_sem]))); have so : St wo p r (lv + 1) off cap := (by first | exact (HST.out.keep (below_drew w5)).keep hbo | exact ((HST.out.keep (below_drew w5)).keep (below_box _ _)).keep hbo | exact ((HST.out.keep (below_box _ _)).keep (below_drew _)).keep hbo | exact Tw.out.keep hbo | exact (Tw.out.keep (below_box _ _)).keep hbo); have bo : Below w5.heap.size w5 wo := (by first | exact below_up (below_drew w5) hbo (Nat.le_refl _) | exact below_up ((below_drew w5).alloc (Nat.le_refl _) _) hbo (by simp) | exact below_up Uw.out hbo Uw.out.size | exact below_up (Uw.out.alloc Uw.out.size _) hbo (by have := Uw.out.size; simp; omega)); have fo0 := so.c0; have foq := so.head; rw [HH.out] at foq; obtain ⟨fo1, fo2, fo3, fo4⟩ := foq; have To := Lib.hid so; have Uo := Lib.hid bo; have ne1wo : ¬ wo.heap.size = p.g := (by have := Uo.out.size; have := GL.out; omega); have ne2wo : ¬ wo.heap.size = p.b := (by have := Uo.out.size; have := GL.out; omega); have ne3wo : ¬ p.g = wo.heap.size := (by have := Uo.out.size; have := GL.out; omega); have ne4wo : ¬ p.b = wo.heap.size := (by have := Uo.out.size; have := GL.out; omega); have HL0 := (fun W (hb : Below wo.heap.size wo W) => HLK.out W wo _ ht hb); (try simp only [heap_drew, World.size_alloc] at HL0); have HL := Lib.hid HL0; have l1 := HL.out wo (Below.refl _ _); have l2 := (fun o => HL.out (wo.alloc o) (below_box wo o)); clear so bo ht HL0) | (go_at_call 59; refine (CW.out _).mono ?_; rintro e ww ⟨rfl, hbw⟩; (try (have gaww := cellB (b := w5.heap.size) (o := 0) (v := .int .i64 0) hbw (by first | (simp [go_sem]; done) | exact gawo); have gbww := cellB (b := w5.heap.size) (o := 1) (v := .nilFunc) hbw (by first | (simp [go_sem]; done) | exact gbwo); have gcww := frozenB (b := w5.heap.size) (o := 0) (v := .int .i64 0) hbw (by first | (simp [go_sem]; done) | exact gawo) (by first | (simp [go_sem]; done) | exact gcwo); have gdww := frozenB (b := w5.heap.size) (o := 1) (v := .nilFunc) hbw (by first | (simp [go_sem]; done) | exact gbwo) (by first | (simp [go_sem]; done) | exact gdwo))); (try (have iaww := cellB (b := wo.heap.size) (o := 0) (v := .int .i64 0) hbw (by simp [go_sem]); have ibww := cellB (b := wo.heap.size) (o := 1) (v := .nilFunc) hbw (by simp [go_sem]); have icww := frozenB (b := wo.heap.size) (o := 0) (v := .int .i64 0) hbw (by simp [go_sem]) (by simp [go_sem]); have idww := frozenB (b := wo.heap.size) (o := 1) (v := .nilFunc) hbw (by simp [go_sem]) (by simp [go_sem]))); have sw : St ww p r (lv + 1) off cap := (by first | exact (HST.out.keep (below_drew w5)).keep hbw | exact ((HST.out.keep (below_drew w5)).keep (below_box _ _)).keep hbw | exact ((HST.out.keep (below_box _ _)).keep (below_drew _)).keep hbw | exact To.out.keep hbw | exact (To.out.keep (below_box _ _)).keep hbw); have bw : Below w5.heap.size w5 ww := (by first | exact below_up (below_drew w5) hbw (Nat.le_refl _) | exact below_up ((below_drew w5).alloc (Nat.le_refl _) _) hbw (by simp) | exact below_up Uo.out hbw Uo.out.size | exact below_up (Uo.out.alloc Uo.out.size _) hbw (by have := Uo.out.size; simp; omega)); have fw0 := sw.c0; have fwq := sw.head; rw [HH.out] at fwq; obtain ⟨fw1, fw2, fw3, fw4⟩ := fwq; have Tw := Lib.hid sw; have Uw := Lib.hid bw; have ne1ww : ¬ ww.heap.size = p.g := (by have := Uw.out.size; have := GL.out; omega); have ne2ww : ¬ ww.heap.size = p.b := (by have := Uw.out.size; have := GL.out; omega); have ne3ww : ¬ p.g = ww.heap.size := (by have := Uw.out.size; have := GL.out; omega); have ne4ww : ¬ p.b = ww.heap.size := (by have := Uw.out.size; have := GL.out; omega); (try (have l3 := HL.out ww (by first | exact hbw | exact below_up (below_box wo _) hbw (by simp)))); (try (have l4 := (fun o => HL.out (ww.alloc o) ((show Below wo.heap.size wo ww from (by first | exact hbw | exact below_up (below_box wo _) hbw (by simp))).alloc (by first | exact hbw.size | (have := hbw.size; simp at this; omega)) o)))); clear sw bw))
    all_goals
      go_wp2_with fail
      go_meet
      case rel =>
        have hzo := Uo.out.size
        have hzw := Uw.out.size
        first
          | exact ⟨ww.heap.size, rfl, rfl, by simp [go_sem], by simp [go_sem], hzw, Uw.out.alloc hzw _⟩
          | exact ⟨wo.heap.size, rfl, rfl, (World.cell?_setCell_other _ _ _ _ (by simp)).trans (World.cell?_setCell_same _ _ _ iaww), World.cell?_setCell_same _ _ _ ((World.cell?_setCell_other _ _ _ _ (by simp)).trans ibww), hzo, (Uw.out.setCell hzo _).setCell hzo _⟩
          | exact ⟨w5.heap.size, rfl, rfl, (World.cell?_setCell_other _ _ _ _ (by simp)).trans (World.cell?_setCell_same _ _ _ gaww), World.cell?_setCell_same _ _ _ ((World.cell?_setCell_other _ _ _ _ (by simp)).trans gbww), Nat.le_refl _, (Uw.out.setCell (Nat.le_refl _) _).setCell (Nat.le_refl _) _⟩
  case rest =>
    obtain ⟨C, rfl, rfl, q0, q1, hC, hb⟩ := hcut
    have T6 := Lib.hid (HST.out.keep hb)
    have A6 := Lib.hid (A5.out.keep hb)
    have B6 := Lib.hid (B5.out.keep hb)
    have N6 := Lib.hid (N5.out.trans (Tch.of_below hb))
    have ZC := Lib.hid hb.size
    have hB := HB.out
    have g1 : (p.g = B) = False := eq_false (by have := GB.out; omega)
    have g2 : (B = p.g) = False := eq_false (by have := GB.out; omega)
    clear hb e0 e1 e2 e3 e4
    have OPC := Lib.hid hopc
    have HRN := Lib.hid hrn
    have HWN := Lib.hid hwn
    clear hopc hrn hwn
    obtain ⟨y0, y1, y2, y3⟩ := T6.out.second HRN.out
    obtain ⟨⟨uk, ux, un, ua⟩, hu⟩ : ∃ x, hdT p.n r.tail = x := ⟨_, rfl⟩
    rw [hu] at y0 y1 y2 y3
    have z0 := T6.out.c0
    have CW2 := Lib.hid (fun W => word_any ⟨uk, ux, un, ua⟩ W)
    have HY := Lib.hid (show wordT ⟨uk, ux, un, ua⟩ = headW r.tail from by rw [headW_hd p.n, hu])
    obtain ⟨y, hy⟩ : ∃ y, wordT ⟨uk, ux, un, ua⟩ = y := ⟨_, rfl⟩
    rw [hy] at CW2 HY
    have hrl : 0 < r.length := List.length_pos_iff.2 HRN.out
    have hyn : (y == [40]) = false := by rw [beq_eq_false_iff_ne, HY.out]; exact HWN.out
    clear hu hy
    go_wp2_with fail
    refine (CW2.out _).mono ?_
    rintro e w8 ⟨rfl, hb8⟩
    have T8 := Lib.hid (T6.out.keep hb8)
    have A8 := Lib.hid (A6.out.keep hb8)
    have B8 := Lib.hid (B6.out.keep hb8)
    have N8 := Lib.hid (N6.out.trans (Tch.of_below hb8))
    have Z8 := Lib.hid (Nat.le_trans ZC.out hb8.size)
    have q80 := cellB hb8 q0
    have q81 := cellB hb8 q1
    clear hb8 y0 y1 y2 y3 z0
    go_wp2_with fail
    refine (name_any _ ⟨_, _, T8.out⟩).mono ?_
    intro e w7 hp
    rcases h7 : nameP r with ⟨a7, r7⟩ | ⟨b7, r7⟩
    · obtain ⟨v7, rfl, rfl, hs, hn⟩ := ppost_ok h7 hp
      have R7 := Lib.hid (R0.out.trans (expr_leaf (n := p.n) d OPC.out h7))
      have A7 := Lib.hid (A8.out.near hn (Nat.ne_of_gt G.out.1))
      have hB7 : Blk w7 B 49 #[.int .i64 1, str [], .slice none 0 0, .slice none 0 0, .slice none 0 0, str [], str [], .int .i64 0, .int .i64 ta] := by
        have q := B8.out
        rw [HH.out] at q
        exact q.near hn (Nat.ne_of_gt GB.out.1)
      have B7 := Lib.hid hB7
      have N7 := Lib.hid (N8.out.trans hn)
      obtain ⟨off7, cap7, h7s⟩ := hs
      have S7 := Lib.hid h7s
      have d1 := h7s.c1
      have d2 := h7s.f1
      have cB7 := fun i => B7.out.cell i
      have fB7 := fun i => B7.out.frozen i
      have i7 : IntKind.i64.wrap (lv + 1 - 1) = lv := by rw [Int.add_sub_cancel]; exact IntWalk.i64_in _ (by omega)
      clear hn hp h7 h7s hB7
      have HL := Lib.hid (show Blk ((w7.setCell ⟨B, 1, none⟩ (str a7)).setCell ⟨p.g, 1, none⟩ (.int .i64 lv)) B 49 #[.int .i64 1, str a7, .slice none 0 0, .slice none 0 0, .slice none 0 0, str [], str [], .int .i64 0, .int .i64 ta] from (B7.out.set_ 1 (str a7)).far (p := ⟨p.g, 1, none⟩) (Nat.ne_of_gt GB.out.1) _)
      have HQ := Lib.hid (show Blk ((w7.setCell ⟨B, 1, none⟩ (str a7)).setCell ⟨p.g, 1, none⟩ (.int .i64 lv)) A 49 _ from (A7.out.far (p := ⟨B, 1, none⟩) (Nat.ne_of_lt GB.out.2.2.2) (str a7)).far (p := ⟨p.g, 1, none⟩) (Nat.ne_of_gt G.out.1) _)
      go_wp2_with (first | (refine wpList_load_row rfl 49 (.tmp 3) rfl B rfl _ #[.int .i64 1, str a7, .slice none 0 0, .slice none 0 0, .slice none 0 0, str [], str [], .int .i64 0, .int .i64 ta] _ _ HL.out Tryz.underlying49 rfl infoEx ?_) | (refine wpList_store_row rfl 49 (.tmp 2) (.tmp 83) rfl A #[.int .i64 1, str a7, .slice none 0 0, .slice none 0 0, .slice none 0 0, str [], str [], .int .i64 0, .int .i64 ta] rfl rfl _ _ HQ.out infoEx rfl (by simp [oc_int, oc_str, oc_slice]) ?_))
      have hres := HQ.out.row #[.int .i64 1, str a7, .slice none 0 0, .slice none 0 0, .slice none 0 0, str [], str [], .int .i64 0, .int .i64 ta]
      rw [HH.out] at R7
      exact bodyPost_ret (v := .agg #[.int .i64 1, str a7, .slice none 0 0, .slice none 0 0, .slice none 0 0, str [], str [], .int .i64 0, .int .i64 ta]) (results_cell_row rfl _ _ A _ _ _ _ rfl hres Tryz.underlying49 rfl infoEx) rfl
        (ppost_of_ok R7.out ⟨_, _, _, rfl, ⟨none, 0, rfl⟩, Lst.nil _, Lst.nil _⟩ (((Sta.cell ⟨_, _, S7.out⟩ (a := ⟨B, 1, none⟩) GB.out.1 GB.out.2.1 (str a7)).level lv).row G.out.1 G.out.2 _) (((N7.out.set2 (p := ⟨B, 1, none⟩) GB.out.2.2.1 (str a7)).set (p := ⟨p.g, 1, none⟩) rfl _).row (Nat.le_of_eq HA.out) _))
    · obtain ⟨rfl, hn⟩ := ppost_bad h7 hp
      exact ⟨rfl, ppost_of_bad (R0.out.trans (expr_leaf_bad d OPC.out h7)) (N8.out.trans hn)⟩
end Go.Proofs.YtcgkaecaddpenaaGreatDoor
