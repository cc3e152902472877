/- The program's expressions: operations. -/
import Derived.Test.YtcgkaecaddpenaaGreatDoorPsPgR
namespace Go.Proofs.YtcgkaecaddpenaaGreatDoor
open Go.RowKit
open L7 (Tk)
open L8
set_option linter.unusedSimpArgs false

theorem St.next2 {w : World} {p : Ps} {t u : Tk} {r : List Tk} {lv : Int} {off cap : Nat} (h : St w p (t :: u :: r) lv off cap) :
    St (w.setCell ⟨p.g, 0, none⟩ (.slice (some ⟨p.b, off + 8, none⟩) (r.length + 1) (cap - 2))) p r lv (off + 8) (cap - 2) := by
  have hc := h.hc
  have hf := h.few
  simp only [List.length_cons] at hc hf
  refine ⟨World.cell?_setCell_same _ _ _ h.c0, (World.cell?_setCell_other _ _ _ _ (fun e => by have e2 := congrArg Addr.off e; simp at e2)).trans h.c1, by simpa using h.f0, by simpa using h.f1, by omega, h.ne, by omega, (fun t' q => h.good t' (List.mem_cons_of_mem _ (List.mem_cons_of_mem _ q))), fun i t' hi k hk => ?_⟩
  have h1 := h.toks (i + 2) t' (by simpa using hi) k hk
  rw [show off + (i + 2) * 4 + k = off + 8 + i * 4 + k from by omega] at h1
  rw [← h1]
  exact World.cell?_setCell_other _ _ _ _ (fun e => h.ne (by have e2 := congrArg Addr.block e; simpa using e2.symm))
/-- What an operation leaves in the expression's block. -/
def isOp (D : Nat) (a : Ex) (kd at0 : Int) (k1 c1 n1 : Value) (kb : Nat) (w : World) (cells : Array Value) (x : Ex) : Prop :=
  (isOne D a (.slice (some ⟨kb, 0, none⟩) 1 1) w cells x ∧ ∀ k, k < 9 → w.cell? ⟨kb, 0 + k, none⟩ = (exL (hd a) k1 c1 n1)[k]?) ∨ isTwo D a kd at0 k1 c1 n1 kb w cells x
theorem op_ex {D D1 kb : Nat} {a x : Ex} {kd at0 : Int} {k1 c1 n1 : Value} {w : World} {cells : Array Value} (h : isOp D a kd at0 k1 c1 n1 kb w cells x) (hX : ExC D1 w a k1 c1 n1) (hD : D1 ≤ D) (hk : D1 ≤ kb) : ∃ ks cs ns, cells = (exL (hd x) ks cs ns).toArray ∧ ExC D1 w x ks cs ns := by
  rcases h with ⟨⟨h0, cs, ns, rfl, hc, h1, h2⟩, hkc⟩ | ⟨b2, g2, c2, k2, cs2, n2, rfl, hc, h2c, hg2, hlo, hhi, hx2⟩
  · exact ⟨_, cs, ns, hc, ⟨⟨kb, 0, 1, k1, c1, n1, rfl, Nat.le_refl _, hk, hkc, hX⟩, h1.lower hD, h2.lower hD⟩⟩
  · exact ⟨_, _, _, hc, ⟨⟨g2, 0, c2, k1, c1, n1, k2, cs2, n2, rfl, h2c, Nat.le_trans hk hg2, hlo, hhi, hX, hx2.lower hD⟩, Lst.nil _, Lst.nil _⟩⟩
theorem Kept.s3 {D g q kb : Nat} {a b c : World} (h : Kept D a b) (hn : Near2 g q kb b c) (hg : g < D) (hq : q < D) (hk : a.heap.size ≤ kb) : Kept D a c :=
  ⟨Nat.le_trans h.size hn.size, fun i hi hl => (hn.block i (Nat.lt_of_lt_of_le hl h.size) (fun e => by rcases e with e | e | e <;> omega)).trans (h.block i hi hl)⟩
theorem near_s3 {g q kb : Nat} {a b c : World} (h : Near g a b) (hn : Near2 g q kb b c) (hq : a.heap.size ≤ q) (hk : a.heap.size ≤ kb) : Near g a c :=
  ⟨hn.os.trans h.os, hn.tape.trans h.tape, hn.output.trans h.output, Nat.le_trans h.size hn.size, fun i hi hs => (hn.block i (Nat.lt_of_lt_of_le hi h.size) (fun e => by rcases e with e | e | e <;> first | exact hs e | omega)).trans (h.block i hi hs)⟩
theorem exL_one {D : Nat} {w : World} {x : Ex} {ks cs ns : Value} (h : ExC D w x ks cs ns) : (exL (hd x) ks cs ns).toArray.all (·.oneCell') = true := by
  have h7 := h.isSl.1.one
  have h8 := h.isSl.2.1.one
  have h9 := h.isSl.2.2.one
  simp [exL, oc_int, oc_str, h7, h8, h9]
theorem expr_op {n : Nat} (d : Nat) {t u : Tk} {r : List Tk} {k : Int} (h : opC (t :: u :: r) = k) (hk : k ≠ 0) : exprP (d + 1) (t :: u :: r) = (exprP d >>= fun a => opP (k + 1) (hdT n (t :: u :: r)).at_ a (exprP d) >>= fun x => expP [41] >>= fun _ => pure x : P Ex) r := by
  subst h
  rw [exprP, bnd_ok (show atP (t :: u :: r) = .ok t.at_ (t :: u :: r) from rfl), bnd_ok (show opStart (t :: u :: r) = .ok (opC (t :: u :: r)) r from if_neg hk), if_neg hk]
  rfl
set_option maxRecDepth 100000 in
set_option maxHeartbeats 8000000 in
theorem expr_c {p : Ps} {r : List Tk} {lv : Int} {d : Nat} {kk : Int} {F : Nat} (hlk : ∀ W m, Tab W (opVs p.g) m opsW → (Instr.lookup 143 (.map (some m)) (str (headW r)) true).run Tryz.prog W = .ok (.tuple #[.agg #[.int .i64 kk, .func (Fn.func F) #[ptr p.g] #[]], .bool true]) W) (hlv : lv + 1 ≤ 12) (hl0 : 0 ≤ lv) (hEx : ∀ W r, Sta W p r (lv + 1) → Calls Tryz.prog 76 #[ptr p.g] W (PPost p (lv + 1) W (isEx W.heap.size) (exprP d r)))
    (hF : ∀ (W : World) (r2 : List Tk) (B kb : Nat) (at0 : Int) (a : Ex) (k1 c1 n1 : Value), Sta W p r2 (lv + 1) → p.g < B → p.b < B → B < kb → Blk W B 49 #[.int .i64 kk, str [], .slice (some ⟨kb, 0, none⟩) 1 1, .slice none 0 0, .slice none 0 0, str [], str [], .int .i64 0, .int .i64 at0] → Blk W kb 49 (exL (hd a) k1 c1 n1).toArray → Calls Tryz.prog F #[ptr p.g, .pointer (some ⟨B, 0, none⟩)] W (PPostX p (S3 p.g B kb) B (lv + 1) W (isOp W.heap.size a kk at0 k1 c1 n1 kb) (opP kk at0 a (exprP d) r2)))
    (hFe : ∀ args w, (callFunc F args).run Tryz.prog w = .ok (.enter F args) w) (hkk : (0 : Int) ≠ kk - 1) (hopc : kk - 1 = opC r) (hrn : r ≠ []) (hwn : headW r.tail = [40])  (w : World) (h : Sta w p r lv) : Calls Tryz.prog 76 #[ptr p.g] w (PPost p lv w (isEx w.heap.size) (exprP (d + 1) r)) := by
  obtain ⟨R, hR⟩ : ∃ R, exprP (d + 1) r = R := ⟨_, rfl⟩
  rw [hR]
  have R0 := Lib.hid hR.symm
  have HEX := Lib.hid hEx
  have HLO := Lib.hid hlk
  have S0 := Lib.hid h
  obtain ⟨A, hA⟩ : ∃ A, w.heap.size = A := ⟨_, rfl⟩
  have HA := Lib.hid hA
  have G := Lib.hid (show p.g < A ∧ p.b < A from by have q1 := h.lt; have q2 := h.lt2; rw [hA] at q1 q2; exact ⟨q1, q2⟩)
  obtain ⟨off, cap, hst⟩ := h
  have k0 := fun o => (hst.keep (below_box w o)).c1
  have k1 := fun o => (hst.keep (below_box w o)).f1
  have hL := hst.level (lv + 1)
  have k2 := fun o => (hL.keep (below_box _ o)).c1
  have k3 := fun o => (hL.keep (below_box _ o)).c0
  have k4 := fun o => (hL.keep (below_box _ o)).head.2.2.2
  have k5 := fun o => (hst.keep (below_box w o)).c0
  have k6 := fun o => (hst.keep (below_box w o)).head.2.2.2
  have n3 : (p.b = p.g) = False := eq_false hst.ne
  have n4 : (p.g = p.b) = False := eq_false (fun e => hst.ne e.symm)
  have hcap := hst.hc
  have n1 : (p.g = A) = False := eq_false (by have := G.out; omega)
  have n2 : (A = p.g) = False := eq_false (by have := G.out; omega)
  have i1 : IntKind.i64.wrap (lv + 1) = lv + 1 := IntWalk.i64_in _ (by omega)
  have i2 : ¬ (12 : Int) < lv + 1 := by omega
  have hstH := Lib.hid hst
  clear hR hEx hlk hst hL
  rw [hA]
  go_enter Tryz.func76, Tryz.ntmps76
  go_upto_region 5 with fail
  obtain ⟨w5, h5⟩ : ∃ x, (((w.alloc (.cells #[.int .i64 0, str [], .slice none 0 0, .slice none 0 0, .slice none 0 0, str [], str [], .int .i64 0, .int .i64 0] 49)).setCell ⟨p.g, 1, none⟩ (.int .i64 (lv + 1))).alloc (.cells #[.int .i64 1, str [], .slice none 0 0, .slice none 0 0, .slice none 0 0, str [], str [], .int .i64 0, .int .i64 (hdT p.n r).at_] 49)) = x := ⟨_, rfl⟩
  have hS5 := (((hstH.out.keep (below_box w (.cells #[.int .i64 0, str [], .slice none 0 0, .slice none 0 0, .slice none 0 0, str [], str [], .int .i64 0, .int .i64 0] 49))).level (lv + 1)).keep (below_box _ (.cells #[.int .i64 1, str [], .slice none 0 0, .slice none 0 0, .slice none 0 0, str [], str [], .int .i64 0, .int .i64 (hdT p.n r).at_] 49)))
  have hB5 : Blk (((w.alloc (.cells #[.int .i64 0, str [], .slice none 0 0, .slice none 0 0, .slice none 0 0, str [], str [], .int .i64 0, .int .i64 0] 49)).setCell ⟨p.g, 1, none⟩ (.int .i64 (lv + 1))).alloc (.cells #[.int .i64 1, str [], .slice none 0 0, .slice none 0 0, .slice none 0 0, str [], str [], .int .i64 0, .int .i64 (hdT p.n r).at_] 49)) (A + 1) 49 #[.int .i64 1, str [], .slice none 0 0, .slice none 0 0, .slice none 0 0, str [], str [], .int .i64 0, .int .i64 (hdT p.n r).at_] := by
    have q := Blk.new ((w.alloc (.cells #[.int .i64 0, str [], .slice none 0 0, .slice none 0 0, .slice none 0 0, str [], str [], .int .i64 0, .int .i64 0] 49)).setCell ⟨p.g, 1, none⟩ (.int .i64 (lv + 1))) 49 #[.int .i64 1, str [], .slice none 0 0, .slice none 0 0, .slice none 0 0, str [], str [], .int .i64 0, .int .i64 (hdT p.n r).at_]
    have e : ((w.alloc (.cells #[.int .i64 0, str [], .slice none 0 0, .slice none 0 0, .slice none 0 0, str [], str [], .int .i64 0, .int .i64 0] 49)).setCell ⟨p.g, 1, none⟩ (.int .i64 (lv + 1))).heap.size = A + 1 := by simp; exact HA.out
    rw [e] at q
    exact q
  have hA5 : Blk (((w.alloc (.cells #[.int .i64 0, str [], .slice none 0 0, .slice none 0 0, .slice none 0 0, str [], str [], .int .i64 0, .int .i64 0] 49)).setCell ⟨p.g, 1, none⟩ (.int .i64 (lv + 1))).alloc (.cells #[.int .i64 1, str [], .slice none 0 0, .slice none 0 0, .slice none 0 0, str [], str [], .int .i64 0, .int .i64 (hdT p.n r).at_] 49)) A 49 #[.int .i64 0, str [], .slice none 0 0, .slice none 0 0, .slice none 0 0, str [], str [], .int .i64 0, .int .i64 0] := by
    have q := Blk.new w 49 #[.int .i64 0, str [], .slice none 0 0, .slice none 0 0, .slice none 0 0, str [], str [], .int .i64 0, .int .i64 0]
    rw [HA.out] at q
    exact (q.far (p := ⟨p.g, 1, none⟩) (Nat.ne_of_gt G.out.1) _).alloc _
  have hN5 : Near p.g w (((w.alloc (.cells #[.int .i64 0, str [], .slice none 0 0, .slice none 0 0, .slice none 0 0, str [], str [], .int .i64 0, .int .i64 0] 49)).setCell ⟨p.g, 1, none⟩ (.int .i64 (lv + 1))).alloc (.cells #[.int .i64 1, str [], .slice none 0 0, .slice none 0 0, .slice none 0 0, str [], str [], .int .i64 0, .int .i64 (hdT p.n r).at_] 49)) := ((Tch.of_below (below_box w (.cells #[.int .i64 0, str [], .slice none 0 0, .slice none 0 0, .slice none 0 0, str [], str [], .int .i64 0, .int .i64 0] 49))).trans (near_set _ p.g 1 _)).trans (Tch.of_below (below_box _ (.cells #[.int .i64 1, str [], .slice none 0 0, .slice none 0 0, .slice none 0 0, str [], str [], .int .i64 0, .int .i64 (hdT p.n r).at_] 49)))
  rw [h5] at hS5 hB5 hA5 hN5 ⊢
  clear h5
  obtain ⟨B, hB⟩ : ∃ x, A + 1 = x := ⟨_, rfl⟩
  have HB := Lib.hid hB
  rw [hB] at hB5
  have S5 := Lib.hid hS5
  have B5 := Lib.hid hB5
  have A5 := Lib.hid hA5
  have N5 := Lib.hid hN5
  have GB := Lib.hid (show p.g < B ∧ p.b < B ∧ w.heap.size ≤ B ∧ A < B from by have q1 := G.out; have q2 := HA.out; omega)
  have e0 := hS5.c0
  obtain ⟨e1, e2, e3, e4⟩ := hS5.head
  obtain ⟨⟨tk, tx, tn, ta⟩, hh⟩ : ∃ x, hdT p.n r = x := ⟨_, rfl⟩
  have HH := Lib.hid hh
  rw [hh] at e1 e2 e3 e4
  simp only [hh]
  have CW := Lib.hid (fun W => word_any ⟨tk, tx, tn, ta⟩ W)
  have hlen : (wordT ⟨tk, tx, tn, ta⟩).length ≤ 200000 := by
    have hg := hS5.good
    rw [← hh]
    cases r with
    | nil => exact Nat.zero_le _
    | cons t r =>
      have := (hg t (by simp)).len
      show (wordT t).length ≤ 200000
      unfold wordT
      split
      · omega
      · simp
  obtain ⟨x, hx⟩ : ∃ x, wordT ⟨tk, tx, tn, ta⟩ = x := ⟨_, rfl⟩
  rw [hx] at CW hlen
  have HST := Lib.hid hS5
  have GL := Lib.hid (show p.g < w5.heap.size ∧ p.b < w5.heap.size from ⟨cellLt hS5.c0, cellLt hS5.head.1⟩)
  have HX := Lib.hid (show headW r = x from by rw [headW_hd p.n r, hh]; exact hx)
  have HLK := Lib.hid (fun W wo m (ht : Tab wo (opVs p.g) m opsW) (hb : Below wo.heap.size wo W) => (show (Instr.lookup 143 (.map (some m)) (str x) true).run Tryz.prog W = .ok (.tuple #[.agg #[.int .i64 kk, .func (Fn.func F) #[ptr p.g] #[]], .bool true]) W from by have q := HLO.out W m (ht.keep hb); rw [HX.out] at q; exact q))
  clear hS5 hB5 hA5 hN5 hh hx k0 k1 k2 k3 k4 k5 k6 n1 n2 n3 n4 hB hstH
  go_cut [4, 5] from 28 (fun u4 u5 wz => OpRel w5 wz u4 u5 (.int .i64 kk) (.func (Fn.func F) #[ptr p.g] #[]) true)
  case first =>
    have nf1 : ¬ w5.heap.size = p.g := by have := GL.out; omega
    have nf2 : ¬ w5.heap.size = p.b := by have := GL.out; omega
    have nf3 : ¬ p.g = w5.heap.size := by have := GL.out; omega
    have nf4 : ¬ p.b = w5.heap.size := by have := GL.out; omega
    go_region_held3 (fun w' => w'.cell? ⟨p.g, 0, none⟩ = some (.slice (some ⟨p.b, off, none⟩) (r.length + 1) cap) ∧ w'.cell? ⟨p.b, off, none⟩ = some (.int .i64 tk) ∧ w'.cell? ⟨p.b, off + 1, none⟩ = some (str tx) ∧ w'.cell? ⟨p.b, off + 2, none⟩ = some (.int .i64 tn) ∧ w'.cell? ⟨p.b, off + 3, none⟩ = some (.int .i64 ta)) (go_keep)
      (first | (go_at_call 87; refine (operations_any p.g _).mono ?_; rintro e wo ⟨rfl, ht, hbo⟩; (try (have gawo := cellB (b := w5.heap.size) (o := 0) (v := .int .i64 0) hbo (by first | (simp [go_sem]; done) | exact gaww); have gbwo := cellB (b := w5.heap.size) (o := 1) (v := .nilFunc) hbo (by first | (simp [go_sem]; done) | exact gbww); have gcwo := frozenB (b := w5.heap.size) (o := 0) (v := .int .i64 0) hbo (by first | (simp [go_sem]; done) | exact gaww) (by first | (simp [go_sem]; done) | exact gcww); have gdwo := frozenB (b := w5.heap.size) (o := 1) (v := .nilFunc) hbo (by first | (simp [go_sem]; done) | exact gbww) (by first | (simp [go_sem]; done) | exact gdww))); (try (have iawo := cellB (b := ww.heap.size) (o := 0) (v := .int .i64 0) hbo (by simp [go_sem]); have ibwo := cellB (b := ww.heap.size) (o := 1) (v := .nilFunc) hbo (by simp [go_sem]); have icwo := frozenB (b := ww.heap.size) (o := 0) (v := .int .i64 0) hbo (by simp [go_sem]) (by simp [go_sem]); have idwo := frozenB (b := ww.heap.size) (o := 1) (v := .nilFunc) hbo (by simp [go_sem]) (by simp [go_sem]))); have so : St wo p r (lv + 1) off cap := (by first | exact (HST.out.keep (below_drew w5)).keep hbo | exact ((HST.out.keep (below_drew w5)).keep (below_box _ _)).keep hbo | exact ((HST.out.keep (below_box _ _)).keep (below_drew _)).keep hbo | exact Tw.out.keep hbo | exact (Tw.out.keep (below_box _ _)).keep hbo); have bo : Below w5.heap.size w5 wo := (by first | exact below_up (below_drew w5) hbo (Nat.le_refl _) | exact below_up ((below_drew w5).alloc (Nat.le_refl _) _) hbo (by simp) | exact below_up Uw.out hbo Uw.out.size | exact below_up (Uw.out.alloc Uw.out.size _) hbo (by have := Uw.out.size; simp; omega)); have fo0 := so.c0; have foq := so.head; rw [HH.out] at foq; obtain ⟨fo1, fo2, fo3, fo4⟩ := foq; have To := Lib.hid so; have Uo := Lib.hid bo; have ne1wo : ¬ wo.heap.size = p.g := (by have := Uo.out.size; have := GL.out; omega); have ne2wo : ¬ wo.heap.size = p.b := (by have := Uo.out.size; have := GL.out; omega); have ne3wo : ¬ p.g = wo.heap.size := (by have := Uo.out.size; have := GL.out; omega); have ne4wo : ¬ p.b = wo.heap.size := (by have := Uo.out.size; have := GL.out; omega); have HL0 := (fun W (hb : Below wo.heap.size wo W) => HLK.out W wo _ ht hb); (try simp only [heap_drew, World.size_alloc] at HL0); have HL := Lib.hid HL0; have l1 := HL.out wo (Below.refl _ _); have l2 := (fun o => HL.out (wo.alloc o) (below_box wo o)); clear so bo ht HL0) | (go_at_call 59; refine (CW.out _).mono ?_; rintro e ww ⟨rfl, hbw⟩; (try (have gaww := cellB (b := w5.heap.size) (o := 0) (v := .int .i64 0) hbw (by first | (simp [go_sem]; done) | exact gawo); have gbww := cellB (b := w5.heap.size) (o := 1) (v := .nilFunc) hbw (by first | (simp [go_sem]; done) | exact gbwo); have gcww := frozenB (b := w5.heap.size) (o := 0) (v := .int .i64 0) hbw (by first | (simp [go_sem]; done) | exact gawo) (by first | (simp [go_sem]; done) | exact gcwo); have gdww := frozenB (b := w5.heap.size) (o := 1) (v := .nilFunc) hbw (by first | (simp [go_sem]; done) | exact gbwo) (by first | (simp [go_sem]; done) | exact gdwo))); (try (have iaww := cellB (b := wo.heap.size) (o := 0) (v := .int .i64 0) hbw (by simp [go_sem]); have ibww := cellB (b := wo.heap.size) (o := 1) (v := .nilFunc) hbw (by simp [go_sem]); have icww := frozenB (b := wo.heap.size) (o := 0) (v := .int .i64 0) hbw (by simp [go_sem]) (by simp [go_sem]); have idww := frozenB (b := wo.heap.size) (o := 1) (v := .nilFunc) hbw (by simp [go_sem]) (by simp [go_sem]))); have sw : St ww p r (lv + 1) off cap := (by first | exact (HST.out.keep (below_drew w5)).keep hbw | exact ((HST.out.keep (below_drew w5)).keep (below_box _ _)).keep hbw | exact ((HST.out.keep (below_box _ _)).keep (below_drew _)).keep hbw | exact To.out.keep hbw | exact (To.out.keep (below_box _ _)).keep hbw); have bw : Below w5.heap.size w5 ww := (by first | exact below_up (below_drew w5) hbw (Nat.le_refl _) | exact below_up ((below_drew w5).alloc (Nat.le_refl _) _) hbw (by simp) | exact below_up Uo.out hbw Uo.out.size | exact below_up (Uo.out.alloc Uo.out.size _) hbw (by have := Uo.out.size; simp; omega)); have fw0 := sw.c0; have fwq := sw.head; rw [HH.out] at fwq; obtain ⟨fw1, fw2, fw3, fw4⟩ := fwq; have Tw := Lib.hid sw; have Uw := Lib.hid bw; have ne1ww : ¬ ww.heap.size = p.g := (by have := Uw.out.size; have := GL.out; omega); have ne2ww : ¬ ww.heap.size = p.b := (by have := Uw.out.size; have := GL.out; omega); have ne3ww : ¬ p.g = ww.heap.size := (by have := Uw.out.size; have := GL.out; omega); have ne4ww : ¬ p.b = ww.heap.size := (by have := Uw.out.size; have := GL.out; omega); (try (have l3 := HL.out ww (by first | exact hbw | exact below_up (below_box wo _) hbw (by simp)))); (try (have l4 := (fun o => HL.out (ww.alloc o) ((show Below wo.heap.size wo ww from (by first | exact hbw | exact below_up (below_box wo _) hbw (by simp))).alloc (by first | exact hbw.size | (have := hbw.size; simp at this; omega)) o)))); clear sw bw))
    all_goals
      go_wp2_with fail
      go_meet
      case rel =>
        have hzo := Uo.out.size
        have hzw := Uw.out.size
        first
          | exact ⟨ww.heap.size, rfl, rfl, by simp [go_sem], by simp [go_sem], hzw, Uw.out.alloc hzw _⟩
          | exact ⟨wo.heap.size, rfl, rfl, (World.cell?_setCell_other _ _ _ _ (by simp)).trans (World.cell?_setCell_same _ _ _ iaww), World.cell?_setCell_same _ _ _ ((World.cell?_setCell_other _ _ _ _ (by simp)).trans ibww), hzo, (Uw.out.setCell hzo _).setCell hzo _⟩
          | exact ⟨w5.heap.size, rfl, rfl, (World.cell?_setCell_other _ _ _ _ (by simp)).trans (World.cell?_setCell_same _ _ _ gaww), World.cell?_setCell_same _ _ _ ((World.cell?_setCell_other _ _ _ _ (by simp)).trans gbww), Nat.le_refl _, (Uw.out.setCell (Nat.le_refl _) _).setCell (Nat.le_refl _) _⟩
  case rest =>
    obtain ⟨C, rfl, rfl, q0, q1, hC, hb⟩ := hcut
    have T6 := Lib.hid (HST.out.keep hb)
    have A6 := Lib.hid (A5.out.keep hb)
    have B6 := Lib.hid (B5.out.keep hb)
    have N6 := Lib.hid (N5.out.trans (Tch.of_below hb))
    have ZC := Lib.hid hb.size
    have hB := HB.out
    have g1 : (p.g = B) = False := eq_false (by have := GB.out; omega)
    have g2 : (B = p.g) = False := eq_false (by have := GB.out; omega)
    clear hb e0 e1 e2 e3 e4
    have OPC := Lib.hid hopc
    have HRN := Lib.hid hrn
    have HWN := Lib.hid hwn
    have HF := Lib.hid hF
    have HFE := Lib.hid hFe
    have HKK := Lib.hid hkk
    clear hopc hrn hwn hF hFe hkk
    obtain ⟨y0, y1, y2, y3⟩ := T6.out.second HRN.out
    obtain ⟨⟨uk, ux, un, ua⟩, hu⟩ : ∃ x, hdT p.n r.tail = x := ⟨_, rfl⟩
    rw [hu] at y0 y1 y2 y3
    have z0 := T6.out.c0
    have CW2 := Lib.hid (fun W => word_any ⟨uk, ux, un, ua⟩ W)
    have HY := Lib.hid (show wordT ⟨uk, ux, un, ua⟩ = headW r.tail from by rw [headW_hd p.n, hu])
    obtain ⟨y, hy⟩ : ∃ y, wordT ⟨uk, ux, un, ua⟩ = y := ⟨_, rfl⟩
    rw [hy] at CW2 HY
    have hrl : 0 < r.length := List.length_pos_iff.2 HRN.out
    have hyn : (y == [40]) = true := by rw [beq_iff_eq, HY.out]; exact HWN.out
    clear hu hy
    go_wp2_with fail
    refine (CW2.out _).mono ?_
    rintro e w8 ⟨rfl, hb8⟩
    have T8 := Lib.hid (T6.out.keep hb8)
    have A8 := Lib.hid (A6.out.keep hb8)
    have B8 := Lib.hid (B6.out.keep hb8)
    have N8 := Lib.hid (N6.out.trans (Tch.of_below hb8))
    have Z8 := Lib.hid (Nat.le_trans ZC.out hb8.size)
    have q80 := cellB hb8 q0
    have q81 := cellB hb8 q1
    clear hb8 y0 y1 y2 y3 z0
    obtain ⟨t, u, r2, rfl⟩ : ∃ t u r2, r = t :: u :: r2 := by
      match r, OPC.out with
      | [], h => exact absurd h.symm HKK.out
      | [_], h => exact absurd h.symm HKK.out
      | t :: u :: r2, _ => exact ⟨t, u, r2, rfl⟩
    have RX := Lib.hid (R0.out.trans (expr_op (n := p.n) d OPC.out.symm (fun e => HKK.out e.symm)))
    have z80 := T8.out.c0
    have z8f := T8.out.f0
    have hc8 := T8.out.hc
    simp only [List.length_cons] at z80 hc8
    have g3 : (C = p.g) = False := eq_false (by have := GL.out; omega)
    have g4 : (p.g = C) = False := eq_false (by have := GL.out; omega)
    have cB8 := fun i => B8.out.cell i
    have fB8 := fun i => B8.out.frozen i
    simp only [List.length_cons]
    have hBC : B < w5.heap.size := B5.out.lt
    have g5 : (C = B) = False := eq_false (by omega)
    have g6 : (B = C) = False := eq_false (by omega)
    go_wp2_with fail
    refine (HEX.out _ r2 (Sta.cell ⟨_, _, T8.out.next2⟩ (a := ⟨B, 0, none⟩) GB.out.1 GB.out.2.1 (.int .i64 kk))).mono ?_
    intro e w9 hp
    rcases h9 : exprP d r2 with ⟨a9, r9⟩ | ⟨b9, r9⟩
    · obtain ⟨v9, rfl, ⟨k1, c1, n1, hv, hx⟩, hs, hn⟩ := ppost_ok h9 hp
      obtain ⟨⟨ka, kn, kc, rfl⟩, ⟨ca, cn, cc, rfl⟩, ⟨na, nn, nc, rfl⟩⟩ := hx.isSl
      have hv2 : v9 = .agg #[.int .i64 (hd a9).kind, str (hd a9).table, .slice ka kn kc, .slice ca cn cc, .slice na nn nc, str (hd a9).attr, str (hd a9).as_, .int .i64 (hd a9).agg, .int .i64 (hd a9).at_] := hv
      subst hv2
      have R9 := Lib.hid (RX.out.trans (bnd_ok h9))
      obtain ⟨D1, hx1, hd1⟩ : ∃ D1, ExC D1 w9 a9 (.slice ka kn kc) (.slice ca cn cc) (.slice na nn nc) ∧ w8.heap.size = D1 := ⟨_, hx, by simp⟩
      have X9 := Lib.hid hx1
      have HD1 := Lib.hid hd1
      have S9 := Lib.hid hs
      have hB9 : Blk w9 B 49 #[.int .i64 kk, str [], .slice none 0 0, .slice none 0 0, .slice none 0 0, str [], str [], .int .i64 0, .int .i64 ta] := by
        have q := B8.out
        rw [HH.out] at q
        exact ((q.far (p := ⟨p.g, 0, none⟩) (Nat.ne_of_gt GB.out.1) _).set_ 0 (.int .i64 kk)).near hn (Nat.ne_of_gt GB.out.1)
      have B9 := Lib.hid hB9
      have A9 := Lib.hid (((A8.out.far (p := ⟨p.g, 0, none⟩) (Nat.ne_of_gt G.out.1) _).far (p := ⟨B, 0, none⟩) (Nat.ne_of_lt GB.out.2.2.2) (.int .i64 kk)).near hn (Nat.ne_of_gt G.out.1))
      have N9 := Lib.hid (((N8.out.set (p := ⟨p.g, 0, none⟩) rfl _).set2 (p := ⟨B, 0, none⟩) GB.out.2.2.1 (.int .i64 kk)).trans hn)
      have hz9 : w8.heap.size ≤ w9.heap.size := by have := hn.size; simpa using this
      have hz8 : w5.heap.size ≤ w8.heap.size := Z8.out
      have q91 : w9.cell? ⟨C, 1, none⟩ = some (.func (Fn.func F) #[ptr p.g] #[]) := hn.cell ((World.cell?_setCell_other _ _ _ _ (by simp [g6])).trans ((World.cell?_setCell_other _ _ _ _ (by simp [g4])).trans q81)) (by have := GL.out; omega)
      have hCl := cellLt q91
      have cB9 := fun i => B9.out.cell i
      have fB9 := fun i => B9.out.frozen i
      have hBl := B9.out.lt
      have hAl := A9.out.lt
      have g7 : (w9.heap.size = B) = False := eq_false (by omega)
      have g8 : (B = w9.heap.size) = False := eq_false (by omega)
      have g9 : (C = w9.heap.size) = False := eq_false (by omega)
      have g10 : (w9.heap.size = C) = False := eq_false (by omega)
      have q92 := fun o => cellB (below_box w9 o) q91
      clear hn hp h9 hx hx1 hs hB9 hv cB8 fB8 q0 q1 q80 q81 z80 z8f hd1
      have hfe := HFE.out
      have HS2 := Lib.hid (show Sta ((w9.setCell ⟨B, 2, none⟩ (.slice (some ⟨w9.heap.size, 0, none⟩) 1 1)).alloc (.cells #[.int .i64 (hd a9).kind, str (hd a9).table, .slice ka kn kc, .slice ca cn cc, .slice na nn nc, str (hd a9).attr, str (hd a9).as_, .int .i64 (hd a9).agg, .int .i64 (hd a9).at_] 49)) p r9 (lv + 1) from (S9.out.cell (a := ⟨B, 2, none⟩) GB.out.1 GB.out.2.1 _).keep (below_box _ _))
      have HB2 := Lib.hid (show Blk ((w9.setCell ⟨B, 2, none⟩ (.slice (some ⟨w9.heap.size, 0, none⟩) 1 1)).alloc (.cells #[.int .i64 (hd a9).kind, str (hd a9).table, .slice ka kn kc, .slice ca cn cc, .slice na nn nc, str (hd a9).attr, str (hd a9).as_, .int .i64 (hd a9).agg, .int .i64 (hd a9).at_] 49)) B 49 #[.int .i64 kk, str [], .slice (some ⟨w9.heap.size, 0, none⟩) 1 1, .slice none 0 0, .slice none 0 0, str [], str [], .int .i64 0, .int .i64 ta] from (B9.out.set_ 2 _).alloc _)
      have HK2 := Lib.hid (show Blk ((w9.setCell ⟨B, 2, none⟩ (.slice (some ⟨w9.heap.size, 0, none⟩) 1 1)).alloc (.cells #[.int .i64 (hd a9).kind, str (hd a9).table, .slice ka kn kc, .slice ca cn cc, .slice na nn nc, str (hd a9).attr, str (hd a9).as_, .int .i64 (hd a9).agg, .int .i64 (hd a9).at_] 49)) w9.heap.size 49 #[.int .i64 (hd a9).kind, str (hd a9).table, .slice ka kn kc, .slice ca cn cc, .slice na nn nc, str (hd a9).attr, str (hd a9).as_, .int .i64 (hd a9).agg, .int .i64 (hd a9).at_] from by
        have q := Blk.new (w9.setCell ⟨B, 2, none⟩ (.slice (some ⟨w9.heap.size, 0, none⟩) 1 1)) 49 #[.int .i64 (hd a9).kind, str (hd a9).table, .slice ka kn kc, .slice ca cn cc, .slice na nn nc, str (hd a9).attr, str (hd a9).as_, .int .i64 (hd a9).agg, .int .i64 (hd a9).at_]
        have e : (w9.setCell ⟨B, 2, none⟩ (.slice (some ⟨w9.heap.size, 0, none⟩) 1 1)).heap.size = w9.heap.size := by simp
        rw [e] at q
        exact q)
      have HA2 := Lib.hid (show Blk ((w9.setCell ⟨B, 2, none⟩ (.slice (some ⟨w9.heap.size, 0, none⟩) 1 1)).alloc (.cells #[.int .i64 (hd a9).kind, str (hd a9).table, .slice ka kn kc, .slice ca cn cc, .slice na nn nc, str (hd a9).attr, str (hd a9).as_, .int .i64 (hd a9).agg, .int .i64 (hd a9).at_] 49)) A 49 _ from (A9.out.far (p := ⟨B, 2, none⟩) (Nat.ne_of_lt GB.out.2.2.2) _).alloc _)
      have HN2 := Lib.hid (show Near p.g w ((w9.setCell ⟨B, 2, none⟩ (.slice (some ⟨w9.heap.size, 0, none⟩) 1 1)).alloc (.cells #[.int .i64 (hd a9).kind, str (hd a9).table, .slice ka kn kc, .slice ca cn cc, .slice na nn nc, str (hd a9).attr, str (hd a9).as_, .int .i64 (hd a9).agg, .int .i64 (hd a9).at_] 49)) from (N9.out.set2 (p := ⟨B, 2, none⟩) GB.out.2.2.1 _).trans (Tch.of_below (below_box _ _)))
      have hd1' := HD1.out
      have HP2 := Lib.hid (show Kept D1 w9 ((w9.setCell ⟨B, 2, none⟩ (.slice (some ⟨w9.heap.size, 0, none⟩) 1 1)).alloc (.cells #[.int .i64 (hd a9).kind, str (hd a9).table, .slice ka kn kc, .slice ca cn cc, .slice na nn nc, str (hd a9).attr, str (hd a9).as_, .int .i64 (hd a9).agg, .int .i64 (hd a9).at_] 49)) from ((Kept.refl D1 w9).set (p := ⟨B, 2, none⟩) (by show B < D1; omega) _).keep (below_box _ _))
      have hzw : w.heap.size ≤ w9.heap.size := N9.out.size
      clear hd1'
      go_wp2_with fail
      refine (HF.out _ r9 B w9.heap.size ta a9 (.slice ka kn kc) (.slice ca cn cc) (.slice na nn nc) HS2.out GB.out.1 GB.out.2.1 (by omega) HB2.out HK2.out).mono ?_
      intro e w10 hp
      rcases h10 : opP kk ta a9 (exprP d) r9 with ⟨x10, r10⟩ | ⟨b10, r10⟩
      · obtain ⟨rfl, ⟨cs, hB, hV⟩, hs, hn⟩ := px_ok h10 hp
        have hk10 : Kept D1 w9 w10 := HP2.out.s3 hn (by have := GL.out; have := HD1.out; omega) (by have := HD1.out; omega) (Nat.le_refl _)
        obtain ⟨ks, cc2, ns, rfl, hx⟩ := op_ex hV (X9.out.stay hk10) (by have := HD1.out; simp; omega) (by have := HD1.out; omega)
        have X10 := Lib.hid hx
        have B10 := Lib.hid hB
        have S10 := Lib.hid hs
        have A10 := Lib.hid ((hn.block A HA2.out.lt (fun e => by rcases e with e | e | e <;> have := G.out <;> have := GB.out <;> omega)).trans HA2.out)
        have N10 := Lib.hid (near_s3 HN2.out hn GB.out.2.2.1 hzw)
        have R10 := Lib.hid (R9.out.trans (bnd_ok (by rw [HH.out, show kk - 1 + 1 = kk from by omega]; exact h10)))
        have K10 := Lib.hid hk10
        clear hp h10 hs hn hB hV hx hk10 hfe q91 q92 cB9 fB9
        go_wp2_with fail
        refine (expect_one [41] (by decide) _ _ _ (by first | omega | (simp; omega) | simp) S10.out).mono ?_
        intro e w11 hp
        rcases h11 : expP [41] r10 with ⟨u11, r11⟩ | ⟨b11, r11⟩
        · obtain ⟨v11, rfl, rfl, hs, hn⟩ := ppost_ok h11 hp
          have R11 := Lib.hid (R10.out.trans (bnd_ok h11))
          have X11 := Lib.hid (X10.out.stay ((Kept.refl D1 w10).near hn (by have := GL.out; have := HD1.out; omega)))
          have hB11 : Blk w11 B 49 _ := Blk.near B10.out hn (Nat.ne_of_gt GB.out.1)
          have hA11 : Blk w11 A 49 _ := Blk.near A10.out hn (Nat.ne_of_gt G.out.1)
          have N11 := Lib.hid (N10.out.trans hn)
          obtain ⟨off7, cap7, h7s⟩ := hs
          have S11 := Lib.hid h7s
          have d1 := h7s.c1
          have d2 := h7s.f1
          have i7 : IntKind.i64.wrap (lv + 1 - 1) = lv := by rw [Int.add_sub_cancel]; exact IntWalk.i64_in _ (by omega)
          have HL := Lib.hid (hB11.far (p := ⟨p.g, 1, none⟩) (Nat.ne_of_gt GB.out.1) (.int .i64 lv))
          have HQ := Lib.hid (hA11.far (p := ⟨p.g, 1, none⟩) (Nat.ne_of_gt G.out.1) (.int .i64 lv))
          have H1 := Lib.hid (exL_one X11.out)
          clear hp h11 hn h7s hB11 hA11
          go_wp2_with (first | (refine wpList_load_row rfl 49 (.tmp 3) rfl B rfl _ (exL (hd x10) ks cc2 ns).toArray _ _ HL.out Tryz.underlying49 rfl infoEx ?_) | (refine wpList_store_row rfl 49 (.tmp 2) (.tmp 83) rfl A (exL (hd x10) ks cc2 ns).toArray rfl rfl _ _ HQ.out infoEx rfl H1.out ?_))
          have hres := Blk.row HQ.out (exL (hd x10) ks cc2 ns).toArray
          have hD1A : A < D1 := by have := HD1.out; have := GB.out; omega
          exact bodyPost_ret (v := .agg (exL (hd x10) ks cc2 ns).toArray) (results_cell_row rfl _ _ A _ _ _ _ rfl hres Tryz.underlying49 rfl infoEx) rfl
            (ppost_of_ok (R11.out.trans rfl) ⟨ks, cc2, ns, rfl, (X11.out.stay (((Kept.refl D1 w11).set (p := ⟨p.g, 1, none⟩) (by have := G.out; show p.g < D1; omega) _).row hD1A _)).lower (Nat.le_of_lt hD1A)⟩ ((Sta.level ⟨_, _, S11.out⟩ lv).row G.out.1 G.out.2 _) ((N11.out.set (p := ⟨p.g, 1, none⟩) rfl _).row (Nat.le_of_eq HA.out) _))
        · obtain ⟨rfl, hn⟩ := ppost_bad h11 hp
          exact ⟨rfl, ppost_of_bad (R10.out.trans (bnd_bad h11)) (N10.out.trans hn)⟩
      · obtain ⟨rfl, hn⟩ := px_bad h10 hp
        exact ⟨rfl, ppost_of_bad (R9.out.trans (bnd_bad (by rw [HH.out, show kk - 1 + 1 = kk from by omega]; exact h10))) (near_s3 HN2.out hn GB.out.2.2.1 hzw)⟩
    · obtain ⟨rfl, hn⟩ := ppost_bad h9 hp
      exact ⟨rfl, ppost_of_bad (RX.out.trans (bnd_bad h9)) (((N8.out.set (p := ⟨p.g, 0, none⟩) rfl _).set2 (p := ⟨B, 0, none⟩) GB.out.2.2.1 (.int .i64 kk)).trans hn)⟩
end Go.Proofs.YtcgkaecaddpenaaGreatDoor
