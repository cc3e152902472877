/- The program's scan and Lex. -/
import Derived.Test.YtcgkaecaddpenaaGreatDoorLxPgD
import Derived.Deep.LoopGhost
import Derived.WalkMore
namespace Go.Proofs.YtcgkaecaddpenaaGreatDoor
open Go.RowKit
open L7 (Lt Dg In gapC gap tok con symN syms Tk tkOf RI lexT)

def tokL (t : Tk) : List Value := [.int .i64 t.kind, str t.text, .int .i64 t.n, .int .i64 t.at_]
theorem tokL_len (t : Tk) : (tokL t).length = 4 := rfl
/-- A slice of tokens. -/
def Toks (w : World) (v : Value) (l : List Tk) : Prop := Slc 4 (fun w b o x => ∀ k, k < 4 → w.cell? ⟨b, o + k, none⟩ = (tokL x)[k]?) w v l
theorem toks_of_own {w : World} {base : Nat} {e : TypeId} {v : Value} {n : Nat} {l : List Tk} (hn : n = l.length) (h : w.ownsRow base e 4 v n (l.flatMap tokL)) : Toks w v l :=
  slc_of_own tokL_len hn h (fun _ _ _ hx => hx)
theorem Toks.below {w w1 : World} {v : Value} {l : List Tk} (h : Toks w v l) (hb : Below w.heap.size w w1) : Toks w1 v l :=
  Slc.mono h fun b o x _ hx k hk => by
    have h1 := hx k hk
    have h2 : k < (tokL x).length := hk
    rw [List.getElem?_eq_getElem h2] at h1 ⊢
    exact cellB hb h1
theorem elemTok : Elem 23 37 (.agg #[.int .i64 0, .string ⟨#[]⟩, .int .i64 0, .int .i64 0]) 4 40 := ⟨Tryz.underlying23, by kernel_rfl, rfl, by decide, by decide⟩
/-- What the function's memory holds while it reads: the tokens, no error, the readers. -/
structure SI (w wr : World) (acc : List Tk) (v : Value) : Prop where
  tk : wr.cell? ⟨w.heap.size, 0, none⟩ = some v
  own : wr.ownsRow (w.heap.size + 3) 37 4 v acc.length (acc.flatMap tokL)
  tf : wr.frozen? ⟨w.heap.size, 0, none⟩ = false
  er : wr.cell? ⟨w.heap.size + 1, 0, none⟩ = some (.int .i64 0)
  ef : wr.frozen? ⟨w.heap.size + 1, 0, none⟩ = false
  kinds : Kinds wr (w.heap.size + 2)
  big : w.heap.size + 3 ≤ wr.heap.size
  below : Below w.heap.size w wr
theorem own_below {w w1 : World} {base : Nat} {e : TypeId} {size n : Nat} {v : Value} {xs : List Value} (h : w.ownsRow base e size v n xs) (hb : Below w.heap.size w w1) : w1.ownsRow base e size v n xs :=
  own_heap h fun g hg => hb.block g (h.lt g hg).2
theorem SI.next {w wr w1 : World} {acc : List Tk} {v : Value} (h : SI w wr acc v) (hb : Below wr.heap.size wr w1) : SI w w1 acc v :=
  ⟨cellB hb h.tk, own_below h.own hb, frozenB hb h.tk h.tf, cellB hb h.er, frozenB hb h.er h.ef, h.kinds.below hb, Nat.le_trans h.big hb.size, below_up h.below hb h.below.size⟩
set_option maxRecDepth 100000 in
theorem clone_pg (x : Txt) (hl : x.length ≤ 100000) (w : World) : Calls Tryz.prog 28 #[str x] w fun e w' => e = .returned (str x) ∧ Below w.heap.size w w' := by
  have hs := sz x
  have C := Lib.hid (fun W => Any.stringslite_Clone Tryz.laysM316 ⟨x.toArray⟩ W (by omega))
  clear hs
  go_enter Tryz.func28, Tryz.ntmps28
  go_wp2_with (go_at_call 42; refine (C.out _).mono ?_; rintro e w1 ⟨rfl, hb⟩)
  go_ret
  exact ⟨rfl, hb⟩
/-- What scan and Lex return. -/
def LexPost (w : World) (R : List Tk × Int × Int) (e : Ending) (w' : World) : Prop := ∃ v, e = .returned (.tuple #[v, .int .i64 R.2.1, .int .i64 R.2.2]) ∧ Toks w' v R.1 ∧ Below w.heap.size w w'
theorem si_start (w : World) : SI w (((w.alloc (.cells #[.slice none 0 0] 23)).alloc (.cells #[.int .i64 0] 24)).alloc (.cells #[fnv 23, fnv 24, fnv 25, fnv 26] 77)) [] (.slice none 0 0) :=
  ⟨by simp [go_sem], World.ownsRow_nil _ _ _ _, by simp [go_sem], by simp [go_sem], by simp [go_sem], ⟨by simp [go_sem], by simp [go_sem], by simp [go_sem], by simp [go_sem]⟩, by simp, ((below_box w _).alloc (by simp) _).alloc (by simp; omega) _⟩
theorem SI.set {w W : World} {acc : List Tk} {v : Value} (h : SI w W acc v) {b : Nat} (hb : w.heap.size + 3 ≤ b) (hne : v.ownBlock ≠ some b) (o : Nat) (x : Value) : SI w (W.setCell ⟨b, o, none⟩ x) acc v := by
  have hc : ∀ b', b' < w.heap.size + 3 → ∀ o', (W.setCell ⟨b, o, none⟩ x).cell? ⟨b', o', none⟩ = W.cell? ⟨b', o', none⟩ := fun b' q o' => World.cell?_setCell_other _ _ _ _ (fun e => by have e2 := congrArg Addr.block e; simp at e2; omega)
  exact ⟨(hc _ (by omega) _).trans h.tk, own_heap h.own fun g hg => Below.heap_setCell _ _ _ _ (fun e => hne (by rw [hg]; exact congrArg some e)), by simpa using h.tf, (hc _ (by omega) _).trans h.er, by simpa using h.ef,
    ⟨(hc _ (by omega) _).trans h.kinds.c0, (hc _ (by omega) _).trans h.kinds.c1, (hc _ (by omega) _).trans h.kinds.c2, (hc _ (by omega) _).trans h.kinds.c3⟩, by simpa using h.big, h.below.setCell (by show w.heap.size ≤ b; omega) _⟩
theorem si_push {w W W2 : World} {acc : List Tk} {v v2 : Value} {tk : Tk} {o : Obj} {n : Nat} {xs : List Value} (h : SI w W acc v) (hown : W2.ownsRow (w.heap.size + 3) 37 4 v2 n xs) (hn : n = (acc ++ [tk]).length) (hx : xs = (acc ++ [tk]).flatMap tokL)
    (hg : (W.alloc o).grownBy W2 v.ownBlock) : SI w (W2.setCell ⟨w.heap.size, 0, none⟩ v2) (acc ++ [tk]) v2 := by
  subst hn hx
  have hb : Below (w.heap.size + 3) W W2 := below_app (Below.refl _ _) h.big h.own hg
  have hc : ∀ b', b' < w.heap.size + 3 → ∀ o', W2.cell? ⟨b', o', none⟩ = W.cell? ⟨b', o', none⟩ := fun b' q o' => hb.cell (p := ⟨b', o', none⟩) q
  have hf : ∀ b', b' < w.heap.size + 3 → ∀ o', W2.frozen? ⟨b', o', none⟩ = W.frozen? ⟨b', o', none⟩ := fun b' q o' => hb.frozen (p := ⟨b', o', none⟩) q
  have hd : ∀ b', b' ≠ w.heap.size → ∀ o', (W2.setCell ⟨w.heap.size, 0, none⟩ v2).cell? ⟨b', o', none⟩ = W2.cell? ⟨b', o', none⟩ := fun b' q o' => World.cell?_setCell_other _ _ _ _ (fun e => by have e2 := congrArg Addr.block e; simp at e2; omega)
  exact ⟨World.cell?_setCell_same _ _ _ ((hc _ (by omega) _).trans h.tk), own_heap hown fun g hg2 => Below.heap_setCell _ _ _ _ (fun e => by have := (hown.lt g hg2).1; have e2 : g = w.heap.size := e; omega),
    by simpa using (hf _ (by omega) _).trans h.tf, (hd _ (by omega) _).trans ((hc _ (by omega) _).trans h.er), by simpa using (hf _ (by omega) _).trans h.ef,
    ⟨(hd _ (by omega) _).trans ((hc _ (by omega) _).trans h.kinds.c0), (hd _ (by omega) _).trans ((hc _ (by omega) _).trans h.kinds.c1), (hd _ (by omega) _).trans ((hc _ (by omega) _).trans h.kinds.c2), (hd _ (by omega) _).trans ((hc _ (by omega) _).trans h.kinds.c3)⟩,
    by have := hb.size; have := h.big; simp; omega, (below_up h.below (hb.mono (by omega)) (Nat.le_refl _)).setCell (Nat.le_refl _) _⟩
theorem tok_short {r xs : Txt} {kd nn : Int} {n : Nat} (h : tok r = ((kd, xs, nn), n, 0)) (hr : r.length ≤ 90000) : xs.length ≤ 100000 := by
  rcases L7.tok_shape h with ⟨_, _, h3, _⟩ | ⟨_, h3⟩
  · simp only at h3
    omega
  · simp only at h3
    rw [h3, List.length_take]
    omega
theorem si_cell {w W W2 : World} {acc : List Tk} {v : Value} {o : Obj} (h : SI w W acc v) (hg : (W.alloc o).grownBy W2 v.ownBlock) : W2.cell? ⟨w.heap.size, 0, none⟩ = some v ∧ W2.frozen? ⟨w.heap.size, 0, none⟩ = false := by
  have hb : Below (w.heap.size + 3) W W2 := below_app (Below.refl _ _) h.big h.own hg
  exact ⟨(hb.cell (p := ⟨w.heap.size, 0, none⟩) (by show w.heap.size < _; omega)).trans h.tk, (hb.frozen (p := ⟨w.heap.size, 0, none⟩) (by show w.heap.size < _; omega)).trans h.tf⟩
theorem SI.set0 {w W : World} {acc : List Tk} {v : Value} (h : SI w W acc v) (x : Value) : (W.setCell ⟨w.heap.size, 0, none⟩ x).ownsRow (w.heap.size + 3) 37 4 v acc.length (acc.flatMap tokL) ∧ Below w.heap.size w (W.setCell ⟨w.heap.size, 0, none⟩ x) :=
  ⟨own_heap h.own fun g hg2 => Below.heap_setCell _ _ _ _ (fun e => by have := (h.own.lt g hg2).1; have e2 : g = w.heap.size := e; omega), h.below.setCell (Nat.le_refl _) _⟩
theorem setE {w W : World} {acc : List Tk} {v : Value} (h : W.ownsRow (w.heap.size + 3) 37 4 v acc.length (acc.flatMap tokL) ∧ Below w.heap.size w W) (x : Value) : (W.setCell ⟨w.heap.size + 1, 0, none⟩ x).ownsRow (w.heap.size + 3) 37 4 v acc.length (acc.flatMap tokL) ∧ Below w.heap.size w (W.setCell ⟨w.heap.size + 1, 0, none⟩ x) :=
  ⟨own_heap h.1 fun g hg2 => Below.heap_setCell _ _ _ _ (fun e => by have := (h.1.lt g hg2).1; have e2 : g = w.heap.size + 1 := e; omega), h.2.setCell (by show w.heap.size ≤ w.heap.size + 1; omega) _⟩
theorem src_tok (w : World) (k n a : Int) (x : Txt) (T : TypeId) (b : Nat) (hb : w.heap.size = b) : Src (w.alloc (.cells #[.int .i64 k, str x, .int .i64 n, .int .i64 a] T)) (some ⟨b, 0, none⟩) 1 1 4 (tokL ⟨k, x, n, a⟩) := by
  subst hb
  exact ⟨rfl, Nat.le_refl _, (fun e => by cases e), fun ad e j u hj => by
    cases e
    have hl : j < 4 := (List.getElem?_eq_some_iff.1 hj).1
    rw [add_none, Nat.zero_add]
    match j, hl with
    | 0, _ => simp [tokL] at hj; subst hj; simp [go_sem]
    | 1, _ => simp [tokL] at hj; subst hj; simp [go_sem]
    | 2, _ => simp [tokL] at hj; subst hj; simp [go_sem]
    | 3, _ => simp [tokL] at hj; subst hj; simp [go_sem], fun u hu => by simp [tokL] at hu; rcases hu with rfl | rfl | rfl | rfl <;> rfl⟩
set_option maxRecDepth 100000 in
set_option maxHeartbeats 8000000 in
theorem scan_any (t : Txt) (htl : t.length ≤ 20000) (w : World) :
    Calls Tryz.prog 15 #[str t] w (LexPost w (lexT t)) := by
  have hsz := sz t
  obtain ⟨R, hR⟩ : ∃ R, lexT t = R := ⟨_, rfl⟩
  rw [hR]
  have HR := Lib.hid hR
  clear hR
  have HRI := Lib.hid (L7.ri_start t htl)
  obtain ⟨g, hg⟩ : ∃ g, gap t = g := ⟨_, rfl⟩
  rw [hg] at HRI
  have CG := Lib.hid (fun W => (show Calls Tryz.prog 27 #[str t] W (fun e w' => e = .returned (.int .i64 (g : Int)) ∧ W = w') by rw [← hg]; exact gap_pg t (by omega) W))
  clear hg
  have hmf : ∀ (fn : Fn) (first cap : Array Value) (w : World), (Instr.makeFunc fn first cap).run Tryz.prog w = .ok (.func fn first cap) w := fun _ _ _ _ => rfl
  go_enter_defers Tryz.func15, Tryz.ntmps15
  go_wp2_with fail
  go_step3
  go_wp2_with fail
  go_step3
  go_wp2_with fail
  refine (CG.out _).mono ?_
  rintro e w1 ⟨rfl, rfl⟩
  go_wp2_with fail
  go_loopg [4] (t.length + 1 - g) (fun gh i wr => ∃ (p : Nat) (acc : List Tk) (v : Value), gh + p = t.length + 1 ∧ i = .int .i64 (p : Int) ∧ RI t acc p ∧ SI w wr acc v)
  case atStart => exact ⟨g, [], .slice none 0 0, by have := HRI.out.le; omega, rfl, HRI.out, si_start w⟩
  case round =>
    obtain ⟨gO, rfl⟩ : ∃ gO, gO = gk := ⟨_, rfl⟩
    obtain ⟨p, acc, v, hgp, rfl, hri, hsi⟩ := hrel
    have HI := Lib.hid hri
    have HS := Lib.hid hsi
    have hpl := hri.le
    have htl2 := htl
    clear hri hsi
    by_cases hlt : p < t.length
    · have i1 : (p : Int) < (t.length : Int) := by omega
      have i0 : (0 : Int) ≤ (p : Int) := by omega
      have xt : (⟨t.toArray⟩ : ByteArray).extract p t.length = ⟨(t.drop p).toArray⟩ := by rw [ext_eq, List.take_of_length_le (by simp)]
      obtain ⟨r, hr⟩ : ∃ r, t.drop p = r := ⟨_, rfl⟩
      have hrl : r.length = t.length - p := by rw [← hr]; simp
      have hr0 : 0 < r.length := by omega
      have hr9 : r.length ≤ 90000 := by omega
      rw [hr] at xt
      have HRL := Lib.hid hrl
      have HRd := Lib.hid hr
      clear hr hrl
      go_wp2_with fail
      go_loopg [4, 26] 4 (fun gi i j wq => ∃ k : Nat, gi + k = 4 ∧ i = .int .i64 (p : Int) ∧ j = .int .i64 (k : Int) ∧ k ≤ cls r ∧ SI w wq acc v)
      case atStart => exact ⟨0, by omega, rfl, rfl, by omega, HS.out⟩
      case round =>
        obtain ⟨k, hgk, rfl, rfl, hkc, hsq⟩ := hrel
        have HQ := Lib.hid hsq
        have KK := Lib.hid hsq.kinds
        clear hsq
        by_cases hk : k < 4
        · obtain ⟨F, hF⟩ := reader_any k hk
          have hcell := hF.cell _ _ KK.out
          have ef := hF.enter
          have HFF := Lib.hid hF
          clear hF
          have j1 : (k : Int) < 4 := by omega
          have j0 : (0 : Int) ≤ (k : Int) := by omega
          by_cases hm : k < cls r
          · go_wp2_with fail
            refine (HFF.out.miss r hr0 hr9 hm _).mono ?_
            rintro e w1 ⟨⟨kd, rfl⟩, hb1⟩
            have HB := Lib.hid hb1
            clear hb1
            go_wp2_with fail
            go_roundg (gk - 1)
            case measure => omega
            case rel => exact ⟨k + 1, by omega, rfl, by go_num, by omega, HQ.out.next ((HB.out.alloc HB.out.size _))⟩
          · go_wp2_with fail
            refine (HFF.out.hit r hr0 hr9 (by omega) _).mono ?_
            rintro e w1 (⟨hne, rfl, hb1⟩ | ⟨heq, rfl, hb1⟩)
            · have HN := Lib.hid hne
              obtain ⟨er, her⟩ : ∃ er, (tok r).2.2 = er := ⟨_, rfl⟩
              have HE := Lib.hid her
              have HB := Lib.hid hb1
              clear hne hb1
              rw [her]
              clear her
              go_wp2_with fail
              have z := HQ.out.next HB.out
              refine leaves_cons (f := 22) (args := #[.pointer (some ⟨w.heap.size, 0, none⟩), .pointer (some ⟨w.heap.size + 1, 0, none⟩)]) (by simp) (by simp [go_sem]) ?_
              refine (catch_bad w.heap.size er v (.int .i64 0) [] _ z.tk z.tf z.er z.ef).mono ?_
              rintro e u' w'' ⟨rfl, rfl, rfl⟩
              have c0 := z.tk
              have c1 := z.er
              simp [Leaves, settle, results, Tryz.results15, go_sem, c0, c1]
              rw [show R = ([], er, (p : Int)) from HR.out.symm.trans (L7.ri_err HI.out hlt (by rw [HRd.out]; exact HE.out) (by rw [← HE.out]; exact HN.out))]
              exact ⟨_, rfl, Slc.nil _, (z.below.setCell (by simp) _).setCell (by simp) _⟩
            · obtain ⟨⟨⟨kd, xs, nn⟩, n, ez⟩, htk⟩ : ∃ y, tok r = y := ⟨_, rfl⟩
              rw [htk] at heq
              simp only at heq
              subst heq
              rw [htk]
              have hst := (L7.tok_ext htk)
              have hn1 := hst.1
              have hnl := hst.2.1
              have hxl : xs.length ≤ 100000 := tok_short htk hr9
              have HT := Lib.hid (show tok (t.drop p) = ((kd, xs, nn), n, 0) from by rw [HRd.out]; exact htk)
              have HS1 := Lib.hid (HQ.out.next hb1)
              have hrl2 := HRL.out
              have n0 : ((n : Int) == 0) = false := by rw [beq_eq_false_iff_ne]; omega
              obtain ⟨Av, cv, rfl⟩ := own_isSl HS1.out.own
              have c0 : ∀ o, (w1.alloc o).cell? ⟨w.heap.size, 0, none⟩ = some (.slice Av acc.length cv) := fun o => (HS1.out.next (below_box _ o)).tk
              have hfew := HI.out.few
              clear hst htk hb1
              by_cases h5 : acc.length = 5000
              · have HL := Lib.hid h5
                have d5 : ((acc.length : Int) == 5000) = true := by rw [beq_iff_eq]; omega
                clear h5
                go_wp2_with fail
                have z := HS1.out.next (below_box w1 (.cells #[.int .i64 kd, .string ⟨xs.toArray⟩, .int .i64 nn, .int .i64 0] 37))
                refine leaves_cons (f := 22) (args := #[.pointer (some ⟨w.heap.size, 0, none⟩), .pointer (some ⟨w.heap.size + 1, 0, none⟩)]) (by simp) (by simp [go_sem]) ?_
                refine (catch_bad w.heap.size 3 _ (.int .i64 0) [] _ z.tk z.tf z.er z.ef).mono ?_
                rintro e u' w'' ⟨rfl, rfl, rfl⟩
                have c0 := z.tk
                have c1 := z.er
                simp [Leaves, settle, results, Tryz.results15, go_sem, c0, c1]
                rw [show R = ([], 3, (p : Int)) from HR.out.symm.trans (L7.ri_limit HI.out hlt HT.out HL.out)]
                exact ⟨_, rfl, Slc.nil _, (z.below.setCell (by simp) _).setCell (by simp) _⟩
              · have HL := Lib.hid h5
                have d5 : ((acc.length : Int) == 5000) = false := by rw [beq_eq_false_iff_ne]; omega
                clear h5
                go_wp2_with fail
                refine (clone_pg xs hxl _).mono ?_
                rintro e w2 ⟨rfl, hb2⟩
                obtain ⟨q0, q1, q2, q3, f0, f1, f2, f3⟩ := (own4_new w1 (.int .i64 kd) (.string ⟨xs.toArray⟩) (.int .i64 nn) (.int .i64 (p : Int)) 37).below (by simpa using hb2)
                have HS3 := Lib.hid ((HS1.out.next (below_box _ _)).next hb2)
                have HS4 := Lib.hid (fun x => HS3.out.set HS1.out.big (fun q => by have := (HS1.out.own.lt _ q).2; omega) 1 x)
                have c1 : ∀ x, (w2.setCell ⟨w1.heap.size, 1, none⟩ x).cell? ⟨w.heap.size, 0, none⟩ = some (.slice Av acc.length cv) := fun x => (HS4.out x).tk
                have hbig : ∀ x, w.heap.size + 3 ≤ (w2.setCell ⟨w1.heap.size, 1, none⟩ x).heap.size := fun x => (HS4.out x).big
                have HBG := Lib.hid hbig
                clear hb2 hbig
                go_wp2_with (at_builtin; (refine wpList_app elemTok rfl (.tmp 50) (.tmp 52) rfl (base := w.heap.size + 3) (by rfl) (World.ownsRow.alloc (HS4.out _).own _) (by rfl) (src_tok _ kd nn (p : Int) xs 37 w2.heap.size (by simp)) (by omega) (by have := HBG.out (.string ⟨xs.toArray⟩); simp at this ⊢; omega) ?_; intro v2 w4 hown hg hat; obtain ⟨A2, c2, rfl⟩ := own_isSl hown; obtain ⟨k0, kf⟩ := si_cell (HS4.out _) hg))
                have hz := hg.size
                obtain ⟨tk, htk⟩ : ∃ tk, L7.tkOf (kd, xs, nn) p = tk := ⟨_, rfl⟩
                have HS5 := Lib.hid (si_push (tk := L7.tkOf (kd, xs, nn) p) (HS4.out (.string ⟨xs.toArray⟩)) hown (by simp) (by simp [tokL, L7.tkOf]) hg)
                rw [htk] at HS5
                have HTK := Lib.hid htk
                have hstep := L7.ri_step HI.out hlt HT.out HL.out
                rw [htk] at hstep
                have xt2 : (⟨t.toArray⟩ : ByteArray).extract (p + n) t.length = ⟨(t.drop (p + n)).toArray⟩ := by rw [ext_eq, List.take_of_length_le (by simp)]
                rw [xt2]
                have CG2 := Lib.hid (fun W => gap_pg (t.drop (p + n)) (by simp; omega) W)
                obtain ⟨G2, hG2⟩ : ∃ G2, gap (t.drop (p + n)) = G2 := ⟨_, rfl⟩
                rw [hG2] at CG2 hstep
                have HST := Lib.hid hstep
                have hle2 := hstep.2.2.le
                clear hstep hG2 hown hg hat k0 kf q0 q1 q2 q3 f0 f1 f2 f3 htk xt2 c0 c1
                refine (CG2.out _).mono ?_
                rintro e w5 ⟨rfl, rfl⟩
                go_wp2_with fail
                go_roundg (t.length + 1 - (p + n + G2))
                case measure => omega
                case rel => exact ⟨p + n + G2, _, _, by omega, by simp, HST.out.2.2, HS5.out⟩
        · have hk4 : k = 4 := by have := cls_le r; omega
          subst hk4
          have HC := Lib.hid (show cls r = 4 from by have := cls_le r; omega)
          go_wp2_with fail
          have z := HQ.out
          refine leaves_cons (f := 22) (args := #[.pointer (some ⟨w.heap.size, 0, none⟩), .pointer (some ⟨w.heap.size + 1, 0, none⟩)]) (by simp) (by simp [go_sem]) ?_
          refine (catch_bad w.heap.size 5 v (.int .i64 0) [] _ z.tk z.tf z.er z.ef).mono ?_
          rintro e u' w'' ⟨rfl, rfl, rfl⟩
          have c0 := z.tk
          have c1 := z.er
          simp [Leaves, settle, results, Tryz.results15, go_sem, c0, c1]
          rw [show R = ([], 5, (p : Int)) from HR.out.symm.trans (L7.ri_err HI.out hlt (by rw [HRd.out]; exact tok_none hr0 HC.out) (by decide))]
          exact ⟨_, rfl, Slc.nil _, (z.below.setCell (by simp) _).setCell (by simp) _⟩
    · have HP := Lib.hid (show p = t.length from by omega)
      have i1 : ¬ (p : Int) < (t.length : Int) := by omega
      have c0 := HS.out.tk
      have f0 := HS.out.tf
      have c1 := HS.out.er
      have f1 := HS.out.ef
      obtain ⟨Av, cv, rfl⟩ := own_isSl HS.out.own
      go_wp2_with fail
      refine leaves_cons (f := 22) (args := #[.pointer (some ⟨w.heap.size, 0, none⟩), .pointer (some ⟨w.heap.size + 1, 0, none⟩)]) (by simp) (by simp [go_sem]) ?_
      refine (catch_idle _ _ _).mono ?_
      rintro e u' w'' ⟨rfl, rfl, rfl⟩
      have z := setE (HS.out.set0 (.slice Av acc.length cv)) (.int .i64 0)
      simp [Leaves, settle, results, Tryz.results15, go_sem, c0, c1]
      rw [show R = (acc, 0, 0) from HR.out.symm.trans (L7.ri_end HI.out HP.out)]
      exact ⟨_, rfl, toks_of_own rfl z.1, z.2⟩
set_option maxRecDepth 100000 in
set_option maxHeartbeats 4000000 in
theorem lex_any (t : Txt) (htl : t.length ≤ 100000000) (w : World) :
    Calls Tryz.prog 8 #[str t] w (LexPost w (lexT t)) := by
  have hsz := sz t
  by_cases h : 20000 < t.length
  · rw [L7.lexT_long h]
    have d : (20000 : Int) < (t.length : Int) := by omega
    clear h
    go_enter Tryz.func8, Tryz.ntmps8
    go_wp2_with fail
    go_ret3
    exact ⟨_, rfl, Slc.nil _, Below.refl _ _⟩
  · have C := Lib.hid (fun W => scan_any t (by omega) W)
    have d : ¬ (20000 : Int) < (t.length : Int) := by omega
    obtain ⟨R, hR⟩ : ∃ R, lexT t = R := ⟨_, rfl⟩
    rw [hR] at C ⊢
    clear hR h
    go_enter Tryz.func8, Tryz.ntmps8
    go_wp2_with fail
    refine (C.out _).mono ?_
    rintro e w1 ⟨v, rfl, ht, hb⟩
    have HT := Lib.hid ht
    have HB := Lib.hid hb
    clear ht hb
    go_wp2_with fail
    go_ret3
    exact ⟨_, rfl, HT.out, HB.out⟩
end Go.Proofs.YtcgkaecaddpenaaGreatDoor
