/- The program's readers of small structs. -/
import Derived.Test.YtcgkaecaddpenaaGreatDoorPsBlk
namespace Go.Proofs.YtcgkaecaddpenaaGreatDoor
open Go.RowKit
open L7 (Tk)
open L8
set_option linter.unusedSimpArgs false

theorem pur_bnd {α β : Type} (a : α) (q : α → P β) (r : List Tk) : ((pure a : P α) >>= q) r = q a r := rfl
def isVr (_ : World) (v : Value) (a : Vr) : Prop := v = .agg #[str a.name, str a.table]
theorem infoVar : (Tryz.prog.info? 94).map (·.size) = some 2 := by kernel_rfl
theorem infoVal : (Tryz.prog.info? 55).map (·.size) = some 3 := by kernel_rfl
theorem infoCol : (Tryz.prog.info? 89).map (·.size) = some 5 := by kernel_rfl
def isCol (_ : World) (v : Value) (a : Col) : Prop := v = .agg #[str a.name, .int .i64 a.kind, .int .i64 a.dflt.k, .int .i64 a.dflt.n, str a.dflt.t]
set_option maxRecDepth 100000 in
set_option maxHeartbeats 8000000 in
theorem var_any {p : Ps} {r : List Tk} {lv : Int} (w : World) (h : Sta w p r lv) :
    Calls Tryz.prog 74 #[ptr p.g] w (PPost p lv w isVr (varP r)) := by
  obtain ⟨R, hR⟩ : ∃ R, varP r = R := ⟨_, rfl⟩
  rw [hR]
  have R0 := Lib.hid hR.symm
  have G := Lib.hid (And.intro h.lt h.lt2)
  have S0 := Lib.hid h
  have N0 := Lib.hid (Tch.refl (fun b => b = p.g) w)
  obtain ⟨A, hA⟩ : ∃ A, w.heap.size = A := ⟨_, rfl⟩
  have HA := Lib.hid hA
  rw [hA] at G
  clear hR h
  go_enter Tryz.func74, Tryz.ntmps74
  go_wp2_with fail
  refine (name_any _ (S0.out.keep (below_box _ (.cells #[str [], str []] 94)))).mono ?_
  intro e w1 hp
  rcases h1 : nameP r with ⟨a1, r1⟩ | ⟨b1, r1⟩
  · obtain ⟨v1, rfl, rfl, hs, hn⟩ := ppost_ok h1 hp
    have R1 := Lib.hid (R0.out.trans (bnd_ok h1))
    have S1 := Lib.hid hs
    have hA : Blk w1 A 94 #[str [], str []] := by
      have q := ((Blk.new w 94 #[str [], str []]) : Blk _ _ _ _)
      rw [HA.out] at q
      exact q.near hn (Nat.ne_of_gt G.out.1)
    have BA1 := Lib.hid hA
    have N1 := Lib.hid ((N0.out.trans (Tch.of_below (below_box _ (.cells #[str [], str []] 94)))).trans hn)
    have Y1 := Lib.hid h1
    clear hs hn hp hA h1
    go_wp2_with fail
    refine (name_any _ S1.out).mono ?_
    intro e w2 hp
    rcases h2 : nameP r1 with ⟨a2, r2⟩ | ⟨b2, r2⟩
    · obtain ⟨v2, rfl, rfl, hs, hn⟩ := ppost_ok h2 hp
      have R2 := Lib.hid (R1.out.trans (bnd_ok h2))
      have S2 := Lib.hid hs
      have hA : Blk w2 A 94 #[str [], str []] := BA1.out.near hn (Nat.ne_of_gt G.out.1)
      have BA2 := Lib.hid hA
      have N2 := Lib.hid (N1.out.trans hn)
      have Y2 := Lib.hid h2
      clear hs hn hp hA h2
      have HQ := Lib.hid BA2.out
      go_wp2_with (refine wpList_store_row rfl 94 (.tmp 2) (.tmp 9) rfl A #[str a2, str a1] rfl rfl _ _ HQ.out infoVar rfl (by simp [Value.oneCell']) ?_)
      have hres := (HQ.out.row #[str a2, str a1])
      exact bodyPost_ret (v := .agg #[str a2, str a1]) (results_cell_row rfl _ _ A _ _ _ _ rfl hres Tryz.underlying94 rfl infoVar) rfl
        (ppost_of_ok R2.out rfl (S2.out.row G.out.1 G.out.2 _) (N2.out.row (Nat.le_of_eq HA.out) _))
    · obtain ⟨rfl, hn⟩ := ppost_bad h2 hp
      exact ⟨rfl, ppost_of_bad (R1.out.trans (bnd_bad h2)) (N1.out.trans hn)⟩
  · obtain ⟨rfl, hn⟩ := ppost_bad h1 hp
    exact ⟨rfl, ppost_of_bad (R0.out.trans (bnd_bad h1)) ((N0.out.trans (Tch.of_below (below_box _ (.cells #[str [], str []] 94)))).trans hn)⟩
theorem kindP_hd (n : Nat) (k : Int) (hk : k ≠ 0) (r : List Tk) : kindP k r = .ok (decide ((hdT n r).kind = k)) r := by
  unfold kindP
  cases r with
  | nil =>
    have e1 : decide ((([] : List Tk).head?.map (·.kind)) = some k) = false := by simp
    have e2 : decide ((hdT n []).kind = k) = false := decide_eq_false (fun e => hk e.symm)
    rw [e1, e2]
  | cons t r =>
    have e1 : decide (((t :: r).head?.map (·.kind)) = some k) = decide (t.kind = k) := by simp
    rw [e1]
    rfl
theorem num_rng {w : World} {p : Ps} {r r1 : List Tk} {lv a : Int} (h : Sta w p r lv) (hn : numP r = .ok a r1) : 0 ≤ a ∧ a ≤ 9999999999 := by
  obtain ⟨off, cap, h⟩ := h
  cases r with
  | nil => exact absurd hn (by rw [show numP [] = .bad false [] from bnd_bad rfl]; simp)
  | cons t r =>
    have g := h.good t (by simp)
    by_cases hk : t.kind = 2
    · rw [show numP (t :: r) = .ok t.n r from bnd_ok (if_pos hk)] at hn
      cases hn
      exact ⟨g.lo, g.hi⟩
    · rw [show numP (t :: r) = .bad false (t :: r) from bnd_bad (if_neg hk)] at hn
      cases hn
set_option maxRecDepth 100000 in
set_option maxHeartbeats 8000000 in
theorem value_text {p : Ps} {r : List Tk} {lv : Int} (hk : (hdT p.n r).kind = 3) (w : World) (h : Sta w p r lv) :
    Calls Tryz.prog 84 #[ptr p.g] w (PPost p lv w isVa (valueP r)) := by
  obtain ⟨R, hR⟩ : ∃ R, valueP r = R := ⟨_, rfl⟩
  rw [hR]
  have R0 := Lib.hid hR.symm
  have G := Lib.hid (And.intro h.lt h.lt2)
  have S0 := Lib.hid h
  have N0 := Lib.hid (Tch.refl (fun b => b = p.g) w)
  obtain ⟨A, hA⟩ : ∃ A, w.heap.size = A := ⟨_, rfl⟩
  have HA := Lib.hid hA
  rw [hA] at G
  clear hR h
  obtain ⟨off, cap, hst⟩ := (S0.out.keep (below_box w (.cells #[.int .i64 0, .int .i64 0, str []] 55)) : Sta _ p r lv)
  obtain ⟨k0, k1, k2, k3⟩ := hst.head
  have c0 := hst.c0
  have hcap := hst.hc
  have hf := field1
  have d0 : ((hdT p.n r).kind == 3) = true := by rw [beq_iff_eq]; exact hk
  have Kq := R0.out.trans (bnd_ok (kindP_hd p.n 3 (by decide) r))
  rw [decide_eq_true hk] at Kq
  simp only [eq_self, if_true, if_false, Bool.false_eq_true, pur_bnd] at Kq
  have R0z := Lib.hid Kq
  clear hst Kq hk
  go_enter Tryz.func84, Tryz.ntmps84
  go_wp2_with fail
  refine (take_any 3 (by decide) _ (S0.out.keep (below_box _ (.cells #[.int .i64 0, .int .i64 0, str []] 55)))).mono ?_
  intro e w1 hp
  rcases h1 : takeP 3 r with ⟨a1, r1⟩ | ⟨b1, r1⟩
  · obtain ⟨v1, rfl, rfl, hs, hn⟩ := ppost_ok h1 hp
    have R1 := Lib.hid (R0z.out.trans (bnd_ok h1))
    have S1 := Lib.hid hs
    have hA : Blk w1 A 55 #[.int .i64 0, .int .i64 0, str []] := by
      have q := ((Blk.new w 55 #[.int .i64 0, .int .i64 0, str []]) : Blk _ _ _ _)
      rw [HA.out] at q
      exact q.near hn (Nat.ne_of_gt G.out.1)
    have BA1 := Lib.hid hA
    have N1 := Lib.hid ((N0.out.trans (Tch.of_below (below_box _ (.cells #[.int .i64 0, .int .i64 0, str []] 55)))).trans hn)
    have Y1 := Lib.hid h1
    clear hs hn hp hA h1
    have HQ := Lib.hid BA1.out
    go_wp2_with (refine wpList_store_row rfl 55 (.tmp 2) (.tmp 15) rfl A #[.int .i64 1, .int .i64 0, str a1.text] rfl rfl _ _ HQ.out infoVal rfl (by simp [Value.oneCell']) ?_)
    have hres := (HQ.out.row #[.int .i64 1, .int .i64 0, str a1.text])
    exact bodyPost_ret (v := .agg #[.int .i64 1, .int .i64 0, str a1.text]) (results_cell_row rfl _ _ A _ _ _ _ rfl hres Tryz.underlying55 rfl infoVal) rfl
      (ppost_of_ok R1.out rfl (S1.out.row G.out.1 G.out.2 _) (N1.out.row (Nat.le_of_eq HA.out) _))
  · obtain ⟨rfl, hn⟩ := ppost_bad h1 hp
    exact ⟨rfl, ppost_of_bad (R0z.out.trans (bnd_bad h1)) ((N0.out.trans (Tch.of_below (below_box _ (.cells #[.int .i64 0, .int .i64 0, str []] 55)))).trans hn)⟩
set_option maxRecDepth 100000 in
set_option maxHeartbeats 8000000 in
theorem value_rest {p : Ps} {r : List Tk} {lv : Int} (hk : (hdT p.n r).kind ≠ 3) (w : World) (h : Sta w p r lv) :
    Calls Tryz.prog 84 #[ptr p.g] w (PPost p lv w isVa (valueP r)) := by
  obtain ⟨R, hR⟩ : ∃ R, valueP r = R := ⟨_, rfl⟩
  rw [hR]
  have R0 := Lib.hid hR.symm
  have G := Lib.hid (And.intro h.lt h.lt2)
  have S0 := Lib.hid h
  have N0 := Lib.hid (Tch.refl (fun b => b = p.g) w)
  obtain ⟨A, hA⟩ : ∃ A, w.heap.size = A := ⟨_, rfl⟩
  have HA := Lib.hid hA
  rw [hA] at G
  clear hR h
  obtain ⟨off, cap, hst⟩ := (S0.out.keep (below_box w (.cells #[.int .i64 0, .int .i64 0, str []] 55)) : Sta _ p r lv)
  obtain ⟨k0, k1, k2, k3⟩ := hst.head
  have c0 := hst.c0
  have hcap := hst.hc
  have hf := field1
  have d0 : ((hdT p.n r).kind == 3) = false := by rw [beq_eq_false_iff_ne]; exact hk
  have Kq := R0.out.trans (bnd_ok (kindP_hd p.n 3 (by decide) r))
  rw [decide_eq_false hk] at Kq
  simp only [eq_self, if_true, if_false, Bool.false_eq_true, pur_bnd] at Kq
  have R0z := Lib.hid Kq
  clear hst Kq hk
  go_enter Tryz.func84, Tryz.ntmps84
  obtain ⟨c1, r1, h1⟩ := acc_ok [45] r
  have X1 := Lib.hid h1
  go_wp2_with fail
  refine (accept_any [45] (by decide) _ (S0.out.keep (below_box _ (.cells #[.int .i64 0, .int .i64 0, str []] 55)))).mono ?_
  intro e w1 hp
  obtain ⟨v1, rfl, rfl, hs, hn⟩ := ppost_ok X1.out hp
  have R1 := Lib.hid (R0z.out.trans (bnd_ok X1.out))
  have S1 := Lib.hid hs
  have hA : Blk w1 A 55 #[.int .i64 0, .int .i64 0, str []] := by
    have q := ((Blk.new w 55 #[.int .i64 0, .int .i64 0, str []]) : Blk _ _ _ _)
    rw [HA.out] at q
    exact q.near hn (Nat.ne_of_gt G.out.1)
  have BA1 := Lib.hid hA
  have N1 := Lib.hid ((N0.out.trans (Tch.of_below (below_box _ (.cells #[.int .i64 0, .int .i64 0, str []] 55)))).trans hn)
  clear hs hn hp hA h1
  cases c1
  · skip
    have R1q := R1.out
    simp only [eq_self, if_true, if_false, Bool.false_eq_true, pur_bnd] at R1q
    have R1z := Lib.hid R1q
    clear R1q
    obtain ⟨c2, r2, h2⟩ := acc_ok [64] r1
    have X2 := Lib.hid h2
    go_wp2_with fail
    refine (accept_any [64] (by decide) _ S1.out).mono ?_
    intro e w2 hp
    obtain ⟨v2, rfl, rfl, hs, hn⟩ := ppost_ok X2.out hp
    have R2 := Lib.hid (R1z.out.trans (bnd_ok X2.out))
    have S2 := Lib.hid hs
    have hA : Blk w2 A 55 #[.int .i64 0, .int .i64 0, str []] := BA1.out.near hn (Nat.ne_of_gt G.out.1)
    have BA2 := Lib.hid hA
    have N2 := Lib.hid (N1.out.trans hn)
    clear hs hn hp hA h2
    cases c2
    · skip
      have R2q := R2.out
      simp only [eq_self, if_true, if_false, Bool.false_eq_true, pur_bnd] at R2q
      have R2z := Lib.hid R2q
      clear R2q
      obtain ⟨c3, r3, h3⟩ := acc_ok [116, 114, 117, 101] r2
      have X3 := Lib.hid h3
      go_wp2_with fail
      refine (accept_any [116, 114, 117, 101] (by decide) _ S2.out).mono ?_
      intro e w3 hp
      obtain ⟨v3, rfl, rfl, hs, hn⟩ := ppost_ok X3.out hp
      have R3 := Lib.hid (R2z.out.trans (bnd_ok X3.out))
      have S3 := Lib.hid hs
      have hA : Blk w3 A 55 #[.int .i64 0, .int .i64 0, str []] := BA2.out.near hn (Nat.ne_of_gt G.out.1)
      have BA3 := Lib.hid hA
      have N3 := Lib.hid (N2.out.trans hn)
      clear hs hn hp hA h3
      cases c3
      · skip
        have R3q := R3.out
        simp only [eq_self, if_true, if_false, Bool.false_eq_true, pur_bnd] at R3q
        have R3z := Lib.hid R3q
        clear R3q
        obtain ⟨c4, r4, h4⟩ := acc_ok [102, 97, 108, 115, 101] r3
        have X4 := Lib.hid h4
        go_wp2_with fail
        refine (accept_any [102, 97, 108, 115, 101] (by decide) _ S3.out).mono ?_
        intro e w4 hp
        obtain ⟨v4, rfl, rfl, hs, hn⟩ := ppost_ok X4.out hp
        have R4 := Lib.hid (R3z.out.trans (bnd_ok X4.out))
        have S4 := Lib.hid hs
        have hA : Blk w4 A 55 #[.int .i64 0, .int .i64 0, str []] := BA3.out.near hn (Nat.ne_of_gt G.out.1)
        have BA4 := Lib.hid hA
        have N4 := Lib.hid (N3.out.trans hn)
        clear hs hn hp hA h4
        cases c4
        · skip
          have R4q := R4.out
          simp only [eq_self, if_true, if_false, Bool.false_eq_true, pur_bnd] at R4q
          have R4z := Lib.hid R4q
          clear R4q
          obtain ⟨c5, r5, h5⟩ := acc_ok [110, 117, 108, 108] r4
          have X5 := Lib.hid h5
          go_wp2_with fail
          refine (accept_any [110, 117, 108, 108] (by decide) _ S4.out).mono ?_
          intro e w5 hp
          obtain ⟨v5, rfl, rfl, hs, hn⟩ := ppost_ok X5.out hp
          have R5 := Lib.hid (R4z.out.trans (bnd_ok X5.out))
          have S5 := Lib.hid hs
          have hA : Blk w5 A 55 #[.int .i64 0, .int .i64 0, str []] := BA4.out.near hn (Nat.ne_of_gt G.out.1)
          have BA5 := Lib.hid hA
          have N5 := Lib.hid (N4.out.trans hn)
          clear hs hn hp hA h5
          cases c5
          · skip
            have R5q := R5.out
            simp only [eq_self, if_true, if_false, Bool.false_eq_true, pur_bnd] at R5q
            have R5z := Lib.hid R5q
            clear R5q
            go_wp2_with fail
            refine (number_any _ S5.out).mono ?_
            intro e w6 hp
            rcases h6 : numP r5 with ⟨a6, r6⟩ | ⟨b6, r6⟩
            · obtain ⟨v6, rfl, rfl, hs, hn⟩ := ppost_ok h6 hp
              have R6 := Lib.hid (R5z.out.trans (bnd_ok h6))
              have S6 := Lib.hid hs
              have hA : Blk w6 A 55 #[.int .i64 0, .int .i64 0, str []] := BA5.out.near hn (Nat.ne_of_gt G.out.1)
              have BA6 := Lib.hid hA
              have N6 := Lib.hid (N5.out.trans hn)
              have Y6 := Lib.hid h6
              clear hs hn hp hA h6
              have HQ := Lib.hid BA6.out
              go_wp2_with (refine wpList_store_row rfl 55 (.tmp 2) (.tmp 43) rfl A #[.int .i64 2, .int .i64 a6, str []] rfl rfl _ _ HQ.out infoVal rfl (by simp [Value.oneCell']) ?_)
              have hres := (HQ.out.row #[.int .i64 2, .int .i64 a6, str []])
              exact bodyPost_ret (v := .agg #[.int .i64 2, .int .i64 a6, str []]) (results_cell_row rfl _ _ A _ _ _ _ rfl hres Tryz.underlying55 rfl infoVal) rfl
                (ppost_of_ok R6.out rfl (S6.out.row G.out.1 G.out.2 _) (N6.out.row (Nat.le_of_eq HA.out) _))
            · obtain ⟨rfl, hn⟩ := ppost_bad h6 hp
              exact ⟨rfl, ppost_of_bad (R5z.out.trans (bnd_bad h6)) (N5.out.trans hn)⟩
          · skip
            have R5q := R5.out
            simp only [eq_self, if_true, if_false, Bool.false_eq_true, pur_bnd] at R5q
            have R5z := Lib.hid R5q
            clear R5q
            have HQ := Lib.hid BA5.out
            go_wp2_with (refine wpList_store_row rfl 55 (.tmp 2) (.tmp 40) rfl A #[.int .i64 0, .int .i64 0, str []] rfl rfl _ _ HQ.out infoVal rfl (by simp [Value.oneCell']) ?_)
            have hres := (HQ.out.row #[.int .i64 0, .int .i64 0, str []])
            exact bodyPost_ret (v := .agg #[.int .i64 0, .int .i64 0, str []]) (results_cell_row rfl _ _ A _ _ _ _ rfl hres Tryz.underlying55 rfl infoVal) rfl
              (ppost_of_ok R5z.out rfl (S5.out.row G.out.1 G.out.2 _) (N5.out.row (Nat.le_of_eq HA.out) _))
        · skip
          have R4q := R4.out
          simp only [eq_self, if_true, if_false, Bool.false_eq_true, pur_bnd] at R4q
          have R4z := Lib.hid R4q
          clear R4q
          have HQ := Lib.hid BA4.out
          go_wp2_with (refine wpList_store_row rfl 55 (.tmp 2) (.tmp 36) rfl A #[.int .i64 4, .int .i64 0, str []] rfl rfl _ _ HQ.out infoVal rfl (by simp [Value.oneCell']) ?_)
          have hres := (HQ.out.row #[.int .i64 4, .int .i64 0, str []])
          exact bodyPost_ret (v := .agg #[.int .i64 4, .int .i64 0, str []]) (results_cell_row rfl _ _ A _ _ _ _ rfl hres Tryz.underlying55 rfl infoVal) rfl
            (ppost_of_ok R4z.out rfl (S4.out.row G.out.1 G.out.2 _) (N4.out.row (Nat.le_of_eq HA.out) _))
      · skip
        have R3q := R3.out
        simp only [eq_self, if_true, if_false, Bool.false_eq_true, pur_bnd] at R3q
        have R3z := Lib.hid R3q
        clear R3q
        have HQ := Lib.hid BA3.out
        go_wp2_with (refine wpList_store_row rfl 55 (.tmp 2) (.tmp 32) rfl A #[.int .i64 4, .int .i64 1, str []] rfl rfl _ _ HQ.out infoVal rfl (by simp [Value.oneCell']) ?_)
        have hres := (HQ.out.row #[.int .i64 4, .int .i64 1, str []])
        exact bodyPost_ret (v := .agg #[.int .i64 4, .int .i64 1, str []]) (results_cell_row rfl _ _ A _ _ _ _ rfl hres Tryz.underlying55 rfl infoVal) rfl
          (ppost_of_ok R3z.out rfl (S3.out.row G.out.1 G.out.2 _) (N3.out.row (Nat.le_of_eq HA.out) _))
    · skip
      have R2q := R2.out
      simp only [eq_self, if_true, if_false, Bool.false_eq_true, pur_bnd] at R2q
      have R2z := Lib.hid R2q
      clear R2q
      go_wp2_with fail
      refine (number_any _ S2.out).mono ?_
      intro e w3 hp
      rcases h3 : numP r2 with ⟨a3, r3⟩ | ⟨b3, r3⟩
      · obtain ⟨v3, rfl, rfl, hs, hn⟩ := ppost_ok h3 hp
        have R3 := Lib.hid (R2z.out.trans (bnd_ok h3))
        have S3 := Lib.hid hs
        have hA : Blk w3 A 55 #[.int .i64 0, .int .i64 0, str []] := BA2.out.near hn (Nat.ne_of_gt G.out.1)
        have BA3 := Lib.hid hA
        have N3 := Lib.hid (N2.out.trans hn)
        have Y3 := Lib.hid h3
        clear hs hn hp hA h3
        have HQ := Lib.hid BA3.out
        go_wp2_with (refine wpList_store_row rfl 55 (.tmp 2) (.tmp 28) rfl A #[.int .i64 3, .int .i64 a3, str []] rfl rfl _ _ HQ.out infoVal rfl (by simp [Value.oneCell']) ?_)
        have hres := (HQ.out.row #[.int .i64 3, .int .i64 a3, str []])
        exact bodyPost_ret (v := .agg #[.int .i64 3, .int .i64 a3, str []]) (results_cell_row rfl _ _ A _ _ _ _ rfl hres Tryz.underlying55 rfl infoVal) rfl
          (ppost_of_ok R3.out rfl (S3.out.row G.out.1 G.out.2 _) (N3.out.row (Nat.le_of_eq HA.out) _))
      · obtain ⟨rfl, hn⟩ := ppost_bad h3 hp
        exact ⟨rfl, ppost_of_bad (R2z.out.trans (bnd_bad h3)) (N2.out.trans hn)⟩
  · skip
    have R1q := R1.out
    simp only [eq_self, if_true, if_false, Bool.false_eq_true, pur_bnd] at R1q
    have R1z := Lib.hid R1q
    clear R1q
    go_wp2_with fail
    refine (number_any _ S1.out).mono ?_
    intro e w2 hp
    rcases h2 : numP r1 with ⟨a2, r2⟩ | ⟨b2, r2⟩
    · obtain ⟨v2, rfl, rfl, hs, hn⟩ := ppost_ok h2 hp
      have R2 := Lib.hid (R1z.out.trans (bnd_ok h2))
      have S2 := Lib.hid hs
      have hA : Blk w2 A 55 #[.int .i64 0, .int .i64 0, str []] := BA1.out.near hn (Nat.ne_of_gt G.out.1)
      have BA2 := Lib.hid hA
      have N2 := Lib.hid (N1.out.trans hn)
      have Y2 := Lib.hid h2
      clear hs hn hp hA h2
      have i0 := (num_rng S1.out Y2.out).1
      have i1 := (num_rng S1.out Y2.out).2
      have i2 : IntKind.i64.wrap (-a2) = -a2 := IntWalk.i64_in _ (by omega)
      have HQ := Lib.hid BA2.out
      go_wp2_with (refine wpList_store_row rfl 55 (.tmp 2) (.tmp 22) rfl A #[.int .i64 2, .int .i64 (-a2), str []] rfl rfl _ _ HQ.out infoVal rfl (by simp [Value.oneCell']) ?_)
      have hres := (HQ.out.row #[.int .i64 2, .int .i64 (-a2), str []])
      exact bodyPost_ret (v := .agg #[.int .i64 2, .int .i64 (-a2), str []]) (results_cell_row rfl _ _ A _ _ _ _ rfl hres Tryz.underlying55 rfl infoVal) rfl
        (ppost_of_ok R2.out rfl (S2.out.row G.out.1 G.out.2 _) (N2.out.row (Nat.le_of_eq HA.out) _))
    · obtain ⟨rfl, hn⟩ := ppost_bad h2 hp
      exact ⟨rfl, ppost_of_bad (R1z.out.trans (bnd_bad h2)) (N1.out.trans hn)⟩
theorem value_any {p : Ps} {r : List Tk} {lv : Int} (w : World) (h : Sta w p r lv) : Calls Tryz.prog 84 #[ptr p.g] w (PPost p lv w isVa (valueP r)) := by
  by_cases hk : (hdT p.n r).kind = 3
  · exact value_text hk w h
  · exact value_rest hk w h
end Go.Proofs.YtcgkaecaddpenaaGreatDoor
