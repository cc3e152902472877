/- The program's readers of conditions and terms. -/
import Derived.Test.YtcgkaecaddpenaaGreatDoorPsPgE
namespace Go.Proofs.YtcgkaecaddpenaaGreatDoor
open Go.RowKit
open L7 (Tk)
open L8
set_option linter.unusedSimpArgs false

set_option maxRecDepth 100000 in
set_option maxHeartbeats 8000000 in
theorem cond_any {p : Ps} {r : List Tk} {lv : Int} (w : World) (h : Sta w p r lv) :
    Calls Tryz.prog 86 #[ptr p.g] w (PPost p lv w isCnd (condP r)) := by
  obtain ⟨R, hR⟩ : ∃ R, condP r = R := ⟨_, rfl⟩
  rw [hR]
  have R0 := Lib.hid hR.symm
  have G := Lib.hid (And.intro h.lt h.lt2)
  have S0 := Lib.hid h
  have N0 := Lib.hid (Tch.refl (fun b => b = p.g) w)
  obtain ⟨A, hA⟩ : ∃ A, w.heap.size = A := ⟨_, rfl⟩
  have HA := Lib.hid hA
  rw [hA] at G
  clear hR h
  go_enter Tryz.func86, Tryz.ntmps86
  go_wp2_with fail
  refine (side_any _ (S0.out.keep (below_box _ (.cells #[str [], str [], .bool false, .int .i64 0, .int .i64 0, str [], .int .i64 0, str [], str [], .bool false, .int .i64 0, .int .i64 0, str [], .int .i64 0] 59)))).mono ?_
  intro e w1 hp
  rcases h1 : sideP r with ⟨a1, r1⟩ | ⟨b1, r1⟩
  · obtain ⟨v1, rfl, rfl, hs, hn⟩ := ppost_ok h1 hp
    have R1 := Lib.hid (R0.out.trans (bnd_ok h1))
    have S1 := Lib.hid hs
    have hA : Blk w1 A 59 #[str [], str [], .bool false, .int .i64 0, .int .i64 0, str [], .int .i64 0, str [], str [], .bool false, .int .i64 0, .int .i64 0, str [], .int .i64 0] := by
      have q := ((Blk.new w 59 #[str [], str [], .bool false, .int .i64 0, .int .i64 0, str [], .int .i64 0, str [], str [], .bool false, .int .i64 0, .int .i64 0, str [], .int .i64 0]) : Blk _ _ _ _)
      rw [HA.out] at q
      exact q.near hn (Nat.ne_of_gt G.out.1)
    have BA1 := Lib.hid hA
    have N1 := Lib.hid ((N0.out.trans (Tch.of_below (below_box _ (.cells #[str [], str [], .bool false, .int .i64 0, .int .i64 0, str [], .int .i64 0, str [], str [], .bool false, .int .i64 0, .int .i64 0, str [], .int .i64 0] 59)))).trans hn)
    have Y1 := Lib.hid h1
    clear hs hn hp hA h1
    obtain ⟨B, hB⟩ : ∃ x, w1.heap.size = x := ⟨_, rfl⟩
    have HB := Lib.hid hB
    have GB := Lib.hid (show p.g < B ∧ p.b < B ∧ w.heap.size ≤ B ∧ A < B from by have q1 := BA1.out.lt; have q2 := G.out; have q3 := HA.out; rw [hB] at q1; omega)
    obtain ⟨f, f0, hu, ht, hb⟩ := tab_chain (w1.alloc (.cells #[str a1.var, str a1.attr, .bool a1.const, .int .i64 a1.v.k, .int .i64 a1.v.n, str a1.v.t, .int .i64 0, str [], str [], .bool false, .int .i64 0, .int .i64 0, str [], .int .i64 0] 59)) [.int .i64 0, .int .i64 1, .int .i64 2, .int .i64 3, .int .i64 4] (by simp) [[61], [33, 61], [60], [60, 61]] (by decide) (by decide) (by decide) rfl Tryz.underlying119 (e := 3) 4 (by decide)
    have u0 : (Instr.mapUpdate 119 (.map (some (w1.alloc (.cells #[str a1.var, str a1.attr, .bool a1.const, .int .i64 a1.v.k, .int .i64 a1.v.n, str a1.v.t, .int .i64 0, str [], str [], .bool false, .int .i64 0, .int .i64 0, str [], .int .i64 0] 59)).heap.size)) (str [61]) (.int .i64 1)).run Tryz.prog (f 0) = .ok () (f 1) := hu 0 _ _ (by decide) rfl rfl
    have u1 : (Instr.mapUpdate 119 (.map (some (w1.alloc (.cells #[str a1.var, str a1.attr, .bool a1.const, .int .i64 a1.v.k, .int .i64 a1.v.n, str a1.v.t, .int .i64 0, str [], str [], .bool false, .int .i64 0, .int .i64 0, str [], .int .i64 0] 59)).heap.size)) (str [33, 61]) (.int .i64 2)).run Tryz.prog (f 1) = .ok () (f 2) := hu 1 _ _ (by decide) rfl rfl
    have u2 : (Instr.mapUpdate 119 (.map (some (w1.alloc (.cells #[str a1.var, str a1.attr, .bool a1.const, .int .i64 a1.v.k, .int .i64 a1.v.n, str a1.v.t, .int .i64 0, str [], str [], .bool false, .int .i64 0, .int .i64 0, str [], .int .i64 0] 59)).heap.size)) (str [60]) (.int .i64 3)).run Tryz.prog (f 2) = .ok () (f 3) := hu 2 _ _ (by decide) rfl rfl
    have u3 : (Instr.mapUpdate 119 (.map (some (w1.alloc (.cells #[str a1.var, str a1.attr, .bool a1.const, .int .i64 a1.v.k, .int .i64 a1.v.n, str a1.v.t, .int .i64 0, str [], str [], .bool false, .int .i64 0, .int .i64 0, str [], .int .i64 0] 59)).heap.size)) (str [60, 61]) (.int .i64 4)).run Tryz.prog (f 3) = .ok () (f 4) := hu 3 _ _ (by decide) rfl rfl
    rw [f0] at u0
    obtain ⟨m1, e1⟩ : ∃ x, f 1 = x := ⟨_, rfl⟩
    rw [e1] at u0 u1
    obtain ⟨m2, e2⟩ : ∃ x, f 2 = x := ⟨_, rfl⟩
    rw [e2] at u1 u2
    obtain ⟨m3, e3⟩ : ∃ x, f 3 = x := ⟨_, rfl⟩
    rw [e3] at u2 u3
    obtain ⟨m4, e4⟩ : ∃ x, f 4 = x := ⟨_, rfl⟩
    rw [e4] at u3 ht hb
    have HM1 := Lib.hid hb
    have hmm := @run_makeMap Tryz.prog
    simp only [List.take_succ_cons, List.take_zero] at ht
    simp only [World.size_alloc, World.size_setCell, hA, hB] at u0 u1 u2 u3 ht
    have HT1 := Lib.hid ht
    clear f0 hu ht hb e1 e2 e3 e4
    go_wp2_with fail
    refine (chI4_any [[61], [33, 61], [60], [60, 61]] (by decide) rfl _ _ HT1.out ((S1.out.keep (below_box _ (.cells #[str a1.var, str a1.attr, .bool a1.const, .int .i64 a1.v.k, .int .i64 a1.v.n, str a1.v.t, .int .i64 0, str [], str [], .bool false, .int .i64 0, .int .i64 0, str [], .int .i64 0] 59))).keep HM1.out)).mono ?_
    intro e w2 hp
    rcases h2 : oneP [[61], [33, 61], [60], [60, 61]] r1 with ⟨a2, r2⟩ | ⟨b2, r2⟩
    · obtain ⟨v2, rfl, rfl, hs, hn⟩ := ppost_ok h2 hp
      have R2 := Lib.hid (R1.out.trans (bnd_ok h2))
      have S2 := Lib.hid hs
      have hA : Blk w2 A 59 #[str [], str [], .bool false, .int .i64 0, .int .i64 0, str [], .int .i64 0, str [], str [], .bool false, .int .i64 0, .int .i64 0, str [], .int .i64 0] := ((BA1.out.alloc (.cells #[str a1.var, str a1.attr, .bool a1.const, .int .i64 a1.v.k, .int .i64 a1.v.n, str a1.v.t, .int .i64 0, str [], str [], .bool false, .int .i64 0, .int .i64 0, str [], .int .i64 0] 59)).keep HM1.out).near hn (Nat.ne_of_gt G.out.1)
      have hB : Blk w2 B 59 #[str a1.var, str a1.attr, .bool a1.const, .int .i64 a1.v.k, .int .i64 a1.v.n, str a1.v.t, .int .i64 0, str [], str [], .bool false, .int .i64 0, .int .i64 0, str [], .int .i64 0] := by
        have q := (((Blk.new w1 59 #[str a1.var, str a1.attr, .bool a1.const, .int .i64 a1.v.k, .int .i64 a1.v.n, str a1.v.t, .int .i64 0, str [], str [], .bool false, .int .i64 0, .int .i64 0, str [], .int .i64 0]).keep HM1.out) : Blk _ _ _ _)
        rw [HB.out] at q
        exact q.near hn (Nat.ne_of_gt GB.out.1)
      have BA2 := Lib.hid hA
      have BB2 := Lib.hid hB
      have N2 := Lib.hid (((N1.out.trans (Tch.of_below (below_box _ (.cells #[str a1.var, str a1.attr, .bool a1.const, .int .i64 a1.v.k, .int .i64 a1.v.n, str a1.v.t, .int .i64 0, str [], str [], .bool false, .int .i64 0, .int .i64 0, str [], .int .i64 0] 59)))).trans (Tch.of_below HM1.out)).trans hn)
      have Y2 := Lib.hid h2
      clear hs hn hp hA hB h2
      have cB2 := fun i => BB2.out.cell i
      have fB2 := fun i => BB2.out.frozen i
      go_wp2_with fail
      refine (side_any _ (S2.out.cell (a := ⟨B, 6, none⟩) GB.out.1 GB.out.2.1 (.int .i64 a2))).mono ?_
      intro e w3 hp
      rcases h3 : sideP r2 with ⟨a3, r3⟩ | ⟨b3, r3⟩
      · obtain ⟨v3, rfl, rfl, hs, hn⟩ := ppost_ok h3 hp
        have R3 := Lib.hid (R2.out.trans (bnd_ok h3))
        have S3 := Lib.hid hs
        have hA : Blk w3 A 59 #[str [], str [], .bool false, .int .i64 0, .int .i64 0, str [], .int .i64 0, str [], str [], .bool false, .int .i64 0, .int .i64 0, str [], .int .i64 0] := (BA2.out.far (p := ⟨B, 6, none⟩) (Nat.ne_of_lt GB.out.2.2.2) (.int .i64 a2)).near hn (Nat.ne_of_gt G.out.1)
        have hB : Blk w3 B 59 #[str a1.var, str a1.attr, .bool a1.const, .int .i64 a1.v.k, .int .i64 a1.v.n, str a1.v.t, .int .i64 a2, str [], str [], .bool false, .int .i64 0, .int .i64 0, str [], .int .i64 0] := (BB2.out.set_ 6 (.int .i64 a2)).near hn (Nat.ne_of_gt GB.out.1)
        have BA3 := Lib.hid hA
        have BB3 := Lib.hid hB
        have N3 := Lib.hid ((N2.out.set2 (p := ⟨B, 6, none⟩) GB.out.2.2.1 (.int .i64 a2)).trans hn)
        have Y3 := Lib.hid h3
        clear hs hn hp hA hB h3
        have cB3 := fun i => BB3.out.cell i
        have fB3 := fun i => BB3.out.frozen i
        obtain ⟨c4, r4, h4⟩ := acc_ok [43] r3
        have X4 := Lib.hid h4
        go_wp2_with fail
        refine (accept_any [43] (by decide) _ ((((((S3.out.cell (a := ⟨B, 7, none⟩) GB.out.1 GB.out.2.1 (str a3.var)).cell (a := ⟨B, 8, none⟩) GB.out.1 GB.out.2.1 (str a3.attr)).cell (a := ⟨B, 9, none⟩) GB.out.1 GB.out.2.1 (.bool a3.const)).cell (a := ⟨B, 10, none⟩) GB.out.1 GB.out.2.1 (.int .i64 a3.v.k)).cell (a := ⟨B, 11, none⟩) GB.out.1 GB.out.2.1 (.int .i64 a3.v.n)).cell (a := ⟨B, 12, none⟩) GB.out.1 GB.out.2.1 (str a3.v.t))).mono ?_
        intro e w4 hp
        obtain ⟨v4, rfl, rfl, hs, hn⟩ := ppost_ok X4.out hp
        have R4 := Lib.hid (R3.out.trans (bnd_ok X4.out))
        have S4 := Lib.hid hs
        have hA : Blk w4 A 59 #[str [], str [], .bool false, .int .i64 0, .int .i64 0, str [], .int .i64 0, str [], str [], .bool false, .int .i64 0, .int .i64 0, str [], .int .i64 0] := ((((((BA3.out.far (p := ⟨B, 7, none⟩) (Nat.ne_of_lt GB.out.2.2.2) (str a3.var)).far (p := ⟨B, 8, none⟩) (Nat.ne_of_lt GB.out.2.2.2) (str a3.attr)).far (p := ⟨B, 9, none⟩) (Nat.ne_of_lt GB.out.2.2.2) (.bool a3.const)).far (p := ⟨B, 10, none⟩) (Nat.ne_of_lt GB.out.2.2.2) (.int .i64 a3.v.k)).far (p := ⟨B, 11, none⟩) (Nat.ne_of_lt GB.out.2.2.2) (.int .i64 a3.v.n)).far (p := ⟨B, 12, none⟩) (Nat.ne_of_lt GB.out.2.2.2) (str a3.v.t)).near hn (Nat.ne_of_gt G.out.1)
        have hB : Blk w4 B 59 #[str a1.var, str a1.attr, .bool a1.const, .int .i64 a1.v.k, .int .i64 a1.v.n, str a1.v.t, .int .i64 a2, str a3.var, str a3.attr, .bool a3.const, .int .i64 a3.v.k, .int .i64 a3.v.n, str a3.v.t, .int .i64 0] := ((((((BB3.out.set_ 7 (str a3.var)).set_ 8 (str a3.attr)).set_ 9 (.bool a3.const)).set_ 10 (.int .i64 a3.v.k)).set_ 11 (.int .i64 a3.v.n)).set_ 12 (str a3.v.t)).near hn (Nat.ne_of_gt GB.out.1)
        have BA4 := Lib.hid hA
        have BB4 := Lib.hid hB
        have N4 := Lib.hid (((((((N3.out.set2 (p := ⟨B, 7, none⟩) GB.out.2.2.1 (str a3.var)).set2 (p := ⟨B, 8, none⟩) GB.out.2.2.1 (str a3.attr)).set2 (p := ⟨B, 9, none⟩) GB.out.2.2.1 (.bool a3.const)).set2 (p := ⟨B, 10, none⟩) GB.out.2.2.1 (.int .i64 a3.v.k)).set2 (p := ⟨B, 11, none⟩) GB.out.2.2.1 (.int .i64 a3.v.n)).set2 (p := ⟨B, 12, none⟩) GB.out.2.2.1 (str a3.v.t)).trans hn)
        clear hs hn hp hA hB h4
        cases c4
        · skip
          have R4q := R4.out
          simp only [eq_self, if_true, if_false, Bool.false_eq_true, pur_bnd] at R4q
          have R4z := Lib.hid R4q
          clear R4q
          obtain ⟨c5, r5, h5⟩ := acc_ok [45] r4
          have X5 := Lib.hid h5
          go_wp2_with fail
          refine (accept_any [45] (by decide) _ S4.out).mono ?_
          intro e w5 hp
          obtain ⟨v5, rfl, rfl, hs, hn⟩ := ppost_ok X5.out hp
          have R5 := Lib.hid (R4z.out.trans (bnd_ok X5.out))
          have S5 := Lib.hid hs
          have hA : Blk w5 A 59 #[str [], str [], .bool false, .int .i64 0, .int .i64 0, str [], .int .i64 0, str [], str [], .bool false, .int .i64 0, .int .i64 0, str [], .int .i64 0] := BA4.out.near hn (Nat.ne_of_gt G.out.1)
          have hB : Blk w5 B 59 #[str a1.var, str a1.attr, .bool a1.const, .int .i64 a1.v.k, .int .i64 a1.v.n, str a1.v.t, .int .i64 a2, str a3.var, str a3.attr, .bool a3.const, .int .i64 a3.v.k, .int .i64 a3.v.n, str a3.v.t, .int .i64 0] := BB4.out.near hn (Nat.ne_of_gt GB.out.1)
          have BA5 := Lib.hid hA
          have BB5 := Lib.hid hB
          have N5 := Lib.hid (N4.out.trans hn)
          clear hs hn hp hA hB h5
          cases c5
          · skip
            have R5q := R5.out
            simp only [eq_self, if_true, if_false, Bool.false_eq_true, pur_bnd] at R5q
            have R5z := Lib.hid R5q
            clear R5q
            have HL := Lib.hid (show Blk _ B 59 #[str a1.var, str a1.attr, .bool a1.const, .int .i64 a1.v.k, .int .i64 a1.v.n, str a1.v.t, .int .i64 a2, str a3.var, str a3.attr, .bool a3.const, .int .i64 a3.v.k, .int .i64 a3.v.n, str a3.v.t, .int .i64 0] from BB5.out)
            have HQ := Lib.hid BA5.out
            go_wp2_with (first | (refine wpList_load_row rfl 59 (.tmp 3) rfl B rfl _ #[str a1.var, str a1.attr, .bool a1.const, .int .i64 a1.v.k, .int .i64 a1.v.n, str a1.v.t, .int .i64 a2, str a3.var, str a3.attr, .bool a3.const, .int .i64 a3.v.k, .int .i64 a3.v.n, str a3.v.t, .int .i64 0] _ _ HL.out Tryz.underlying59 rfl infoCnd ?_) | (refine wpList_store_row rfl 59 (.tmp 2) (.tmp 26) rfl A #[str a1.var, str a1.attr, .bool a1.const, .int .i64 a1.v.k, .int .i64 a1.v.n, str a1.v.t, .int .i64 a2, str a3.var, str a3.attr, .bool a3.const, .int .i64 a3.v.k, .int .i64 a3.v.n, str a3.v.t, .int .i64 0] rfl rfl _ _ HQ.out infoCnd rfl (by simp [Value.oneCell']) ?_))
            have hres := (HQ.out.row #[str a1.var, str a1.attr, .bool a1.const, .int .i64 a1.v.k, .int .i64 a1.v.n, str a1.v.t, .int .i64 a2, str a3.var, str a3.attr, .bool a3.const, .int .i64 a3.v.k, .int .i64 a3.v.n, str a3.v.t, .int .i64 0])
            exact bodyPost_ret (v := .agg #[str a1.var, str a1.attr, .bool a1.const, .int .i64 a1.v.k, .int .i64 a1.v.n, str a1.v.t, .int .i64 a2, str a3.var, str a3.attr, .bool a3.const, .int .i64 a3.v.k, .int .i64 a3.v.n, str a3.v.t, .int .i64 0]) (results_cell_row rfl _ _ A _ _ _ _ rfl hres Tryz.underlying59 rfl infoCnd) rfl
              (ppost_of_ok R5z.out rfl (S5.out.row G.out.1 G.out.2 _) (N5.out.row (Nat.le_of_eq HA.out) _))
          · skip
            have R5q := R5.out
            simp only [eq_self, if_true, if_false, Bool.false_eq_true, pur_bnd] at R5q
            have R5z := Lib.hid R5q
            clear R5q
            go_wp2_with fail
            refine (number_any _ S5.out).mono ?_
            intro e w6 hp
            rcases h6 : numP r5 with ⟨a6, r6⟩ | ⟨b6, r6⟩
            · obtain ⟨v6, rfl, rfl, hs, hn⟩ := ppost_ok h6 hp
              have R6 := Lib.hid (R5z.out.trans (bnd_ok h6))
              have S6 := Lib.hid hs
              have hA : Blk w6 A 59 #[str [], str [], .bool false, .int .i64 0, .int .i64 0, str [], .int .i64 0, str [], str [], .bool false, .int .i64 0, .int .i64 0, str [], .int .i64 0] := BA5.out.near hn (Nat.ne_of_gt G.out.1)
              have hB : Blk w6 B 59 #[str a1.var, str a1.attr, .bool a1.const, .int .i64 a1.v.k, .int .i64 a1.v.n, str a1.v.t, .int .i64 a2, str a3.var, str a3.attr, .bool a3.const, .int .i64 a3.v.k, .int .i64 a3.v.n, str a3.v.t, .int .i64 0] := BB5.out.near hn (Nat.ne_of_gt GB.out.1)
              have BA6 := Lib.hid hA
              have BB6 := Lib.hid hB
              have N6 := Lib.hid (N5.out.trans hn)
              have Y6 := Lib.hid h6
              clear hs hn hp hA hB h6
              have i0 := (num_rng S5.out Y6.out).1
              have i1 := (num_rng S5.out Y6.out).2
              have i2 : IntKind.i64.wrap (-a6) = -a6 := IntWalk.i64_in _ (by omega)
              have cB6 := fun i => BB6.out.cell i
              have fB6 := fun i => BB6.out.frozen i
              have HL := Lib.hid (show Blk _ B 59 #[str a1.var, str a1.attr, .bool a1.const, .int .i64 a1.v.k, .int .i64 a1.v.n, str a1.v.t, .int .i64 a2, str a3.var, str a3.attr, .bool a3.const, .int .i64 a3.v.k, .int .i64 a3.v.n, str a3.v.t, .int .i64 (-a6)] from (BB6.out.set_ 13 (.int .i64 (-a6))))
              have HQ := Lib.hid (BA6.out.far (p := ⟨B, 13, none⟩) (Nat.ne_of_lt GB.out.2.2.2) (.int .i64 (-a6)))
              go_wp2_with (first | (refine wpList_load_row rfl 59 (.tmp 3) rfl B rfl _ #[str a1.var, str a1.attr, .bool a1.const, .int .i64 a1.v.k, .int .i64 a1.v.n, str a1.v.t, .int .i64 a2, str a3.var, str a3.attr, .bool a3.const, .int .i64 a3.v.k, .int .i64 a3.v.n, str a3.v.t, .int .i64 (-a6)] _ _ HL.out Tryz.underlying59 rfl infoCnd ?_) | (refine wpList_store_row rfl 59 (.tmp 2) (.tmp 26) rfl A #[str a1.var, str a1.attr, .bool a1.const, .int .i64 a1.v.k, .int .i64 a1.v.n, str a1.v.t, .int .i64 a2, str a3.var, str a3.attr, .bool a3.const, .int .i64 a3.v.k, .int .i64 a3.v.n, str a3.v.t, .int .i64 (-a6)] rfl rfl _ _ HQ.out infoCnd rfl (by simp [Value.oneCell']) ?_))
              have hres := (HQ.out.row #[str a1.var, str a1.attr, .bool a1.const, .int .i64 a1.v.k, .int .i64 a1.v.n, str a1.v.t, .int .i64 a2, str a3.var, str a3.attr, .bool a3.const, .int .i64 a3.v.k, .int .i64 a3.v.n, str a3.v.t, .int .i64 (-a6)])
              exact bodyPost_ret (v := .agg #[str a1.var, str a1.attr, .bool a1.const, .int .i64 a1.v.k, .int .i64 a1.v.n, str a1.v.t, .int .i64 a2, str a3.var, str a3.attr, .bool a3.const, .int .i64 a3.v.k, .int .i64 a3.v.n, str a3.v.t, .int .i64 (-a6)]) (results_cell_row rfl _ _ A _ _ _ _ rfl hres Tryz.underlying59 rfl infoCnd) rfl
                (ppost_of_ok R6.out rfl ((S6.out.cell (a := ⟨B, 13, none⟩) GB.out.1 GB.out.2.1 (.int .i64 (-a6))).row G.out.1 G.out.2 _) ((N6.out.set2 (p := ⟨B, 13, none⟩) GB.out.2.2.1 (.int .i64 (-a6))).row (Nat.le_of_eq HA.out) _))
            · obtain ⟨rfl, hn⟩ := ppost_bad h6 hp
              exact ⟨rfl, ppost_of_bad (R5z.out.trans (bnd_bad h6)) (N5.out.trans hn)⟩
        · skip
          have R4q := R4.out
          simp only [eq_self, if_true, if_false, Bool.false_eq_true, pur_bnd] at R4q
          have R4z := Lib.hid R4q
          clear R4q
          go_wp2_with fail
          refine (number_any _ S4.out).mono ?_
          intro e w5 hp
          rcases h5 : numP r4 with ⟨a5, r5⟩ | ⟨b5, r5⟩
          · obtain ⟨v5, rfl, rfl, hs, hn⟩ := ppost_ok h5 hp
            have R5 := Lib.hid (R4z.out.trans (bnd_ok h5))
            have S5 := Lib.hid hs
            have hA : Blk w5 A 59 #[str [], str [], .bool false, .int .i64 0, .int .i64 0, str [], .int .i64 0, str [], str [], .bool false, .int .i64 0, .int .i64 0, str [], .int .i64 0] := BA4.out.near hn (Nat.ne_of_gt G.out.1)
            have hB : Blk w5 B 59 #[str a1.var, str a1.attr, .bool a1.const, .int .i64 a1.v.k, .int .i64 a1.v.n, str a1.v.t, .int .i64 a2, str a3.var, str a3.attr, .bool a3.const, .int .i64 a3.v.k, .int .i64 a3.v.n, str a3.v.t, .int .i64 0] := BB4.out.near hn (Nat.ne_of_gt GB.out.1)
            have BA5 := Lib.hid hA
            have BB5 := Lib.hid hB
            have N5 := Lib.hid (N4.out.trans hn)
            have Y5 := Lib.hid h5
            clear hs hn hp hA hB h5
            have cB5 := fun i => BB5.out.cell i
            have fB5 := fun i => BB5.out.frozen i
            have HL := Lib.hid (show Blk _ B 59 #[str a1.var, str a1.attr, .bool a1.const, .int .i64 a1.v.k, .int .i64 a1.v.n, str a1.v.t, .int .i64 a2, str a3.var, str a3.attr, .bool a3.const, .int .i64 a3.v.k, .int .i64 a3.v.n, str a3.v.t, .int .i64 a5] from (BB5.out.set_ 13 (.int .i64 a5)))
            have HQ := Lib.hid (BA5.out.far (p := ⟨B, 13, none⟩) (Nat.ne_of_lt GB.out.2.2.2) (.int .i64 a5))
            go_wp2_with (first | (refine wpList_load_row rfl 59 (.tmp 3) rfl B rfl _ #[str a1.var, str a1.attr, .bool a1.const, .int .i64 a1.v.k, .int .i64 a1.v.n, str a1.v.t, .int .i64 a2, str a3.var, str a3.attr, .bool a3.const, .int .i64 a3.v.k, .int .i64 a3.v.n, str a3.v.t, .int .i64 a5] _ _ HL.out Tryz.underlying59 rfl infoCnd ?_) | (refine wpList_store_row rfl 59 (.tmp 2) (.tmp 26) rfl A #[str a1.var, str a1.attr, .bool a1.const, .int .i64 a1.v.k, .int .i64 a1.v.n, str a1.v.t, .int .i64 a2, str a3.var, str a3.attr, .bool a3.const, .int .i64 a3.v.k, .int .i64 a3.v.n, str a3.v.t, .int .i64 a5] rfl rfl _ _ HQ.out infoCnd rfl (by simp [Value.oneCell']) ?_))
            have hres := (HQ.out.row #[str a1.var, str a1.attr, .bool a1.const, .int .i64 a1.v.k, .int .i64 a1.v.n, str a1.v.t, .int .i64 a2, str a3.var, str a3.attr, .bool a3.const, .int .i64 a3.v.k, .int .i64 a3.v.n, str a3.v.t, .int .i64 a5])
            exact bodyPost_ret (v := .agg #[str a1.var, str a1.attr, .bool a1.const, .int .i64 a1.v.k, .int .i64 a1.v.n, str a1.v.t, .int .i64 a2, str a3.var, str a3.attr, .bool a3.const, .int .i64 a3.v.k, .int .i64 a3.v.n, str a3.v.t, .int .i64 a5]) (results_cell_row rfl _ _ A _ _ _ _ rfl hres Tryz.underlying59 rfl infoCnd) rfl
              (ppost_of_ok R5.out rfl ((S5.out.cell (a := ⟨B, 13, none⟩) GB.out.1 GB.out.2.1 (.int .i64 a5)).row G.out.1 G.out.2 _) ((N5.out.set2 (p := ⟨B, 13, none⟩) GB.out.2.2.1 (.int .i64 a5)).row (Nat.le_of_eq HA.out) _))
          · obtain ⟨rfl, hn⟩ := ppost_bad h5 hp
            exact ⟨rfl, ppost_of_bad (R4z.out.trans (bnd_bad h5)) (N4.out.trans hn)⟩
      · obtain ⟨rfl, hn⟩ := ppost_bad h3 hp
        exact ⟨rfl, ppost_of_bad (R2.out.trans (bnd_bad h3)) ((N2.out.set2 (p := ⟨B, 6, none⟩) GB.out.2.2.1 (.int .i64 a2)).trans hn)⟩
    · obtain ⟨rfl, hn⟩ := ppost_bad h2 hp
      exact ⟨rfl, ppost_of_bad (R1.out.trans (bnd_bad h2)) (((N1.out.trans (Tch.of_below (below_box _ (.cells #[str a1.var, str a1.attr, .bool a1.const, .int .i64 a1.v.k, .int .i64 a1.v.n, str a1.v.t, .int .i64 0, str [], str [], .bool false, .int .i64 0, .int .i64 0, str [], .int .i64 0] 59)))).trans (Tch.of_below HM1.out)).trans hn)⟩
  · obtain ⟨rfl, hn⟩ := ppost_bad h1 hp
    exact ⟨rfl, ppost_of_bad (R0.out.trans (bnd_bad h1)) ((N0.out.trans (Tch.of_below (below_box _ (.cells #[str [], str [], .bool false, .int .i64 0, .int .i64 0, str [], .int .i64 0, str [], str [], .bool false, .int .i64 0, .int .i64 0, str [], .int .i64 0] 59)))).trans hn)⟩
set_option maxRecDepth 100000 in
set_option maxHeartbeats 8000000 in
theorem term_any {p : Ps} {r : List Tk} {lv : Int} (w : World) (h : Sta w p r lv) :
    Calls Tryz.prog 69 #[ptr p.g] w (PPost p lv w isTrm (termP r)) := by
  obtain ⟨R, hR⟩ : ∃ R, termP r = R := ⟨_, rfl⟩
  rw [hR]
  have R0 := Lib.hid hR.symm
  have G := Lib.hid (And.intro h.lt h.lt2)
  have S0 := Lib.hid h
  have N0 := Lib.hid (Tch.refl (fun b => b = p.g) w)
  obtain ⟨A, hA⟩ : ∃ A, w.heap.size = A := ⟨_, rfl⟩
  have HA := Lib.hid hA
  rw [hA] at G
  clear hR h
  go_enter Tryz.func69, Tryz.ntmps69
  go_wp2_with fail
  refine (name_any _ (S0.out.keep (below_box _ (.cells #[str [], .int .i64 0, .int .i64 0, .int .i64 0, .int .i64 0, .int .i64 0, .int .i64 0] 64)))).mono ?_
  intro e w1 hp
  rcases h1 : nameP r with ⟨a1, r1⟩ | ⟨b1, r1⟩
  · obtain ⟨v1, rfl, rfl, hs, hn⟩ := ppost_ok h1 hp
    have R1 := Lib.hid (R0.out.trans (bnd_ok h1))
    have S1 := Lib.hid hs
    have hA : Blk w1 A 64 #[str [], .int .i64 0, .int .i64 0, .int .i64 0, .int .i64 0, .int .i64 0, .int .i64 0] := by
      have q := ((Blk.new w 64 #[str [], .int .i64 0, .int .i64 0, .int .i64 0, .int .i64 0, .int .i64 0, .int .i64 0]) : Blk _ _ _ _)
      rw [HA.out] at q
      exact q.near hn (Nat.ne_of_gt G.out.1)
    have BA1 := Lib.hid hA
    have N1 := Lib.hid ((N0.out.trans (Tch.of_below (below_box _ (.cells #[str [], .int .i64 0, .int .i64 0, .int .i64 0, .int .i64 0, .int .i64 0, .int .i64 0] 64)))).trans hn)
    have Y1 := Lib.hid h1
    clear hs hn hp hA h1
    obtain ⟨B, hB⟩ : ∃ x, w1.heap.size = x := ⟨_, rfl⟩
    have HB := Lib.hid hB
    have GB := Lib.hid (show p.g < B ∧ p.b < B ∧ w.heap.size ≤ B ∧ A < B from by have q1 := BA1.out.lt; have q2 := G.out; have q3 := HA.out; rw [hB] at q1; omega)
    obtain ⟨f, f0, hu, ht, hb⟩ := tab_chain (w1.alloc (.cells #[str a1, .int .i64 0, .int .i64 0, .int .i64 0, .int .i64 0, .int .i64 0, .int .i64 0] 64)) [.int .i64 0, .int .i64 1, .int .i64 2, .int .i64 3, .int .i64 4, .int .i64 5] (by simp) [[101, 113, 117, 97, 108], [101, 100, 105, 116], [106, 97, 99, 99, 97, 114, 100], [106, 97, 114, 111], [110, 101, 97, 114]] (by decide) (by decide) (by decide) rfl Tryz.underlying119 (e := 3) 5 (by decide)
    have u0 : (Instr.mapUpdate 119 (.map (some (w1.alloc (.cells #[str a1, .int .i64 0, .int .i64 0, .int .i64 0, .int .i64 0, .int .i64 0, .int .i64 0] 64)).heap.size)) (str [101, 113, 117, 97, 108]) (.int .i64 1)).run Tryz.prog (f 0) = .ok () (f 1) := hu 0 _ _ (by decide) rfl rfl
    have u1 : (Instr.mapUpdate 119 (.map (some (w1.alloc (.cells #[str a1, .int .i64 0, .int .i64 0, .int .i64 0, .int .i64 0, .int .i64 0, .int .i64 0] 64)).heap.size)) (str [101, 100, 105, 116]) (.int .i64 2)).run Tryz.prog (f 1) = .ok () (f 2) := hu 1 _ _ (by decide) rfl rfl
    have u2 : (Instr.mapUpdate 119 (.map (some (w1.alloc (.cells #[str a1, .int .i64 0, .int .i64 0, .int .i64 0, .int .i64 0, .int .i64 0, .int .i64 0] 64)).heap.size)) (str [106, 97, 99, 99, 97, 114, 100]) (.int .i64 3)).run Tryz.prog (f 2) = .ok () (f 3) := hu 2 _ _ (by decide) rfl rfl
    have u3 : (Instr.mapUpdate 119 (.map (some (w1.alloc (.cells #[str a1, .int .i64 0, .int .i64 0, .int .i64 0, .int .i64 0, .int .i64 0, .int .i64 0] 64)).heap.size)) (str [106, 97, 114, 111]) (.int .i64 4)).run Tryz.prog (f 3) = .ok () (f 4) := hu 3 _ _ (by decide) rfl rfl
    have u4 : (Instr.mapUpdate 119 (.map (some (w1.alloc (.cells #[str a1, .int .i64 0, .int .i64 0, .int .i64 0, .int .i64 0, .int .i64 0, .int .i64 0] 64)).heap.size)) (str [110, 101, 97, 114]) (.int .i64 5)).run Tryz.prog (f 4) = .ok () (f 5) := hu 4 _ _ (by decide) rfl rfl
    rw [f0] at u0
    obtain ⟨m1, e1⟩ : ∃ x, f 1 = x := ⟨_, rfl⟩
    rw [e1] at u0 u1
    obtain ⟨m2, e2⟩ : ∃ x, f 2 = x := ⟨_, rfl⟩
    rw [e2] at u1 u2
    obtain ⟨m3, e3⟩ : ∃ x, f 3 = x := ⟨_, rfl⟩
    rw [e3] at u2 u3
    obtain ⟨m4, e4⟩ : ∃ x, f 4 = x := ⟨_, rfl⟩
    rw [e4] at u3 u4
    obtain ⟨m5, e5⟩ : ∃ x, f 5 = x := ⟨_, rfl⟩
    rw [e5] at u4 ht hb
    have HM1 := Lib.hid hb
    have hmm := @run_makeMap Tryz.prog
    simp only [List.take_succ_cons, List.take_zero] at ht
    simp only [World.size_alloc, World.size_setCell, hA, hB] at u0 u1 u2 u3 u4 ht
    have HT1 := Lib.hid ht
    clear f0 hu ht hb e1 e2 e3 e4 e5
    go_wp2_with fail
    refine (chI5_any [[101, 113, 117, 97, 108], [101, 100, 105, 116], [106, 97, 99, 99, 97, 114, 100], [106, 97, 114, 111], [110, 101, 97, 114]] (by decide) rfl _ _ HT1.out ((S1.out.keep (below_box _ (.cells #[str a1, .int .i64 0, .int .i64 0, .int .i64 0, .int .i64 0, .int .i64 0, .int .i64 0] 64))).keep HM1.out)).mono ?_
    intro e w2 hp
    rcases h2 : oneP [[101, 113, 117, 97, 108], [101, 100, 105, 116], [106, 97, 99, 99, 97, 114, 100], [106, 97, 114, 111], [110, 101, 97, 114]] r1 with ⟨a2, r2⟩ | ⟨b2, r2⟩
    · obtain ⟨v2, rfl, rfl, hs, hn⟩ := ppost_ok h2 hp
      have R2 := Lib.hid (R1.out.trans (bnd_ok h2))
      have S2 := Lib.hid hs
      have hA : Blk w2 A 64 #[str [], .int .i64 0, .int .i64 0, .int .i64 0, .int .i64 0, .int .i64 0, .int .i64 0] := ((BA1.out.alloc (.cells #[str a1, .int .i64 0, .int .i64 0, .int .i64 0, .int .i64 0, .int .i64 0, .int .i64 0] 64)).keep HM1.out).near hn (Nat.ne_of_gt G.out.1)
      have hB : Blk w2 B 64 #[str a1, .int .i64 0, .int .i64 0, .int .i64 0, .int .i64 0, .int .i64 0, .int .i64 0] := by
        have q := (((Blk.new w1 64 #[str a1, .int .i64 0, .int .i64 0, .int .i64 0, .int .i64 0, .int .i64 0, .int .i64 0]).keep HM1.out) : Blk _ _ _ _)
        rw [HB.out] at q
        exact q.near hn (Nat.ne_of_gt GB.out.1)
      have BA2 := Lib.hid hA
      have BB2 := Lib.hid hB
      have N2 := Lib.hid (((N1.out.trans (Tch.of_below (below_box _ (.cells #[str a1, .int .i64 0, .int .i64 0, .int .i64 0, .int .i64 0, .int .i64 0, .int .i64 0] 64)))).trans (Tch.of_below HM1.out)).trans hn)
      have Y2 := Lib.hid h2
      clear hs hn hp hA hB h2
      have cB2 := fun i => BB2.out.cell i
      have fB2 := fun i => BB2.out.frozen i
      by_cases hm : a2 = 5
      · skip
        have d5 : (a2 == 5) = true := by rw [beq_iff_eq]; exact hm
        have Rq := R2.out
        rw [if_pos hm] at Rq
        have R2z := Lib.hid Rq
        clear Rq hm
        go_wp2_with fail
        refine (number_any _ (S2.out.cell (a := ⟨B, 1, none⟩) GB.out.1 GB.out.2.1 (.int .i64 a2))).mono ?_
        intro e w3 hp
        rcases h3 : numP r2 with ⟨a3, r3⟩ | ⟨b3, r3⟩
        · obtain ⟨v3, rfl, rfl, hs, hn⟩ := ppost_ok h3 hp
          have R3 := Lib.hid (R2z.out.trans (bnd_ok h3))
          have S3 := Lib.hid hs
          have hA : Blk w3 A 64 #[str [], .int .i64 0, .int .i64 0, .int .i64 0, .int .i64 0, .int .i64 0, .int .i64 0] := (BA2.out.far (p := ⟨B, 1, none⟩) (Nat.ne_of_lt GB.out.2.2.2) (.int .i64 a2)).near hn (Nat.ne_of_gt G.out.1)
          have hB : Blk w3 B 64 #[str a1, .int .i64 a2, .int .i64 0, .int .i64 0, .int .i64 0, .int .i64 0, .int .i64 0] := (BB2.out.set_ 1 (.int .i64 a2)).near hn (Nat.ne_of_gt GB.out.1)
          have BA3 := Lib.hid hA
          have BB3 := Lib.hid hB
          have N3 := Lib.hid ((N2.out.set2 (p := ⟨B, 1, none⟩) GB.out.2.2.1 (.int .i64 a2)).trans hn)
          have Y3 := Lib.hid h3
          clear hs hn hp hA hB h3
          have cB3 := fun i => BB3.out.cell i
          have fB3 := fun i => BB3.out.frozen i
          go_wp2_with fail
          refine (expect_one [108, 101, 97, 115, 116] (by decide) _ _ _ (by simp <;> omega) (S3.out.cell (a := ⟨B, 2, none⟩) GB.out.1 GB.out.2.1 (.int .i64 a3))).mono ?_
          intro e w4 hp
          rcases h4 : expP [108, 101, 97, 115, 116] r3 with ⟨a4, r4⟩ | ⟨b4, r4⟩
          · obtain ⟨v4, rfl, rfl, hs, hn⟩ := ppost_ok h4 hp
            have R4 := Lib.hid (R3.out.trans (bnd_ok h4))
            have S4 := Lib.hid hs
            have hA : Blk w4 A 64 #[str [], .int .i64 0, .int .i64 0, .int .i64 0, .int .i64 0, .int .i64 0, .int .i64 0] := (BA3.out.far (p := ⟨B, 2, none⟩) (Nat.ne_of_lt GB.out.2.2.2) (.int .i64 a3)).near hn (Nat.ne_of_gt G.out.1)
            have hB : Blk w4 B 64 #[str a1, .int .i64 a2, .int .i64 a3, .int .i64 0, .int .i64 0, .int .i64 0, .int .i64 0] := (BB3.out.set_ 2 (.int .i64 a3)).near hn (Nat.ne_of_gt GB.out.1)
            have BA4 := Lib.hid hA
            have BB4 := Lib.hid hB
            have N4 := Lib.hid ((N3.out.set2 (p := ⟨B, 2, none⟩) GB.out.2.2.1 (.int .i64 a3)).trans hn)
            have Y4 := Lib.hid h4
            clear hs hn hp hA hB h4
            go_wp2_with fail
            refine (number_any _ S4.out).mono ?_
            intro e w5 hp
            rcases h5 : numP r4 with ⟨a5, r5⟩ | ⟨b5, r5⟩
            · obtain ⟨v5, rfl, rfl, hs, hn⟩ := ppost_ok h5 hp
              have R5 := Lib.hid (R4.out.trans (bnd_ok h5))
              have S5 := Lib.hid hs
              have hA : Blk w5 A 64 #[str [], .int .i64 0, .int .i64 0, .int .i64 0, .int .i64 0, .int .i64 0, .int .i64 0] := BA4.out.near hn (Nat.ne_of_gt G.out.1)
              have hB : Blk w5 B 64 #[str a1, .int .i64 a2, .int .i64 a3, .int .i64 0, .int .i64 0, .int .i64 0, .int .i64 0] := BB4.out.near hn (Nat.ne_of_gt GB.out.1)
              have BA5 := Lib.hid hA
              have BB5 := Lib.hid hB
              have N5 := Lib.hid (N4.out.trans hn)
              have Y5 := Lib.hid h5
              clear hs hn hp hA hB h5
              have cB5 := fun i => BB5.out.cell i
              have fB5 := fun i => BB5.out.frozen i
              obtain ⟨c6, r6, h6⟩ := acc_ok [47] r5
              have X6 := Lib.hid h6
              go_wp2_with fail
              refine (accept_any [47] (by decide) _ ((S5.out.cell (a := ⟨B, 3, none⟩) GB.out.1 GB.out.2.1 (.int .i64 a5)).cell (a := ⟨B, 4, none⟩) GB.out.1 GB.out.2.1 (.int .i64 1))).mono ?_
              intro e w6 hp
              obtain ⟨v6, rfl, rfl, hs, hn⟩ := ppost_ok X6.out hp
              have R6 := Lib.hid (R5.out.trans (bnd_ok X6.out))
              have S6 := Lib.hid hs
              have hA : Blk w6 A 64 #[str [], .int .i64 0, .int .i64 0, .int .i64 0, .int .i64 0, .int .i64 0, .int .i64 0] := ((BA5.out.far (p := ⟨B, 3, none⟩) (Nat.ne_of_lt GB.out.2.2.2) (.int .i64 a5)).far (p := ⟨B, 4, none⟩) (Nat.ne_of_lt GB.out.2.2.2) (.int .i64 1)).near hn (Nat.ne_of_gt G.out.1)
              have hB : Blk w6 B 64 #[str a1, .int .i64 a2, .int .i64 a3, .int .i64 a5, .int .i64 1, .int .i64 0, .int .i64 0] := ((BB5.out.set_ 3 (.int .i64 a5)).set_ 4 (.int .i64 1)).near hn (Nat.ne_of_gt GB.out.1)
              have BA6 := Lib.hid hA
              have BB6 := Lib.hid hB
              have N6 := Lib.hid (((N5.out.set2 (p := ⟨B, 3, none⟩) GB.out.2.2.1 (.int .i64 a5)).set2 (p := ⟨B, 4, none⟩) GB.out.2.2.1 (.int .i64 1)).trans hn)
              clear hs hn hp hA hB h6
              cases c6
              · skip
                have R6q := R6.out
                simp only [eq_self, if_true, if_false, Bool.false_eq_true, pur_bnd] at R6q
                have R6z := Lib.hid R6q
                clear R6q
                go_wp2_with fail
                refine (expect_one [103, 105, 118, 101, 115] (by decide) _ _ _ (by simp <;> omega) S6.out).mono ?_
                intro e w7 hp
                rcases h7 : expP [103, 105, 118, 101, 115] r6 with ⟨a7, r7⟩ | ⟨b7, r7⟩
                · obtain ⟨v7, rfl, rfl, hs, hn⟩ := ppost_ok h7 hp
                  have R7 := Lib.hid (R6z.out.trans (bnd_ok h7))
                  have S7 := Lib.hid hs
                  have hA : Blk w7 A 64 #[str [], .int .i64 0, .int .i64 0, .int .i64 0, .int .i64 0, .int .i64 0, .int .i64 0] := BA6.out.near hn (Nat.ne_of_gt G.out.1)
                  have hB : Blk w7 B 64 #[str a1, .int .i64 a2, .int .i64 a3, .int .i64 a5, .int .i64 1, .int .i64 0, .int .i64 0] := BB6.out.near hn (Nat.ne_of_gt GB.out.1)
                  have BA7 := Lib.hid hA
                  have BB7 := Lib.hid hB
                  have N7 := Lib.hid (N6.out.trans hn)
                  have Y7 := Lib.hid h7
                  clear hs hn hp hA hB h7
                  go_wp2_with fail
                  refine (number_any _ S7.out).mono ?_
                  intro e w8 hp
                  rcases h8 : numP r7 with ⟨a8, r8⟩ | ⟨b8, r8⟩
                  · obtain ⟨v8, rfl, rfl, hs, hn⟩ := ppost_ok h8 hp
                    have R8 := Lib.hid (R7.out.trans (bnd_ok h8))
                    have S8 := Lib.hid hs
                    have hA : Blk w8 A 64 #[str [], .int .i64 0, .int .i64 0, .int .i64 0, .int .i64 0, .int .i64 0, .int .i64 0] := BA7.out.near hn (Nat.ne_of_gt G.out.1)
                    have hB : Blk w8 B 64 #[str a1, .int .i64 a2, .int .i64 a3, .int .i64 a5, .int .i64 1, .int .i64 0, .int .i64 0] := BB7.out.near hn (Nat.ne_of_gt GB.out.1)
                    have BA8 := Lib.hid hA
                    have BB8 := Lib.hid hB
                    have N8 := Lib.hid (N7.out.trans hn)
                    have Y8 := Lib.hid h8
                    clear hs hn hp hA hB h8
                    have cB8 := fun i => BB8.out.cell i
                    have fB8 := fun i => BB8.out.frozen i
                    obtain ⟨c9, r9, h9⟩ := acc_ok [116, 97, 107, 101, 115] r8
                    have X9 := Lib.hid h9
                    go_wp2_with fail
                    refine (accept_any [116, 97, 107, 101, 115] (by decide) _ (S8.out.cell (a := ⟨B, 5, none⟩) GB.out.1 GB.out.2.1 (.int .i64 a8))).mono ?_
                    intro e w9 hp
                    obtain ⟨v9, rfl, rfl, hs, hn⟩ := ppost_ok X9.out hp
                    have R9 := Lib.hid (R8.out.trans (bnd_ok X9.out))
                    have S9 := Lib.hid hs
                    have hA : Blk w9 A 64 #[str [], .int .i64 0, .int .i64 0, .int .i64 0, .int .i64 0, .int .i64 0, .int .i64 0] := (BA8.out.far (p := ⟨B, 5, none⟩) (Nat.ne_of_lt GB.out.2.2.2) (.int .i64 a8)).near hn (Nat.ne_of_gt G.out.1)
                    have hB : Blk w9 B 64 #[str a1, .int .i64 a2, .int .i64 a3, .int .i64 a5, .int .i64 1, .int .i64 a8, .int .i64 0] := (BB8.out.set_ 5 (.int .i64 a8)).near hn (Nat.ne_of_gt GB.out.1)
                    have BA9 := Lib.hid hA
                    have BB9 := Lib.hid hB
                    have N9 := Lib.hid ((N8.out.set2 (p := ⟨B, 5, none⟩) GB.out.2.2.1 (.int .i64 a8)).trans hn)
                    clear hs hn hp hA hB h9
                    cases c9
                    · skip
                      have R9q := R9.out
                      simp only [eq_self, if_true, if_false, Bool.false_eq_true, pur_bnd] at R9q
                      have R9z := Lib.hid R9q
                      clear R9q
                      go_wp2_with fail
                      refine (expect_one [59] (by decide) _ _ _ (by simp <;> omega) S9.out).mono ?_
                      intro e w10 hp
                      rcases h10 : expP [59] r9 with ⟨a10, r10⟩ | ⟨b10, r10⟩
                      · obtain ⟨v10, rfl, rfl, hs, hn⟩ := ppost_ok h10 hp
                        have R10 := Lib.hid (R9z.out.trans (bnd_ok h10))
                        have S10 := Lib.hid hs
                        have hA : Blk w10 A 64 #[str [], .int .i64 0, .int .i64 0, .int .i64 0, .int .i64 0, .int .i64 0, .int .i64 0] := BA9.out.near hn (Nat.ne_of_gt G.out.1)
                        have hB : Blk w10 B 64 #[str a1, .int .i64 a2, .int .i64 a3, .int .i64 a5, .int .i64 1, .int .i64 a8, .int .i64 0] := BB9.out.near hn (Nat.ne_of_gt GB.out.1)
                        have BA10 := Lib.hid hA
                        have BB10 := Lib.hid hB
                        have N10 := Lib.hid (N9.out.trans hn)
                        have Y10 := Lib.hid h10
                        clear hs hn hp hA hB h10
                        have HL := Lib.hid (show Blk _ B 64 #[str a1, .int .i64 a2, .int .i64 a3, .int .i64 a5, .int .i64 1, .int .i64 a8, .int .i64 0] from BB10.out)
                        have HQ := Lib.hid BA10.out
                        go_wp2_with (first | (refine wpList_load_row rfl 64 (.tmp 3) rfl B rfl _ #[str a1, .int .i64 a2, .int .i64 a3, .int .i64 a5, .int .i64 1, .int .i64 a8, .int .i64 0] _ _ HL.out Tryz.underlying64 rfl infoTrm ?_) | (refine wpList_store_row rfl 64 (.tmp 2) (.tmp 45) rfl A #[str a1, .int .i64 a2, .int .i64 a3, .int .i64 a5, .int .i64 1, .int .i64 a8, .int .i64 0] rfl rfl _ _ HQ.out infoTrm rfl (by simp [Value.oneCell']) ?_))
                        have hres := (HQ.out.row #[str a1, .int .i64 a2, .int .i64 a3, .int .i64 a5, .int .i64 1, .int .i64 a8, .int .i64 0])
                        exact bodyPost_ret (v := .agg #[str a1, .int .i64 a2, .int .i64 a3, .int .i64 a5, .int .i64 1, .int .i64 a8, .int .i64 0]) (results_cell_row rfl _ _ A _ _ _ _ rfl hres Tryz.underlying64 rfl infoTrm) rfl
                          (ppost_of_ok R10.out rfl (S10.out.row G.out.1 G.out.2 _) (N10.out.row (Nat.le_of_eq HA.out) _))
                      · obtain ⟨rfl, hn⟩ := ppost_bad h10 hp
                        exact ⟨rfl, ppost_of_bad (R9z.out.trans (bnd_bad h10)) (N9.out.trans hn)⟩
                    · skip
                      have R9q := R9.out
                      simp only [eq_self, if_true, if_false, Bool.false_eq_true, pur_bnd] at R9q
                      have R9z := Lib.hid R9q
                      clear R9q
                      go_wp2_with fail
                      refine (number_any _ S9.out).mono ?_
                      intro e w10 hp
                      rcases h10 : numP r9 with ⟨a10, r10⟩ | ⟨b10, r10⟩
                      · obtain ⟨v10, rfl, rfl, hs, hn⟩ := ppost_ok h10 hp
                        have R10 := Lib.hid (R9z.out.trans (bnd_ok h10))
                        have S10 := Lib.hid hs
                        have hA : Blk w10 A 64 #[str [], .int .i64 0, .int .i64 0, .int .i64 0, .int .i64 0, .int .i64 0, .int .i64 0] := BA9.out.near hn (Nat.ne_of_gt G.out.1)
                        have hB : Blk w10 B 64 #[str a1, .int .i64 a2, .int .i64 a3, .int .i64 a5, .int .i64 1, .int .i64 a8, .int .i64 0] := BB9.out.near hn (Nat.ne_of_gt GB.out.1)
                        have BA10 := Lib.hid hA
                        have BB10 := Lib.hid hB
                        have N10 := Lib.hid (N9.out.trans hn)
                        have Y10 := Lib.hid h10
                        clear hs hn hp hA hB h10
                        have cB10 := fun i => BB10.out.cell i
                        have fB10 := fun i => BB10.out.frozen i
                        go_wp2_with fail
                        refine (expect_one [59] (by decide) _ _ _ (by simp <;> omega) (S10.out.cell (a := ⟨B, 6, none⟩) GB.out.1 GB.out.2.1 (.int .i64 a10))).mono ?_
                        intro e w11 hp
                        rcases h11 : expP [59] r10 with ⟨a11, r11⟩ | ⟨b11, r11⟩
                        · obtain ⟨v11, rfl, rfl, hs, hn⟩ := ppost_ok h11 hp
                          have R11 := Lib.hid (R10.out.trans (bnd_ok h11))
                          have S11 := Lib.hid hs
                          have hA : Blk w11 A 64 #[str [], .int .i64 0, .int .i64 0, .int .i64 0, .int .i64 0, .int .i64 0, .int .i64 0] := (BA10.out.far (p := ⟨B, 6, none⟩) (Nat.ne_of_lt GB.out.2.2.2) (.int .i64 a10)).near hn (Nat.ne_of_gt G.out.1)
                          have hB : Blk w11 B 64 #[str a1, .int .i64 a2, .int .i64 a3, .int .i64 a5, .int .i64 1, .int .i64 a8, .int .i64 a10] := (BB10.out.set_ 6 (.int .i64 a10)).near hn (Nat.ne_of_gt GB.out.1)
                          have BA11 := Lib.hid hA
                          have BB11 := Lib.hid hB
                          have N11 := Lib.hid ((N10.out.set2 (p := ⟨B, 6, none⟩) GB.out.2.2.1 (.int .i64 a10)).trans hn)
                          have Y11 := Lib.hid h11
                          clear hs hn hp hA hB h11
                          have HL := Lib.hid (show Blk _ B 64 #[str a1, .int .i64 a2, .int .i64 a3, .int .i64 a5, .int .i64 1, .int .i64 a8, .int .i64 a10] from BB11.out)
                          have HQ := Lib.hid BA11.out
                          go_wp2_with (first | (refine wpList_load_row rfl 64 (.tmp 3) rfl B rfl _ #[str a1, .int .i64 a2, .int .i64 a3, .int .i64 a5, .int .i64 1, .int .i64 a8, .int .i64 a10] _ _ HL.out Tryz.underlying64 rfl infoTrm ?_) | (refine wpList_store_row rfl 64 (.tmp 2) (.tmp 45) rfl A #[str a1, .int .i64 a2, .int .i64 a3, .int .i64 a5, .int .i64 1, .int .i64 a8, .int .i64 a10] rfl rfl _ _ HQ.out infoTrm rfl (by simp [Value.oneCell']) ?_))
                          have hres := (HQ.out.row #[str a1, .int .i64 a2, .int .i64 a3, .int .i64 a5, .int .i64 1, .int .i64 a8, .int .i64 a10])
                          exact bodyPost_ret (v := .agg #[str a1, .int .i64 a2, .int .i64 a3, .int .i64 a5, .int .i64 1, .int .i64 a8, .int .i64 a10]) (results_cell_row rfl _ _ A _ _ _ _ rfl hres Tryz.underlying64 rfl infoTrm) rfl
                            (ppost_of_ok R11.out rfl (S11.out.row G.out.1 G.out.2 _) (N11.out.row (Nat.le_of_eq HA.out) _))
                        · obtain ⟨rfl, hn⟩ := ppost_bad h11 hp
                          exact ⟨rfl, ppost_of_bad (R10.out.trans (bnd_bad h11)) ((N10.out.set2 (p := ⟨B, 6, none⟩) GB.out.2.2.1 (.int .i64 a10)).trans hn)⟩
                      · obtain ⟨rfl, hn⟩ := ppost_bad h10 hp
                        exact ⟨rfl, ppost_of_bad (R9z.out.trans (bnd_bad h10)) (N9.out.trans hn)⟩
                  · obtain ⟨rfl, hn⟩ := ppost_bad h8 hp
                    exact ⟨rfl, ppost_of_bad (R7.out.trans (bnd_bad h8)) (N7.out.trans hn)⟩
                · obtain ⟨rfl, hn⟩ := ppost_bad h7 hp
                  exact ⟨rfl, ppost_of_bad (R6z.out.trans (bnd_bad h7)) (N6.out.trans hn)⟩
              · skip
                have R6q := R6.out
                simp only [eq_self, if_true, if_false, Bool.false_eq_true, pur_bnd] at R6q
                have R6z := Lib.hid R6q
                clear R6q
                go_wp2_with fail
                refine (number_any _ S6.out).mono ?_
                intro e w7 hp
                rcases h7 : numP r6 with ⟨a7, r7⟩ | ⟨b7, r7⟩
                · obtain ⟨v7, rfl, rfl, hs, hn⟩ := ppost_ok h7 hp
                  have R7 := Lib.hid (R6z.out.trans (bnd_ok h7))
                  have S7 := Lib.hid hs
                  have hA : Blk w7 A 64 #[str [], .int .i64 0, .int .i64 0, .int .i64 0, .int .i64 0, .int .i64 0, .int .i64 0] := BA6.out.near hn (Nat.ne_of_gt G.out.1)
                  have hB : Blk w7 B 64 #[str a1, .int .i64 a2, .int .i64 a3, .int .i64 a5, .int .i64 1, .int .i64 0, .int .i64 0] := BB6.out.near hn (Nat.ne_of_gt GB.out.1)
                  have BA7 := Lib.hid hA
                  have BB7 := Lib.hid hB
                  have N7 := Lib.hid (N6.out.trans hn)
                  have Y7 := Lib.hid h7
                  clear hs hn hp hA hB h7
                  have cB7 := fun i => BB7.out.cell i
                  have fB7 := fun i => BB7.out.frozen i
                  go_wp2_with fail
                  refine (expect_one [103, 105, 118, 101, 115] (by decide) _ _ _ (by simp <;> omega) (S7.out.cell (a := ⟨B, 4, none⟩) GB.out.1 GB.out.2.1 (.int .i64 a7))).mono ?_
                  intro e w8 hp
                  rcases h8 : expP [103, 105, 118, 101, 115] r7 with ⟨a8, r8⟩ | ⟨b8, r8⟩
                  · obtain ⟨v8, rfl, rfl, hs, hn⟩ := ppost_ok h8 hp
                    have R8 := Lib.hid (R7.out.trans (bnd_ok h8))
                    have S8 := Lib.hid hs
                    have hA : Blk w8 A 64 #[str [], .int .i64 0, .int .i64 0, .int .i64 0, .int .i64 0, .int .i64 0, .int .i64 0] := (BA7.out.far (p := ⟨B, 4, none⟩) (Nat.ne_of_lt GB.out.2.2.2) (.int .i64 a7)).near hn (Nat.ne_of_gt G.out.1)
                    have hB : Blk w8 B 64 #[str a1, .int .i64 a2, .int .i64 a3, .int .i64 a5, .int .i64 a7, .int .i64 0, .int .i64 0] := (BB7.out.set_ 4 (.int .i64 a7)).near hn (Nat.ne_of_gt GB.out.1)
                    have BA8 := Lib.hid hA
                    have BB8 := Lib.hid hB
                    have N8 := Lib.hid ((N7.out.set2 (p := ⟨B, 4, none⟩) GB.out.2.2.1 (.int .i64 a7)).trans hn)
                    have Y8 := Lib.hid h8
                    clear hs hn hp hA hB h8
                    go_wp2_with fail
                    refine (number_any _ S8.out).mono ?_
                    intro e w9 hp
                    rcases h9 : numP r8 with ⟨a9, r9⟩ | ⟨b9, r9⟩
                    · obtain ⟨v9, rfl, rfl, hs, hn⟩ := ppost_ok h9 hp
                      have R9 := Lib.hid (R8.out.trans (bnd_ok h9))
                      have S9 := Lib.hid hs
                      have hA : Blk w9 A 64 #[str [], .int .i64 0, .int .i64 0, .int .i64 0, .int .i64 0, .int .i64 0, .int .i64 0] := BA8.out.near hn (Nat.ne_of_gt G.out.1)
                      have hB : Blk w9 B 64 #[str a1, .int .i64 a2, .int .i64 a3, .int .i64 a5, .int .i64 a7, .int .i64 0, .int .i64 0] := BB8.out.near hn (Nat.ne_of_gt GB.out.1)
                      have BA9 := Lib.hid hA
                      have BB9 := Lib.hid hB
                      have N9 := Lib.hid (N8.out.trans hn)
                      have Y9 := Lib.hid h9
                      clear hs hn hp hA hB h9
                      have cB9 := fun i => BB9.out.cell i
                      have fB9 := fun i => BB9.out.frozen i
                      obtain ⟨c10, r10, h10⟩ := acc_ok [116, 97, 107, 101, 115] r9
                      have X10 := Lib.hid h10
                      go_wp2_with fail
                      refine (accept_any [116, 97, 107, 101, 115] (by decide) _ (S9.out.cell (a := ⟨B, 5, none⟩) GB.out.1 GB.out.2.1 (.int .i64 a9))).mono ?_
                      intro e w10 hp
                      obtain ⟨v10, rfl, rfl, hs, hn⟩ := ppost_ok X10.out hp
                      have R10 := Lib.hid (R9.out.trans (bnd_ok X10.out))
                      have S10 := Lib.hid hs
                      have hA : Blk w10 A 64 #[str [], .int .i64 0, .int .i64 0, .int .i64 0, .int .i64 0, .int .i64 0, .int .i64 0] := (BA9.out.far (p := ⟨B, 5, none⟩) (Nat.ne_of_lt GB.out.2.2.2) (.int .i64 a9)).near hn (Nat.ne_of_gt G.out.1)
                      have hB : Blk w10 B 64 #[str a1, .int .i64 a2, .int .i64 a3, .int .i64 a5, .int .i64 a7, .int .i64 a9, .int .i64 0] := (BB9.out.set_ 5 (.int .i64 a9)).near hn (Nat.ne_of_gt GB.out.1)
                      have BA10 := Lib.hid hA
                      have BB10 := Lib.hid hB
                      have N10 := Lib.hid ((N9.out.set2 (p := ⟨B, 5, none⟩) GB.out.2.2.1 (.int .i64 a9)).trans hn)
                      clear hs hn hp hA hB h10
                      cases c10
                      · skip
                        have R10q := R10.out
                        simp only [eq_self, if_true, if_false, Bool.false_eq_true, pur_bnd] at R10q
                        have R10z := Lib.hid R10q
                        clear R10q
                        go_wp2_with fail
                        refine (expect_one [59] (by decide) _ _ _ (by simp <;> omega) S10.out).mono ?_
                        intro e w11 hp
                        rcases h11 : expP [59] r10 with ⟨a11, r11⟩ | ⟨b11, r11⟩
                        · obtain ⟨v11, rfl, rfl, hs, hn⟩ := ppost_ok h11 hp
                          have R11 := Lib.hid (R10z.out.trans (bnd_ok h11))
                          have S11 := Lib.hid hs
                          have hA : Blk w11 A 64 #[str [], .int .i64 0, .int .i64 0, .int .i64 0, .int .i64 0, .int .i64 0, .int .i64 0] := BA10.out.near hn (Nat.ne_of_gt G.out.1)
                          have hB : Blk w11 B 64 #[str a1, .int .i64 a2, .int .i64 a3, .int .i64 a5, .int .i64 a7, .int .i64 a9, .int .i64 0] := BB10.out.near hn (Nat.ne_of_gt GB.out.1)
                          have BA11 := Lib.hid hA
                          have BB11 := Lib.hid hB
                          have N11 := Lib.hid (N10.out.trans hn)
                          have Y11 := Lib.hid h11
                          clear hs hn hp hA hB h11
                          have HL := Lib.hid (show Blk _ B 64 #[str a1, .int .i64 a2, .int .i64 a3, .int .i64 a5, .int .i64 a7, .int .i64 a9, .int .i64 0] from BB11.out)
                          have HQ := Lib.hid BA11.out
                          go_wp2_with (first | (refine wpList_load_row rfl 64 (.tmp 3) rfl B rfl _ #[str a1, .int .i64 a2, .int .i64 a3, .int .i64 a5, .int .i64 a7, .int .i64 a9, .int .i64 0] _ _ HL.out Tryz.underlying64 rfl infoTrm ?_) | (refine wpList_store_row rfl 64 (.tmp 2) (.tmp 45) rfl A #[str a1, .int .i64 a2, .int .i64 a3, .int .i64 a5, .int .i64 a7, .int .i64 a9, .int .i64 0] rfl rfl _ _ HQ.out infoTrm rfl (by simp [Value.oneCell']) ?_))
                          have hres := (HQ.out.row #[str a1, .int .i64 a2, .int .i64 a3, .int .i64 a5, .int .i64 a7, .int .i64 a9, .int .i64 0])
                          exact bodyPost_ret (v := .agg #[str a1, .int .i64 a2, .int .i64 a3, .int .i64 a5, .int .i64 a7, .int .i64 a9, .int .i64 0]) (results_cell_row rfl _ _ A _ _ _ _ rfl hres Tryz.underlying64 rfl infoTrm) rfl
                            (ppost_of_ok R11.out rfl (S11.out.row G.out.1 G.out.2 _) (N11.out.row (Nat.le_of_eq HA.out) _))
                        · obtain ⟨rfl, hn⟩ := ppost_bad h11 hp
                          exact ⟨rfl, ppost_of_bad (R10z.out.trans (bnd_bad h11)) (N10.out.trans hn)⟩
                      · skip
                        have R10q := R10.out
                        simp only [eq_self, if_true, if_false, Bool.false_eq_true, pur_bnd] at R10q
                        have R10z := Lib.hid R10q
                        clear R10q
                        go_wp2_with fail
                        refine (number_any _ S10.out).mono ?_
                        intro e w11 hp
                        rcases h11 : numP r10 with ⟨a11, r11⟩ | ⟨b11, r11⟩
                        · obtain ⟨v11, rfl, rfl, hs, hn⟩ := ppost_ok h11 hp
                          have R11 := Lib.hid (R10z.out.trans (bnd_ok h11))
                          have S11 := Lib.hid hs
                          have hA : Blk w11 A 64 #[str [], .int .i64 0, .int .i64 0, .int .i64 0, .int .i64 0, .int .i64 0, .int .i64 0] := BA10.out.near hn (Nat.ne_of_gt G.out.1)
                          have hB : Blk w11 B 64 #[str a1, .int .i64 a2, .int .i64 a3, .int .i64 a5, .int .i64 a7, .int .i64 a9, .int .i64 0] := BB10.out.near hn (Nat.ne_of_gt GB.out.1)
                          have BA11 := Lib.hid hA
                          have BB11 := Lib.hid hB
                          have N11 := Lib.hid (N10.out.trans hn)
                          have Y11 := Lib.hid h11
                          clear hs hn hp hA hB h11
                          have cB11 := fun i => BB11.out.cell i
                          have fB11 := fun i => BB11.out.frozen i
                          go_wp2_with fail
                          refine (expect_one [59] (by decide) _ _ _ (by simp <;> omega) (S11.out.cell (a := ⟨B, 6, none⟩) GB.out.1 GB.out.2.1 (.int .i64 a11))).mono ?_
                          intro e w12 hp
                          rcases h12 : expP [59] r11 with ⟨a12, r12⟩ | ⟨b12, r12⟩
                          · obtain ⟨v12, rfl, rfl, hs, hn⟩ := ppost_ok h12 hp
                            have R12 := Lib.hid (R11.out.trans (bnd_ok h12))
                            have S12 := Lib.hid hs
                            have hA : Blk w12 A 64 #[str [], .int .i64 0, .int .i64 0, .int .i64 0, .int .i64 0, .int .i64 0, .int .i64 0] := (BA11.out.far (p := ⟨B, 6, none⟩) (Nat.ne_of_lt GB.out.2.2.2) (.int .i64 a11)).near hn (Nat.ne_of_gt G.out.1)
                            have hB : Blk w12 B 64 #[str a1, .int .i64 a2, .int .i64 a3, .int .i64 a5, .int .i64 a7, .int .i64 a9, .int .i64 a11] := (BB11.out.set_ 6 (.int .i64 a11)).near hn (Nat.ne_of_gt GB.out.1)
                            have BA12 := Lib.hid hA
                            have BB12 := Lib.hid hB
                            have N12 := Lib.hid ((N11.out.set2 (p := ⟨B, 6, none⟩) GB.out.2.2.1 (.int .i64 a11)).trans hn)
                            have Y12 := Lib.hid h12
                            clear hs hn hp hA hB h12
                            have HL := Lib.hid (show Blk _ B 64 #[str a1, .int .i64 a2, .int .i64 a3, .int .i64 a5, .int .i64 a7, .int .i64 a9, .int .i64 a11] from BB12.out)
                            have HQ := Lib.hid BA12.out
                            go_wp2_with (first | (refine wpList_load_row rfl 64 (.tmp 3) rfl B rfl _ #[str a1, .int .i64 a2, .int .i64 a3, .int .i64 a5, .int .i64 a7, .int .i64 a9, .int .i64 a11] _ _ HL.out Tryz.underlying64 rfl infoTrm ?_) | (refine wpList_store_row rfl 64 (.tmp 2) (.tmp 45) rfl A #[str a1, .int .i64 a2, .int .i64 a3, .int .i64 a5, .int .i64 a7, .int .i64 a9, .int .i64 a11] rfl rfl _ _ HQ.out infoTrm rfl (by simp [Value.oneCell']) ?_))
                            have hres := (HQ.out.row #[str a1, .int .i64 a2, .int .i64 a3, .int .i64 a5, .int .i64 a7, .int .i64 a9, .int .i64 a11])
                            exact bodyPost_ret (v := .agg #[str a1, .int .i64 a2, .int .i64 a3, .int .i64 a5, .int .i64 a7, .int .i64 a9, .int .i64 a11]) (results_cell_row rfl _ _ A _ _ _ _ rfl hres Tryz.underlying64 rfl infoTrm) rfl
                              (ppost_of_ok R12.out rfl (S12.out.row G.out.1 G.out.2 _) (N12.out.row (Nat.le_of_eq HA.out) _))
                          · obtain ⟨rfl, hn⟩ := ppost_bad h12 hp
                            exact ⟨rfl, ppost_of_bad (R11.out.trans (bnd_bad h12)) ((N11.out.set2 (p := ⟨B, 6, none⟩) GB.out.2.2.1 (.int .i64 a11)).trans hn)⟩
                        · obtain ⟨rfl, hn⟩ := ppost_bad h11 hp
                          exact ⟨rfl, ppost_of_bad (R10z.out.trans (bnd_bad h11)) (N10.out.trans hn)⟩
                    · obtain ⟨rfl, hn⟩ := ppost_bad h9 hp
                      exact ⟨rfl, ppost_of_bad (R8.out.trans (bnd_bad h9)) (N8.out.trans hn)⟩
                  · obtain ⟨rfl, hn⟩ := ppost_bad h8 hp
                    exact ⟨rfl, ppost_of_bad (R7.out.trans (bnd_bad h8)) ((N7.out.set2 (p := ⟨B, 4, none⟩) GB.out.2.2.1 (.int .i64 a7)).trans hn)⟩
                · obtain ⟨rfl, hn⟩ := ppost_bad h7 hp
                  exact ⟨rfl, ppost_of_bad (R6z.out.trans (bnd_bad h7)) (N6.out.trans hn)⟩
            · obtain ⟨rfl, hn⟩ := ppost_bad h5 hp
              exact ⟨rfl, ppost_of_bad (R4.out.trans (bnd_bad h5)) (N4.out.trans hn)⟩
          · obtain ⟨rfl, hn⟩ := ppost_bad h4 hp
            exact ⟨rfl, ppost_of_bad (R3.out.trans (bnd_bad h4)) ((N3.out.set2 (p := ⟨B, 2, none⟩) GB.out.2.2.1 (.int .i64 a3)).trans hn)⟩
        · obtain ⟨rfl, hn⟩ := ppost_bad h3 hp
          exact ⟨rfl, ppost_of_bad (R2z.out.trans (bnd_bad h3)) ((N2.out.set2 (p := ⟨B, 1, none⟩) GB.out.2.2.1 (.int .i64 a2)).trans hn)⟩
      · skip
        have d5 : (a2 == 5) = false := by rw [beq_eq_false_iff_ne]; exact hm
        have Rq := R2.out
        rw [if_neg hm, pur_bnd] at Rq
        have R2z := Lib.hid Rq
        clear Rq hm
        go_wp2_with fail
        refine (expect_one [108, 101, 97, 115, 116] (by decide) _ _ _ (by simp <;> omega) (S2.out.cell (a := ⟨B, 1, none⟩) GB.out.1 GB.out.2.1 (.int .i64 a2))).mono ?_
        intro e w3 hp
        rcases h3 : expP [108, 101, 97, 115, 116] r2 with ⟨a3, r3⟩ | ⟨b3, r3⟩
        · obtain ⟨v3, rfl, rfl, hs, hn⟩ := ppost_ok h3 hp
          have R3 := Lib.hid (R2z.out.trans (bnd_ok h3))
          have S3 := Lib.hid hs
          have hA : Blk w3 A 64 #[str [], .int .i64 0, .int .i64 0, .int .i64 0, .int .i64 0, .int .i64 0, .int .i64 0] := (BA2.out.far (p := ⟨B, 1, none⟩) (Nat.ne_of_lt GB.out.2.2.2) (.int .i64 a2)).near hn (Nat.ne_of_gt G.out.1)
          have hB : Blk w3 B 64 #[str a1, .int .i64 a2, .int .i64 0, .int .i64 0, .int .i64 0, .int .i64 0, .int .i64 0] := (BB2.out.set_ 1 (.int .i64 a2)).near hn (Nat.ne_of_gt GB.out.1)
          have BA3 := Lib.hid hA
          have BB3 := Lib.hid hB
          have N3 := Lib.hid ((N2.out.set2 (p := ⟨B, 1, none⟩) GB.out.2.2.1 (.int .i64 a2)).trans hn)
          have Y3 := Lib.hid h3
          clear hs hn hp hA hB h3
          go_wp2_with fail
          refine (number_any _ S3.out).mono ?_
          intro e w4 hp
          rcases h4 : numP r3 with ⟨a4, r4⟩ | ⟨b4, r4⟩
          · obtain ⟨v4, rfl, rfl, hs, hn⟩ := ppost_ok h4 hp
            have R4 := Lib.hid (R3.out.trans (bnd_ok h4))
            have S4 := Lib.hid hs
            have hA : Blk w4 A 64 #[str [], .int .i64 0, .int .i64 0, .int .i64 0, .int .i64 0, .int .i64 0, .int .i64 0] := BA3.out.near hn (Nat.ne_of_gt G.out.1)
            have hB : Blk w4 B 64 #[str a1, .int .i64 a2, .int .i64 0, .int .i64 0, .int .i64 0, .int .i64 0, .int .i64 0] := BB3.out.near hn (Nat.ne_of_gt GB.out.1)
            have BA4 := Lib.hid hA
            have BB4 := Lib.hid hB
            have N4 := Lib.hid (N3.out.trans hn)
            have Y4 := Lib.hid h4
            clear hs hn hp hA hB h4
            have cB4 := fun i => BB4.out.cell i
            have fB4 := fun i => BB4.out.frozen i
            obtain ⟨c5, r5, h5⟩ := acc_ok [47] r4
            have X5 := Lib.hid h5
            go_wp2_with fail
            refine (accept_any [47] (by decide) _ ((S4.out.cell (a := ⟨B, 3, none⟩) GB.out.1 GB.out.2.1 (.int .i64 a4)).cell (a := ⟨B, 4, none⟩) GB.out.1 GB.out.2.1 (.int .i64 1))).mono ?_
            intro e w5 hp
            obtain ⟨v5, rfl, rfl, hs, hn⟩ := ppost_ok X5.out hp
            have R5 := Lib.hid (R4.out.trans (bnd_ok X5.out))
            have S5 := Lib.hid hs
            have hA : Blk w5 A 64 #[str [], .int .i64 0, .int .i64 0, .int .i64 0, .int .i64 0, .int .i64 0, .int .i64 0] := ((BA4.out.far (p := ⟨B, 3, none⟩) (Nat.ne_of_lt GB.out.2.2.2) (.int .i64 a4)).far (p := ⟨B, 4, none⟩) (Nat.ne_of_lt GB.out.2.2.2) (.int .i64 1)).near hn (Nat.ne_of_gt G.out.1)
            have hB : Blk w5 B 64 #[str a1, .int .i64 a2, .int .i64 0, .int .i64 a4, .int .i64 1, .int .i64 0, .int .i64 0] := ((BB4.out.set_ 3 (.int .i64 a4)).set_ 4 (.int .i64 1)).near hn (Nat.ne_of_gt GB.out.1)
            have BA5 := Lib.hid hA
            have BB5 := Lib.hid hB
            have N5 := Lib.hid (((N4.out.set2 (p := ⟨B, 3, none⟩) GB.out.2.2.1 (.int .i64 a4)).set2 (p := ⟨B, 4, none⟩) GB.out.2.2.1 (.int .i64 1)).trans hn)
            clear hs hn hp hA hB h5
            cases c5
            · skip
              have R5q := R5.out
              simp only [eq_self, if_true, if_false, Bool.false_eq_true, pur_bnd] at R5q
              have R5z := Lib.hid R5q
              clear R5q
              go_wp2_with fail
              refine (expect_one [103, 105, 118, 101, 115] (by decide) _ _ _ (by simp <;> omega) S5.out).mono ?_
              intro e w6 hp
              rcases h6 : expP [103, 105, 118, 101, 115] r5 with ⟨a6, r6⟩ | ⟨b6, r6⟩
              · obtain ⟨v6, rfl, rfl, hs, hn⟩ := ppost_ok h6 hp
                have R6 := Lib.hid (R5z.out.trans (bnd_ok h6))
                have S6 := Lib.hid hs
                have hA : Blk w6 A 64 #[str [], .int .i64 0, .int .i64 0, .int .i64 0, .int .i64 0, .int .i64 0, .int .i64 0] := BA5.out.near hn (Nat.ne_of_gt G.out.1)
                have hB : Blk w6 B 64 #[str a1, .int .i64 a2, .int .i64 0, .int .i64 a4, .int .i64 1, .int .i64 0, .int .i64 0] := BB5.out.near hn (Nat.ne_of_gt GB.out.1)
                have BA6 := Lib.hid hA
                have BB6 := Lib.hid hB
                have N6 := Lib.hid (N5.out.trans hn)
                have Y6 := Lib.hid h6
                clear hs hn hp hA hB h6
                go_wp2_with fail
                refine (number_any _ S6.out).mono ?_
                intro e w7 hp
                rcases h7 : numP r6 with ⟨a7, r7⟩ | ⟨b7, r7⟩
                · obtain ⟨v7, rfl, rfl, hs, hn⟩ := ppost_ok h7 hp
                  have R7 := Lib.hid (R6.out.trans (bnd_ok h7))
                  have S7 := Lib.hid hs
                  have hA : Blk w7 A 64 #[str [], .int .i64 0, .int .i64 0, .int .i64 0, .int .i64 0, .int .i64 0, .int .i64 0] := BA6.out.near hn (Nat.ne_of_gt G.out.1)
                  have hB : Blk w7 B 64 #[str a1, .int .i64 a2, .int .i64 0, .int .i64 a4, .int .i64 1, .int .i64 0, .int .i64 0] := BB6.out.near hn (Nat.ne_of_gt GB.out.1)
                  have BA7 := Lib.hid hA
                  have BB7 := Lib.hid hB
                  have N7 := Lib.hid (N6.out.trans hn)
                  have Y7 := Lib.hid h7
                  clear hs hn hp hA hB h7
                  have cB7 := fun i => BB7.out.cell i
                  have fB7 := fun i => BB7.out.frozen i
                  obtain ⟨c8, r8, h8⟩ := acc_ok [116, 97, 107, 101, 115] r7
                  have X8 := Lib.hid h8
                  go_wp2_with fail
                  refine (accept_any [116, 97, 107, 101, 115] (by decide) _ (S7.out.cell (a := ⟨B, 5, none⟩) GB.out.1 GB.out.2.1 (.int .i64 a7))).mono ?_
                  intro e w8 hp
                  obtain ⟨v8, rfl, rfl, hs, hn⟩ := ppost_ok X8.out hp
                  have R8 := Lib.hid (R7.out.trans (bnd_ok X8.out))
                  have S8 := Lib.hid hs
                  have hA : Blk w8 A 64 #[str [], .int .i64 0, .int .i64 0, .int .i64 0, .int .i64 0, .int .i64 0, .int .i64 0] := (BA7.out.far (p := ⟨B, 5, none⟩) (Nat.ne_of_lt GB.out.2.2.2) (.int .i64 a7)).near hn (Nat.ne_of_gt G.out.1)
                  have hB : Blk w8 B 64 #[str a1, .int .i64 a2, .int .i64 0, .int .i64 a4, .int .i64 1, .int .i64 a7, .int .i64 0] := (BB7.out.set_ 5 (.int .i64 a7)).near hn (Nat.ne_of_gt GB.out.1)
                  have BA8 := Lib.hid hA
                  have BB8 := Lib.hid hB
                  have N8 := Lib.hid ((N7.out.set2 (p := ⟨B, 5, none⟩) GB.out.2.2.1 (.int .i64 a7)).trans hn)
                  clear hs hn hp hA hB h8
                  cases c8
                  · skip
                    have R8q := R8.out
                    simp only [eq_self, if_true, if_false, Bool.false_eq_true, pur_bnd] at R8q
                    have R8z := Lib.hid R8q
                    clear R8q
                    go_wp2_with fail
                    refine (expect_one [59] (by decide) _ _ _ (by simp <;> omega) S8.out).mono ?_
                    intro e w9 hp
                    rcases h9 : expP [59] r8 with ⟨a9, r9⟩ | ⟨b9, r9⟩
                    · obtain ⟨v9, rfl, rfl, hs, hn⟩ := ppost_ok h9 hp
                      have R9 := Lib.hid (R8z.out.trans (bnd_ok h9))
                      have S9 := Lib.hid hs
                      have hA : Blk w9 A 64 #[str [], .int .i64 0, .int .i64 0, .int .i64 0, .int .i64 0, .int .i64 0, .int .i64 0] := BA8.out.near hn (Nat.ne_of_gt G.out.1)
                      have hB : Blk w9 B 64 #[str a1, .int .i64 a2, .int .i64 0, .int .i64 a4, .int .i64 1, .int .i64 a7, .int .i64 0] := BB8.out.near hn (Nat.ne_of_gt GB.out.1)
                      have BA9 := Lib.hid hA
                      have BB9 := Lib.hid hB
                      have N9 := Lib.hid (N8.out.trans hn)
                      have Y9 := Lib.hid h9
                      clear hs hn hp hA hB h9
                      have HL := Lib.hid (show Blk _ B 64 #[str a1, .int .i64 a2, .int .i64 0, .int .i64 a4, .int .i64 1, .int .i64 a7, .int .i64 0] from BB9.out)
                      have HQ := Lib.hid BA9.out
                      go_wp2_with (first | (refine wpList_load_row rfl 64 (.tmp 3) rfl B rfl _ #[str a1, .int .i64 a2, .int .i64 0, .int .i64 a4, .int .i64 1, .int .i64 a7, .int .i64 0] _ _ HL.out Tryz.underlying64 rfl infoTrm ?_) | (refine wpList_store_row rfl 64 (.tmp 2) (.tmp 45) rfl A #[str a1, .int .i64 a2, .int .i64 0, .int .i64 a4, .int .i64 1, .int .i64 a7, .int .i64 0] rfl rfl _ _ HQ.out infoTrm rfl (by simp [Value.oneCell']) ?_))
                      have hres := (HQ.out.row #[str a1, .int .i64 a2, .int .i64 0, .int .i64 a4, .int .i64 1, .int .i64 a7, .int .i64 0])
                      exact bodyPost_ret (v := .agg #[str a1, .int .i64 a2, .int .i64 0, .int .i64 a4, .int .i64 1, .int .i64 a7, .int .i64 0]) (results_cell_row rfl _ _ A _ _ _ _ rfl hres Tryz.underlying64 rfl infoTrm) rfl
                        (ppost_of_ok R9.out rfl (S9.out.row G.out.1 G.out.2 _) (N9.out.row (Nat.le_of_eq HA.out) _))
                    · obtain ⟨rfl, hn⟩ := ppost_bad h9 hp
                      exact ⟨rfl, ppost_of_bad (R8z.out.trans (bnd_bad h9)) (N8.out.trans hn)⟩
                  · skip
                    have R8q := R8.out
                    simp only [eq_self, if_true, if_false, Bool.false_eq_true, pur_bnd] at R8q
                    have R8z := Lib.hid R8q
                    clear R8q
                    go_wp2_with fail
                    refine (number_any _ S8.out).mono ?_
                    intro e w9 hp
                    rcases h9 : numP r8 with ⟨a9, r9⟩ | ⟨b9, r9⟩
                    · obtain ⟨v9, rfl, rfl, hs, hn⟩ := ppost_ok h9 hp
                      have R9 := Lib.hid (R8z.out.trans (bnd_ok h9))
                      have S9 := Lib.hid hs
                      have hA : Blk w9 A 64 #[str [], .int .i64 0, .int .i64 0, .int .i64 0, .int .i64 0, .int .i64 0, .int .i64 0] := BA8.out.near hn (Nat.ne_of_gt G.out.1)
                      have hB : Blk w9 B 64 #[str a1, .int .i64 a2, .int .i64 0, .int .i64 a4, .int .i64 1, .int .i64 a7, .int .i64 0] := BB8.out.near hn (Nat.ne_of_gt GB.out.1)
                      have BA9 := Lib.hid hA
                      have BB9 := Lib.hid hB
                      have N9 := Lib.hid (N8.out.trans hn)
                      have Y9 := Lib.hid h9
                      clear hs hn hp hA hB h9
                      have cB9 := fun i => BB9.out.cell i
                      have fB9 := fun i => BB9.out.frozen i
                      go_wp2_with fail
                      refine (expect_one [59] (by decide) _ _ _ (by simp <;> omega) (S9.out.cell (a := ⟨B, 6, none⟩) GB.out.1 GB.out.2.1 (.int .i64 a9))).mono ?_
                      intro e w10 hp
                      rcases h10 : expP [59] r9 with ⟨a10, r10⟩ | ⟨b10, r10⟩
                      · obtain ⟨v10, rfl, rfl, hs, hn⟩ := ppost_ok h10 hp
                        have R10 := Lib.hid (R9.out.trans (bnd_ok h10))
                        have S10 := Lib.hid hs
                        have hA : Blk w10 A 64 #[str [], .int .i64 0, .int .i64 0, .int .i64 0, .int .i64 0, .int .i64 0, .int .i64 0] := (BA9.out.far (p := ⟨B, 6, none⟩) (Nat.ne_of_lt GB.out.2.2.2) (.int .i64 a9)).near hn (Nat.ne_of_gt G.out.1)
                        have hB : Blk w10 B 64 #[str a1, .int .i64 a2, .int .i64 0, .int .i64 a4, .int .i64 1, .int .i64 a7, .int .i64 a9] := (BB9.out.set_ 6 (.int .i64 a9)).near hn (Nat.ne_of_gt GB.out.1)
                        have BA10 := Lib.hid hA
                        have BB10 := Lib.hid hB
                        have N10 := Lib.hid ((N9.out.set2 (p := ⟨B, 6, none⟩) GB.out.2.2.1 (.int .i64 a9)).trans hn)
                        have Y10 := Lib.hid h10
                        clear hs hn hp hA hB h10
                        have HL := Lib.hid (show Blk _ B 64 #[str a1, .int .i64 a2, .int .i64 0, .int .i64 a4, .int .i64 1, .int .i64 a7, .int .i64 a9] from BB10.out)
                        have HQ := Lib.hid BA10.out
                        go_wp2_with (first | (refine wpList_load_row rfl 64 (.tmp 3) rfl B rfl _ #[str a1, .int .i64 a2, .int .i64 0, .int .i64 a4, .int .i64 1, .int .i64 a7, .int .i64 a9] _ _ HL.out Tryz.underlying64 rfl infoTrm ?_) | (refine wpList_store_row rfl 64 (.tmp 2) (.tmp 45) rfl A #[str a1, .int .i64 a2, .int .i64 0, .int .i64 a4, .int .i64 1, .int .i64 a7, .int .i64 a9] rfl rfl _ _ HQ.out infoTrm rfl (by simp [Value.oneCell']) ?_))
                        have hres := (HQ.out.row #[str a1, .int .i64 a2, .int .i64 0, .int .i64 a4, .int .i64 1, .int .i64 a7, .int .i64 a9])
                        exact bodyPost_ret (v := .agg #[str a1, .int .i64 a2, .int .i64 0, .int .i64 a4, .int .i64 1, .int .i64 a7, .int .i64 a9]) (results_cell_row rfl _ _ A _ _ _ _ rfl hres Tryz.underlying64 rfl infoTrm) rfl
                          (ppost_of_ok R10.out rfl (S10.out.row G.out.1 G.out.2 _) (N10.out.row (Nat.le_of_eq HA.out) _))
                      · obtain ⟨rfl, hn⟩ := ppost_bad h10 hp
                        exact ⟨rfl, ppost_of_bad (R9.out.trans (bnd_bad h10)) ((N9.out.set2 (p := ⟨B, 6, none⟩) GB.out.2.2.1 (.int .i64 a9)).trans hn)⟩
                    · obtain ⟨rfl, hn⟩ := ppost_bad h9 hp
                      exact ⟨rfl, ppost_of_bad (R8z.out.trans (bnd_bad h9)) (N8.out.trans hn)⟩
                · obtain ⟨rfl, hn⟩ := ppost_bad h7 hp
                  exact ⟨rfl, ppost_of_bad (R6.out.trans (bnd_bad h7)) (N6.out.trans hn)⟩
              · obtain ⟨rfl, hn⟩ := ppost_bad h6 hp
                exact ⟨rfl, ppost_of_bad (R5z.out.trans (bnd_bad h6)) (N5.out.trans hn)⟩
            · skip
              have R5q := R5.out
              simp only [eq_self, if_true, if_false, Bool.false_eq_true, pur_bnd] at R5q
              have R5z := Lib.hid R5q
              clear R5q
              go_wp2_with fail
              refine (number_any _ S5.out).mono ?_
              intro e w6 hp
              rcases h6 : numP r5 with ⟨a6, r6⟩ | ⟨b6, r6⟩
              · obtain ⟨v6, rfl, rfl, hs, hn⟩ := ppost_ok h6 hp
                have R6 := Lib.hid (R5z.out.trans (bnd_ok h6))
                have S6 := Lib.hid hs
                have hA : Blk w6 A 64 #[str [], .int .i64 0, .int .i64 0, .int .i64 0, .int .i64 0, .int .i64 0, .int .i64 0] := BA5.out.near hn (Nat.ne_of_gt G.out.1)
                have hB : Blk w6 B 64 #[str a1, .int .i64 a2, .int .i64 0, .int .i64 a4, .int .i64 1, .int .i64 0, .int .i64 0] := BB5.out.near hn (Nat.ne_of_gt GB.out.1)
                have BA6 := Lib.hid hA
                have BB6 := Lib.hid hB
                have N6 := Lib.hid (N5.out.trans hn)
                have Y6 := Lib.hid h6
                clear hs hn hp hA hB h6
                have cB6 := fun i => BB6.out.cell i
                have fB6 := fun i => BB6.out.frozen i
                go_wp2_with fail
                refine (expect_one [103, 105, 118, 101, 115] (by decide) _ _ _ (by simp <;> omega) (S6.out.cell (a := ⟨B, 4, none⟩) GB.out.1 GB.out.2.1 (.int .i64 a6))).mono ?_
                intro e w7 hp
                rcases h7 : expP [103, 105, 118, 101, 115] r6 with ⟨a7, r7⟩ | ⟨b7, r7⟩
                · obtain ⟨v7, rfl, rfl, hs, hn⟩ := ppost_ok h7 hp
                  have R7 := Lib.hid (R6.out.trans (bnd_ok h7))
                  have S7 := Lib.hid hs
                  have hA : Blk w7 A 64 #[str [], .int .i64 0, .int .i64 0, .int .i64 0, .int .i64 0, .int .i64 0, .int .i64 0] := (BA6.out.far (p := ⟨B, 4, none⟩) (Nat.ne_of_lt GB.out.2.2.2) (.int .i64 a6)).near hn (Nat.ne_of_gt G.out.1)
                  have hB : Blk w7 B 64 #[str a1, .int .i64 a2, .int .i64 0, .int .i64 a4, .int .i64 a6, .int .i64 0, .int .i64 0] := (BB6.out.set_ 4 (.int .i64 a6)).near hn (Nat.ne_of_gt GB.out.1)
                  have BA7 := Lib.hid hA
                  have BB7 := Lib.hid hB
                  have N7 := Lib.hid ((N6.out.set2 (p := ⟨B, 4, none⟩) GB.out.2.2.1 (.int .i64 a6)).trans hn)
                  have Y7 := Lib.hid h7
                  clear hs hn hp hA hB h7
                  go_wp2_with fail
                  refine (number_any _ S7.out).mono ?_
                  intro e w8 hp
                  rcases h8 : numP r7 with ⟨a8, r8⟩ | ⟨b8, r8⟩
                  · obtain ⟨v8, rfl, rfl, hs, hn⟩ := ppost_ok h8 hp
                    have R8 := Lib.hid (R7.out.trans (bnd_ok h8))
                    have S8 := Lib.hid hs
                    have hA : Blk w8 A 64 #[str [], .int .i64 0, .int .i64 0, .int .i64 0, .int .i64 0, .int .i64 0, .int .i64 0] := BA7.out.near hn (Nat.ne_of_gt G.out.1)
                    have hB : Blk w8 B 64 #[str a1, .int .i64 a2, .int .i64 0, .int .i64 a4, .int .i64 a6, .int .i64 0, .int .i64 0] := BB7.out.near hn (Nat.ne_of_gt GB.out.1)
                    have BA8 := Lib.hid hA
                    have BB8 := Lib.hid hB
                    have N8 := Lib.hid (N7.out.trans hn)
                    have Y8 := Lib.hid h8
                    clear hs hn hp hA hB h8
                    have cB8 := fun i => BB8.out.cell i
                    have fB8 := fun i => BB8.out.frozen i
                    obtain ⟨c9, r9, h9⟩ := acc_ok [116, 97, 107, 101, 115] r8
                    have X9 := Lib.hid h9
                    go_wp2_with fail
                    refine (accept_any [116, 97, 107, 101, 115] (by decide) _ (S8.out.cell (a := ⟨B, 5, none⟩) GB.out.1 GB.out.2.1 (.int .i64 a8))).mono ?_
                    intro e w9 hp
                    obtain ⟨v9, rfl, rfl, hs, hn⟩ := ppost_ok X9.out hp
                    have R9 := Lib.hid (R8.out.trans (bnd_ok X9.out))
                    have S9 := Lib.hid hs
                    have hA : Blk w9 A 64 #[str [], .int .i64 0, .int .i64 0, .int .i64 0, .int .i64 0, .int .i64 0, .int .i64 0] := (BA8.out.far (p := ⟨B, 5, none⟩) (Nat.ne_of_lt GB.out.2.2.2) (.int .i64 a8)).near hn (Nat.ne_of_gt G.out.1)
                    have hB : Blk w9 B 64 #[str a1, .int .i64 a2, .int .i64 0, .int .i64 a4, .int .i64 a6, .int .i64 a8, .int .i64 0] := (BB8.out.set_ 5 (.int .i64 a8)).near hn (Nat.ne_of_gt GB.out.1)
                    have BA9 := Lib.hid hA
                    have BB9 := Lib.hid hB
                    have N9 := Lib.hid ((N8.out.set2 (p := ⟨B, 5, none⟩) GB.out.2.2.1 (.int .i64 a8)).trans hn)
                    clear hs hn hp hA hB h9
                    cases c9
                    · skip
                      have R9q := R9.out
                      simp only [eq_self, if_true, if_false, Bool.false_eq_true, pur_bnd] at R9q
                      have R9z := Lib.hid R9q
                      clear R9q
                      go_wp2_with fail
                      refine (expect_one [59] (by decide) _ _ _ (by simp <;> omega) S9.out).mono ?_
                      intro e w10 hp
                      rcases h10 : expP [59] r9 with ⟨a10, r10⟩ | ⟨b10, r10⟩
                      · obtain ⟨v10, rfl, rfl, hs, hn⟩ := ppost_ok h10 hp
                        have R10 := Lib.hid (R9z.out.trans (bnd_ok h10))
                        have S10 := Lib.hid hs
                        have hA : Blk w10 A 64 #[str [], .int .i64 0, .int .i64 0, .int .i64 0, .int .i64 0, .int .i64 0, .int .i64 0] := BA9.out.near hn (Nat.ne_of_gt G.out.1)
                        have hB : Blk w10 B 64 #[str a1, .int .i64 a2, .int .i64 0, .int .i64 a4, .int .i64 a6, .int .i64 a8, .int .i64 0] := BB9.out.near hn (Nat.ne_of_gt GB.out.1)
                        have BA10 := Lib.hid hA
                        have BB10 := Lib.hid hB
                        have N10 := Lib.hid (N9.out.trans hn)
                        have Y10 := Lib.hid h10
                        clear hs hn hp hA hB h10
                        have HL := Lib.hid (show Blk _ B 64 #[str a1, .int .i64 a2, .int .i64 0, .int .i64 a4, .int .i64 a6, .int .i64 a8, .int .i64 0] from BB10.out)
                        have HQ := Lib.hid BA10.out
                        go_wp2_with (first | (refine wpList_load_row rfl 64 (.tmp 3) rfl B rfl _ #[str a1, .int .i64 a2, .int .i64 0, .int .i64 a4, .int .i64 a6, .int .i64 a8, .int .i64 0] _ _ HL.out Tryz.underlying64 rfl infoTrm ?_) | (refine wpList_store_row rfl 64 (.tmp 2) (.tmp 45) rfl A #[str a1, .int .i64 a2, .int .i64 0, .int .i64 a4, .int .i64 a6, .int .i64 a8, .int .i64 0] rfl rfl _ _ HQ.out infoTrm rfl (by simp [Value.oneCell']) ?_))
                        have hres := (HQ.out.row #[str a1, .int .i64 a2, .int .i64 0, .int .i64 a4, .int .i64 a6, .int .i64 a8, .int .i64 0])
                        exact bodyPost_ret (v := .agg #[str a1, .int .i64 a2, .int .i64 0, .int .i64 a4, .int .i64 a6, .int .i64 a8, .int .i64 0]) (results_cell_row rfl _ _ A _ _ _ _ rfl hres Tryz.underlying64 rfl infoTrm) rfl
                          (ppost_of_ok R10.out rfl (S10.out.row G.out.1 G.out.2 _) (N10.out.row (Nat.le_of_eq HA.out) _))
                      · obtain ⟨rfl, hn⟩ := ppost_bad h10 hp
                        exact ⟨rfl, ppost_of_bad (R9z.out.trans (bnd_bad h10)) (N9.out.trans hn)⟩
                    · skip
                      have R9q := R9.out
                      simp only [eq_self, if_true, if_false, Bool.false_eq_true, pur_bnd] at R9q
                      have R9z := Lib.hid R9q
                      clear R9q
                      go_wp2_with fail
                      refine (number_any _ S9.out).mono ?_
                      intro e w10 hp
                      rcases h10 : numP r9 with ⟨a10, r10⟩ | ⟨b10, r10⟩
                      · obtain ⟨v10, rfl, rfl, hs, hn⟩ := ppost_ok h10 hp
                        have R10 := Lib.hid (R9z.out.trans (bnd_ok h10))
                        have S10 := Lib.hid hs
                        have hA : Blk w10 A 64 #[str [], .int .i64 0, .int .i64 0, .int .i64 0, .int .i64 0, .int .i64 0, .int .i64 0] := BA9.out.near hn (Nat.ne_of_gt G.out.1)
                        have hB : Blk w10 B 64 #[str a1, .int .i64 a2, .int .i64 0, .int .i64 a4, .int .i64 a6, .int .i64 a8, .int .i64 0] := BB9.out.near hn (Nat.ne_of_gt GB.out.1)
                        have BA10 := Lib.hid hA
                        have BB10 := Lib.hid hB
                        have N10 := Lib.hid (N9.out.trans hn)
                        have Y10 := Lib.hid h10
                        clear hs hn hp hA hB h10
                        have cB10 := fun i => BB10.out.cell i
                        have fB10 := fun i => BB10.out.frozen i
                        go_wp2_with fail
                        refine (expect_one [59] (by decide) _ _ _ (by simp <;> omega) (S10.out.cell (a := ⟨B, 6, none⟩) GB.out.1 GB.out.2.1 (.int .i64 a10))).mono ?_
                        intro e w11 hp
                        rcases h11 : expP [59] r10 with ⟨a11, r11⟩ | ⟨b11, r11⟩
                        · obtain ⟨v11, rfl, rfl, hs, hn⟩ := ppost_ok h11 hp
                          have R11 := Lib.hid (R10.out.trans (bnd_ok h11))
                          have S11 := Lib.hid hs
                          have hA : Blk w11 A 64 #[str [], .int .i64 0, .int .i64 0, .int .i64 0, .int .i64 0, .int .i64 0, .int .i64 0] := (BA10.out.far (p := ⟨B, 6, none⟩) (Nat.ne_of_lt GB.out.2.2.2) (.int .i64 a10)).near hn (Nat.ne_of_gt G.out.1)
                          have hB : Blk w11 B 64 #[str a1, .int .i64 a2, .int .i64 0, .int .i64 a4, .int .i64 a6, .int .i64 a8, .int .i64 a10] := (BB10.out.set_ 6 (.int .i64 a10)).near hn (Nat.ne_of_gt GB.out.1)
                          have BA11 := Lib.hid hA
                          have BB11 := Lib.hid hB
                          have N11 := Lib.hid ((N10.out.set2 (p := ⟨B, 6, none⟩) GB.out.2.2.1 (.int .i64 a10)).trans hn)
                          have Y11 := Lib.hid h11
                          clear hs hn hp hA hB h11
                          have HL := Lib.hid (show Blk _ B 64 #[str a1, .int .i64 a2, .int .i64 0, .int .i64 a4, .int .i64 a6, .int .i64 a8, .int .i64 a10] from BB11.out)
                          have HQ := Lib.hid BA11.out
                          go_wp2_with (first | (refine wpList_load_row rfl 64 (.tmp 3) rfl B rfl _ #[str a1, .int .i64 a2, .int .i64 0, .int .i64 a4, .int .i64 a6, .int .i64 a8, .int .i64 a10] _ _ HL.out Tryz.underlying64 rfl infoTrm ?_) | (refine wpList_store_row rfl 64 (.tmp 2) (.tmp 45) rfl A #[str a1, .int .i64 a2, .int .i64 0, .int .i64 a4, .int .i64 a6, .int .i64 a8, .int .i64 a10] rfl rfl _ _ HQ.out infoTrm rfl (by simp [Value.oneCell']) ?_))
                          have hres := (HQ.out.row #[str a1, .int .i64 a2, .int .i64 0, .int .i64 a4, .int .i64 a6, .int .i64 a8, .int .i64 a10])
                          exact bodyPost_ret (v := .agg #[str a1, .int .i64 a2, .int .i64 0, .int .i64 a4, .int .i64 a6, .int .i64 a8, .int .i64 a10]) (results_cell_row rfl _ _ A _ _ _ _ rfl hres Tryz.underlying64 rfl infoTrm) rfl
                            (ppost_of_ok R11.out rfl (S11.out.row G.out.1 G.out.2 _) (N11.out.row (Nat.le_of_eq HA.out) _))
                        · obtain ⟨rfl, hn⟩ := ppost_bad h11 hp
                          exact ⟨rfl, ppost_of_bad (R10.out.trans (bnd_bad h11)) ((N10.out.set2 (p := ⟨B, 6, none⟩) GB.out.2.2.1 (.int .i64 a10)).trans hn)⟩
                      · obtain ⟨rfl, hn⟩ := ppost_bad h10 hp
                        exact ⟨rfl, ppost_of_bad (R9z.out.trans (bnd_bad h10)) (N9.out.trans hn)⟩
                  · obtain ⟨rfl, hn⟩ := ppost_bad h8 hp
                    exact ⟨rfl, ppost_of_bad (R7.out.trans (bnd_bad h8)) (N7.out.trans hn)⟩
                · obtain ⟨rfl, hn⟩ := ppost_bad h7 hp
                  exact ⟨rfl, ppost_of_bad (R6.out.trans (bnd_bad h7)) ((N6.out.set2 (p := ⟨B, 4, none⟩) GB.out.2.2.1 (.int .i64 a6)).trans hn)⟩
              · obtain ⟨rfl, hn⟩ := ppost_bad h6 hp
                exact ⟨rfl, ppost_of_bad (R5z.out.trans (bnd_bad h6)) (N5.out.trans hn)⟩
          · obtain ⟨rfl, hn⟩ := ppost_bad h4 hp
            exact ⟨rfl, ppost_of_bad (R3.out.trans (bnd_bad h4)) (N3.out.trans hn)⟩
        · obtain ⟨rfl, hn⟩ := ppost_bad h3 hp
          exact ⟨rfl, ppost_of_bad (R2z.out.trans (bnd_bad h3)) ((N2.out.set2 (p := ⟨B, 1, none⟩) GB.out.2.2.1 (.int .i64 a2)).trans hn)⟩
    · obtain ⟨rfl, hn⟩ := ppost_bad h2 hp
      exact ⟨rfl, ppost_of_bad (R1.out.trans (bnd_bad h2)) (((N1.out.trans (Tch.of_below (below_box _ (.cells #[str a1, .int .i64 0, .int .i64 0, .int .i64 0, .int .i64 0, .int .i64 0, .int .i64 0] 64)))).trans (Tch.of_below HM1.out)).trans hn)⟩
  · obtain ⟨rfl, hn⟩ := ppost_bad h1 hp
    exact ⟨rfl, ppost_of_bad (R0.out.trans (bnd_bad h1)) ((N0.out.trans (Tch.of_below (below_box _ (.cells #[str [], .int .i64 0, .int .i64 0, .int .i64 0, .int .i64 0, .int .i64 0, .int .i64 0] 64)))).trans hn)⟩
end Go.Proofs.YtcgkaecaddpenaaGreatDoor
