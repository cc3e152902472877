/- The program's readers of fixed values, columns, sides, conditions and terms. -/
import Derived.Test.YtcgkaecaddpenaaGreatDoorPsPgD
import Derived.Test.YtcgkaecaddpenaaGreatDoorShelf
namespace Go.Proofs.YtcgkaecaddpenaaGreatDoor
open Go.RowKit
open L7 (Tk)
open L8
set_option linter.unusedSimpArgs false

theorem infoNam : (Tryz.prog.info? 91).map (·.size) = some 4 := by kernel_rfl
theorem infoTrm : (Tryz.prog.info? 64).map (·.size) = some 7 := by kernel_rfl
theorem infoOpd : (Tryz.prog.info? 57).map (·.size) = some 6 := by kernel_rfl
theorem infoCnd : (Tryz.prog.info? 59).map (·.size) = some 14 := by kernel_rfl
def isNam (_ : World) (v : Value) (a : Nam) : Prop := v = .agg #[str a.name, .int .i64 a.v.k, .int .i64 a.v.n, str a.v.t]
def isTrm (_ : World) (v : Value) (a : Trm) : Prop := v = .agg #[str a.attr, .int .i64 a.ms, .int .i64 a.tol, .int .i64 a.num, .int .i64 a.den, .int .i64 a.gives, .int .i64 a.takes]
def isOpd (_ : World) (v : Value) (a : Opd) : Prop := v = .agg #[str a.var, str a.attr, .bool a.const, .int .i64 a.v.k, .int .i64 a.v.n, str a.v.t]
def isCnd (_ : World) (v : Value) (a : Cnd) : Prop := v = .agg #[str a.left.var, str a.left.attr, .bool a.left.const, .int .i64 a.left.v.k, .int .i64 a.left.v.n, str a.left.v.t, .int .i64 a.op, str a.right.var, str a.right.attr, .bool a.right.const, .int .i64 a.right.v.k, .int .i64 a.right.v.n, str a.right.v.t, .int .i64 a.add]
set_option maxRecDepth 100000 in
set_option maxHeartbeats 8000000 in
theorem fixed_any {p : Ps} {r : List Tk} {lv : Int} (w : World) (h : Sta w p r lv) :
    Calls Tryz.prog 72 #[ptr p.g] w (PPost p lv w isNam (fixedP r)) := by
  obtain ⟨R, hR⟩ : ∃ R, fixedP r = R := ⟨_, rfl⟩
  rw [hR]
  have R0 := Lib.hid hR.symm
  have G := Lib.hid (And.intro h.lt h.lt2)
  have S0 := Lib.hid h
  have N0 := Lib.hid (Tch.refl (fun b => b = p.g) w)
  obtain ⟨A, hA⟩ : ∃ A, w.heap.size = A := ⟨_, rfl⟩
  have HA := Lib.hid hA
  rw [hA] at G
  clear hR h
  go_enter Tryz.func72, Tryz.ntmps72
  go_wp2_with fail
  refine (name_any _ (S0.out.keep (below_box _ (.cells #[str [], .int .i64 0, .int .i64 0, str []] 91)))).mono ?_
  intro e w1 hp
  rcases h1 : nameP r with ⟨a1, r1⟩ | ⟨b1, r1⟩
  · obtain ⟨v1, rfl, rfl, hs, hn⟩ := ppost_ok h1 hp
    have R1 := Lib.hid (R0.out.trans (bnd_ok h1))
    have S1 := Lib.hid hs
    have hA : Blk w1 A 91 #[str [], .int .i64 0, .int .i64 0, str []] := by
      have q := ((Blk.new w 91 #[str [], .int .i64 0, .int .i64 0, str []]) : Blk _ _ _ _)
      rw [HA.out] at q
      exact q.near hn (Nat.ne_of_gt G.out.1)
    have BA1 := Lib.hid hA
    have N1 := Lib.hid ((N0.out.trans (Tch.of_below (below_box _ (.cells #[str [], .int .i64 0, .int .i64 0, str []] 91)))).trans hn)
    have Y1 := Lib.hid h1
    clear hs hn hp hA h1
    obtain ⟨B, hB⟩ : ∃ x, w1.heap.size = x := ⟨_, rfl⟩
    have HB := Lib.hid hB
    have GB := Lib.hid (show p.g < B ∧ p.b < B ∧ w.heap.size ≤ B ∧ A < B from by have q1 := BA1.out.lt; have q2 := G.out; have q3 := HA.out; rw [hB] at q1; omega)
    go_wp2_with fail
    refine (expect_one [61] (by decide) _ _ _ (by simp <;> omega) (S1.out.keep (below_box _ (.cells #[str a1, .int .i64 0, .int .i64 0, str []] 91)))).mono ?_
    intro e w2 hp
    rcases h2 : expP [61] r1 with ⟨a2, r2⟩ | ⟨b2, r2⟩
    · obtain ⟨v2, rfl, rfl, hs, hn⟩ := ppost_ok h2 hp
      have R2 := Lib.hid (R1.out.trans (bnd_ok h2))
      have S2 := Lib.hid hs
      have hA : Blk w2 A 91 #[str [], .int .i64 0, .int .i64 0, str []] := (BA1.out.alloc (.cells #[str a1, .int .i64 0, .int .i64 0, str []] 91)).near hn (Nat.ne_of_gt G.out.1)
      have hB : Blk w2 B 91 #[str a1, .int .i64 0, .int .i64 0, str []] := by
        have q := ((Blk.new w1 91 #[str a1, .int .i64 0, .int .i64 0, str []]) : Blk _ _ _ _)
        rw [HB.out] at q
        exact q.near hn (Nat.ne_of_gt GB.out.1)
      have BA2 := Lib.hid hA
      have BB2 := Lib.hid hB
      have N2 := Lib.hid ((N1.out.trans (Tch.of_below (below_box _ (.cells #[str a1, .int .i64 0, .int .i64 0, str []] 91)))).trans hn)
      have Y2 := Lib.hid h2
      clear hs hn hp hA hB h2
      go_wp2_with fail
      refine (value_any _ S2.out).mono ?_
      intro e w3 hp
      rcases h3 : valueP r2 with ⟨a3, r3⟩ | ⟨b3, r3⟩
      · obtain ⟨v3, rfl, rfl, hs, hn⟩ := ppost_ok h3 hp
        have R3 := Lib.hid (R2.out.trans (bnd_ok h3))
        have S3 := Lib.hid hs
        have hA : Blk w3 A 91 #[str [], .int .i64 0, .int .i64 0, str []] := BA2.out.near hn (Nat.ne_of_gt G.out.1)
        have hB : Blk w3 B 91 #[str a1, .int .i64 0, .int .i64 0, str []] := BB2.out.near hn (Nat.ne_of_gt GB.out.1)
        have BA3 := Lib.hid hA
        have BB3 := Lib.hid hB
        have N3 := Lib.hid (N2.out.trans hn)
        have Y3 := Lib.hid h3
        clear hs hn hp hA hB h3
        have cB3 := fun i => BB3.out.cell i
        have fB3 := fun i => BB3.out.frozen i
        have HL := Lib.hid (show Blk _ B 91 #[str a1, .int .i64 a3.k, .int .i64 a3.n, str a3.t] from (((BB3.out.set_ 1 (.int .i64 a3.k)).set_ 2 (.int .i64 a3.n)).set_ 3 (str a3.t)))
        have HQ := Lib.hid (((BA3.out.far (p := ⟨B, 1, none⟩) (Nat.ne_of_lt GB.out.2.2.2) (.int .i64 a3.k)).far (p := ⟨B, 2, none⟩) (Nat.ne_of_lt GB.out.2.2.2) (.int .i64 a3.n)).far (p := ⟨B, 3, none⟩) (Nat.ne_of_lt GB.out.2.2.2) (str a3.t))
        go_wp2_with (first | (refine wpList_load_row rfl 91 (.tmp 3) rfl B rfl _ #[str a1, .int .i64 a3.k, .int .i64 a3.n, str a3.t] _ _ HL.out Tryz.underlying91 rfl infoNam ?_) | (refine wpList_store_row rfl 91 (.tmp 2) (.tmp 13) rfl A #[str a1, .int .i64 a3.k, .int .i64 a3.n, str a3.t] rfl rfl _ _ HQ.out infoNam rfl (by simp [Value.oneCell']) ?_))
        have hres := (HQ.out.row #[str a1, .int .i64 a3.k, .int .i64 a3.n, str a3.t])
        exact bodyPost_ret (v := .agg #[str a1, .int .i64 a3.k, .int .i64 a3.n, str a3.t]) (results_cell_row rfl _ _ A _ _ _ _ rfl hres Tryz.underlying91 rfl infoNam) rfl
          (ppost_of_ok R3.out rfl ((((S3.out.cell (a := ⟨B, 1, none⟩) GB.out.1 GB.out.2.1 (.int .i64 a3.k)).cell (a := ⟨B, 2, none⟩) GB.out.1 GB.out.2.1 (.int .i64 a3.n)).cell (a := ⟨B, 3, none⟩) GB.out.1 GB.out.2.1 (str a3.t)).row G.out.1 G.out.2 _) ((((N3.out.set2 (p := ⟨B, 1, none⟩) GB.out.2.2.1 (.int .i64 a3.k)).set2 (p := ⟨B, 2, none⟩) GB.out.2.2.1 (.int .i64 a3.n)).set2 (p := ⟨B, 3, none⟩) GB.out.2.2.1 (str a3.t)).row (Nat.le_of_eq HA.out) _))
      · obtain ⟨rfl, hn⟩ := ppost_bad h3 hp
        exact ⟨rfl, ppost_of_bad (R2.out.trans (bnd_bad h3)) (N2.out.trans hn)⟩
    · obtain ⟨rfl, hn⟩ := ppost_bad h2 hp
      exact ⟨rfl, ppost_of_bad (R1.out.trans (bnd_bad h2)) ((N1.out.trans (Tch.of_below (below_box _ (.cells #[str a1, .int .i64 0, .int .i64 0, str []] 91)))).trans hn)⟩
  · obtain ⟨rfl, hn⟩ := ppost_bad h1 hp
    exact ⟨rfl, ppost_of_bad (R0.out.trans (bnd_bad h1)) ((N0.out.trans (Tch.of_below (below_box _ (.cells #[str [], .int .i64 0, .int .i64 0, str []] 91)))).trans hn)⟩
set_option maxRecDepth 100000 in
set_option maxHeartbeats 8000000 in
theorem column_any {p : Ps} {r : List Tk} {lv : Int} (w : World) (h : Sta w p r lv) :
    Calls Tryz.prog 63 #[ptr p.g] w (PPost p lv w isCol (columnP r)) := by
  obtain ⟨R, hR⟩ : ∃ R, columnP r = R := ⟨_, rfl⟩
  rw [hR]
  have R0 := Lib.hid hR.symm
  have G := Lib.hid (And.intro h.lt h.lt2)
  have S0 := Lib.hid h
  have N0 := Lib.hid (Tch.refl (fun b => b = p.g) w)
  obtain ⟨A, hA⟩ : ∃ A, w.heap.size = A := ⟨_, rfl⟩
  have HA := Lib.hid hA
  rw [hA] at G
  clear hR h
  go_enter Tryz.func63, Tryz.ntmps63
  go_wp2_with fail
  refine (name_any _ (S0.out.keep (below_box _ (.cells #[str [], .int .i64 0, .int .i64 0, .int .i64 0, str []] 89)))).mono ?_
  intro e w1 hp
  rcases h1 : nameP r with ⟨a1, r1⟩ | ⟨b1, r1⟩
  · obtain ⟨v1, rfl, rfl, hs, hn⟩ := ppost_ok h1 hp
    have R1 := Lib.hid (R0.out.trans (bnd_ok h1))
    have S1 := Lib.hid hs
    have hA : Blk w1 A 89 #[str [], .int .i64 0, .int .i64 0, .int .i64 0, str []] := by
      have q := ((Blk.new w 89 #[str [], .int .i64 0, .int .i64 0, .int .i64 0, str []]) : Blk _ _ _ _)
      rw [HA.out] at q
      exact q.near hn (Nat.ne_of_gt G.out.1)
    have BA1 := Lib.hid hA
    have N1 := Lib.hid ((N0.out.trans (Tch.of_below (below_box _ (.cells #[str [], .int .i64 0, .int .i64 0, .int .i64 0, str []] 89)))).trans hn)
    have Y1 := Lib.hid h1
    clear hs hn hp hA h1
    obtain ⟨B, hB⟩ : ∃ x, w1.heap.size = x := ⟨_, rfl⟩
    have HB := Lib.hid hB
    have GB := Lib.hid (show p.g < B ∧ p.b < B ∧ w.heap.size ≤ B ∧ A < B from by have q1 := BA1.out.lt; have q2 := G.out; have q3 := HA.out; rw [hB] at q1; omega)
    obtain ⟨f, f0, hu, ht, hb⟩ := tab_chain (w1.alloc (.cells #[str a1, .int .i64 0, .int .i64 0, .int .i64 0, str []] 89)) [.int .i64 0, .int .i64 1, .int .i64 2, .int .i64 3, .int .i64 4] (by simp) [[116, 101, 120, 116], [110, 117, 109, 98, 101, 114], [100, 97, 121], [102, 108, 97, 103]] (by decide) (by decide) (by decide) rfl Tryz.underlying119 (e := 3) 4 (by decide)
    have u0 : (Instr.mapUpdate 119 (.map (some (w1.alloc (.cells #[str a1, .int .i64 0, .int .i64 0, .int .i64 0, str []] 89)).heap.size)) (str [116, 101, 120, 116]) (.int .i64 1)).run Tryz.prog (f 0) = .ok () (f 1) := hu 0 _ _ (by decide) rfl rfl
    have u1 : (Instr.mapUpdate 119 (.map (some (w1.alloc (.cells #[str a1, .int .i64 0, .int .i64 0, .int .i64 0, str []] 89)).heap.size)) (str [110, 117, 109, 98, 101, 114]) (.int .i64 2)).run Tryz.prog (f 1) = .ok () (f 2) := hu 1 _ _ (by decide) rfl rfl
    have u2 : (Instr.mapUpdate 119 (.map (some (w1.alloc (.cells #[str a1, .int .i64 0, .int .i64 0, .int .i64 0, str []] 89)).heap.size)) (str [100, 97, 121]) (.int .i64 3)).run Tryz.prog (f 2) = .ok () (f 3) := hu 2 _ _ (by decide) rfl rfl
    have u3 : (Instr.mapUpdate 119 (.map (some (w1.alloc (.cells #[str a1, .int .i64 0, .int .i64 0, .int .i64 0, str []] 89)).heap.size)) (str [102, 108, 97, 103]) (.int .i64 4)).run Tryz.prog (f 3) = .ok () (f 4) := hu 3 _ _ (by decide) rfl rfl
    rw [f0] at u0
    obtain ⟨m1, e1⟩ : ∃ x, f 1 = x := ⟨_, rfl⟩
    rw [e1] at u0 u1
    obtain ⟨m2, e2⟩ : ∃ x, f 2 = x := ⟨_, rfl⟩
    rw [e2] at u1 u2
    obtain ⟨m3, e3⟩ : ∃ x, f 3 = x := ⟨_, rfl⟩
    rw [e3] at u2 u3
    obtain ⟨m4, e4⟩ : ∃ x, f 4 = x := ⟨_, rfl⟩
    rw [e4] at u3 ht hb
    have HM1 := Lib.hid hb
    have hmm := @run_makeMap Tryz.prog
    simp only [List.take_succ_cons, List.take_zero] at ht
    simp only [World.size_alloc, World.size_setCell, hA, hB] at u0 u1 u2 u3 ht
    have HT1 := Lib.hid ht
    clear f0 hu ht hb e1 e2 e3 e4
    go_wp2_with fail
    refine (chI4_any [[116, 101, 120, 116], [110, 117, 109, 98, 101, 114], [100, 97, 121], [102, 108, 97, 103]] (by decide) rfl _ _ HT1.out ((S1.out.keep (below_box _ (.cells #[str a1, .int .i64 0, .int .i64 0, .int .i64 0, str []] 89))).keep HM1.out)).mono ?_
    intro e w2 hp
    rcases h2 : oneP [[116, 101, 120, 116], [110, 117, 109, 98, 101, 114], [100, 97, 121], [102, 108, 97, 103]] r1 with ⟨a2, r2⟩ | ⟨b2, r2⟩
    · obtain ⟨v2, rfl, rfl, hs, hn⟩ := ppost_ok h2 hp
      have R2 := Lib.hid (R1.out.trans (bnd_ok h2))
      have S2 := Lib.hid hs
      have hA : Blk w2 A 89 #[str [], .int .i64 0, .int .i64 0, .int .i64 0, str []] := ((BA1.out.alloc (.cells #[str a1, .int .i64 0, .int .i64 0, .int .i64 0, str []] 89)).keep HM1.out).near hn (Nat.ne_of_gt G.out.1)
      have hB : Blk w2 B 89 #[str a1, .int .i64 0, .int .i64 0, .int .i64 0, str []] := by
        have q := (((Blk.new w1 89 #[str a1, .int .i64 0, .int .i64 0, .int .i64 0, str []]).keep HM1.out) : Blk _ _ _ _)
        rw [HB.out] at q
        exact q.near hn (Nat.ne_of_gt GB.out.1)
      have BA2 := Lib.hid hA
      have BB2 := Lib.hid hB
      have N2 := Lib.hid (((N1.out.trans (Tch.of_below (below_box _ (.cells #[str a1, .int .i64 0, .int .i64 0, .int .i64 0, str []] 89)))).trans (Tch.of_below HM1.out)).trans hn)
      have Y2 := Lib.hid h2
      clear hs hn hp hA hB h2
      have cB2 := fun i => BB2.out.cell i
      have fB2 := fun i => BB2.out.frozen i
      obtain ⟨c3, r3, h3⟩ := acc_ok [61] r2
      have X3 := Lib.hid h3
      go_wp2_with fail
      refine (accept_any [61] (by decide) _ (S2.out.cell (a := ⟨B, 1, none⟩) GB.out.1 GB.out.2.1 (.int .i64 a2))).mono ?_
      intro e w3 hp
      obtain ⟨v3, rfl, rfl, hs, hn⟩ := ppost_ok X3.out hp
      have R3 := Lib.hid (R2.out.trans (bnd_ok X3.out))
      have S3 := Lib.hid hs
      have hA : Blk w3 A 89 #[str [], .int .i64 0, .int .i64 0, .int .i64 0, str []] := (BA2.out.far (p := ⟨B, 1, none⟩) (Nat.ne_of_lt GB.out.2.2.2) (.int .i64 a2)).near hn (Nat.ne_of_gt G.out.1)
      have hB : Blk w3 B 89 #[str a1, .int .i64 a2, .int .i64 0, .int .i64 0, str []] := (BB2.out.set_ 1 (.int .i64 a2)).near hn (Nat.ne_of_gt GB.out.1)
      have BA3 := Lib.hid hA
      have BB3 := Lib.hid hB
      have N3 := Lib.hid ((N2.out.set2 (p := ⟨B, 1, none⟩) GB.out.2.2.1 (.int .i64 a2)).trans hn)
      clear hs hn hp hA hB h3
      cases c3
      · skip
        have R3q := R3.out
        simp only [eq_self, if_true, if_false, Bool.false_eq_true, pur_bnd] at R3q
        have R3z := Lib.hid R3q
        clear R3q
        have HL := Lib.hid (show Blk _ B 89 #[str a1, .int .i64 a2, .int .i64 0, .int .i64 0, str []] from BB3.out)
        have HQ := Lib.hid BA3.out
        go_wp2_with (first | (refine wpList_load_row rfl 89 (.tmp 3) rfl B rfl _ #[str a1, .int .i64 a2, .int .i64 0, .int .i64 0, str []] _ _ HL.out Tryz.underlying89 rfl infoCol ?_) | (refine wpList_store_row rfl 89 (.tmp 2) (.tmp 17) rfl A #[str a1, .int .i64 a2, .int .i64 0, .int .i64 0, str []] rfl rfl _ _ HQ.out infoCol rfl (by simp [Value.oneCell']) ?_))
        have hres := (HQ.out.row #[str a1, .int .i64 a2, .int .i64 0, .int .i64 0, str []])
        exact bodyPost_ret (v := .agg #[str a1, .int .i64 a2, .int .i64 0, .int .i64 0, str []]) (results_cell_row rfl _ _ A _ _ _ _ rfl hres Tryz.underlying89 rfl infoCol) rfl
          (ppost_of_ok R3z.out rfl (S3.out.row G.out.1 G.out.2 _) (N3.out.row (Nat.le_of_eq HA.out) _))
      · skip
        have R3q := R3.out
        simp only [eq_self, if_true, if_false, Bool.false_eq_true, pur_bnd] at R3q
        have R3z := Lib.hid R3q
        clear R3q
        go_wp2_with fail
        refine (value_any _ S3.out).mono ?_
        intro e w4 hp
        rcases h4 : valueP r3 with ⟨a4, r4⟩ | ⟨b4, r4⟩
        · obtain ⟨v4, rfl, rfl, hs, hn⟩ := ppost_ok h4 hp
          have R4 := Lib.hid (R3z.out.trans (bnd_ok h4))
          have S4 := Lib.hid hs
          have hA : Blk w4 A 89 #[str [], .int .i64 0, .int .i64 0, .int .i64 0, str []] := BA3.out.near hn (Nat.ne_of_gt G.out.1)
          have hB : Blk w4 B 89 #[str a1, .int .i64 a2, .int .i64 0, .int .i64 0, str []] := BB3.out.near hn (Nat.ne_of_gt GB.out.1)
          have BA4 := Lib.hid hA
          have BB4 := Lib.hid hB
          have N4 := Lib.hid (N3.out.trans hn)
          have Y4 := Lib.hid h4
          clear hs hn hp hA hB h4
          have cB4 := fun i => BB4.out.cell i
          have fB4 := fun i => BB4.out.frozen i
          have HL := Lib.hid (show Blk _ B 89 #[str a1, .int .i64 a2, .int .i64 a4.k, .int .i64 a4.n, str a4.t] from (((BB4.out.set_ 2 (.int .i64 a4.k)).set_ 3 (.int .i64 a4.n)).set_ 4 (str a4.t)))
          have HQ := Lib.hid (((BA4.out.far (p := ⟨B, 2, none⟩) (Nat.ne_of_lt GB.out.2.2.2) (.int .i64 a4.k)).far (p := ⟨B, 3, none⟩) (Nat.ne_of_lt GB.out.2.2.2) (.int .i64 a4.n)).far (p := ⟨B, 4, none⟩) (Nat.ne_of_lt GB.out.2.2.2) (str a4.t))
          go_wp2_with (first | (refine wpList_load_row rfl 89 (.tmp 3) rfl B rfl _ #[str a1, .int .i64 a2, .int .i64 a4.k, .int .i64 a4.n, str a4.t] _ _ HL.out Tryz.underlying89 rfl infoCol ?_) | (refine wpList_store_row rfl 89 (.tmp 2) (.tmp 17) rfl A #[str a1, .int .i64 a2, .int .i64 a4.k, .int .i64 a4.n, str a4.t] rfl rfl _ _ HQ.out infoCol rfl (by simp [Value.oneCell']) ?_))
          have hres := (HQ.out.row #[str a1, .int .i64 a2, .int .i64 a4.k, .int .i64 a4.n, str a4.t])
          exact bodyPost_ret (v := .agg #[str a1, .int .i64 a2, .int .i64 a4.k, .int .i64 a4.n, str a4.t]) (results_cell_row rfl _ _ A _ _ _ _ rfl hres Tryz.underlying89 rfl infoCol) rfl
            (ppost_of_ok R4.out rfl ((((S4.out.cell (a := ⟨B, 2, none⟩) GB.out.1 GB.out.2.1 (.int .i64 a4.k)).cell (a := ⟨B, 3, none⟩) GB.out.1 GB.out.2.1 (.int .i64 a4.n)).cell (a := ⟨B, 4, none⟩) GB.out.1 GB.out.2.1 (str a4.t)).row G.out.1 G.out.2 _) ((((N4.out.set2 (p := ⟨B, 2, none⟩) GB.out.2.2.1 (.int .i64 a4.k)).set2 (p := ⟨B, 3, none⟩) GB.out.2.2.1 (.int .i64 a4.n)).set2 (p := ⟨B, 4, none⟩) GB.out.2.2.1 (str a4.t)).row (Nat.le_of_eq HA.out) _))
        · obtain ⟨rfl, hn⟩ := ppost_bad h4 hp
          exact ⟨rfl, ppost_of_bad (R3z.out.trans (bnd_bad h4)) (N3.out.trans hn)⟩
    · obtain ⟨rfl, hn⟩ := ppost_bad h2 hp
      exact ⟨rfl, ppost_of_bad (R1.out.trans (bnd_bad h2)) (((N1.out.trans (Tch.of_below (below_box _ (.cells #[str a1, .int .i64 0, .int .i64 0, .int .i64 0, str []] 89)))).trans (Tch.of_below HM1.out)).trans hn)⟩
  · obtain ⟨rfl, hn⟩ := ppost_bad h1 hp
    exact ⟨rfl, ppost_of_bad (R0.out.trans (bnd_bad h1)) ((N0.out.trans (Tch.of_below (below_box _ (.cells #[str [], .int .i64 0, .int .i64 0, .int .i64 0, str []] 89)))).trans hn)⟩
theorem row3 (W : World) (x y z : Txt) (T : TypeId) (c : Nat) (hc : W.heap.size = c) : ∀ j, j < 3 → (W.alloc (.cells #[str x, str y, str z] T)).cell? ⟨c, 0 + j, none⟩ = some (.string ([(⟨x.toArray⟩ : ByteArray), ⟨y.toArray⟩, ⟨z.toArray⟩].getD j ByteArray.empty)) := by
  subst hc
  intro j hj
  rcases (by omega : j = 0 ∨ j = 1 ∨ j = 2) with rfl | rfl | rfl <;> simp [go_sem]
theorem contains_any (x : Txt) (bv : Bool) (hv : isVal x = bv) (W : World) (T : TypeId) (c : Nat) (hc : W.heap.size = c) :
    Calls Tryz.prog 100 #[.slice (some ⟨c, 0, none⟩) 3 3, str x] (W.alloc (.cells #[str [116, 114, 117, 101], str [102, 97, 108, 115, 101], str [110, 117, 108, 108]] T)) (fun e w' => e = .returned (.bool bv) ∧ w' = W.alloc (.cells #[str [116, 114, 117, 101], str [102, 97, 108, 115, 101], str [110, 117, 108, 108]] T)) := by
  refine (Any.slices_Contains_string Tryz.lays110 c 0 3 3 [⟨([116, 114, 117, 101] : Txt).toArray⟩, ⟨([102, 97, 108, 115, 101] : Txt).toArray⟩, ⟨([110, 117, 108, 108] : Txt).toArray⟩] ⟨x.toArray⟩ _ (by decide) (by decide) (row3 W _ _ _ T c hc)).mono ?_
  rintro e w' ⟨rfl, rfl⟩
  refine ⟨?_, rfl⟩
  rw [← hv]
  refine bool_ret ?_
  unfold isVal
  rw [Bool.eq_iff_iff, Lib.containsS_iff]
  simp
theorem sideC_hd (n : Nat) (r : List Tk) : sideC r = (decide ((hdT n r).kind ≠ 1) || isVal (hdT n r).text) := by cases r <;> rfl
set_option maxRecDepth 100000 in
set_option maxHeartbeats 8000000 in
theorem side_not {p : Ps} {r : List Tk} {lv : Int} (hk : (hdT p.n r).kind ≠ 1) (w : World) (h : Sta w p r lv) :
    Calls Tryz.prog 91 #[ptr p.g] w (PPost p lv w isOpd (sideP r)) := by
  obtain ⟨R, hR⟩ : ∃ R, sideP r = R := ⟨_, rfl⟩
  rw [hR]
  have R0 := Lib.hid hR.symm
  have G := Lib.hid (And.intro h.lt h.lt2)
  have S0 := Lib.hid h
  have N0 := Lib.hid (Tch.refl (fun b => b = p.g) w)
  obtain ⟨A, hA⟩ : ∃ A, w.heap.size = A := ⟨_, rfl⟩
  have HA := Lib.hid hA
  rw [hA] at G
  clear hR h
  obtain ⟨off, cap, hst⟩ := (((S0.out.keep (below_box _ (.cells #[str [], str [], .bool false, .int .i64 0, .int .i64 0, str []] 57))).keep (below_box _ (.cells #[str [116, 114, 117, 101], str [102, 97, 108, 115, 101], str [110, 117, 108, 108]] 9))) : Sta _ p r lv)
  obtain ⟨k0, k1, k2, k3⟩ := hst.head
  have c0 := hst.c0
  have hcap := hst.hc
  have d0 : ((hdT p.n r).kind == 1) = false := by rw [beq_eq_false_iff_ne]; exact hk
  have d1 : ((hdT p.n r).kind != 1) = true := by rw [bne, d0]; rfl
  have Kq := R0.out.trans (bnd_ok (show peekSide r = .ok true r from congrArg (fun x => Res.ok x r) (by rw [sideC_hd p.n r]; simp [hk])))
  simp only [eq_self, if_true, if_false, Bool.false_eq_true, pur_bnd] at Kq
  have R0z := Lib.hid Kq
  clear hst Kq hk
  go_enter Tryz.func91, Tryz.ntmps91
  go_wp2_with fail
  refine (value_any _ ((S0.out.keep (below_box _ (.cells #[str [], str [], .bool false, .int .i64 0, .int .i64 0, str []] 57))).keep (below_box _ (.cells #[str [116, 114, 117, 101], str [102, 97, 108, 115, 101], str [110, 117, 108, 108]] 9)))).mono ?_
  intro e w1 hp
  rcases h1 : valueP r with ⟨a1, r1⟩ | ⟨b1, r1⟩
  · obtain ⟨v1, rfl, rfl, hs, hn⟩ := ppost_ok h1 hp
    have R1 := Lib.hid (R0z.out.trans (bnd_ok h1))
    have S1 := Lib.hid hs
    have hA : Blk w1 A 57 #[str [], str [], .bool false, .int .i64 0, .int .i64 0, str []] := by
      have q := (((Blk.new w 57 #[str [], str [], .bool false, .int .i64 0, .int .i64 0, str []]).alloc (.cells #[str [116, 114, 117, 101], str [102, 97, 108, 115, 101], str [110, 117, 108, 108]] 9)) : Blk _ _ _ _)
      rw [HA.out] at q
      exact q.near hn (Nat.ne_of_gt G.out.1)
    have BA1 := Lib.hid hA
    have N1 := Lib.hid (((N0.out.trans (Tch.of_below (below_box _ (.cells #[str [], str [], .bool false, .int .i64 0, .int .i64 0, str []] 57)))).trans (Tch.of_below (below_box _ (.cells #[str [116, 114, 117, 101], str [102, 97, 108, 115, 101], str [110, 117, 108, 108]] 9)))).trans hn)
    have Y1 := Lib.hid h1
    clear hs hn hp hA h1
    have HQ := Lib.hid BA1.out
    go_wp2_with (refine wpList_store_row rfl 57 (.tmp 2) (.tmp 27) rfl A #[str [], str [], .bool true, .int .i64 a1.k, .int .i64 a1.n, str a1.t] rfl rfl _ _ HQ.out infoOpd rfl (by simp [Value.oneCell']) ?_)
    have hres := (HQ.out.row #[str [], str [], .bool true, .int .i64 a1.k, .int .i64 a1.n, str a1.t])
    exact bodyPost_ret (v := .agg #[str [], str [], .bool true, .int .i64 a1.k, .int .i64 a1.n, str a1.t]) (results_cell_row rfl _ _ A _ _ _ _ rfl hres Tryz.underlying57 rfl infoOpd) rfl
      (ppost_of_ok R1.out rfl (S1.out.row G.out.1 G.out.2 _) (N1.out.row (Nat.le_of_eq HA.out) _))
  · obtain ⟨rfl, hn⟩ := ppost_bad h1 hp
    exact ⟨rfl, ppost_of_bad (R0z.out.trans (bnd_bad h1)) (((N0.out.trans (Tch.of_below (below_box _ (.cells #[str [], str [], .bool false, .int .i64 0, .int .i64 0, str []] 57)))).trans (Tch.of_below (below_box _ (.cells #[str [116, 114, 117, 101], str [102, 97, 108, 115, 101], str [110, 117, 108, 108]] 9)))).trans hn)⟩
set_option maxRecDepth 100000 in
set_option maxHeartbeats 8000000 in
theorem side_val {p : Ps} {r : List Tk} {lv : Int} (hk : (hdT p.n r).kind = 1) (hi : isVal (hdT p.n r).text = true) (w : World) (h : Sta w p r lv) :
    Calls Tryz.prog 91 #[ptr p.g] w (PPost p lv w isOpd (sideP r)) := by
  obtain ⟨R, hR⟩ : ∃ R, sideP r = R := ⟨_, rfl⟩
  rw [hR]
  have R0 := Lib.hid hR.symm
  have G := Lib.hid (And.intro h.lt h.lt2)
  have S0 := Lib.hid h
  have N0 := Lib.hid (Tch.refl (fun b => b = p.g) w)
  obtain ⟨A, hA⟩ : ∃ A, w.heap.size = A := ⟨_, rfl⟩
  have HA := Lib.hid hA
  rw [hA] at G
  clear hR h
  obtain ⟨off, cap, hst⟩ := (((S0.out.keep (below_box _ (.cells #[str [], str [], .bool false, .int .i64 0, .int .i64 0, str []] 57))).keep (below_box _ (.cells #[str [116, 114, 117, 101], str [102, 97, 108, 115, 101], str [110, 117, 108, 108]] 9))) : Sta _ p r lv)
  obtain ⟨k0, k1, k2, k3⟩ := hst.head
  have c0 := hst.c0
  have hcap := hst.hc
  have d0 : ((hdT p.n r).kind == 1) = true := by rw [beq_iff_eq]; exact hk
  have d1 : ((hdT p.n r).kind != 1) = false := by rw [bne, d0]; rfl
  have Kq := R0.out.trans (bnd_ok (show peekSide r = .ok true r from congrArg (fun x => Res.ok x r) (by rw [sideC_hd p.n r]; simp [hk, hi])))
  simp only [eq_self, if_true, if_false, Bool.false_eq_true, pur_bnd] at Kq
  have R0z := Lib.hid Kq
  have CC := Lib.hid (fun W T c hc => contains_any _ _ hi W T c hc)
  clear hst Kq hk hi
  go_enter Tryz.func91, Tryz.ntmps91
  go_wp2_with (go_at_call 100; refine (CC.out (w.alloc (.cells #[str [], str [], .bool false, .int .i64 0, .int .i64 0, str []] 57)) 9 _ (by simp <;> omega)).mono ?_; rintro e w1 ⟨rfl, rfl⟩)
  skip
  refine (value_any _ ((S0.out.keep (below_box _ (.cells #[str [], str [], .bool false, .int .i64 0, .int .i64 0, str []] 57))).keep (below_box _ (.cells #[str [116, 114, 117, 101], str [102, 97, 108, 115, 101], str [110, 117, 108, 108]] 9)))).mono ?_
  intro e w1 hp
  rcases h1 : valueP r with ⟨a1, r1⟩ | ⟨b1, r1⟩
  · obtain ⟨v1, rfl, rfl, hs, hn⟩ := ppost_ok h1 hp
    have R1 := Lib.hid (R0z.out.trans (bnd_ok h1))
    have S1 := Lib.hid hs
    have hA : Blk w1 A 57 #[str [], str [], .bool false, .int .i64 0, .int .i64 0, str []] := by
      have q := (((Blk.new w 57 #[str [], str [], .bool false, .int .i64 0, .int .i64 0, str []]).alloc (.cells #[str [116, 114, 117, 101], str [102, 97, 108, 115, 101], str [110, 117, 108, 108]] 9)) : Blk _ _ _ _)
      rw [HA.out] at q
      exact q.near hn (Nat.ne_of_gt G.out.1)
    have BA1 := Lib.hid hA
    have N1 := Lib.hid (((N0.out.trans (Tch.of_below (below_box _ (.cells #[str [], str [], .bool false, .int .i64 0, .int .i64 0, str []] 57)))).trans (Tch.of_below (below_box _ (.cells #[str [116, 114, 117, 101], str [102, 97, 108, 115, 101], str [110, 117, 108, 108]] 9)))).trans hn)
    have Y1 := Lib.hid h1
    clear hs hn hp hA h1
    have HQ := Lib.hid BA1.out
    go_wp2_with (refine wpList_store_row rfl 57 (.tmp 2) (.tmp 27) rfl A #[str [], str [], .bool true, .int .i64 a1.k, .int .i64 a1.n, str a1.t] rfl rfl _ _ HQ.out infoOpd rfl (by simp [Value.oneCell']) ?_)
    have hres := (HQ.out.row #[str [], str [], .bool true, .int .i64 a1.k, .int .i64 a1.n, str a1.t])
    exact bodyPost_ret (v := .agg #[str [], str [], .bool true, .int .i64 a1.k, .int .i64 a1.n, str a1.t]) (results_cell_row rfl _ _ A _ _ _ _ rfl hres Tryz.underlying57 rfl infoOpd) rfl
      (ppost_of_ok R1.out rfl (S1.out.row G.out.1 G.out.2 _) (N1.out.row (Nat.le_of_eq HA.out) _))
  · obtain ⟨rfl, hn⟩ := ppost_bad h1 hp
    exact ⟨rfl, ppost_of_bad (R0z.out.trans (bnd_bad h1)) (((N0.out.trans (Tch.of_below (below_box _ (.cells #[str [], str [], .bool false, .int .i64 0, .int .i64 0, str []] 57)))).trans (Tch.of_below (below_box _ (.cells #[str [116, 114, 117, 101], str [102, 97, 108, 115, 101], str [110, 117, 108, 108]] 9)))).trans hn)⟩
set_option maxRecDepth 100000 in
set_option maxHeartbeats 8000000 in
theorem side_name {p : Ps} {r : List Tk} {lv : Int} (hk : (hdT p.n r).kind = 1) (hi : isVal (hdT p.n r).text = false) (w : World) (h : Sta w p r lv) :
    Calls Tryz.prog 91 #[ptr p.g] w (PPost p lv w isOpd (sideP r)) := by
  obtain ⟨R, hR⟩ : ∃ R, sideP r = R := ⟨_, rfl⟩
  rw [hR]
  have R0 := Lib.hid hR.symm
  have G := Lib.hid (And.intro h.lt h.lt2)
  have S0 := Lib.hid h
  have N0 := Lib.hid (Tch.refl (fun b => b = p.g) w)
  obtain ⟨A, hA⟩ : ∃ A, w.heap.size = A := ⟨_, rfl⟩
  have HA := Lib.hid hA
  rw [hA] at G
  clear hR h
  obtain ⟨off, cap, hst⟩ := (((S0.out.keep (below_box _ (.cells #[str [], str [], .bool false, .int .i64 0, .int .i64 0, str []] 57))).keep (below_box _ (.cells #[str [116, 114, 117, 101], str [102, 97, 108, 115, 101], str [110, 117, 108, 108]] 9))) : Sta _ p r lv)
  obtain ⟨k0, k1, k2, k3⟩ := hst.head
  have c0 := hst.c0
  have hcap := hst.hc
  have d0 : ((hdT p.n r).kind == 1) = true := by rw [beq_iff_eq]; exact hk
  have d1 : ((hdT p.n r).kind != 1) = false := by rw [bne, d0]; rfl
  have Kq := R0.out.trans (bnd_ok (show peekSide r = .ok false r from congrArg (fun x => Res.ok x r) (by rw [sideC_hd p.n r]; simp [hk, hi])))
  simp only [eq_self, if_true, if_false, Bool.false_eq_true, pur_bnd] at Kq
  have R0z := Lib.hid Kq
  have CC := Lib.hid (fun W T c hc => contains_any _ _ hi W T c hc)
  clear hst Kq hk hi
  go_enter Tryz.func91, Tryz.ntmps91
  go_wp2_with (go_at_call 100; refine (CC.out (w.alloc (.cells #[str [], str [], .bool false, .int .i64 0, .int .i64 0, str []] 57)) 9 _ (by simp <;> omega)).mono ?_; rintro e w1 ⟨rfl, rfl⟩)
  skip
  refine (name_any _ ((S0.out.keep (below_box _ (.cells #[str [], str [], .bool false, .int .i64 0, .int .i64 0, str []] 57))).keep (below_box _ (.cells #[str [116, 114, 117, 101], str [102, 97, 108, 115, 101], str [110, 117, 108, 108]] 9)))).mono ?_
  intro e w1 hp
  rcases h1 : nameP r with ⟨a1, r1⟩ | ⟨b1, r1⟩
  · obtain ⟨v1, rfl, rfl, hs, hn⟩ := ppost_ok h1 hp
    have R1 := Lib.hid (R0z.out.trans (bnd_ok h1))
    have S1 := Lib.hid hs
    have hA : Blk w1 A 57 #[str [], str [], .bool false, .int .i64 0, .int .i64 0, str []] := by
      have q := (((Blk.new w 57 #[str [], str [], .bool false, .int .i64 0, .int .i64 0, str []]).alloc (.cells #[str [116, 114, 117, 101], str [102, 97, 108, 115, 101], str [110, 117, 108, 108]] 9)) : Blk _ _ _ _)
      rw [HA.out] at q
      exact q.near hn (Nat.ne_of_gt G.out.1)
    have BA1 := Lib.hid hA
    have N1 := Lib.hid (((N0.out.trans (Tch.of_below (below_box _ (.cells #[str [], str [], .bool false, .int .i64 0, .int .i64 0, str []] 57)))).trans (Tch.of_below (below_box _ (.cells #[str [116, 114, 117, 101], str [102, 97, 108, 115, 101], str [110, 117, 108, 108]] 9)))).trans hn)
    have Y1 := Lib.hid h1
    clear hs hn hp hA h1
    obtain ⟨c2, r2, h2⟩ := acc_ok [46] r1
    have X2 := Lib.hid h2
    go_wp2_with fail
    refine (accept_any [46] (by decide) _ S1.out).mono ?_
    intro e w2 hp
    obtain ⟨v2, rfl, rfl, hs, hn⟩ := ppost_ok X2.out hp
    have R2 := Lib.hid (R1.out.trans (bnd_ok X2.out))
    have S2 := Lib.hid hs
    have hA : Blk w2 A 57 #[str [], str [], .bool false, .int .i64 0, .int .i64 0, str []] := BA1.out.near hn (Nat.ne_of_gt G.out.1)
    have BA2 := Lib.hid hA
    have N2 := Lib.hid (N1.out.trans hn)
    clear hs hn hp hA h2
    cases c2
    · skip
      have R2q := R2.out
      simp only [eq_self, if_true, if_false, Bool.false_eq_true, pur_bnd] at R2q
      have R2z := Lib.hid R2q
      clear R2q
      have HQ := Lib.hid BA2.out
      go_wp2_with (refine wpList_store_row rfl 57 (.tmp 2) (.tmp 37) rfl A #[str [], str a1, .bool false, .int .i64 0, .int .i64 0, str []] rfl rfl _ _ HQ.out infoOpd rfl (by simp [Value.oneCell']) ?_)
      have hres := (HQ.out.row #[str [], str a1, .bool false, .int .i64 0, .int .i64 0, str []])
      exact bodyPost_ret (v := .agg #[str [], str a1, .bool false, .int .i64 0, .int .i64 0, str []]) (results_cell_row rfl _ _ A _ _ _ _ rfl hres Tryz.underlying57 rfl infoOpd) rfl
        (ppost_of_ok R2z.out rfl (S2.out.row G.out.1 G.out.2 _) (N2.out.row (Nat.le_of_eq HA.out) _))
    · skip
      have R2q := R2.out
      simp only [eq_self, if_true, if_false, Bool.false_eq_true, pur_bnd] at R2q
      have R2z := Lib.hid R2q
      clear R2q
      go_wp2_with fail
      refine (name_any _ S2.out).mono ?_
      intro e w3 hp
      rcases h3 : nameP r2 with ⟨a3, r3⟩ | ⟨b3, r3⟩
      · obtain ⟨v3, rfl, rfl, hs, hn⟩ := ppost_ok h3 hp
        have R3 := Lib.hid (R2z.out.trans (bnd_ok h3))
        have S3 := Lib.hid hs
        have hA : Blk w3 A 57 #[str [], str [], .bool false, .int .i64 0, .int .i64 0, str []] := BA2.out.near hn (Nat.ne_of_gt G.out.1)
        have BA3 := Lib.hid hA
        have N3 := Lib.hid (N2.out.trans hn)
        have Y3 := Lib.hid h3
        clear hs hn hp hA h3
        have HQ := Lib.hid BA3.out
        go_wp2_with (refine wpList_store_row rfl 57 (.tmp 2) (.tmp 35) rfl A #[str a1, str a3, .bool false, .int .i64 0, .int .i64 0, str []] rfl rfl _ _ HQ.out infoOpd rfl (by simp [Value.oneCell']) ?_)
        have hres := (HQ.out.row #[str a1, str a3, .bool false, .int .i64 0, .int .i64 0, str []])
        exact bodyPost_ret (v := .agg #[str a1, str a3, .bool false, .int .i64 0, .int .i64 0, str []]) (results_cell_row rfl _ _ A _ _ _ _ rfl hres Tryz.underlying57 rfl infoOpd) rfl
          (ppost_of_ok R3.out rfl (S3.out.row G.out.1 G.out.2 _) (N3.out.row (Nat.le_of_eq HA.out) _))
      · obtain ⟨rfl, hn⟩ := ppost_bad h3 hp
        exact ⟨rfl, ppost_of_bad (R2z.out.trans (bnd_bad h3)) (N2.out.trans hn)⟩
  · obtain ⟨rfl, hn⟩ := ppost_bad h1 hp
    exact ⟨rfl, ppost_of_bad (R0z.out.trans (bnd_bad h1)) (((N0.out.trans (Tch.of_below (below_box _ (.cells #[str [], str [], .bool false, .int .i64 0, .int .i64 0, str []] 57)))).trans (Tch.of_below (below_box _ (.cells #[str [116, 114, 117, 101], str [102, 97, 108, 115, 101], str [110, 117, 108, 108]] 9)))).trans hn)⟩
theorem side_any {p : Ps} {r : List Tk} {lv : Int} (w : World) (h : Sta w p r lv) : Calls Tryz.prog 91 #[ptr p.g] w (PPost p lv w isOpd (sideP r)) := by
  by_cases hk : (hdT p.n r).kind = 1
  · cases hi : isVal (hdT p.n r).text
    · exact side_name hk hi w h
    · exact side_val hk hi w h
  · exact side_not hk w h
end Go.Proofs.YtcgkaecaddpenaaGreatDoor
