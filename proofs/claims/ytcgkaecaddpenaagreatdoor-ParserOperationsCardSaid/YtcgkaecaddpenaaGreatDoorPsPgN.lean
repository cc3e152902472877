/- The program's items without loops and expressions. -/
import Derived.Test.YtcgkaecaddpenaaGreatDoorPsIt
namespace Go.Proofs.YtcgkaecaddpenaaGreatDoor
open Go.RowKit
open L7 (Tk)
open L8
set_option linter.unusedSimpArgs false

theorem two_ok {β : Type} {x y : Txt} {q : Unit → P β} {r r1 : List Tk} {a : Unit} (h : expsP [x, y] r = .ok a r1) : (expP x >>= fun _ => expP y >>= q) r = q () r1 := by
  rcases e1 : expP x r with ⟨u, r2⟩ | ⟨c, r2⟩
  · have h2 : expsP [y] r2 = .ok a r1 := (bnd_ok (q := fun _ => expsP [y]) e1).symm.trans h
    rw [exps_one] at h2
    rw [bnd_ok e1, bnd_ok h2]
  · have h2 : expsP [x, y] r = .bad c r2 := bnd_bad e1
    rw [h2] at h
    cases h
theorem two_bad {β : Type} {x y : Txt} {q : Unit → P β} {r r1 : List Tk} {c : Bool} (h : expsP [x, y] r = .bad c r1) : (expP x >>= fun _ => expP y >>= q) r = .bad c r1 := by
  rcases e1 : expP x r with ⟨u, r2⟩ | ⟨d, r2⟩
  · have h2 : expsP [y] r2 = .bad c r1 := (bnd_ok (q := fun _ => expsP [y]) e1).symm.trans h
    rw [exps_one] at h2
    rw [bnd_ok e1, bnd_bad h2]
  · have h2 : expsP [x, y] r = .bad d r2 := bnd_bad e1
    rw [h2] at h
    cases h
    exact bnd_bad e1
theorem one_rng {ks : List Txt} {r r1 : List Tk} {k : Int} (h : oneP ks r = .ok k r1) : 1 ≤ k ∧ k ≤ ks.length := by
  unfold oneP at h
  split at h
  · rename_i q
    cases h
    have := List.idxOf_lt_length_iff.2 q.1
    omega
  · cases h
set_option maxRecDepth 100000 in
set_option maxHeartbeats 8000000 in
theorem origin_any {p : Ps} {r : List Tk} {lv : Int} (w : World) (h : Sta w p r lv) :
    Calls Tryz.prog 45 #[ptr p.g] w (PPost p lv w (isIt w.heap.size) (originP r)) := by
  obtain ⟨R, hR⟩ : ∃ R, originP r = R := ⟨_, rfl⟩
  rw [hR]
  have R0 := Lib.hid hR.symm
  have G := Lib.hid (And.intro h.lt h.lt2)
  have S0 := Lib.hid h
  have N0 := Lib.hid (Tch.refl (fun b => b = p.g) w)
  obtain ⟨A, hA⟩ : ∃ A, w.heap.size = A := ⟨_, rfl⟩
  have HA := Lib.hid hA
  rw [hA] at G
  rw [hA]
  clear hR h
  go_enter Tryz.func45, Tryz.ntmps45
  go_wp2_with fail
  refine (name_any _ (S0.out.keep (below_box _ (.cells #[.int .i64 0, str [], .int .i64 0, str [], str [], .slice none 0 0, .slice none 0 0, .int .i64 0, .int .i64 0, .int .i64 0, .slice none 0 0, str [], str [], .slice none 0 0, .slice none 0 0, .slice none 0 0, .int .i64 0, str [], .slice none 0 0, .slice none 0 0, .slice none 0 0, str [], str [], .int .i64 0, .int .i64 0] 51)))).mono ?_
  intro e w1 hp
  rcases h1 : nameP r with ⟨a1, r1⟩ | ⟨b1, r1⟩
  · obtain ⟨v1, rfl, rfl, hs, hn⟩ := ppost_ok h1 hp
    have R1 := Lib.hid (R0.out.trans (bnd_ok h1))
    have S1 := Lib.hid hs
    have hA : Blk w1 A 51 #[.int .i64 0, str [], .int .i64 0, str [], str [], .slice none 0 0, .slice none 0 0, .int .i64 0, .int .i64 0, .int .i64 0, .slice none 0 0, str [], str [], .slice none 0 0, .slice none 0 0, .slice none 0 0, .int .i64 0, str [], .slice none 0 0, .slice none 0 0, .slice none 0 0, str [], str [], .int .i64 0, .int .i64 0] := by
      have q := ((Blk.new w 51 #[.int .i64 0, str [], .int .i64 0, str [], str [], .slice none 0 0, .slice none 0 0, .int .i64 0, .int .i64 0, .int .i64 0, .slice none 0 0, str [], str [], .slice none 0 0, .slice none 0 0, .slice none 0 0, .int .i64 0, str [], .slice none 0 0, .slice none 0 0, .slice none 0 0, str [], str [], .int .i64 0, .int .i64 0]) : Blk _ _ _ _)
      rw [HA.out] at q
      exact q.near hn (Nat.ne_of_gt G.out.1)
    have BA1 := Lib.hid hA
    have N1 := Lib.hid ((N0.out.trans (Tch.of_below (below_box _ (.cells #[.int .i64 0, str [], .int .i64 0, str [], str [], .slice none 0 0, .slice none 0 0, .int .i64 0, .int .i64 0, .int .i64 0, .slice none 0 0, str [], str [], .slice none 0 0, .slice none 0 0, .slice none 0 0, .int .i64 0, str [], .slice none 0 0, .slice none 0 0, .slice none 0 0, str [], str [], .int .i64 0, .int .i64 0] 51)))).trans hn)
    have Y1 := Lib.hid h1
    clear hs hn hp hA h1
    obtain ⟨B, hB⟩ : ∃ x, w1.heap.size = x := ⟨_, rfl⟩
    have HB := Lib.hid hB
    have GB := Lib.hid (show p.g < B ∧ p.b < B ∧ w.heap.size ≤ B ∧ A < B from by have q1 := (S1.out).lt; have q2 := (S1.out).lt2; have q3 := (N1.out).size; rw [hB] at q1 q2 q3; have q4 := (BA1.out).lt; have q5 := HA.out; rw [hB] at q4; exact ⟨q1, q2, q3, by omega⟩)
    go_wp2_with (refine wpList_store_new rfl 51 (.tmp 3) (.tmp 6) rfl B _ #[.int .i64 2, str a1, .int .i64 0, str [], str [], .slice none 0 0, .slice none 0 0, .int .i64 0, .int .i64 0, .int .i64 0, .slice none 0 0, str [], str [], .slice none 0 0, .slice none 0 0, .slice none 0 0, .int .i64 0, str [], .slice none 0 0, .slice none 0 0, .slice none 0 0, str [], str [], .int .i64 0, .int .i64 0] HB.out rfl rfl infoIt rfl (by simp [oc_int, oc_str, oc_slice]) ?_)
    refine (expect_one [116, 114, 117, 115, 116] (by decide) _ _ _ (by first | omega | (simp; omega) | simp) (S1.out.keep (below_box _ (.cells #[.int .i64 2, str a1, .int .i64 0, str [], str [], .slice none 0 0, .slice none 0 0, .int .i64 0, .int .i64 0, .int .i64 0, .slice none 0 0, str [], str [], .slice none 0 0, .slice none 0 0, .slice none 0 0, .int .i64 0, str [], .slice none 0 0, .slice none 0 0, .slice none 0 0, str [], str [], .int .i64 0, .int .i64 0] 51)))).mono ?_
    intro e w2 hp
    rcases h2 : expP [116, 114, 117, 115, 116] r1 with ⟨a2, r2⟩ | ⟨b2, r2⟩
    · obtain ⟨v2, rfl, rfl, hs, hn⟩ := ppost_ok h2 hp
      have R2 := Lib.hid (R1.out.trans (bnd_ok h2))
      have S2 := Lib.hid hs
      have hA : Blk w2 A 51 #[.int .i64 0, str [], .int .i64 0, str [], str [], .slice none 0 0, .slice none 0 0, .int .i64 0, .int .i64 0, .int .i64 0, .slice none 0 0, str [], str [], .slice none 0 0, .slice none 0 0, .slice none 0 0, .int .i64 0, str [], .slice none 0 0, .slice none 0 0, .slice none 0 0, str [], str [], .int .i64 0, .int .i64 0] := (BA1.out.alloc (.cells #[.int .i64 2, str a1, .int .i64 0, str [], str [], .slice none 0 0, .slice none 0 0, .int .i64 0, .int .i64 0, .int .i64 0, .slice none 0 0, str [], str [], .slice none 0 0, .slice none 0 0, .slice none 0 0, .int .i64 0, str [], .slice none 0 0, .slice none 0 0, .slice none 0 0, str [], str [], .int .i64 0, .int .i64 0] 51)).near hn (Nat.ne_of_gt G.out.1)
      have hB : Blk w2 B 51 #[.int .i64 2, str a1, .int .i64 0, str [], str [], .slice none 0 0, .slice none 0 0, .int .i64 0, .int .i64 0, .int .i64 0, .slice none 0 0, str [], str [], .slice none 0 0, .slice none 0 0, .slice none 0 0, .int .i64 0, str [], .slice none 0 0, .slice none 0 0, .slice none 0 0, str [], str [], .int .i64 0, .int .i64 0] := by
        have q := ((Blk.new w1 51 #[.int .i64 2, str a1, .int .i64 0, str [], str [], .slice none 0 0, .slice none 0 0, .int .i64 0, .int .i64 0, .int .i64 0, .slice none 0 0, str [], str [], .slice none 0 0, .slice none 0 0, .slice none 0 0, .int .i64 0, str [], .slice none 0 0, .slice none 0 0, .slice none 0 0, str [], str [], .int .i64 0, .int .i64 0]) : Blk _ _ _ _)
        rw [HB.out] at q
        exact q.near hn (Nat.ne_of_gt GB.out.1)
      have BA2 := Lib.hid hA
      have BB2 := Lib.hid hB
      have N2 := Lib.hid ((N1.out.trans (Tch.of_below (below_box _ (.cells #[.int .i64 2, str a1, .int .i64 0, str [], str [], .slice none 0 0, .slice none 0 0, .int .i64 0, .int .i64 0, .int .i64 0, .slice none 0 0, str [], str [], .slice none 0 0, .slice none 0 0, .slice none 0 0, .int .i64 0, str [], .slice none 0 0, .slice none 0 0, .slice none 0 0, str [], str [], .int .i64 0, .int .i64 0] 51)))).trans hn)
      have Y2 := Lib.hid h2
      clear hs hn hp hA hB h2
      go_wp2_with fail
      refine (number_any _ S2.out).mono ?_
      intro e w3 hp
      rcases h3 : numP r2 with ⟨a3, r3⟩ | ⟨b3, r3⟩
      · obtain ⟨v3, rfl, rfl, hs, hn⟩ := ppost_ok h3 hp
        have R3 := Lib.hid (R2.out.trans (bnd_ok h3))
        have S3 := Lib.hid hs
        have hA : Blk w3 A 51 #[.int .i64 0, str [], .int .i64 0, str [], str [], .slice none 0 0, .slice none 0 0, .int .i64 0, .int .i64 0, .int .i64 0, .slice none 0 0, str [], str [], .slice none 0 0, .slice none 0 0, .slice none 0 0, .int .i64 0, str [], .slice none 0 0, .slice none 0 0, .slice none 0 0, str [], str [], .int .i64 0, .int .i64 0] := BA2.out.near hn (Nat.ne_of_gt G.out.1)
        have hB : Blk w3 B 51 #[.int .i64 2, str a1, .int .i64 0, str [], str [], .slice none 0 0, .slice none 0 0, .int .i64 0, .int .i64 0, .int .i64 0, .slice none 0 0, str [], str [], .slice none 0 0, .slice none 0 0, .slice none 0 0, .int .i64 0, str [], .slice none 0 0, .slice none 0 0, .slice none 0 0, str [], str [], .int .i64 0, .int .i64 0] := BB2.out.near hn (Nat.ne_of_gt GB.out.1)
        have BA3 := Lib.hid hA
        have BB3 := Lib.hid hB
        have N3 := Lib.hid (N2.out.trans hn)
        have Y3 := Lib.hid h3
        clear hs hn hp hA hB h3
        have cB3 := fun i => BB3.out.cell i
        have fB3 := fun i => BB3.out.frozen i
        go_wp2_with fail
        refine (expect_one [59] (by decide) _ _ _ (by first | omega | (simp; omega) | simp) (S3.out.cell (a := ⟨B, 8, none⟩) GB.out.1 GB.out.2.1 (.int .i64 a3))).mono ?_
        intro e w4 hp
        rcases h4 : expP [59] r3 with ⟨a4, r4⟩ | ⟨b4, r4⟩
        · obtain ⟨v4, rfl, rfl, hs, hn⟩ := ppost_ok h4 hp
          have R4 := Lib.hid (R3.out.trans (bnd_ok h4))
          have S4 := Lib.hid hs
          have hA : Blk w4 A 51 #[.int .i64 0, str [], .int .i64 0, str [], str [], .slice none 0 0, .slice none 0 0, .int .i64 0, .int .i64 0, .int .i64 0, .slice none 0 0, str [], str [], .slice none 0 0, .slice none 0 0, .slice none 0 0, .int .i64 0, str [], .slice none 0 0, .slice none 0 0, .slice none 0 0, str [], str [], .int .i64 0, .int .i64 0] := (BA3.out.far (p := ⟨B, 8, none⟩) (Nat.ne_of_lt GB.out.2.2.2) (.int .i64 a3)).near hn (Nat.ne_of_gt G.out.1)
          have hB : Blk w4 B 51 #[.int .i64 2, str a1, .int .i64 0, str [], str [], .slice none 0 0, .slice none 0 0, .int .i64 0, .int .i64 a3, .int .i64 0, .slice none 0 0, str [], str [], .slice none 0 0, .slice none 0 0, .slice none 0 0, .int .i64 0, str [], .slice none 0 0, .slice none 0 0, .slice none 0 0, str [], str [], .int .i64 0, .int .i64 0] := (BB3.out.set_ 8 (.int .i64 a3)).near hn (Nat.ne_of_gt GB.out.1)
          have BA4 := Lib.hid hA
          have BB4 := Lib.hid hB
          have N4 := Lib.hid ((N3.out.set2 (p := ⟨B, 8, none⟩) GB.out.2.2.1 (.int .i64 a3)).trans hn)
          have Y4 := Lib.hid h4
          clear hs hn hp hA hB h4
          have HL := Lib.hid (show Blk _ B 51 #[.int .i64 2, str a1, .int .i64 0, str [], str [], .slice none 0 0, .slice none 0 0, .int .i64 0, .int .i64 a3, .int .i64 0, .slice none 0 0, str [], str [], .slice none 0 0, .slice none 0 0, .slice none 0 0, .int .i64 0, str [], .slice none 0 0, .slice none 0 0, .slice none 0 0, str [], str [], .int .i64 0, .int .i64 0] from BB4.out)
          have HQ := Lib.hid BA4.out
          go_wp2_with (first | (refine wpList_load_row rfl 51 (.tmp 3) rfl B rfl _ #[.int .i64 2, str a1, .int .i64 0, str [], str [], .slice none 0 0, .slice none 0 0, .int .i64 0, .int .i64 a3, .int .i64 0, .slice none 0 0, str [], str [], .slice none 0 0, .slice none 0 0, .slice none 0 0, .int .i64 0, str [], .slice none 0 0, .slice none 0 0, .slice none 0 0, str [], str [], .int .i64 0, .int .i64 0] _ _ HL.out Tryz.underlying51 rfl infoIt ?_) | (refine wpList_store_row rfl 51 (.tmp 2) (.tmp 16) rfl A #[.int .i64 2, str a1, .int .i64 0, str [], str [], .slice none 0 0, .slice none 0 0, .int .i64 0, .int .i64 a3, .int .i64 0, .slice none 0 0, str [], str [], .slice none 0 0, .slice none 0 0, .slice none 0 0, .int .i64 0, str [], .slice none 0 0, .slice none 0 0, .slice none 0 0, str [], str [], .int .i64 0, .int .i64 0] rfl rfl _ _ HQ.out infoIt rfl (by simp [oc_int, oc_str, oc_slice]) ?_))
          have hres := (HQ.out.row #[.int .i64 2, str a1, .int .i64 0, str [], str [], .slice none 0 0, .slice none 0 0, .int .i64 0, .int .i64 a3, .int .i64 0, .slice none 0 0, str [], str [], .slice none 0 0, .slice none 0 0, .slice none 0 0, .int .i64 0, str [], .slice none 0 0, .slice none 0 0, .slice none 0 0, str [], str [], .int .i64 0, .int .i64 0])
          exact bodyPost_ret (v := .agg #[.int .i64 2, str a1, .int .i64 0, str [], str [], .slice none 0 0, .slice none 0 0, .int .i64 0, .int .i64 a3, .int .i64 0, .slice none 0 0, str [], str [], .slice none 0 0, .slice none 0 0, .slice none 0 0, .int .i64 0, str [], .slice none 0 0, .slice none 0 0, .slice none 0 0, str [], str [], .int .i64 0, .int .i64 0]) (results_cell_row rfl _ _ A _ _ _ _ rfl hres Tryz.underlying51 rfl infoIt) rfl
            (ppost_of_ok (V := isIt A) (R4.out.trans rfl) ⟨⟨.slice none 0 0, .slice none 0 0, .slice none 0 0, .slice none 0 0, .slice none 0 0, .slice none 0 0, .slice none 0 0, .slice none 0 0, .slice none 0 0⟩, rfl, { cols := Lst.nil _, names := Lst.nil _, terms := Lst.nil _, fixed := Lst.nil _, vars := Lst.nil _, conds := Lst.nil _, ex := exC_zero _ _ }⟩ (S4.out.row G.out.1 G.out.2 _) (N4.out.row (Nat.le_of_eq HA.out) _))
        · obtain ⟨rfl, hn⟩ := ppost_bad h4 hp
          exact ⟨rfl, ppost_of_bad (R3.out.trans (bnd_bad h4)) ((N3.out.set2 (p := ⟨B, 8, none⟩) GB.out.2.2.1 (.int .i64 a3)).trans hn)⟩
      · obtain ⟨rfl, hn⟩ := ppost_bad h3 hp
        exact ⟨rfl, ppost_of_bad (R2.out.trans (bnd_bad h3)) (N2.out.trans hn)⟩
    · obtain ⟨rfl, hn⟩ := ppost_bad h2 hp
      exact ⟨rfl, ppost_of_bad (R1.out.trans (bnd_bad h2)) ((N1.out.trans (Tch.of_below (below_box _ (.cells #[.int .i64 2, str a1, .int .i64 0, str [], str [], .slice none 0 0, .slice none 0 0, .int .i64 0, .int .i64 0, .int .i64 0, .slice none 0 0, str [], str [], .slice none 0 0, .slice none 0 0, .slice none 0 0, .int .i64 0, str [], .slice none 0 0, .slice none 0 0, .slice none 0 0, str [], str [], .int .i64 0, .int .i64 0] 51)))).trans hn)⟩
  · obtain ⟨rfl, hn⟩ := ppost_bad h1 hp
    exact ⟨rfl, ppost_of_bad (R0.out.trans (bnd_bad h1)) ((N0.out.trans (Tch.of_below (below_box _ (.cells #[.int .i64 0, str [], .int .i64 0, str [], str [], .slice none 0 0, .slice none 0 0, .int .i64 0, .int .i64 0, .int .i64 0, .slice none 0 0, str [], str [], .slice none 0 0, .slice none 0 0, .slice none 0 0, .int .i64 0, str [], .slice none 0 0, .slice none 0 0, .slice none 0 0, str [], str [], .int .i64 0, .int .i64 0] 51)))).trans hn)⟩
set_option maxRecDepth 100000 in
set_option maxHeartbeats 8000000 in
theorem table_any {p : Ps} {r : List Tk} {lv : Int} (w : World) (h : Sta w p r lv) :
    Calls Tryz.prog 44 #[ptr p.g] w (PPost p lv w (isIt w.heap.size) (tableP r)) := by
  obtain ⟨R, hR⟩ : ∃ R, tableP r = R := ⟨_, rfl⟩
  rw [hR]
  have R0 := Lib.hid hR.symm
  have G := Lib.hid (And.intro h.lt h.lt2)
  have S0 := Lib.hid h
  have N0 := Lib.hid (Tch.refl (fun b => b = p.g) w)
  obtain ⟨A, hA⟩ : ∃ A, w.heap.size = A := ⟨_, rfl⟩
  have HA := Lib.hid hA
  rw [hA] at G
  rw [hA]
  clear hR h
  go_enter Tryz.func44, Tryz.ntmps44
  go_wp2_with fail
  refine (name_any _ (S0.out.keep (below_box _ (.cells #[.int .i64 0, str [], .int .i64 0, str [], str [], .slice none 0 0, .slice none 0 0, .int .i64 0, .int .i64 0, .int .i64 0, .slice none 0 0, str [], str [], .slice none 0 0, .slice none 0 0, .slice none 0 0, .int .i64 0, str [], .slice none 0 0, .slice none 0 0, .slice none 0 0, str [], str [], .int .i64 0, .int .i64 0] 51)))).mono ?_
  intro e w1 hp
  rcases h1 : nameP r with ⟨a1, r1⟩ | ⟨b1, r1⟩
  · obtain ⟨v1, rfl, rfl, hs, hn⟩ := ppost_ok h1 hp
    have R1 := Lib.hid (R0.out.trans (bnd_ok h1))
    have S1 := Lib.hid hs
    have hA : Blk w1 A 51 #[.int .i64 0, str [], .int .i64 0, str [], str [], .slice none 0 0, .slice none 0 0, .int .i64 0, .int .i64 0, .int .i64 0, .slice none 0 0, str [], str [], .slice none 0 0, .slice none 0 0, .slice none 0 0, .int .i64 0, str [], .slice none 0 0, .slice none 0 0, .slice none 0 0, str [], str [], .int .i64 0, .int .i64 0] := by
      have q := ((Blk.new w 51 #[.int .i64 0, str [], .int .i64 0, str [], str [], .slice none 0 0, .slice none 0 0, .int .i64 0, .int .i64 0, .int .i64 0, .slice none 0 0, str [], str [], .slice none 0 0, .slice none 0 0, .slice none 0 0, .int .i64 0, str [], .slice none 0 0, .slice none 0 0, .slice none 0 0, str [], str [], .int .i64 0, .int .i64 0]) : Blk _ _ _ _)
      rw [HA.out] at q
      exact q.near hn (Nat.ne_of_gt G.out.1)
    have BA1 := Lib.hid hA
    have N1 := Lib.hid ((N0.out.trans (Tch.of_below (below_box _ (.cells #[.int .i64 0, str [], .int .i64 0, str [], str [], .slice none 0 0, .slice none 0 0, .int .i64 0, .int .i64 0, .int .i64 0, .slice none 0 0, str [], str [], .slice none 0 0, .slice none 0 0, .slice none 0 0, .int .i64 0, str [], .slice none 0 0, .slice none 0 0, .slice none 0 0, str [], str [], .int .i64 0, .int .i64 0] 51)))).trans hn)
    have Y1 := Lib.hid h1
    clear hs hn hp hA h1
    obtain ⟨B, hB⟩ : ∃ x, w1.heap.size = x := ⟨_, rfl⟩
    have HB := Lib.hid hB
    have GB := Lib.hid (show p.g < B ∧ p.b < B ∧ w.heap.size ≤ B ∧ A < B from by have q1 := (S1.out).lt; have q2 := (S1.out).lt2; have q3 := (N1.out).size; rw [hB] at q1 q2 q3; have q4 := (BA1.out).lt; have q5 := HA.out; rw [hB] at q4; exact ⟨q1, q2, q3, by omega⟩)
    go_wp2_with (refine wpList_store_new rfl 51 (.tmp 3) (.tmp 6) rfl B _ #[.int .i64 1, str a1, .int .i64 0, str [], str [], .slice none 0 0, .slice none 0 0, .int .i64 0, .int .i64 0, .int .i64 0, .slice none 0 0, str [], str [], .slice none 0 0, .slice none 0 0, .slice none 0 0, .int .i64 0, str [], .slice none 0 0, .slice none 0 0, .slice none 0 0, str [], str [], .int .i64 0, .int .i64 0] HB.out rfl rfl infoIt rfl (by simp [oc_int, oc_str, oc_slice]) ?_)
    refine (expect_one [40] (by decide) _ _ _ (by first | omega | (simp; omega) | simp) (S1.out.keep (below_box _ (.cells #[.int .i64 1, str a1, .int .i64 0, str [], str [], .slice none 0 0, .slice none 0 0, .int .i64 0, .int .i64 0, .int .i64 0, .slice none 0 0, str [], str [], .slice none 0 0, .slice none 0 0, .slice none 0 0, .int .i64 0, str [], .slice none 0 0, .slice none 0 0, .slice none 0 0, str [], str [], .int .i64 0, .int .i64 0] 51)))).mono ?_
    intro e w2 hp
    rcases h2 : expP [40] r1 with ⟨a2, r2⟩ | ⟨b2, r2⟩
    · obtain ⟨v2, rfl, rfl, hs, hn⟩ := ppost_ok h2 hp
      have R2 := Lib.hid (R1.out.trans (bnd_ok h2))
      have S2 := Lib.hid hs
      have hA : Blk w2 A 51 #[.int .i64 0, str [], .int .i64 0, str [], str [], .slice none 0 0, .slice none 0 0, .int .i64 0, .int .i64 0, .int .i64 0, .slice none 0 0, str [], str [], .slice none 0 0, .slice none 0 0, .slice none 0 0, .int .i64 0, str [], .slice none 0 0, .slice none 0 0, .slice none 0 0, str [], str [], .int .i64 0, .int .i64 0] := (BA1.out.alloc (.cells #[.int .i64 1, str a1, .int .i64 0, str [], str [], .slice none 0 0, .slice none 0 0, .int .i64 0, .int .i64 0, .int .i64 0, .slice none 0 0, str [], str [], .slice none 0 0, .slice none 0 0, .slice none 0 0, .int .i64 0, str [], .slice none 0 0, .slice none 0 0, .slice none 0 0, str [], str [], .int .i64 0, .int .i64 0] 51)).near hn (Nat.ne_of_gt G.out.1)
      have hB : Blk w2 B 51 #[.int .i64 1, str a1, .int .i64 0, str [], str [], .slice none 0 0, .slice none 0 0, .int .i64 0, .int .i64 0, .int .i64 0, .slice none 0 0, str [], str [], .slice none 0 0, .slice none 0 0, .slice none 0 0, .int .i64 0, str [], .slice none 0 0, .slice none 0 0, .slice none 0 0, str [], str [], .int .i64 0, .int .i64 0] := by
        have q := ((Blk.new w1 51 #[.int .i64 1, str a1, .int .i64 0, str [], str [], .slice none 0 0, .slice none 0 0, .int .i64 0, .int .i64 0, .int .i64 0, .slice none 0 0, str [], str [], .slice none 0 0, .slice none 0 0, .slice none 0 0, .int .i64 0, str [], .slice none 0 0, .slice none 0 0, .slice none 0 0, str [], str [], .int .i64 0, .int .i64 0]) : Blk _ _ _ _)
        rw [HB.out] at q
        exact q.near hn (Nat.ne_of_gt GB.out.1)
      have BA2 := Lib.hid hA
      have BB2 := Lib.hid hB
      have N2 := Lib.hid ((N1.out.trans (Tch.of_below (below_box _ (.cells #[.int .i64 1, str a1, .int .i64 0, str [], str [], .slice none 0 0, .slice none 0 0, .int .i64 0, .int .i64 0, .int .i64 0, .slice none 0 0, str [], str [], .slice none 0 0, .slice none 0 0, .slice none 0 0, .int .i64 0, str [], .slice none 0 0, .slice none 0 0, .slice none 0 0, str [], str [], .int .i64 0, .int .i64 0] 51)))).trans hn)
      have Y2 := Lib.hid h2
      clear hs hn hp hA hB h2
      go_wp2_with fail
      refine (col_list [44] (by decide) _ S2.out).mono ?_
      intro e w3 hp
      rcases h3 : listP [44] columnP FU r2 with ⟨a3, r3⟩ | ⟨b3, r3⟩
      · obtain ⟨v3, rfl, hv3, hs, hn⟩ := ppost_ok h3 hp
        have R3 := Lib.hid (R2.out.trans (bnd_ok h3))
        obtain ⟨D3, hD3⟩ : ∃ x, w2.heap.size = x := ⟨_, rfl⟩
        have GD3 := Lib.hid (show p.g < D3 ∧ A < D3 ∧ B < D3 ∧ w.heap.size ≤ D3 from by have q0 := (S2.out).lt; have q1 := (BA2.out).lt; have q2 := (BB2.out).lt; have qq := (N2.out).size; have eA := HA.out; have eB := HB.out; omega)
        rw [hD3] at hv3
        obtain ⟨sA3, sn3, sc3, rfl⟩ := hv3.isSl
        have V3 := Lib.hid hv3
        have K3_3 := Lib.hid (Kept.refl D3 w3)
        clear hv3 hD3
        have S3 := Lib.hid hs
        have hA : Blk w3 A 51 #[.int .i64 0, str [], .int .i64 0, str [], str [], .slice none 0 0, .slice none 0 0, .int .i64 0, .int .i64 0, .int .i64 0, .slice none 0 0, str [], str [], .slice none 0 0, .slice none 0 0, .slice none 0 0, .int .i64 0, str [], .slice none 0 0, .slice none 0 0, .slice none 0 0, str [], str [], .int .i64 0, .int .i64 0] := BA2.out.near hn (Nat.ne_of_gt G.out.1)
        have hB : Blk w3 B 51 #[.int .i64 1, str a1, .int .i64 0, str [], str [], .slice none 0 0, .slice none 0 0, .int .i64 0, .int .i64 0, .int .i64 0, .slice none 0 0, str [], str [], .slice none 0 0, .slice none 0 0, .slice none 0 0, .int .i64 0, str [], .slice none 0 0, .slice none 0 0, .slice none 0 0, str [], str [], .int .i64 0, .int .i64 0] := BB2.out.near hn (Nat.ne_of_gt GB.out.1)
        have BA3 := Lib.hid hA
        have BB3 := Lib.hid hB
        have N3 := Lib.hid (N2.out.trans hn)
        have Y3 := Lib.hid h3
        clear hs hn hp hA hB h3
        have cB3 := fun i => BB3.out.cell i
        have fB3 := fun i => BB3.out.frozen i
        go_wp2_with fail
        refine (expect_two [41] [107, 101, 121] (by decide) (by decide) _ _ _ (by first | omega | (simp; omega) | simp) (S3.out.cell (a := ⟨B, 5, none⟩) GB.out.1 GB.out.2.1 (.slice sA3 sn3 sc3))).mono ?_
        intro e w4 hp
        rcases h4 : expsP [[41], [107, 101, 121]] r3 with ⟨a4, r4⟩ | ⟨b4, r4⟩
        · obtain ⟨v4, rfl, rfl, hs, hn⟩ := ppost_ok h4 hp
          have R4 := Lib.hid (R3.out.trans (two_ok h4))
          have S4 := Lib.hid hs
          have hA : Blk w4 A 51 #[.int .i64 0, str [], .int .i64 0, str [], str [], .slice none 0 0, .slice none 0 0, .int .i64 0, .int .i64 0, .int .i64 0, .slice none 0 0, str [], str [], .slice none 0 0, .slice none 0 0, .slice none 0 0, .int .i64 0, str [], .slice none 0 0, .slice none 0 0, .slice none 0 0, str [], str [], .int .i64 0, .int .i64 0] := (BA3.out.far (p := ⟨B, 5, none⟩) (Nat.ne_of_lt GB.out.2.2.2) (.slice sA3 sn3 sc3)).near hn (Nat.ne_of_gt G.out.1)
          have hB : Blk w4 B 51 #[.int .i64 1, str a1, .int .i64 0, str [], str [], .slice sA3 sn3 sc3, .slice none 0 0, .int .i64 0, .int .i64 0, .int .i64 0, .slice none 0 0, str [], str [], .slice none 0 0, .slice none 0 0, .slice none 0 0, .int .i64 0, str [], .slice none 0 0, .slice none 0 0, .slice none 0 0, str [], str [], .int .i64 0, .int .i64 0] := (BB3.out.set_ 5 (.slice sA3 sn3 sc3)).near hn (Nat.ne_of_gt GB.out.1)
          have BA4 := Lib.hid hA
          have BB4 := Lib.hid hB
          have N4 := Lib.hid ((N3.out.set2 (p := ⟨B, 5, none⟩) GB.out.2.2.1 (.slice sA3 sn3 sc3)).trans hn)
          have K3_4 := Lib.hid ((K3_3.out.set (p := ⟨B, 5, none⟩) GD3.out.2.2.1 (.slice sA3 sn3 sc3)).near hn GD3.out.1)
          have Y4 := Lib.hid h4
          clear hs hn hp hA hB h4
          go_wp2_with fail
          refine (txt_list [44] (by decide) _ S4.out).mono ?_
          intro e w5 hp
          rcases h5 : listP [44] nameP FU r4 with ⟨a5, r5⟩ | ⟨b5, r5⟩
          · obtain ⟨v5, rfl, hv5, hs, hn⟩ := ppost_ok h5 hp
            have R5 := Lib.hid (R4.out.trans (bnd_ok h5))
            obtain ⟨D5, hD5⟩ : ∃ x, w4.heap.size = x := ⟨_, rfl⟩
            have GD5 := Lib.hid (show p.g < D5 ∧ A < D5 ∧ B < D5 ∧ w.heap.size ≤ D5 from by have q0 := (S4.out).lt; have q1 := (BA4.out).lt; have q2 := (BB4.out).lt; have qq := (N4.out).size; have eA := HA.out; have eB := HB.out; omega)
            rw [hD5] at hv5
            obtain ⟨sA5, sn5, sc5, rfl⟩ := hv5.isSl
            have V5 := Lib.hid hv5
            have K5_5 := Lib.hid (Kept.refl D5 w5)
            clear hv5 hD5
            have S5 := Lib.hid hs
            have hA : Blk w5 A 51 #[.int .i64 0, str [], .int .i64 0, str [], str [], .slice none 0 0, .slice none 0 0, .int .i64 0, .int .i64 0, .int .i64 0, .slice none 0 0, str [], str [], .slice none 0 0, .slice none 0 0, .slice none 0 0, .int .i64 0, str [], .slice none 0 0, .slice none 0 0, .slice none 0 0, str [], str [], .int .i64 0, .int .i64 0] := BA4.out.near hn (Nat.ne_of_gt G.out.1)
            have hB : Blk w5 B 51 #[.int .i64 1, str a1, .int .i64 0, str [], str [], .slice sA3 sn3 sc3, .slice none 0 0, .int .i64 0, .int .i64 0, .int .i64 0, .slice none 0 0, str [], str [], .slice none 0 0, .slice none 0 0, .slice none 0 0, .int .i64 0, str [], .slice none 0 0, .slice none 0 0, .slice none 0 0, str [], str [], .int .i64 0, .int .i64 0] := BB4.out.near hn (Nat.ne_of_gt GB.out.1)
            have BA5 := Lib.hid hA
            have BB5 := Lib.hid hB
            have N5 := Lib.hid (N4.out.trans hn)
            have K3_5 := Lib.hid (K3_4.out.near hn GD3.out.1)
            have Y5 := Lib.hid h5
            clear hs hn hp hA hB h5
            have cB5 := fun i => BB5.out.cell i
            have fB5 := fun i => BB5.out.frozen i
            go_wp2_with fail
            refine (expect_one [59] (by decide) _ _ _ (by first | omega | (simp; omega) | simp) (S5.out.cell (a := ⟨B, 6, none⟩) GB.out.1 GB.out.2.1 (.slice sA5 sn5 sc5))).mono ?_
            intro e w6 hp
            rcases h6 : expP [59] r5 with ⟨a6, r6⟩ | ⟨b6, r6⟩
            · obtain ⟨v6, rfl, rfl, hs, hn⟩ := ppost_ok h6 hp
              have R6 := Lib.hid (R5.out.trans (bnd_ok h6))
              have S6 := Lib.hid hs
              have hA : Blk w6 A 51 #[.int .i64 0, str [], .int .i64 0, str [], str [], .slice none 0 0, .slice none 0 0, .int .i64 0, .int .i64 0, .int .i64 0, .slice none 0 0, str [], str [], .slice none 0 0, .slice none 0 0, .slice none 0 0, .int .i64 0, str [], .slice none 0 0, .slice none 0 0, .slice none 0 0, str [], str [], .int .i64 0, .int .i64 0] := (BA5.out.far (p := ⟨B, 6, none⟩) (Nat.ne_of_lt GB.out.2.2.2) (.slice sA5 sn5 sc5)).near hn (Nat.ne_of_gt G.out.1)
              have hB : Blk w6 B 51 #[.int .i64 1, str a1, .int .i64 0, str [], str [], .slice sA3 sn3 sc3, .slice sA5 sn5 sc5, .int .i64 0, .int .i64 0, .int .i64 0, .slice none 0 0, str [], str [], .slice none 0 0, .slice none 0 0, .slice none 0 0, .int .i64 0, str [], .slice none 0 0, .slice none 0 0, .slice none 0 0, str [], str [], .int .i64 0, .int .i64 0] := (BB5.out.set_ 6 (.slice sA5 sn5 sc5)).near hn (Nat.ne_of_gt GB.out.1)
              have BA6 := Lib.hid hA
              have BB6 := Lib.hid hB
              have N6 := Lib.hid ((N5.out.set2 (p := ⟨B, 6, none⟩) GB.out.2.2.1 (.slice sA5 sn5 sc5)).trans hn)
              have K3_6 := Lib.hid ((K3_5.out.set (p := ⟨B, 6, none⟩) GD3.out.2.2.1 (.slice sA5 sn5 sc5)).near hn GD3.out.1)
              have K5_6 := Lib.hid ((K5_5.out.set (p := ⟨B, 6, none⟩) GD5.out.2.2.1 (.slice sA5 sn5 sc5)).near hn GD5.out.1)
              have Y6 := Lib.hid h6
              clear hs hn hp hA hB h6
              have HL := Lib.hid (show Blk _ B 51 #[.int .i64 1, str a1, .int .i64 0, str [], str [], .slice sA3 sn3 sc3, .slice sA5 sn5 sc5, .int .i64 0, .int .i64 0, .int .i64 0, .slice none 0 0, str [], str [], .slice none 0 0, .slice none 0 0, .slice none 0 0, .int .i64 0, str [], .slice none 0 0, .slice none 0 0, .slice none 0 0, str [], str [], .int .i64 0, .int .i64 0] from BB6.out)
              have HQ := Lib.hid BA6.out
              go_wp2_with (first | (refine wpList_load_row rfl 51 (.tmp 3) rfl B rfl _ #[.int .i64 1, str a1, .int .i64 0, str [], str [], .slice sA3 sn3 sc3, .slice sA5 sn5 sc5, .int .i64 0, .int .i64 0, .int .i64 0, .slice none 0 0, str [], str [], .slice none 0 0, .slice none 0 0, .slice none 0 0, .int .i64 0, str [], .slice none 0 0, .slice none 0 0, .slice none 0 0, str [], str [], .int .i64 0, .int .i64 0] _ _ HL.out Tryz.underlying51 rfl infoIt ?_) | (refine wpList_store_row rfl 51 (.tmp 2) (.tmp 26) rfl A #[.int .i64 1, str a1, .int .i64 0, str [], str [], .slice sA3 sn3 sc3, .slice sA5 sn5 sc5, .int .i64 0, .int .i64 0, .int .i64 0, .slice none 0 0, str [], str [], .slice none 0 0, .slice none 0 0, .slice none 0 0, .int .i64 0, str [], .slice none 0 0, .slice none 0 0, .slice none 0 0, str [], str [], .int .i64 0, .int .i64 0] rfl rfl _ _ HQ.out infoIt rfl (by simp [oc_int, oc_str, oc_slice, (V3.out.stay len_col K3_6.out).isSl.one, (V5.out.stay len_txt K5_6.out).isSl.one]) ?_))
              have hres := (HQ.out.row #[.int .i64 1, str a1, .int .i64 0, str [], str [], .slice sA3 sn3 sc3, .slice sA5 sn5 sc5, .int .i64 0, .int .i64 0, .int .i64 0, .slice none 0 0, str [], str [], .slice none 0 0, .slice none 0 0, .slice none 0 0, .int .i64 0, str [], .slice none 0 0, .slice none 0 0, .slice none 0 0, str [], str [], .int .i64 0, .int .i64 0])
              exact bodyPost_ret (v := .agg #[.int .i64 1, str a1, .int .i64 0, str [], str [], .slice sA3 sn3 sc3, .slice sA5 sn5 sc5, .int .i64 0, .int .i64 0, .int .i64 0, .slice none 0 0, str [], str [], .slice none 0 0, .slice none 0 0, .slice none 0 0, .int .i64 0, str [], .slice none 0 0, .slice none 0 0, .slice none 0 0, str [], str [], .int .i64 0, .int .i64 0]) (results_cell_row rfl _ _ A _ _ _ _ rfl hres Tryz.underlying51 rfl infoIt) rfl
                (ppost_of_ok (V := isIt A) (R6.out.trans rfl) ⟨⟨.slice sA3 sn3 sc3, .slice sA5 sn5 sc5, .slice none 0 0, .slice none 0 0, .slice none 0 0, .slice none 0 0, .slice none 0 0, .slice none 0 0, .slice none 0 0⟩, rfl, { cols := ((V3.out.stay len_col (K3_6.out.row GD3.out.2.1 _)).lower (Nat.le_of_lt GD3.out.2.1)), names := ((V5.out.stay len_txt (K5_6.out.row GD5.out.2.1 _)).lower (Nat.le_of_lt GD5.out.2.1)), terms := Lst.nil _, fixed := Lst.nil _, vars := Lst.nil _, conds := Lst.nil _, ex := exC_zero _ _ }⟩ (S6.out.row G.out.1 G.out.2 _) (N6.out.row (Nat.le_of_eq HA.out) _))
            · obtain ⟨rfl, hn⟩ := ppost_bad h6 hp
              exact ⟨rfl, ppost_of_bad (R5.out.trans (bnd_bad h6)) ((N5.out.set2 (p := ⟨B, 6, none⟩) GB.out.2.2.1 (.slice sA5 sn5 sc5)).trans hn)⟩
          · obtain ⟨rfl, hn⟩ := ppost_bad h5 hp
            exact ⟨rfl, ppost_of_bad (R4.out.trans (bnd_bad h5)) (N4.out.trans hn)⟩
        · obtain ⟨rfl, hn⟩ := ppost_bad h4 hp
          exact ⟨rfl, ppost_of_bad (R3.out.trans (two_bad h4)) ((N3.out.set2 (p := ⟨B, 5, none⟩) GB.out.2.2.1 (.slice sA3 sn3 sc3)).trans hn)⟩
      · obtain ⟨rfl, hn⟩ := ppost_bad h3 hp
        exact ⟨rfl, ppost_of_bad (R2.out.trans (bnd_bad h3)) (N2.out.trans hn)⟩
    · obtain ⟨rfl, hn⟩ := ppost_bad h2 hp
      exact ⟨rfl, ppost_of_bad (R1.out.trans (bnd_bad h2)) ((N1.out.trans (Tch.of_below (below_box _ (.cells #[.int .i64 1, str a1, .int .i64 0, str [], str [], .slice none 0 0, .slice none 0 0, .int .i64 0, .int .i64 0, .int .i64 0, .slice none 0 0, str [], str [], .slice none 0 0, .slice none 0 0, .slice none 0 0, .int .i64 0, str [], .slice none 0 0, .slice none 0 0, .slice none 0 0, str [], str [], .int .i64 0, .int .i64 0] 51)))).trans hn)⟩
  · obtain ⟨rfl, hn⟩ := ppost_bad h1 hp
    exact ⟨rfl, ppost_of_bad (R0.out.trans (bnd_bad h1)) ((N0.out.trans (Tch.of_below (below_box _ (.cells #[.int .i64 0, str [], .int .i64 0, str [], str [], .slice none 0 0, .slice none 0 0, .int .i64 0, .int .i64 0, .int .i64 0, .slice none 0 0, str [], str [], .slice none 0 0, .slice none 0 0, .slice none 0 0, .int .i64 0, str [], .slice none 0 0, .slice none 0 0, .slice none 0 0, str [], str [], .int .i64 0, .int .i64 0] 51)))).trans hn)⟩
set_option maxRecDepth 100000 in
set_option maxHeartbeats 8000000 in
theorem keep_any {p : Ps} {r : List Tk} {lv : Int} (w : World) (h : Sta w p r lv) :
    Calls Tryz.prog 48 #[ptr p.g] w (PPost p lv w (isIt w.heap.size) (keepP r)) := by
  obtain ⟨R, hR⟩ : ∃ R, keepP r = R := ⟨_, rfl⟩
  rw [hR]
  have R0 := Lib.hid hR.symm
  have G := Lib.hid (And.intro h.lt h.lt2)
  have S0 := Lib.hid h
  have N0 := Lib.hid (Tch.refl (fun b => b = p.g) w)
  obtain ⟨A, hA⟩ : ∃ A, w.heap.size = A := ⟨_, rfl⟩
  have HA := Lib.hid hA
  rw [hA] at G
  rw [hA]
  clear hR h
  go_enter Tryz.func48, Tryz.ntmps48
  obtain ⟨B, hB⟩ : ∃ x, (w.alloc (.cells #[.int .i64 0, str [], .int .i64 0, str [], str [], .slice none 0 0, .slice none 0 0, .int .i64 0, .int .i64 0, .int .i64 0, .slice none 0 0, str [], str [], .slice none 0 0, .slice none 0 0, .slice none 0 0, .int .i64 0, str [], .slice none 0 0, .slice none 0 0, .slice none 0 0, str [], str [], .int .i64 0, .int .i64 0] 51)).heap.size = x := ⟨_, rfl⟩
  have HB := Lib.hid hB
  have GB := Lib.hid (show p.g < B ∧ p.b < B ∧ w.heap.size ≤ B ∧ A < B from by have q1 := ((S0.out.keep (below_box _ (.cells #[.int .i64 0, str [], .int .i64 0, str [], str [], .slice none 0 0, .slice none 0 0, .int .i64 0, .int .i64 0, .int .i64 0, .slice none 0 0, str [], str [], .slice none 0 0, .slice none 0 0, .slice none 0 0, .int .i64 0, str [], .slice none 0 0, .slice none 0 0, .slice none 0 0, str [], str [], .int .i64 0, .int .i64 0] 51)))).lt; have q2 := ((S0.out.keep (below_box _ (.cells #[.int .i64 0, str [], .int .i64 0, str [], str [], .slice none 0 0, .slice none 0 0, .int .i64 0, .int .i64 0, .int .i64 0, .slice none 0 0, str [], str [], .slice none 0 0, .slice none 0 0, .slice none 0 0, .int .i64 0, str [], .slice none 0 0, .slice none 0 0, .slice none 0 0, str [], str [], .int .i64 0, .int .i64 0] 51)))).lt2; have q3 := ((N0.out.trans (Tch.of_below (below_box _ (.cells #[.int .i64 0, str [], .int .i64 0, str [], str [], .slice none 0 0, .slice none 0 0, .int .i64 0, .int .i64 0, .int .i64 0, .slice none 0 0, str [], str [], .slice none 0 0, .slice none 0 0, .slice none 0 0, .int .i64 0, str [], .slice none 0 0, .slice none 0 0, .slice none 0 0, str [], str [], .int .i64 0, .int .i64 0] 51))))).size; rw [hB] at q1 q2 q3; have q4 := ((Blk.new w 51 #[.int .i64 0, str [], .int .i64 0, str [], str [], .slice none 0 0, .slice none 0 0, .int .i64 0, .int .i64 0, .int .i64 0, .slice none 0 0, str [], str [], .slice none 0 0, .slice none 0 0, .slice none 0 0, .int .i64 0, str [], .slice none 0 0, .slice none 0 0, .slice none 0 0, str [], str [], .int .i64 0, .int .i64 0])).lt; have q5 := HA.out; rw [hB] at q4; exact ⟨q1, q2, q3, by omega⟩)
  simp only [World.size_alloc, hA] at hB
  go_wp2_with (refine wpList_store_new rfl 51 (.tmp 3) (.tmp 4) rfl B _ #[.int .i64 5, str [], .int .i64 0, str [], str [], .slice none 0 0, .slice none 0 0, .int .i64 0, .int .i64 0, .int .i64 0, .slice none 0 0, str [], str [], .slice none 0 0, .slice none 0 0, .slice none 0 0, .int .i64 0, str [], .slice none 0 0, .slice none 0 0, .slice none 0 0, str [], str [], .int .i64 0, .int .i64 0] HB.out rfl rfl infoIt rfl (by simp [oc_int, oc_str, oc_slice]) ?_)
  refine (place_any _ ((S0.out.keep (below_box _ (.cells #[.int .i64 0, str [], .int .i64 0, str [], str [], .slice none 0 0, .slice none 0 0, .int .i64 0, .int .i64 0, .int .i64 0, .slice none 0 0, str [], str [], .slice none 0 0, .slice none 0 0, .slice none 0 0, .int .i64 0, str [], .slice none 0 0, .slice none 0 0, .slice none 0 0, str [], str [], .int .i64 0, .int .i64 0] 51))).keep (below_box _ (.cells #[.int .i64 5, str [], .int .i64 0, str [], str [], .slice none 0 0, .slice none 0 0, .int .i64 0, .int .i64 0, .int .i64 0, .slice none 0 0, str [], str [], .slice none 0 0, .slice none 0 0, .slice none 0 0, .int .i64 0, str [], .slice none 0 0, .slice none 0 0, .slice none 0 0, str [], str [], .int .i64 0, .int .i64 0] 51)))).mono ?_
  intro e w1 hp
  rcases h1 : placeP r with ⟨a1, r1⟩ | ⟨b1, r1⟩
  · obtain ⟨v1, rfl, rfl, hs, hn⟩ := ppost_ok h1 hp
    have R1 := Lib.hid (R0.out.trans (bnd_ok h1))
    have S1 := Lib.hid hs
    have hA : Blk w1 A 51 #[.int .i64 0, str [], .int .i64 0, str [], str [], .slice none 0 0, .slice none 0 0, .int .i64 0, .int .i64 0, .int .i64 0, .slice none 0 0, str [], str [], .slice none 0 0, .slice none 0 0, .slice none 0 0, .int .i64 0, str [], .slice none 0 0, .slice none 0 0, .slice none 0 0, str [], str [], .int .i64 0, .int .i64 0] := by
      have q := (((Blk.new w 51 #[.int .i64 0, str [], .int .i64 0, str [], str [], .slice none 0 0, .slice none 0 0, .int .i64 0, .int .i64 0, .int .i64 0, .slice none 0 0, str [], str [], .slice none 0 0, .slice none 0 0, .slice none 0 0, .int .i64 0, str [], .slice none 0 0, .slice none 0 0, .slice none 0 0, str [], str [], .int .i64 0, .int .i64 0]).alloc (.cells #[.int .i64 5, str [], .int .i64 0, str [], str [], .slice none 0 0, .slice none 0 0, .int .i64 0, .int .i64 0, .int .i64 0, .slice none 0 0, str [], str [], .slice none 0 0, .slice none 0 0, .slice none 0 0, .int .i64 0, str [], .slice none 0 0, .slice none 0 0, .slice none 0 0, str [], str [], .int .i64 0, .int .i64 0] 51)) : Blk _ _ _ _)
      rw [HA.out] at q
      exact q.near hn (Nat.ne_of_gt G.out.1)
    have hB : Blk w1 B 51 #[.int .i64 5, str [], .int .i64 0, str [], str [], .slice none 0 0, .slice none 0 0, .int .i64 0, .int .i64 0, .int .i64 0, .slice none 0 0, str [], str [], .slice none 0 0, .slice none 0 0, .slice none 0 0, .int .i64 0, str [], .slice none 0 0, .slice none 0 0, .slice none 0 0, str [], str [], .int .i64 0, .int .i64 0] := by
      have q := ((Blk.new (w.alloc (.cells #[.int .i64 0, str [], .int .i64 0, str [], str [], .slice none 0 0, .slice none 0 0, .int .i64 0, .int .i64 0, .int .i64 0, .slice none 0 0, str [], str [], .slice none 0 0, .slice none 0 0, .slice none 0 0, .int .i64 0, str [], .slice none 0 0, .slice none 0 0, .slice none 0 0, str [], str [], .int .i64 0, .int .i64 0] 51)) 51 #[.int .i64 5, str [], .int .i64 0, str [], str [], .slice none 0 0, .slice none 0 0, .int .i64 0, .int .i64 0, .int .i64 0, .slice none 0 0, str [], str [], .slice none 0 0, .slice none 0 0, .slice none 0 0, .int .i64 0, str [], .slice none 0 0, .slice none 0 0, .slice none 0 0, str [], str [], .int .i64 0, .int .i64 0]) : Blk _ _ _ _)
      rw [HB.out] at q
      exact q.near hn (Nat.ne_of_gt GB.out.1)
    have BA1 := Lib.hid hA
    have BB1 := Lib.hid hB
    have N1 := Lib.hid (((N0.out.trans (Tch.of_below (below_box _ (.cells #[.int .i64 0, str [], .int .i64 0, str [], str [], .slice none 0 0, .slice none 0 0, .int .i64 0, .int .i64 0, .int .i64 0, .slice none 0 0, str [], str [], .slice none 0 0, .slice none 0 0, .slice none 0 0, .int .i64 0, str [], .slice none 0 0, .slice none 0 0, .slice none 0 0, str [], str [], .int .i64 0, .int .i64 0] 51)))).trans (Tch.of_below (below_box _ (.cells #[.int .i64 5, str [], .int .i64 0, str [], str [], .slice none 0 0, .slice none 0 0, .int .i64 0, .int .i64 0, .int .i64 0, .slice none 0 0, str [], str [], .slice none 0 0, .slice none 0 0, .slice none 0 0, .int .i64 0, str [], .slice none 0 0, .slice none 0 0, .slice none 0 0, str [], str [], .int .i64 0, .int .i64 0] 51)))).trans hn)
    have Y1 := Lib.hid h1
    clear hs hn hp hA hB h1
    have cB1 := fun i => BB1.out.cell i
    have fB1 := fun i => BB1.out.frozen i
    go_wp2_with fail
    refine (expect_one [98, 121] (by decide) _ _ _ (by first | omega | (simp; omega) | simp) ((S1.out.cell (a := ⟨B, 3, none⟩) GB.out.1 GB.out.2.1 (str a1.1)).cell (a := ⟨B, 4, none⟩) GB.out.1 GB.out.2.1 (str a1.2))).mono ?_
    intro e w2 hp
    rcases h2 : expP [98, 121] r1 with ⟨a2, r2⟩ | ⟨b2, r2⟩
    · obtain ⟨v2, rfl, rfl, hs, hn⟩ := ppost_ok h2 hp
      have R2 := Lib.hid (R1.out.trans (bnd_ok h2))
      have S2 := Lib.hid hs
      have hA : Blk w2 A 51 #[.int .i64 0, str [], .int .i64 0, str [], str [], .slice none 0 0, .slice none 0 0, .int .i64 0, .int .i64 0, .int .i64 0, .slice none 0 0, str [], str [], .slice none 0 0, .slice none 0 0, .slice none 0 0, .int .i64 0, str [], .slice none 0 0, .slice none 0 0, .slice none 0 0, str [], str [], .int .i64 0, .int .i64 0] := ((BA1.out.far (p := ⟨B, 3, none⟩) (Nat.ne_of_lt GB.out.2.2.2) (str a1.1)).far (p := ⟨B, 4, none⟩) (Nat.ne_of_lt GB.out.2.2.2) (str a1.2)).near hn (Nat.ne_of_gt G.out.1)
      have hB : Blk w2 B 51 #[.int .i64 5, str [], .int .i64 0, str a1.1, str a1.2, .slice none 0 0, .slice none 0 0, .int .i64 0, .int .i64 0, .int .i64 0, .slice none 0 0, str [], str [], .slice none 0 0, .slice none 0 0, .slice none 0 0, .int .i64 0, str [], .slice none 0 0, .slice none 0 0, .slice none 0 0, str [], str [], .int .i64 0, .int .i64 0] := ((BB1.out.set_ 3 (str a1.1)).set_ 4 (str a1.2)).near hn (Nat.ne_of_gt GB.out.1)
      have BA2 := Lib.hid hA
      have BB2 := Lib.hid hB
      have N2 := Lib.hid (((N1.out.set2 (p := ⟨B, 3, none⟩) GB.out.2.2.1 (str a1.1)).set2 (p := ⟨B, 4, none⟩) GB.out.2.2.1 (str a1.2)).trans hn)
      have Y2 := Lib.hid h2
      clear hs hn hp hA hB h2
      obtain ⟨f, f0, hu, ht, hb⟩ := tab_chain w2 [.int .i64 0, .int .i64 1, .int .i64 2, .int .i64 3, .int .i64 4, .int .i64 5, .int .i64 6] (by simp) [[108, 97, 116, 101, 115, 116], [109, 111, 115, 116], [116, 114, 117, 115, 116, 101, 100], [108, 111, 110, 103, 101, 115, 116], [108, 101, 97, 115, 116], [103, 114, 101, 97, 116, 101, 115, 116]] (by decide) (by decide) (by decide) rfl Tryz.underlying119 (e := 3) 6 (by decide)
      have u0 : (Instr.mapUpdate 119 (.map (some w2.heap.size)) (str [108, 97, 116, 101, 115, 116]) (.int .i64 1)).run Tryz.prog (f 0) = .ok () (f 1) := hu 0 _ _ (by decide) rfl rfl
      have u1 : (Instr.mapUpdate 119 (.map (some w2.heap.size)) (str [109, 111, 115, 116]) (.int .i64 2)).run Tryz.prog (f 1) = .ok () (f 2) := hu 1 _ _ (by decide) rfl rfl
      have u2 : (Instr.mapUpdate 119 (.map (some w2.heap.size)) (str [116, 114, 117, 115, 116, 101, 100]) (.int .i64 3)).run Tryz.prog (f 2) = .ok () (f 3) := hu 2 _ _ (by decide) rfl rfl
      have u3 : (Instr.mapUpdate 119 (.map (some w2.heap.size)) (str [108, 111, 110, 103, 101, 115, 116]) (.int .i64 4)).run Tryz.prog (f 3) = .ok () (f 4) := hu 3 _ _ (by decide) rfl rfl
      have u4 : (Instr.mapUpdate 119 (.map (some w2.heap.size)) (str [108, 101, 97, 115, 116]) (.int .i64 5)).run Tryz.prog (f 4) = .ok () (f 5) := hu 4 _ _ (by decide) rfl rfl
      have u5 : (Instr.mapUpdate 119 (.map (some w2.heap.size)) (str [103, 114, 101, 97, 116, 101, 115, 116]) (.int .i64 6)).run Tryz.prog (f 5) = .ok () (f 6) := hu 5 _ _ (by decide) rfl rfl
      rw [f0] at u0
      obtain ⟨m1, e1⟩ : ∃ x, f 1 = x := ⟨_, rfl⟩
      rw [e1] at u0 u1
      obtain ⟨m2, e2⟩ : ∃ x, f 2 = x := ⟨_, rfl⟩
      rw [e2] at u1 u2
      obtain ⟨m3, e3⟩ : ∃ x, f 3 = x := ⟨_, rfl⟩
      rw [e3] at u2 u3
      obtain ⟨m4, e4⟩ : ∃ x, f 4 = x := ⟨_, rfl⟩
      rw [e4] at u3 u4
      obtain ⟨m5, e5⟩ : ∃ x, f 5 = x := ⟨_, rfl⟩
      rw [e5] at u4 u5
      obtain ⟨m6, e6⟩ : ∃ x, f 6 = x := ⟨_, rfl⟩
      rw [e6] at u5 ht hb
      have HM2 := Lib.hid hb
      have hmm := @run_makeMap Tryz.prog
      simp only [List.take_succ_cons, List.take_zero] at ht
      try simp only [World.size_alloc, World.size_setCell, hA, hB] at u0 u1 u2 u3 u4 u5 ht
      have HT2 := Lib.hid ht
      clear f0 hu ht hb e1 e2 e3 e4 e5 e6
      go_wp2_with fail
      refine (chI6_any [[108, 97, 116, 101, 115, 116], [109, 111, 115, 116], [116, 114, 117, 115, 116, 101, 100], [108, 111, 110, 103, 101, 115, 116], [108, 101, 97, 115, 116], [103, 114, 101, 97, 116, 101, 115, 116]] (by decide) rfl _ _ HT2.out (S2.out.keep HM2.out)).mono ?_
      intro e w3 hp
      rcases h3 : oneP [[108, 97, 116, 101, 115, 116], [109, 111, 115, 116], [116, 114, 117, 115, 116, 101, 100], [108, 111, 110, 103, 101, 115, 116], [108, 101, 97, 115, 116], [103, 114, 101, 97, 116, 101, 115, 116]] r2 with ⟨a3, r3⟩ | ⟨b3, r3⟩
      · obtain ⟨v3, rfl, rfl, hs, hn⟩ := ppost_ok h3 hp
        have R3 := Lib.hid (R2.out.trans (bnd_ok h3))
        have S3 := Lib.hid hs
        have hA : Blk w3 A 51 #[.int .i64 0, str [], .int .i64 0, str [], str [], .slice none 0 0, .slice none 0 0, .int .i64 0, .int .i64 0, .int .i64 0, .slice none 0 0, str [], str [], .slice none 0 0, .slice none 0 0, .slice none 0 0, .int .i64 0, str [], .slice none 0 0, .slice none 0 0, .slice none 0 0, str [], str [], .int .i64 0, .int .i64 0] := (BA2.out.keep HM2.out).near hn (Nat.ne_of_gt G.out.1)
        have hB : Blk w3 B 51 #[.int .i64 5, str [], .int .i64 0, str a1.1, str a1.2, .slice none 0 0, .slice none 0 0, .int .i64 0, .int .i64 0, .int .i64 0, .slice none 0 0, str [], str [], .slice none 0 0, .slice none 0 0, .slice none 0 0, .int .i64 0, str [], .slice none 0 0, .slice none 0 0, .slice none 0 0, str [], str [], .int .i64 0, .int .i64 0] := (BB2.out.keep HM2.out).near hn (Nat.ne_of_gt GB.out.1)
        have BA3 := Lib.hid hA
        have BB3 := Lib.hid hB
        have N3 := Lib.hid ((N2.out.trans (Tch.of_below HM2.out)).trans hn)
        have Y3 := Lib.hid h3
        clear hs hn hp hA hB h3
        have cB3 := fun i => BB3.out.cell i
        have fB3 := fun i => BB3.out.frozen i
        go_wp2_with fail
        refine (expect_one [59] (by decide) _ _ _ (by first | omega | (simp; omega) | simp) (S3.out.cell (a := ⟨B, 7, none⟩) GB.out.1 GB.out.2.1 (.int .i64 a3))).mono ?_
        intro e w4 hp
        rcases h4 : expP [59] r3 with ⟨a4, r4⟩ | ⟨b4, r4⟩
        · obtain ⟨v4, rfl, rfl, hs, hn⟩ := ppost_ok h4 hp
          have R4 := Lib.hid (R3.out.trans (bnd_ok h4))
          have S4 := Lib.hid hs
          have hA : Blk w4 A 51 #[.int .i64 0, str [], .int .i64 0, str [], str [], .slice none 0 0, .slice none 0 0, .int .i64 0, .int .i64 0, .int .i64 0, .slice none 0 0, str [], str [], .slice none 0 0, .slice none 0 0, .slice none 0 0, .int .i64 0, str [], .slice none 0 0, .slice none 0 0, .slice none 0 0, str [], str [], .int .i64 0, .int .i64 0] := (BA3.out.far (p := ⟨B, 7, none⟩) (Nat.ne_of_lt GB.out.2.2.2) (.int .i64 a3)).near hn (Nat.ne_of_gt G.out.1)
          have hB : Blk w4 B 51 #[.int .i64 5, str [], .int .i64 0, str a1.1, str a1.2, .slice none 0 0, .slice none 0 0, .int .i64 a3, .int .i64 0, .int .i64 0, .slice none 0 0, str [], str [], .slice none 0 0, .slice none 0 0, .slice none 0 0, .int .i64 0, str [], .slice none 0 0, .slice none 0 0, .slice none 0 0, str [], str [], .int .i64 0, .int .i64 0] := (BB3.out.set_ 7 (.int .i64 a3)).near hn (Nat.ne_of_gt GB.out.1)
          have BA4 := Lib.hid hA
          have BB4 := Lib.hid hB
          have N4 := Lib.hid ((N3.out.set2 (p := ⟨B, 7, none⟩) GB.out.2.2.1 (.int .i64 a3)).trans hn)
          have Y4 := Lib.hid h4
          clear hs hn hp hA hB h4
          have HL := Lib.hid (show Blk _ B 51 #[.int .i64 5, str [], .int .i64 0, str a1.1, str a1.2, .slice none 0 0, .slice none 0 0, .int .i64 a3, .int .i64 0, .int .i64 0, .slice none 0 0, str [], str [], .slice none 0 0, .slice none 0 0, .slice none 0 0, .int .i64 0, str [], .slice none 0 0, .slice none 0 0, .slice none 0 0, str [], str [], .int .i64 0, .int .i64 0] from BB4.out)
          have HQ := Lib.hid BA4.out
          go_wp2_with (first | (refine wpList_load_row rfl 51 (.tmp 3) rfl B rfl _ #[.int .i64 5, str [], .int .i64 0, str a1.1, str a1.2, .slice none 0 0, .slice none 0 0, .int .i64 a3, .int .i64 0, .int .i64 0, .slice none 0 0, str [], str [], .slice none 0 0, .slice none 0 0, .slice none 0 0, .int .i64 0, str [], .slice none 0 0, .slice none 0 0, .slice none 0 0, str [], str [], .int .i64 0, .int .i64 0] _ _ HL.out Tryz.underlying51 rfl infoIt ?_) | (refine wpList_store_row rfl 51 (.tmp 2) (.tmp 23) rfl A #[.int .i64 5, str [], .int .i64 0, str a1.1, str a1.2, .slice none 0 0, .slice none 0 0, .int .i64 a3, .int .i64 0, .int .i64 0, .slice none 0 0, str [], str [], .slice none 0 0, .slice none 0 0, .slice none 0 0, .int .i64 0, str [], .slice none 0 0, .slice none 0 0, .slice none 0 0, str [], str [], .int .i64 0, .int .i64 0] rfl rfl _ _ HQ.out infoIt rfl (by simp [oc_int, oc_str, oc_slice]) ?_))
          have hres := (HQ.out.row #[.int .i64 5, str [], .int .i64 0, str a1.1, str a1.2, .slice none 0 0, .slice none 0 0, .int .i64 a3, .int .i64 0, .int .i64 0, .slice none 0 0, str [], str [], .slice none 0 0, .slice none 0 0, .slice none 0 0, .int .i64 0, str [], .slice none 0 0, .slice none 0 0, .slice none 0 0, str [], str [], .int .i64 0, .int .i64 0])
          exact bodyPost_ret (v := .agg #[.int .i64 5, str [], .int .i64 0, str a1.1, str a1.2, .slice none 0 0, .slice none 0 0, .int .i64 a3, .int .i64 0, .int .i64 0, .slice none 0 0, str [], str [], .slice none 0 0, .slice none 0 0, .slice none 0 0, .int .i64 0, str [], .slice none 0 0, .slice none 0 0, .slice none 0 0, str [], str [], .int .i64 0, .int .i64 0]) (results_cell_row rfl _ _ A _ _ _ _ rfl hres Tryz.underlying51 rfl infoIt) rfl
            (ppost_of_ok (V := isIt A) (R4.out.trans rfl) ⟨⟨.slice none 0 0, .slice none 0 0, .slice none 0 0, .slice none 0 0, .slice none 0 0, .slice none 0 0, .slice none 0 0, .slice none 0 0, .slice none 0 0⟩, rfl, { cols := Lst.nil _, names := Lst.nil _, terms := Lst.nil _, fixed := Lst.nil _, vars := Lst.nil _, conds := Lst.nil _, ex := exC_zero _ _ }⟩ (S4.out.row G.out.1 G.out.2 _) (N4.out.row (Nat.le_of_eq HA.out) _))
        · obtain ⟨rfl, hn⟩ := ppost_bad h4 hp
          exact ⟨rfl, ppost_of_bad (R3.out.trans (bnd_bad h4)) ((N3.out.set2 (p := ⟨B, 7, none⟩) GB.out.2.2.1 (.int .i64 a3)).trans hn)⟩
      · obtain ⟨rfl, hn⟩ := ppost_bad h3 hp
        exact ⟨rfl, ppost_of_bad (R2.out.trans (bnd_bad h3)) ((N2.out.trans (Tch.of_below HM2.out)).trans hn)⟩
    · obtain ⟨rfl, hn⟩ := ppost_bad h2 hp
      exact ⟨rfl, ppost_of_bad (R1.out.trans (bnd_bad h2)) (((N1.out.set2 (p := ⟨B, 3, none⟩) GB.out.2.2.1 (str a1.1)).set2 (p := ⟨B, 4, none⟩) GB.out.2.2.1 (str a1.2)).trans hn)⟩
  · obtain ⟨rfl, hn⟩ := ppost_bad h1 hp
    exact ⟨rfl, ppost_of_bad (R0.out.trans (bnd_bad h1)) (((N0.out.trans (Tch.of_below (below_box _ (.cells #[.int .i64 0, str [], .int .i64 0, str [], str [], .slice none 0 0, .slice none 0 0, .int .i64 0, .int .i64 0, .int .i64 0, .slice none 0 0, str [], str [], .slice none 0 0, .slice none 0 0, .slice none 0 0, .int .i64 0, str [], .slice none 0 0, .slice none 0 0, .slice none 0 0, str [], str [], .int .i64 0, .int .i64 0] 51)))).trans (Tch.of_below (below_box _ (.cells #[.int .i64 5, str [], .int .i64 0, str [], str [], .slice none 0 0, .slice none 0 0, .int .i64 0, .int .i64 0, .int .i64 0, .slice none 0 0, str [], str [], .slice none 0 0, .slice none 0 0, .slice none 0 0, .int .i64 0, str [], .slice none 0 0, .slice none 0 0, .slice none 0 0, str [], str [], .int .i64 0, .int .i64 0] 51)))).trans hn)⟩
set_option maxRecDepth 100000 in
set_option maxHeartbeats 8000000 in
theorem block_any {p : Ps} {r : List Tk} {lv : Int} (w : World) (h : Sta w p r lv) :
    Calls Tryz.prog 46 #[ptr p.g] w (PPost p lv w (isIt w.heap.size) (blockP r)) := by
  obtain ⟨R, hR⟩ : ∃ R, blockP r = R := ⟨_, rfl⟩
  rw [hR]
  have R0 := Lib.hid hR.symm
  have G := Lib.hid (And.intro h.lt h.lt2)
  have S0 := Lib.hid h
  have N0 := Lib.hid (Tch.refl (fun b => b = p.g) w)
  obtain ⟨A, hA⟩ : ∃ A, w.heap.size = A := ⟨_, rfl⟩
  have HA := Lib.hid hA
  rw [hA] at G
  rw [hA]
  clear hR h
  go_enter Tryz.func46, Tryz.ntmps46
  go_wp2_with fail
  refine (name_any _ (S0.out.keep (below_box _ (.cells #[.int .i64 0, str [], .int .i64 0, str [], str [], .slice none 0 0, .slice none 0 0, .int .i64 0, .int .i64 0, .int .i64 0, .slice none 0 0, str [], str [], .slice none 0 0, .slice none 0 0, .slice none 0 0, .int .i64 0, str [], .slice none 0 0, .slice none 0 0, .slice none 0 0, str [], str [], .int .i64 0, .int .i64 0] 51)))).mono ?_
  intro e w1 hp
  rcases h1 : nameP r with ⟨a1, r1⟩ | ⟨b1, r1⟩
  · obtain ⟨v1, rfl, rfl, hs, hn⟩ := ppost_ok h1 hp
    have R1 := Lib.hid (R0.out.trans (bnd_ok h1))
    have S1 := Lib.hid hs
    have hA : Blk w1 A 51 #[.int .i64 0, str [], .int .i64 0, str [], str [], .slice none 0 0, .slice none 0 0, .int .i64 0, .int .i64 0, .int .i64 0, .slice none 0 0, str [], str [], .slice none 0 0, .slice none 0 0, .slice none 0 0, .int .i64 0, str [], .slice none 0 0, .slice none 0 0, .slice none 0 0, str [], str [], .int .i64 0, .int .i64 0] := by
      have q := ((Blk.new w 51 #[.int .i64 0, str [], .int .i64 0, str [], str [], .slice none 0 0, .slice none 0 0, .int .i64 0, .int .i64 0, .int .i64 0, .slice none 0 0, str [], str [], .slice none 0 0, .slice none 0 0, .slice none 0 0, .int .i64 0, str [], .slice none 0 0, .slice none 0 0, .slice none 0 0, str [], str [], .int .i64 0, .int .i64 0]) : Blk _ _ _ _)
      rw [HA.out] at q
      exact q.near hn (Nat.ne_of_gt G.out.1)
    have BA1 := Lib.hid hA
    have N1 := Lib.hid ((N0.out.trans (Tch.of_below (below_box _ (.cells #[.int .i64 0, str [], .int .i64 0, str [], str [], .slice none 0 0, .slice none 0 0, .int .i64 0, .int .i64 0, .int .i64 0, .slice none 0 0, str [], str [], .slice none 0 0, .slice none 0 0, .slice none 0 0, .int .i64 0, str [], .slice none 0 0, .slice none 0 0, .slice none 0 0, str [], str [], .int .i64 0, .int .i64 0] 51)))).trans hn)
    have Y1 := Lib.hid h1
    clear hs hn hp hA h1
    obtain ⟨B, hB⟩ : ∃ x, w1.heap.size = x := ⟨_, rfl⟩
    have HB := Lib.hid hB
    have GB := Lib.hid (show p.g < B ∧ p.b < B ∧ w.heap.size ≤ B ∧ A < B from by have q1 := (S1.out).lt; have q2 := (S1.out).lt2; have q3 := (N1.out).size; rw [hB] at q1 q2 q3; have q4 := (BA1.out).lt; have q5 := HA.out; rw [hB] at q4; exact ⟨q1, q2, q3, by omega⟩)
    go_wp2_with (refine wpList_store_new rfl 51 (.tmp 3) (.tmp 6) rfl B _ #[.int .i64 3, str a1, .int .i64 0, str [], str [], .slice none 0 0, .slice none 0 0, .int .i64 0, .int .i64 0, .int .i64 0, .slice none 0 0, str [], str [], .slice none 0 0, .slice none 0 0, .slice none 0 0, .int .i64 0, str [], .slice none 0 0, .slice none 0 0, .slice none 0 0, str [], str [], .int .i64 0, .int .i64 0] HB.out rfl rfl infoIt rfl (by simp [oc_int, oc_str, oc_slice]) ?_)
    refine (expect_one [111, 110] (by decide) _ _ _ (by first | omega | (simp; omega) | simp) (S1.out.keep (below_box _ (.cells #[.int .i64 3, str a1, .int .i64 0, str [], str [], .slice none 0 0, .slice none 0 0, .int .i64 0, .int .i64 0, .int .i64 0, .slice none 0 0, str [], str [], .slice none 0 0, .slice none 0 0, .slice none 0 0, .int .i64 0, str [], .slice none 0 0, .slice none 0 0, .slice none 0 0, str [], str [], .int .i64 0, .int .i64 0] 51)))).mono ?_
    intro e w2 hp
    rcases h2 : expP [111, 110] r1 with ⟨a2, r2⟩ | ⟨b2, r2⟩
    · obtain ⟨v2, rfl, rfl, hs, hn⟩ := ppost_ok h2 hp
      have R2 := Lib.hid (R1.out.trans (bnd_ok h2))
      have S2 := Lib.hid hs
      have hA : Blk w2 A 51 #[.int .i64 0, str [], .int .i64 0, str [], str [], .slice none 0 0, .slice none 0 0, .int .i64 0, .int .i64 0, .int .i64 0, .slice none 0 0, str [], str [], .slice none 0 0, .slice none 0 0, .slice none 0 0, .int .i64 0, str [], .slice none 0 0, .slice none 0 0, .slice none 0 0, str [], str [], .int .i64 0, .int .i64 0] := (BA1.out.alloc (.cells #[.int .i64 3, str a1, .int .i64 0, str [], str [], .slice none 0 0, .slice none 0 0, .int .i64 0, .int .i64 0, .int .i64 0, .slice none 0 0, str [], str [], .slice none 0 0, .slice none 0 0, .slice none 0 0, .int .i64 0, str [], .slice none 0 0, .slice none 0 0, .slice none 0 0, str [], str [], .int .i64 0, .int .i64 0] 51)).near hn (Nat.ne_of_gt G.out.1)
      have hB : Blk w2 B 51 #[.int .i64 3, str a1, .int .i64 0, str [], str [], .slice none 0 0, .slice none 0 0, .int .i64 0, .int .i64 0, .int .i64 0, .slice none 0 0, str [], str [], .slice none 0 0, .slice none 0 0, .slice none 0 0, .int .i64 0, str [], .slice none 0 0, .slice none 0 0, .slice none 0 0, str [], str [], .int .i64 0, .int .i64 0] := by
        have q := ((Blk.new w1 51 #[.int .i64 3, str a1, .int .i64 0, str [], str [], .slice none 0 0, .slice none 0 0, .int .i64 0, .int .i64 0, .int .i64 0, .slice none 0 0, str [], str [], .slice none 0 0, .slice none 0 0, .slice none 0 0, .int .i64 0, str [], .slice none 0 0, .slice none 0 0, .slice none 0 0, str [], str [], .int .i64 0, .int .i64 0]) : Blk _ _ _ _)
        rw [HB.out] at q
        exact q.near hn (Nat.ne_of_gt GB.out.1)
      have BA2 := Lib.hid hA
      have BB2 := Lib.hid hB
      have N2 := Lib.hid ((N1.out.trans (Tch.of_below (below_box _ (.cells #[.int .i64 3, str a1, .int .i64 0, str [], str [], .slice none 0 0, .slice none 0 0, .int .i64 0, .int .i64 0, .int .i64 0, .slice none 0 0, str [], str [], .slice none 0 0, .slice none 0 0, .slice none 0 0, .int .i64 0, str [], .slice none 0 0, .slice none 0 0, .slice none 0 0, str [], str [], .int .i64 0, .int .i64 0] 51)))).trans hn)
      have Y2 := Lib.hid h2
      clear hs hn hp hA hB h2
      go_wp2_with fail
      refine (place_any _ S2.out).mono ?_
      intro e w3 hp
      rcases h3 : placeP r2 with ⟨a3, r3⟩ | ⟨b3, r3⟩
      · obtain ⟨v3, rfl, rfl, hs, hn⟩ := ppost_ok h3 hp
        have R3 := Lib.hid (R2.out.trans (bnd_ok h3))
        have S3 := Lib.hid hs
        have hA : Blk w3 A 51 #[.int .i64 0, str [], .int .i64 0, str [], str [], .slice none 0 0, .slice none 0 0, .int .i64 0, .int .i64 0, .int .i64 0, .slice none 0 0, str [], str [], .slice none 0 0, .slice none 0 0, .slice none 0 0, .int .i64 0, str [], .slice none 0 0, .slice none 0 0, .slice none 0 0, str [], str [], .int .i64 0, .int .i64 0] := BA2.out.near hn (Nat.ne_of_gt G.out.1)
        have hB : Blk w3 B 51 #[.int .i64 3, str a1, .int .i64 0, str [], str [], .slice none 0 0, .slice none 0 0, .int .i64 0, .int .i64 0, .int .i64 0, .slice none 0 0, str [], str [], .slice none 0 0, .slice none 0 0, .slice none 0 0, .int .i64 0, str [], .slice none 0 0, .slice none 0 0, .slice none 0 0, str [], str [], .int .i64 0, .int .i64 0] := BB2.out.near hn (Nat.ne_of_gt GB.out.1)
        have BA3 := Lib.hid hA
        have BB3 := Lib.hid hB
        have N3 := Lib.hid (N2.out.trans hn)
        have Y3 := Lib.hid h3
        clear hs hn hp hA hB h3
        have cB3 := fun i => BB3.out.cell i
        have fB3 := fun i => BB3.out.frozen i
        go_wp2_with fail
        refine (expect_one [98, 121] (by decide) _ _ _ (by first | omega | (simp; omega) | simp) ((S3.out.cell (a := ⟨B, 3, none⟩) GB.out.1 GB.out.2.1 (str a3.1)).cell (a := ⟨B, 4, none⟩) GB.out.1 GB.out.2.1 (str a3.2))).mono ?_
        intro e w4 hp
        rcases h4 : expP [98, 121] r3 with ⟨a4, r4⟩ | ⟨b4, r4⟩
        · obtain ⟨v4, rfl, rfl, hs, hn⟩ := ppost_ok h4 hp
          have R4 := Lib.hid (R3.out.trans (bnd_ok h4))
          have S4 := Lib.hid hs
          have hA : Blk w4 A 51 #[.int .i64 0, str [], .int .i64 0, str [], str [], .slice none 0 0, .slice none 0 0, .int .i64 0, .int .i64 0, .int .i64 0, .slice none 0 0, str [], str [], .slice none 0 0, .slice none 0 0, .slice none 0 0, .int .i64 0, str [], .slice none 0 0, .slice none 0 0, .slice none 0 0, str [], str [], .int .i64 0, .int .i64 0] := ((BA3.out.far (p := ⟨B, 3, none⟩) (Nat.ne_of_lt GB.out.2.2.2) (str a3.1)).far (p := ⟨B, 4, none⟩) (Nat.ne_of_lt GB.out.2.2.2) (str a3.2)).near hn (Nat.ne_of_gt G.out.1)
          have hB : Blk w4 B 51 #[.int .i64 3, str a1, .int .i64 0, str a3.1, str a3.2, .slice none 0 0, .slice none 0 0, .int .i64 0, .int .i64 0, .int .i64 0, .slice none 0 0, str [], str [], .slice none 0 0, .slice none 0 0, .slice none 0 0, .int .i64 0, str [], .slice none 0 0, .slice none 0 0, .slice none 0 0, str [], str [], .int .i64 0, .int .i64 0] := ((BB3.out.set_ 3 (str a3.1)).set_ 4 (str a3.2)).near hn (Nat.ne_of_gt GB.out.1)
          have BA4 := Lib.hid hA
          have BB4 := Lib.hid hB
          have N4 := Lib.hid (((N3.out.set2 (p := ⟨B, 3, none⟩) GB.out.2.2.1 (str a3.1)).set2 (p := ⟨B, 4, none⟩) GB.out.2.2.1 (str a3.2)).trans hn)
          have Y4 := Lib.hid h4
          clear hs hn hp hA hB h4
          obtain ⟨f, f0, hu, ht, hb⟩ := tab_chain w4 [.int .i64 0, .int .i64 1, .int .i64 2, .int .i64 3, .int .i64 4] (by simp) [[101, 120, 97, 99, 116], [116, 111, 107, 101, 110], [112, 114, 101, 102, 105, 120], [115, 107, 101, 116, 99, 104]] (by decide) (by decide) (by decide) rfl Tryz.underlying119 (e := 3) 4 (by decide)
          have u0 : (Instr.mapUpdate 119 (.map (some w4.heap.size)) (str [101, 120, 97, 99, 116]) (.int .i64 1)).run Tryz.prog (f 0) = .ok () (f 1) := hu 0 _ _ (by decide) rfl rfl
          have u1 : (Instr.mapUpdate 119 (.map (some w4.heap.size)) (str [116, 111, 107, 101, 110]) (.int .i64 2)).run Tryz.prog (f 1) = .ok () (f 2) := hu 1 _ _ (by decide) rfl rfl
          have u2 : (Instr.mapUpdate 119 (.map (some w4.heap.size)) (str [112, 114, 101, 102, 105, 120]) (.int .i64 3)).run Tryz.prog (f 2) = .ok () (f 3) := hu 2 _ _ (by decide) rfl rfl
          have u3 : (Instr.mapUpdate 119 (.map (some w4.heap.size)) (str [115, 107, 101, 116, 99, 104]) (.int .i64 4)).run Tryz.prog (f 3) = .ok () (f 4) := hu 3 _ _ (by decide) rfl rfl
          rw [f0] at u0
          obtain ⟨m1, e1⟩ : ∃ x, f 1 = x := ⟨_, rfl⟩
          rw [e1] at u0 u1
          obtain ⟨m2, e2⟩ : ∃ x, f 2 = x := ⟨_, rfl⟩
          rw [e2] at u1 u2
          obtain ⟨m3, e3⟩ : ∃ x, f 3 = x := ⟨_, rfl⟩
          rw [e3] at u2 u3
          obtain ⟨m4, e4⟩ : ∃ x, f 4 = x := ⟨_, rfl⟩
          rw [e4] at u3 ht hb
          have HM4 := Lib.hid hb
          have hmm := @run_makeMap Tryz.prog
          simp only [List.take_succ_cons, List.take_zero] at ht
          try simp only [World.size_alloc, World.size_setCell, hA, hB] at u0 u1 u2 u3 ht
          have HT4 := Lib.hid ht
          clear f0 hu ht hb e1 e2 e3 e4
          go_wp2_with fail
          refine (chI4_any [[101, 120, 97, 99, 116], [116, 111, 107, 101, 110], [112, 114, 101, 102, 105, 120], [115, 107, 101, 116, 99, 104]] (by decide) rfl _ _ HT4.out (S4.out.keep HM4.out)).mono ?_
          intro e w5 hp
          rcases h5 : oneP [[101, 120, 97, 99, 116], [116, 111, 107, 101, 110], [112, 114, 101, 102, 105, 120], [115, 107, 101, 116, 99, 104]] r4 with ⟨a5, r5⟩ | ⟨b5, r5⟩
          · obtain ⟨v5, rfl, rfl, hs, hn⟩ := ppost_ok h5 hp
            have R5 := Lib.hid (R4.out.trans (bnd_ok h5))
            have S5 := Lib.hid hs
            have hA : Blk w5 A 51 #[.int .i64 0, str [], .int .i64 0, str [], str [], .slice none 0 0, .slice none 0 0, .int .i64 0, .int .i64 0, .int .i64 0, .slice none 0 0, str [], str [], .slice none 0 0, .slice none 0 0, .slice none 0 0, .int .i64 0, str [], .slice none 0 0, .slice none 0 0, .slice none 0 0, str [], str [], .int .i64 0, .int .i64 0] := (BA4.out.keep HM4.out).near hn (Nat.ne_of_gt G.out.1)
            have hB : Blk w5 B 51 #[.int .i64 3, str a1, .int .i64 0, str a3.1, str a3.2, .slice none 0 0, .slice none 0 0, .int .i64 0, .int .i64 0, .int .i64 0, .slice none 0 0, str [], str [], .slice none 0 0, .slice none 0 0, .slice none 0 0, .int .i64 0, str [], .slice none 0 0, .slice none 0 0, .slice none 0 0, str [], str [], .int .i64 0, .int .i64 0] := (BB4.out.keep HM4.out).near hn (Nat.ne_of_gt GB.out.1)
            have BA5 := Lib.hid hA
            have BB5 := Lib.hid hB
            have N5 := Lib.hid ((N4.out.trans (Tch.of_below HM4.out)).trans hn)
            have Y5 := Lib.hid h5
            clear hs hn hp hA hB h5
            have cB5 := fun i => BB5.out.cell i
            have fB5 := fun i => BB5.out.frozen i
            by_cases h3 : a5 = 3
            · skip
              have d3 : (a5 == 3) = true := by rw [beq_iff_eq]; exact h3
              have Rq := R5.out
              rw [if_pos (show (3 : Int) ≤ a5 by omega)] at Rq
              have R5z := Lib.hid Rq
              clear Rq
              have H3 := Lib.hid h3
              clear h3
              go_wp2_with fail
              refine (number_any _ (S5.out.cell (a := ⟨B, 7, none⟩) GB.out.1 GB.out.2.1 (.int .i64 a5))).mono ?_
              intro e w6 hp
              rcases h6 : numP r5 with ⟨a6, r6⟩ | ⟨b6, r6⟩
              · obtain ⟨v6, rfl, rfl, hs, hn⟩ := ppost_ok h6 hp
                have R6 := Lib.hid (R5z.out.trans (bnd_ok h6))
                have S6 := Lib.hid hs
                have hA : Blk w6 A 51 #[.int .i64 0, str [], .int .i64 0, str [], str [], .slice none 0 0, .slice none 0 0, .int .i64 0, .int .i64 0, .int .i64 0, .slice none 0 0, str [], str [], .slice none 0 0, .slice none 0 0, .slice none 0 0, .int .i64 0, str [], .slice none 0 0, .slice none 0 0, .slice none 0 0, str [], str [], .int .i64 0, .int .i64 0] := (BA5.out.far (p := ⟨B, 7, none⟩) (Nat.ne_of_lt GB.out.2.2.2) (.int .i64 a5)).near hn (Nat.ne_of_gt G.out.1)
                have hB : Blk w6 B 51 #[.int .i64 3, str a1, .int .i64 0, str a3.1, str a3.2, .slice none 0 0, .slice none 0 0, .int .i64 a5, .int .i64 0, .int .i64 0, .slice none 0 0, str [], str [], .slice none 0 0, .slice none 0 0, .slice none 0 0, .int .i64 0, str [], .slice none 0 0, .slice none 0 0, .slice none 0 0, str [], str [], .int .i64 0, .int .i64 0] := (BB5.out.set_ 7 (.int .i64 a5)).near hn (Nat.ne_of_gt GB.out.1)
                have BA6 := Lib.hid hA
                have BB6 := Lib.hid hB
                have N6 := Lib.hid ((N5.out.set2 (p := ⟨B, 7, none⟩) GB.out.2.2.1 (.int .i64 a5)).trans hn)
                have Y6 := Lib.hid h6
                clear hs hn hp hA hB h6
                have cB6 := fun i => BB6.out.cell i
                have fB6 := fun i => BB6.out.frozen i
                have Rq := R6.out
                rw [if_neg (show ¬ a5 = 4 by have := H3.out; omega), pur_bnd] at Rq
                have R6z := Lib.hid Rq
                clear Rq
                go_wp2_with fail
                refine (expect_one [59] (by decide) _ _ _ (by first | omega | (simp; omega) | simp) (S6.out.cell (a := ⟨B, 8, none⟩) GB.out.1 GB.out.2.1 (.int .i64 a6))).mono ?_
                intro e w7 hp
                rcases h7 : expP [59] r6 with ⟨a7, r7⟩ | ⟨b7, r7⟩
                · obtain ⟨v7, rfl, rfl, hs, hn⟩ := ppost_ok h7 hp
                  have R7 := Lib.hid (R6z.out.trans (bnd_ok h7))
                  have S7 := Lib.hid hs
                  have hA : Blk w7 A 51 #[.int .i64 0, str [], .int .i64 0, str [], str [], .slice none 0 0, .slice none 0 0, .int .i64 0, .int .i64 0, .int .i64 0, .slice none 0 0, str [], str [], .slice none 0 0, .slice none 0 0, .slice none 0 0, .int .i64 0, str [], .slice none 0 0, .slice none 0 0, .slice none 0 0, str [], str [], .int .i64 0, .int .i64 0] := (BA6.out.far (p := ⟨B, 8, none⟩) (Nat.ne_of_lt GB.out.2.2.2) (.int .i64 a6)).near hn (Nat.ne_of_gt G.out.1)
                  have hB : Blk w7 B 51 #[.int .i64 3, str a1, .int .i64 0, str a3.1, str a3.2, .slice none 0 0, .slice none 0 0, .int .i64 a5, .int .i64 a6, .int .i64 0, .slice none 0 0, str [], str [], .slice none 0 0, .slice none 0 0, .slice none 0 0, .int .i64 0, str [], .slice none 0 0, .slice none 0 0, .slice none 0 0, str [], str [], .int .i64 0, .int .i64 0] := (BB6.out.set_ 8 (.int .i64 a6)).near hn (Nat.ne_of_gt GB.out.1)
                  have BA7 := Lib.hid hA
                  have BB7 := Lib.hid hB
                  have N7 := Lib.hid ((N6.out.set2 (p := ⟨B, 8, none⟩) GB.out.2.2.1 (.int .i64 a6)).trans hn)
                  have Y7 := Lib.hid h7
                  clear hs hn hp hA hB h7
                  have HL := Lib.hid (show Blk _ B 51 #[.int .i64 3, str a1, .int .i64 0, str a3.1, str a3.2, .slice none 0 0, .slice none 0 0, .int .i64 a5, .int .i64 a6, .int .i64 0, .slice none 0 0, str [], str [], .slice none 0 0, .slice none 0 0, .slice none 0 0, .int .i64 0, str [], .slice none 0 0, .slice none 0 0, .slice none 0 0, str [], str [], .int .i64 0, .int .i64 0] from BB7.out)
                  have HQ := Lib.hid BA7.out
                  go_wp2_with (first | (refine wpList_load_row rfl 51 (.tmp 3) rfl B rfl _ #[.int .i64 3, str a1, .int .i64 0, str a3.1, str a3.2, .slice none 0 0, .slice none 0 0, .int .i64 a5, .int .i64 a6, .int .i64 0, .slice none 0 0, str [], str [], .slice none 0 0, .slice none 0 0, .slice none 0 0, .int .i64 0, str [], .slice none 0 0, .slice none 0 0, .slice none 0 0, str [], str [], .int .i64 0, .int .i64 0] _ _ HL.out Tryz.underlying51 rfl infoIt ?_) | (refine wpList_store_row rfl 51 (.tmp 2) (.tmp 43) rfl A #[.int .i64 3, str a1, .int .i64 0, str a3.1, str a3.2, .slice none 0 0, .slice none 0 0, .int .i64 a5, .int .i64 a6, .int .i64 0, .slice none 0 0, str [], str [], .slice none 0 0, .slice none 0 0, .slice none 0 0, .int .i64 0, str [], .slice none 0 0, .slice none 0 0, .slice none 0 0, str [], str [], .int .i64 0, .int .i64 0] rfl rfl _ _ HQ.out infoIt rfl (by simp [oc_int, oc_str, oc_slice]) ?_))
                  have hres := (HQ.out.row #[.int .i64 3, str a1, .int .i64 0, str a3.1, str a3.2, .slice none 0 0, .slice none 0 0, .int .i64 a5, .int .i64 a6, .int .i64 0, .slice none 0 0, str [], str [], .slice none 0 0, .slice none 0 0, .slice none 0 0, .int .i64 0, str [], .slice none 0 0, .slice none 0 0, .slice none 0 0, str [], str [], .int .i64 0, .int .i64 0])
                  exact bodyPost_ret (v := .agg #[.int .i64 3, str a1, .int .i64 0, str a3.1, str a3.2, .slice none 0 0, .slice none 0 0, .int .i64 a5, .int .i64 a6, .int .i64 0, .slice none 0 0, str [], str [], .slice none 0 0, .slice none 0 0, .slice none 0 0, .int .i64 0, str [], .slice none 0 0, .slice none 0 0, .slice none 0 0, str [], str [], .int .i64 0, .int .i64 0]) (results_cell_row rfl _ _ A _ _ _ _ rfl hres Tryz.underlying51 rfl infoIt) rfl
                    (ppost_of_ok (V := isIt A) (R7.out.trans rfl) ⟨⟨.slice none 0 0, .slice none 0 0, .slice none 0 0, .slice none 0 0, .slice none 0 0, .slice none 0 0, .slice none 0 0, .slice none 0 0, .slice none 0 0⟩, rfl, { cols := Lst.nil _, names := Lst.nil _, terms := Lst.nil _, fixed := Lst.nil _, vars := Lst.nil _, conds := Lst.nil _, ex := exC_zero _ _ }⟩ (S7.out.row G.out.1 G.out.2 _) (N7.out.row (Nat.le_of_eq HA.out) _))
                · obtain ⟨rfl, hn⟩ := ppost_bad h7 hp
                  exact ⟨rfl, ppost_of_bad (R6z.out.trans (bnd_bad h7)) ((N6.out.set2 (p := ⟨B, 8, none⟩) GB.out.2.2.1 (.int .i64 a6)).trans hn)⟩
              · obtain ⟨rfl, hn⟩ := ppost_bad h6 hp
                exact ⟨rfl, ppost_of_bad (R5z.out.trans (bnd_bad h6)) ((N5.out.set2 (p := ⟨B, 7, none⟩) GB.out.2.2.1 (.int .i64 a5)).trans hn)⟩
            · skip
              by_cases h4 : a5 = 4
              · skip
                have d3 : (a5 == 3) = false := by rw [beq_eq_false_iff_ne]; omega
                have d4 : (a5 == 4) = true := by rw [beq_iff_eq]; exact h4
                have Rq := R5.out
                rw [if_pos (show (3 : Int) ≤ a5 by omega)] at Rq
                have R5z := Lib.hid Rq
                clear Rq
                have H4 := Lib.hid h4
                clear h3 h4
                go_wp2_with fail
                refine (number_any _ (S5.out.cell (a := ⟨B, 7, none⟩) GB.out.1 GB.out.2.1 (.int .i64 a5))).mono ?_
                intro e w6 hp
                rcases h6 : numP r5 with ⟨a6, r6⟩ | ⟨b6, r6⟩
                · obtain ⟨v6, rfl, rfl, hs, hn⟩ := ppost_ok h6 hp
                  have R6 := Lib.hid (R5z.out.trans (bnd_ok h6))
                  have S6 := Lib.hid hs
                  have hA : Blk w6 A 51 #[.int .i64 0, str [], .int .i64 0, str [], str [], .slice none 0 0, .slice none 0 0, .int .i64 0, .int .i64 0, .int .i64 0, .slice none 0 0, str [], str [], .slice none 0 0, .slice none 0 0, .slice none 0 0, .int .i64 0, str [], .slice none 0 0, .slice none 0 0, .slice none 0 0, str [], str [], .int .i64 0, .int .i64 0] := (BA5.out.far (p := ⟨B, 7, none⟩) (Nat.ne_of_lt GB.out.2.2.2) (.int .i64 a5)).near hn (Nat.ne_of_gt G.out.1)
                  have hB : Blk w6 B 51 #[.int .i64 3, str a1, .int .i64 0, str a3.1, str a3.2, .slice none 0 0, .slice none 0 0, .int .i64 a5, .int .i64 0, .int .i64 0, .slice none 0 0, str [], str [], .slice none 0 0, .slice none 0 0, .slice none 0 0, .int .i64 0, str [], .slice none 0 0, .slice none 0 0, .slice none 0 0, str [], str [], .int .i64 0, .int .i64 0] := (BB5.out.set_ 7 (.int .i64 a5)).near hn (Nat.ne_of_gt GB.out.1)
                  have BA6 := Lib.hid hA
                  have BB6 := Lib.hid hB
                  have N6 := Lib.hid ((N5.out.set2 (p := ⟨B, 7, none⟩) GB.out.2.2.1 (.int .i64 a5)).trans hn)
                  have Y6 := Lib.hid h6
                  clear hs hn hp hA hB h6
                  have cB6 := fun i => BB6.out.cell i
                  have fB6 := fun i => BB6.out.frozen i
                  have Rq := R6.out
                  rw [if_pos H4.out] at Rq
                  have R6z := Lib.hid Rq
                  clear Rq
                  go_wp2_with fail
                  refine (number_any _ (S6.out.cell (a := ⟨B, 8, none⟩) GB.out.1 GB.out.2.1 (.int .i64 a6))).mono ?_
                  intro e w7 hp
                  rcases h7 : numP r6 with ⟨a7, r7⟩ | ⟨b7, r7⟩
                  · obtain ⟨v7, rfl, rfl, hs, hn⟩ := ppost_ok h7 hp
                    have R7 := Lib.hid (R6z.out.trans (bnd_ok h7))
                    have S7 := Lib.hid hs
                    have hA : Blk w7 A 51 #[.int .i64 0, str [], .int .i64 0, str [], str [], .slice none 0 0, .slice none 0 0, .int .i64 0, .int .i64 0, .int .i64 0, .slice none 0 0, str [], str [], .slice none 0 0, .slice none 0 0, .slice none 0 0, .int .i64 0, str [], .slice none 0 0, .slice none 0 0, .slice none 0 0, str [], str [], .int .i64 0, .int .i64 0] := (BA6.out.far (p := ⟨B, 8, none⟩) (Nat.ne_of_lt GB.out.2.2.2) (.int .i64 a6)).near hn (Nat.ne_of_gt G.out.1)
                    have hB : Blk w7 B 51 #[.int .i64 3, str a1, .int .i64 0, str a3.1, str a3.2, .slice none 0 0, .slice none 0 0, .int .i64 a5, .int .i64 a6, .int .i64 0, .slice none 0 0, str [], str [], .slice none 0 0, .slice none 0 0, .slice none 0 0, .int .i64 0, str [], .slice none 0 0, .slice none 0 0, .slice none 0 0, str [], str [], .int .i64 0, .int .i64 0] := (BB6.out.set_ 8 (.int .i64 a6)).near hn (Nat.ne_of_gt GB.out.1)
                    have BA7 := Lib.hid hA
                    have BB7 := Lib.hid hB
                    have N7 := Lib.hid ((N6.out.set2 (p := ⟨B, 8, none⟩) GB.out.2.2.1 (.int .i64 a6)).trans hn)
                    have Y7 := Lib.hid h7
                    clear hs hn hp hA hB h7
                    have cB7 := fun i => BB7.out.cell i
                    have fB7 := fun i => BB7.out.frozen i
                    go_wp2_with fail
                    refine (expect_one [59] (by decide) _ _ _ (by first | omega | (simp; omega) | simp) (S7.out.cell (a := ⟨B, 9, none⟩) GB.out.1 GB.out.2.1 (.int .i64 a7))).mono ?_
                    intro e w8 hp
                    rcases h8 : expP [59] r7 with ⟨a8, r8⟩ | ⟨b8, r8⟩
                    · obtain ⟨v8, rfl, rfl, hs, hn⟩ := ppost_ok h8 hp
                      have R8 := Lib.hid (R7.out.trans (bnd_ok h8))
                      have S8 := Lib.hid hs
                      have hA : Blk w8 A 51 #[.int .i64 0, str [], .int .i64 0, str [], str [], .slice none 0 0, .slice none 0 0, .int .i64 0, .int .i64 0, .int .i64 0, .slice none 0 0, str [], str [], .slice none 0 0, .slice none 0 0, .slice none 0 0, .int .i64 0, str [], .slice none 0 0, .slice none 0 0, .slice none 0 0, str [], str [], .int .i64 0, .int .i64 0] := (BA7.out.far (p := ⟨B, 9, none⟩) (Nat.ne_of_lt GB.out.2.2.2) (.int .i64 a7)).near hn (Nat.ne_of_gt G.out.1)
                      have hB : Blk w8 B 51 #[.int .i64 3, str a1, .int .i64 0, str a3.1, str a3.2, .slice none 0 0, .slice none 0 0, .int .i64 a5, .int .i64 a6, .int .i64 a7, .slice none 0 0, str [], str [], .slice none 0 0, .slice none 0 0, .slice none 0 0, .int .i64 0, str [], .slice none 0 0, .slice none 0 0, .slice none 0 0, str [], str [], .int .i64 0, .int .i64 0] := (BB7.out.set_ 9 (.int .i64 a7)).near hn (Nat.ne_of_gt GB.out.1)
                      have BA8 := Lib.hid hA
                      have BB8 := Lib.hid hB
                      have N8 := Lib.hid ((N7.out.set2 (p := ⟨B, 9, none⟩) GB.out.2.2.1 (.int .i64 a7)).trans hn)
                      have Y8 := Lib.hid h8
                      clear hs hn hp hA hB h8
                      have HL := Lib.hid (show Blk _ B 51 #[.int .i64 3, str a1, .int .i64 0, str a3.1, str a3.2, .slice none 0 0, .slice none 0 0, .int .i64 a5, .int .i64 a6, .int .i64 a7, .slice none 0 0, str [], str [], .slice none 0 0, .slice none 0 0, .slice none 0 0, .int .i64 0, str [], .slice none 0 0, .slice none 0 0, .slice none 0 0, str [], str [], .int .i64 0, .int .i64 0] from BB8.out)
                      have HQ := Lib.hid BA8.out
                      go_wp2_with (first | (refine wpList_load_row rfl 51 (.tmp 3) rfl B rfl _ #[.int .i64 3, str a1, .int .i64 0, str a3.1, str a3.2, .slice none 0 0, .slice none 0 0, .int .i64 a5, .int .i64 a6, .int .i64 a7, .slice none 0 0, str [], str [], .slice none 0 0, .slice none 0 0, .slice none 0 0, .int .i64 0, str [], .slice none 0 0, .slice none 0 0, .slice none 0 0, str [], str [], .int .i64 0, .int .i64 0] _ _ HL.out Tryz.underlying51 rfl infoIt ?_) | (refine wpList_store_row rfl 51 (.tmp 2) (.tmp 43) rfl A #[.int .i64 3, str a1, .int .i64 0, str a3.1, str a3.2, .slice none 0 0, .slice none 0 0, .int .i64 a5, .int .i64 a6, .int .i64 a7, .slice none 0 0, str [], str [], .slice none 0 0, .slice none 0 0, .slice none 0 0, .int .i64 0, str [], .slice none 0 0, .slice none 0 0, .slice none 0 0, str [], str [], .int .i64 0, .int .i64 0] rfl rfl _ _ HQ.out infoIt rfl (by simp [oc_int, oc_str, oc_slice]) ?_))
                      have hres := (HQ.out.row #[.int .i64 3, str a1, .int .i64 0, str a3.1, str a3.2, .slice none 0 0, .slice none 0 0, .int .i64 a5, .int .i64 a6, .int .i64 a7, .slice none 0 0, str [], str [], .slice none 0 0, .slice none 0 0, .slice none 0 0, .int .i64 0, str [], .slice none 0 0, .slice none 0 0, .slice none 0 0, str [], str [], .int .i64 0, .int .i64 0])
                      exact bodyPost_ret (v := .agg #[.int .i64 3, str a1, .int .i64 0, str a3.1, str a3.2, .slice none 0 0, .slice none 0 0, .int .i64 a5, .int .i64 a6, .int .i64 a7, .slice none 0 0, str [], str [], .slice none 0 0, .slice none 0 0, .slice none 0 0, .int .i64 0, str [], .slice none 0 0, .slice none 0 0, .slice none 0 0, str [], str [], .int .i64 0, .int .i64 0]) (results_cell_row rfl _ _ A _ _ _ _ rfl hres Tryz.underlying51 rfl infoIt) rfl
                        (ppost_of_ok (V := isIt A) (R8.out.trans rfl) ⟨⟨.slice none 0 0, .slice none 0 0, .slice none 0 0, .slice none 0 0, .slice none 0 0, .slice none 0 0, .slice none 0 0, .slice none 0 0, .slice none 0 0⟩, rfl, { cols := Lst.nil _, names := Lst.nil _, terms := Lst.nil _, fixed := Lst.nil _, vars := Lst.nil _, conds := Lst.nil _, ex := exC_zero _ _ }⟩ (S8.out.row G.out.1 G.out.2 _) (N8.out.row (Nat.le_of_eq HA.out) _))
                    · obtain ⟨rfl, hn⟩ := ppost_bad h8 hp
                      exact ⟨rfl, ppost_of_bad (R7.out.trans (bnd_bad h8)) ((N7.out.set2 (p := ⟨B, 9, none⟩) GB.out.2.2.1 (.int .i64 a7)).trans hn)⟩
                  · obtain ⟨rfl, hn⟩ := ppost_bad h7 hp
                    exact ⟨rfl, ppost_of_bad (R6z.out.trans (bnd_bad h7)) ((N6.out.set2 (p := ⟨B, 8, none⟩) GB.out.2.2.1 (.int .i64 a6)).trans hn)⟩
                · obtain ⟨rfl, hn⟩ := ppost_bad h6 hp
                  exact ⟨rfl, ppost_of_bad (R5z.out.trans (bnd_bad h6)) ((N5.out.set2 (p := ⟨B, 7, none⟩) GB.out.2.2.1 (.int .i64 a5)).trans hn)⟩
              · skip
                have d3 : (a5 == 3) = false := by rw [beq_eq_false_iff_ne]; omega
                have d4 : (a5 == 4) = false := by rw [beq_eq_false_iff_ne]; omega
                have Rq := R5.out
                rw [if_neg (show ¬ (3 : Int) ≤ a5 by have := (one_rng Y5.out).2; simp at this; omega), pur_bnd, if_neg (show ¬ a5 = 4 by omega), pur_bnd] at Rq
                have R5z := Lib.hid Rq
                clear Rq
                clear h3 h4
                go_wp2_with fail
                refine (expect_one [59] (by decide) _ _ _ (by first | omega | (simp; omega) | simp) (S5.out.cell (a := ⟨B, 7, none⟩) GB.out.1 GB.out.2.1 (.int .i64 a5))).mono ?_
                intro e w6 hp
                rcases h6 : expP [59] r5 with ⟨a6, r6⟩ | ⟨b6, r6⟩
                · obtain ⟨v6, rfl, rfl, hs, hn⟩ := ppost_ok h6 hp
                  have R6 := Lib.hid (R5z.out.trans (bnd_ok h6))
                  have S6 := Lib.hid hs
                  have hA : Blk w6 A 51 #[.int .i64 0, str [], .int .i64 0, str [], str [], .slice none 0 0, .slice none 0 0, .int .i64 0, .int .i64 0, .int .i64 0, .slice none 0 0, str [], str [], .slice none 0 0, .slice none 0 0, .slice none 0 0, .int .i64 0, str [], .slice none 0 0, .slice none 0 0, .slice none 0 0, str [], str [], .int .i64 0, .int .i64 0] := (BA5.out.far (p := ⟨B, 7, none⟩) (Nat.ne_of_lt GB.out.2.2.2) (.int .i64 a5)).near hn (Nat.ne_of_gt G.out.1)
                  have hB : Blk w6 B 51 #[.int .i64 3, str a1, .int .i64 0, str a3.1, str a3.2, .slice none 0 0, .slice none 0 0, .int .i64 a5, .int .i64 0, .int .i64 0, .slice none 0 0, str [], str [], .slice none 0 0, .slice none 0 0, .slice none 0 0, .int .i64 0, str [], .slice none 0 0, .slice none 0 0, .slice none 0 0, str [], str [], .int .i64 0, .int .i64 0] := (BB5.out.set_ 7 (.int .i64 a5)).near hn (Nat.ne_of_gt GB.out.1)
                  have BA6 := Lib.hid hA
                  have BB6 := Lib.hid hB
                  have N6 := Lib.hid ((N5.out.set2 (p := ⟨B, 7, none⟩) GB.out.2.2.1 (.int .i64 a5)).trans hn)
                  have Y6 := Lib.hid h6
                  clear hs hn hp hA hB h6
                  have HL := Lib.hid (show Blk _ B 51 #[.int .i64 3, str a1, .int .i64 0, str a3.1, str a3.2, .slice none 0 0, .slice none 0 0, .int .i64 a5, .int .i64 0, .int .i64 0, .slice none 0 0, str [], str [], .slice none 0 0, .slice none 0 0, .slice none 0 0, .int .i64 0, str [], .slice none 0 0, .slice none 0 0, .slice none 0 0, str [], str [], .int .i64 0, .int .i64 0] from BB6.out)
                  have HQ := Lib.hid BA6.out
                  go_wp2_with (first | (refine wpList_load_row rfl 51 (.tmp 3) rfl B rfl _ #[.int .i64 3, str a1, .int .i64 0, str a3.1, str a3.2, .slice none 0 0, .slice none 0 0, .int .i64 a5, .int .i64 0, .int .i64 0, .slice none 0 0, str [], str [], .slice none 0 0, .slice none 0 0, .slice none 0 0, .int .i64 0, str [], .slice none 0 0, .slice none 0 0, .slice none 0 0, str [], str [], .int .i64 0, .int .i64 0] _ _ HL.out Tryz.underlying51 rfl infoIt ?_) | (refine wpList_store_row rfl 51 (.tmp 2) (.tmp 43) rfl A #[.int .i64 3, str a1, .int .i64 0, str a3.1, str a3.2, .slice none 0 0, .slice none 0 0, .int .i64 a5, .int .i64 0, .int .i64 0, .slice none 0 0, str [], str [], .slice none 0 0, .slice none 0 0, .slice none 0 0, .int .i64 0, str [], .slice none 0 0, .slice none 0 0, .slice none 0 0, str [], str [], .int .i64 0, .int .i64 0] rfl rfl _ _ HQ.out infoIt rfl (by simp [oc_int, oc_str, oc_slice]) ?_))
                  have hres := (HQ.out.row #[.int .i64 3, str a1, .int .i64 0, str a3.1, str a3.2, .slice none 0 0, .slice none 0 0, .int .i64 a5, .int .i64 0, .int .i64 0, .slice none 0 0, str [], str [], .slice none 0 0, .slice none 0 0, .slice none 0 0, .int .i64 0, str [], .slice none 0 0, .slice none 0 0, .slice none 0 0, str [], str [], .int .i64 0, .int .i64 0])
                  exact bodyPost_ret (v := .agg #[.int .i64 3, str a1, .int .i64 0, str a3.1, str a3.2, .slice none 0 0, .slice none 0 0, .int .i64 a5, .int .i64 0, .int .i64 0, .slice none 0 0, str [], str [], .slice none 0 0, .slice none 0 0, .slice none 0 0, .int .i64 0, str [], .slice none 0 0, .slice none 0 0, .slice none 0 0, str [], str [], .int .i64 0, .int .i64 0]) (results_cell_row rfl _ _ A _ _ _ _ rfl hres Tryz.underlying51 rfl infoIt) rfl
                    (ppost_of_ok (V := isIt A) (R6.out.trans rfl) ⟨⟨.slice none 0 0, .slice none 0 0, .slice none 0 0, .slice none 0 0, .slice none 0 0, .slice none 0 0, .slice none 0 0, .slice none 0 0, .slice none 0 0⟩, rfl, { cols := Lst.nil _, names := Lst.nil _, terms := Lst.nil _, fixed := Lst.nil _, vars := Lst.nil _, conds := Lst.nil _, ex := exC_zero _ _ }⟩ (S6.out.row G.out.1 G.out.2 _) (N6.out.row (Nat.le_of_eq HA.out) _))
                · obtain ⟨rfl, hn⟩ := ppost_bad h6 hp
                  exact ⟨rfl, ppost_of_bad (R5z.out.trans (bnd_bad h6)) ((N5.out.set2 (p := ⟨B, 7, none⟩) GB.out.2.2.1 (.int .i64 a5)).trans hn)⟩
          · obtain ⟨rfl, hn⟩ := ppost_bad h5 hp
            exact ⟨rfl, ppost_of_bad (R4.out.trans (bnd_bad h5)) ((N4.out.trans (Tch.of_below HM4.out)).trans hn)⟩
        · obtain ⟨rfl, hn⟩ := ppost_bad h4 hp
          exact ⟨rfl, ppost_of_bad (R3.out.trans (bnd_bad h4)) (((N3.out.set2 (p := ⟨B, 3, none⟩) GB.out.2.2.1 (str a3.1)).set2 (p := ⟨B, 4, none⟩) GB.out.2.2.1 (str a3.2)).trans hn)⟩
      · obtain ⟨rfl, hn⟩ := ppost_bad h3 hp
        exact ⟨rfl, ppost_of_bad (R2.out.trans (bnd_bad h3)) (N2.out.trans hn)⟩
    · obtain ⟨rfl, hn⟩ := ppost_bad h2 hp
      exact ⟨rfl, ppost_of_bad (R1.out.trans (bnd_bad h2)) ((N1.out.trans (Tch.of_below (below_box _ (.cells #[.int .i64 3, str a1, .int .i64 0, str [], str [], .slice none 0 0, .slice none 0 0, .int .i64 0, .int .i64 0, .int .i64 0, .slice none 0 0, str [], str [], .slice none 0 0, .slice none 0 0, .slice none 0 0, .int .i64 0, str [], .slice none 0 0, .slice none 0 0, .slice none 0 0, str [], str [], .int .i64 0, .int .i64 0] 51)))).trans hn)⟩
  · obtain ⟨rfl, hn⟩ := ppost_bad h1 hp
    exact ⟨rfl, ppost_of_bad (R0.out.trans (bnd_bad h1)) ((N0.out.trans (Tch.of_below (below_box _ (.cells #[.int .i64 0, str [], .int .i64 0, str [], str [], .slice none 0 0, .slice none 0 0, .int .i64 0, .int .i64 0, .int .i64 0, .slice none 0 0, str [], str [], .slice none 0 0, .slice none 0 0, .slice none 0 0, .int .i64 0, str [], .slice none 0 0, .slice none 0 0, .slice none 0 0, str [], str [], .int .i64 0, .int .i64 0] 51)))).trans hn)⟩
end Go.Proofs.YtcgkaecaddpenaaGreatDoor
