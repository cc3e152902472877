/- The program's items, further ones. -/
import Derived.Test.YtcgkaecaddpenaaGreatDoorPsPgN
namespace Go.Proofs.YtcgkaecaddpenaaGreatDoor
open Go.RowKit
open L7 (Tk)
open L8
set_option linter.unusedSimpArgs false

set_option maxRecDepth 100000 in
set_option maxHeartbeats 8000000 in
theorem include_any {p : Ps} {r : List Tk} {lv : Int} (w : World) (h : Sta w p r lv) :
    Calls Tryz.prog 51 #[ptr p.g] w (PPost p lv w (isIt w.heap.size) (includeP r)) := by
  obtain ⟨R, hR⟩ : ∃ R, includeP r = R := ⟨_, rfl⟩
  rw [hR]
  have R0 := Lib.hid hR.symm
  have G := Lib.hid (And.intro h.lt h.lt2)
  have S0 := Lib.hid h
  have N0 := Lib.hid (Tch.refl (fun b => b = p.g) w)
  obtain ⟨A, hA⟩ : ∃ A, w.heap.size = A := ⟨_, rfl⟩
  have HA := Lib.hid hA
  rw [hA] at G
  rw [hA]
  clear hR h
  go_enter Tryz.func51, Tryz.ntmps51
  go_wp2_with fail
  refine (name_any _ (S0.out.keep (below_box _ (.cells #[.int .i64 0, str [], .int .i64 0, str [], str [], .slice none 0 0, .slice none 0 0, .int .i64 0, .int .i64 0, .int .i64 0, .slice none 0 0, str [], str [], .slice none 0 0, .slice none 0 0, .slice none 0 0, .int .i64 0, str [], .slice none 0 0, .slice none 0 0, .slice none 0 0, str [], str [], .int .i64 0, .int .i64 0] 51)))).mono ?_
  intro e w1 hp
  rcases h1 : nameP r with ⟨a1, r1⟩ | ⟨b1, r1⟩
  · obtain ⟨v1, rfl, rfl, hs, hn⟩ := ppost_ok h1 hp
    have R1 := Lib.hid (R0.out.trans (bnd_ok h1))
    have S1 := Lib.hid hs
    have hA : Blk w1 A 51 #[.int .i64 0, str [], .int .i64 0, str [], str [], .slice none 0 0, .slice none 0 0, .int .i64 0, .int .i64 0, .int .i64 0, .slice none 0 0, str [], str [], .slice none 0 0, .slice none 0 0, .slice none 0 0, .int .i64 0, str [], .slice none 0 0, .slice none 0 0, .slice none 0 0, str [], str [], .int .i64 0, .int .i64 0] := by
      have q := ((Blk.new w 51 #[.int .i64 0, str [], .int .i64 0, str [], str [], .slice none 0 0, .slice none 0 0, .int .i64 0, .int .i64 0, .int .i64 0, .slice none 0 0, str [], str [], .slice none 0 0, .slice none 0 0, .slice none 0 0, .int .i64 0, str [], .slice none 0 0, .slice none 0 0, .slice none 0 0, str [], str [], .int .i64 0, .int .i64 0]) : Blk _ _ _ _)
      rw [HA.out] at q
      exact q.near hn (Nat.ne_of_gt G.out.1)
    have BA1 := Lib.hid hA
    have N1 := Lib.hid ((N0.out.trans (Tch.of_below (below_box _ (.cells #[.int .i64 0, str [], .int .i64 0, str [], str [], .slice none 0 0, .slice none 0 0, .int .i64 0, .int .i64 0, .int .i64 0, .slice none 0 0, str [], str [], .slice none 0 0, .slice none 0 0, .slice none 0 0, .int .i64 0, str [], .slice none 0 0, .slice none 0 0, .slice none 0 0, str [], str [], .int .i64 0, .int .i64 0] 51)))).trans hn)
    have Y1 := Lib.hid h1
    clear hs hn hp hA h1
    obtain ⟨B, hB⟩ : ∃ x, w1.heap.size = x := ⟨_, rfl⟩
    have HB := Lib.hid hB
    have GB := Lib.hid (show p.g < B ∧ p.b < B ∧ w.heap.size ≤ B ∧ A < B from by have q1 := (S1.out).lt; have q2 := (S1.out).lt2; have q3 := (N1.out).size; rw [hB] at q1 q2 q3; have q4 := (BA1.out).lt; have q5 := HA.out; rw [hB] at q4; exact ⟨q1, q2, q3, by omega⟩)
    go_wp2_with (refine wpList_store_new rfl 51 (.tmp 3) (.tmp 6) rfl B _ #[.int .i64 8, str a1, .int .i64 0, str [], str [], .slice none 0 0, .slice none 0 0, .int .i64 0, .int .i64 0, .int .i64 0, .slice none 0 0, str [], str [], .slice none 0 0, .slice none 0 0, .slice none 0 0, .int .i64 0, str [], .slice none 0 0, .slice none 0 0, .slice none 0 0, str [], str [], .int .i64 0, .int .i64 0] HB.out rfl rfl infoIt rfl (by simp [oc_int, oc_str, oc_slice]) ?_)
    refine (place_any _ (S1.out.keep (below_box _ (.cells #[.int .i64 8, str a1, .int .i64 0, str [], str [], .slice none 0 0, .slice none 0 0, .int .i64 0, .int .i64 0, .int .i64 0, .slice none 0 0, str [], str [], .slice none 0 0, .slice none 0 0, .slice none 0 0, .int .i64 0, str [], .slice none 0 0, .slice none 0 0, .slice none 0 0, str [], str [], .int .i64 0, .int .i64 0] 51)))).mono ?_
    intro e w2 hp
    rcases h2 : placeP r1 with ⟨a2, r2⟩ | ⟨b2, r2⟩
    · obtain ⟨v2, rfl, rfl, hs, hn⟩ := ppost_ok h2 hp
      have R2 := Lib.hid (R1.out.trans (bnd_ok h2))
      have S2 := Lib.hid hs
      have hA : Blk w2 A 51 #[.int .i64 0, str [], .int .i64 0, str [], str [], .slice none 0 0, .slice none 0 0, .int .i64 0, .int .i64 0, .int .i64 0, .slice none 0 0, str [], str [], .slice none 0 0, .slice none 0 0, .slice none 0 0, .int .i64 0, str [], .slice none 0 0, .slice none 0 0, .slice none 0 0, str [], str [], .int .i64 0, .int .i64 0] := (BA1.out.alloc (.cells #[.int .i64 8, str a1, .int .i64 0, str [], str [], .slice none 0 0, .slice none 0 0, .int .i64 0, .int .i64 0, .int .i64 0, .slice none 0 0, str [], str [], .slice none 0 0, .slice none 0 0, .slice none 0 0, .int .i64 0, str [], .slice none 0 0, .slice none 0 0, .slice none 0 0, str [], str [], .int .i64 0, .int .i64 0] 51)).near hn (Nat.ne_of_gt G.out.1)
      have hB : Blk w2 B 51 #[.int .i64 8, str a1, .int .i64 0, str [], str [], .slice none 0 0, .slice none 0 0, .int .i64 0, .int .i64 0, .int .i64 0, .slice none 0 0, str [], str [], .slice none 0 0, .slice none 0 0, .slice none 0 0, .int .i64 0, str [], .slice none 0 0, .slice none 0 0, .slice none 0 0, str [], str [], .int .i64 0, .int .i64 0] := by
        have q := ((Blk.new w1 51 #[.int .i64 8, str a1, .int .i64 0, str [], str [], .slice none 0 0, .slice none 0 0, .int .i64 0, .int .i64 0, .int .i64 0, .slice none 0 0, str [], str [], .slice none 0 0, .slice none 0 0, .slice none 0 0, .int .i64 0, str [], .slice none 0 0, .slice none 0 0, .slice none 0 0, str [], str [], .int .i64 0, .int .i64 0]) : Blk _ _ _ _)
        rw [HB.out] at q
        exact q.near hn (Nat.ne_of_gt GB.out.1)
      have BA2 := Lib.hid hA
      have BB2 := Lib.hid hB
      have N2 := Lib.hid ((N1.out.trans (Tch.of_below (below_box _ (.cells #[.int .i64 8, str a1, .int .i64 0, str [], str [], .slice none 0 0, .slice none 0 0, .int .i64 0, .int .i64 0, .int .i64 0, .slice none 0 0, str [], str [], .slice none 0 0, .slice none 0 0, .slice none 0 0, .int .i64 0, str [], .slice none 0 0, .slice none 0 0, .slice none 0 0, str [], str [], .int .i64 0, .int .i64 0] 51)))).trans hn)
      have Y2 := Lib.hid h2
      clear hs hn hp hA hB h2
      have cB2 := fun i => BB2.out.cell i
      have fB2 := fun i => BB2.out.frozen i
      go_wp2_with fail
      refine (expect_one [105, 110] (by decide) _ _ _ (by first | omega | (simp; omega) | simp) ((S2.out.cell (a := ⟨B, 3, none⟩) GB.out.1 GB.out.2.1 (str a2.1)).cell (a := ⟨B, 4, none⟩) GB.out.1 GB.out.2.1 (str a2.2))).mono ?_
      intro e w3 hp
      rcases h3 : expP [105, 110] r2 with ⟨a3, r3⟩ | ⟨b3, r3⟩
      · obtain ⟨v3, rfl, rfl, hs, hn⟩ := ppost_ok h3 hp
        have R3 := Lib.hid (R2.out.trans (bnd_ok h3))
        have S3 := Lib.hid hs
        have hA : Blk w3 A 51 #[.int .i64 0, str [], .int .i64 0, str [], str [], .slice none 0 0, .slice none 0 0, .int .i64 0, .int .i64 0, .int .i64 0, .slice none 0 0, str [], str [], .slice none 0 0, .slice none 0 0, .slice none 0 0, .int .i64 0, str [], .slice none 0 0, .slice none 0 0, .slice none 0 0, str [], str [], .int .i64 0, .int .i64 0] := ((BA2.out.far (p := ⟨B, 3, none⟩) (Nat.ne_of_lt GB.out.2.2.2) (str a2.1)).far (p := ⟨B, 4, none⟩) (Nat.ne_of_lt GB.out.2.2.2) (str a2.2)).near hn (Nat.ne_of_gt G.out.1)
        have hB : Blk w3 B 51 #[.int .i64 8, str a1, .int .i64 0, str a2.1, str a2.2, .slice none 0 0, .slice none 0 0, .int .i64 0, .int .i64 0, .int .i64 0, .slice none 0 0, str [], str [], .slice none 0 0, .slice none 0 0, .slice none 0 0, .int .i64 0, str [], .slice none 0 0, .slice none 0 0, .slice none 0 0, str [], str [], .int .i64 0, .int .i64 0] := ((BB2.out.set_ 3 (str a2.1)).set_ 4 (str a2.2)).near hn (Nat.ne_of_gt GB.out.1)
        have BA3 := Lib.hid hA
        have BB3 := Lib.hid hB
        have N3 := Lib.hid (((N2.out.set2 (p := ⟨B, 3, none⟩) GB.out.2.2.1 (str a2.1)).set2 (p := ⟨B, 4, none⟩) GB.out.2.2.1 (str a2.2)).trans hn)
        have Y3 := Lib.hid h3
        clear hs hn hp hA hB h3
        go_wp2_with fail
        refine (place_any _ S3.out).mono ?_
        intro e w4 hp
        rcases h4 : placeP r3 with ⟨a4, r4⟩ | ⟨b4, r4⟩
        · obtain ⟨v4, rfl, rfl, hs, hn⟩ := ppost_ok h4 hp
          have R4 := Lib.hid (R3.out.trans (bnd_ok h4))
          have S4 := Lib.hid hs
          have hA : Blk w4 A 51 #[.int .i64 0, str [], .int .i64 0, str [], str [], .slice none 0 0, .slice none 0 0, .int .i64 0, .int .i64 0, .int .i64 0, .slice none 0 0, str [], str [], .slice none 0 0, .slice none 0 0, .slice none 0 0, .int .i64 0, str [], .slice none 0 0, .slice none 0 0, .slice none 0 0, str [], str [], .int .i64 0, .int .i64 0] := BA3.out.near hn (Nat.ne_of_gt G.out.1)
          have hB : Blk w4 B 51 #[.int .i64 8, str a1, .int .i64 0, str a2.1, str a2.2, .slice none 0 0, .slice none 0 0, .int .i64 0, .int .i64 0, .int .i64 0, .slice none 0 0, str [], str [], .slice none 0 0, .slice none 0 0, .slice none 0 0, .int .i64 0, str [], .slice none 0 0, .slice none 0 0, .slice none 0 0, str [], str [], .int .i64 0, .int .i64 0] := BB3.out.near hn (Nat.ne_of_gt GB.out.1)
          have BA4 := Lib.hid hA
          have BB4 := Lib.hid hB
          have N4 := Lib.hid (N3.out.trans hn)
          have Y4 := Lib.hid h4
          clear hs hn hp hA hB h4
          have cB4 := fun i => BB4.out.cell i
          have fB4 := fun i => BB4.out.frozen i
          go_wp2_with fail
          refine (expect_one [59] (by decide) _ _ _ (by first | omega | (simp; omega) | simp) ((S4.out.cell (a := ⟨B, 11, none⟩) GB.out.1 GB.out.2.1 (str a4.1)).cell (a := ⟨B, 12, none⟩) GB.out.1 GB.out.2.1 (str a4.2))).mono ?_
          intro e w5 hp
          rcases h5 : expP [59] r4 with ⟨a5, r5⟩ | ⟨b5, r5⟩
          · obtain ⟨v5, rfl, rfl, hs, hn⟩ := ppost_ok h5 hp
            have R5 := Lib.hid (R4.out.trans (bnd_ok h5))
            have S5 := Lib.hid hs
            have hA : Blk w5 A 51 #[.int .i64 0, str [], .int .i64 0, str [], str [], .slice none 0 0, .slice none 0 0, .int .i64 0, .int .i64 0, .int .i64 0, .slice none 0 0, str [], str [], .slice none 0 0, .slice none 0 0, .slice none 0 0, .int .i64 0, str [], .slice none 0 0, .slice none 0 0, .slice none 0 0, str [], str [], .int .i64 0, .int .i64 0] := ((BA4.out.far (p := ⟨B, 11, none⟩) (Nat.ne_of_lt GB.out.2.2.2) (str a4.1)).far (p := ⟨B, 12, none⟩) (Nat.ne_of_lt GB.out.2.2.2) (str a4.2)).near hn (Nat.ne_of_gt G.out.1)
            have hB : Blk w5 B 51 #[.int .i64 8, str a1, .int .i64 0, str a2.1, str a2.2, .slice none 0 0, .slice none 0 0, .int .i64 0, .int .i64 0, .int .i64 0, .slice none 0 0, str a4.1, str a4.2, .slice none 0 0, .slice none 0 0, .slice none 0 0, .int .i64 0, str [], .slice none 0 0, .slice none 0 0, .slice none 0 0, str [], str [], .int .i64 0, .int .i64 0] := ((BB4.out.set_ 11 (str a4.1)).set_ 12 (str a4.2)).near hn (Nat.ne_of_gt GB.out.1)
            have BA5 := Lib.hid hA
            have BB5 := Lib.hid hB
            have N5 := Lib.hid (((N4.out.set2 (p := ⟨B, 11, none⟩) GB.out.2.2.1 (str a4.1)).set2 (p := ⟨B, 12, none⟩) GB.out.2.2.1 (str a4.2)).trans hn)
            have Y5 := Lib.hid h5
            clear hs hn hp hA hB h5
            have HL := Lib.hid (show Blk _ B 51 #[.int .i64 8, str a1, .int .i64 0, str a2.1, str a2.2, .slice none 0 0, .slice none 0 0, .int .i64 0, .int .i64 0, .int .i64 0, .slice none 0 0, str a4.1, str a4.2, .slice none 0 0, .slice none 0 0, .slice none 0 0, .int .i64 0, str [], .slice none 0 0, .slice none 0 0, .slice none 0 0, str [], str [], .int .i64 0, .int .i64 0] from BB5.out)
            have HQ := Lib.hid BA5.out
            go_wp2_with (first | (refine wpList_load_row rfl 51 (.tmp 3) rfl B rfl _ #[.int .i64 8, str a1, .int .i64 0, str a2.1, str a2.2, .slice none 0 0, .slice none 0 0, .int .i64 0, .int .i64 0, .int .i64 0, .slice none 0 0, str a4.1, str a4.2, .slice none 0 0, .slice none 0 0, .slice none 0 0, .int .i64 0, str [], .slice none 0 0, .slice none 0 0, .slice none 0 0, str [], str [], .int .i64 0, .int .i64 0] _ _ HL.out Tryz.underlying51 rfl infoIt ?_) | (refine wpList_store_row rfl 51 (.tmp 2) (.tmp 27) rfl A #[.int .i64 8, str a1, .int .i64 0, str a2.1, str a2.2, .slice none 0 0, .slice none 0 0, .int .i64 0, .int .i64 0, .int .i64 0, .slice none 0 0, str a4.1, str a4.2, .slice none 0 0, .slice none 0 0, .slice none 0 0, .int .i64 0, str [], .slice none 0 0, .slice none 0 0, .slice none 0 0, str [], str [], .int .i64 0, .int .i64 0] rfl rfl _ _ HQ.out infoIt rfl (by simp [oc_int, oc_str, oc_slice]) ?_))
            have hres := (HQ.out.row #[.int .i64 8, str a1, .int .i64 0, str a2.1, str a2.2, .slice none 0 0, .slice none 0 0, .int .i64 0, .int .i64 0, .int .i64 0, .slice none 0 0, str a4.1, str a4.2, .slice none 0 0, .slice none 0 0, .slice none 0 0, .int .i64 0, str [], .slice none 0 0, .slice none 0 0, .slice none 0 0, str [], str [], .int .i64 0, .int .i64 0])
            exact bodyPost_ret (v := .agg #[.int .i64 8, str a1, .int .i64 0, str a2.1, str a2.2, .slice none 0 0, .slice none 0 0, .int .i64 0, .int .i64 0, .int .i64 0, .slice none 0 0, str a4.1, str a4.2, .slice none 0 0, .slice none 0 0, .slice none 0 0, .int .i64 0, str [], .slice none 0 0, .slice none 0 0, .slice none 0 0, str [], str [], .int .i64 0, .int .i64 0]) (results_cell_row rfl _ _ A _ _ _ _ rfl hres Tryz.underlying51 rfl infoIt) rfl
              (ppost_of_ok (V := isIt A) (R5.out.trans rfl) ⟨⟨.slice none 0 0, .slice none 0 0, .slice none 0 0, .slice none 0 0, .slice none 0 0, .slice none 0 0, .slice none 0 0, .slice none 0 0, .slice none 0 0⟩, rfl, { cols := Lst.nil _, names := Lst.nil _, terms := Lst.nil _, fixed := Lst.nil _, vars := Lst.nil _, conds := Lst.nil _, ex := exC_zero _ _ }⟩ (S5.out.row G.out.1 G.out.2 _) (N5.out.row (Nat.le_of_eq HA.out) _))
          · obtain ⟨rfl, hn⟩ := ppost_bad h5 hp
            exact ⟨rfl, ppost_of_bad (R4.out.trans (bnd_bad h5)) (((N4.out.set2 (p := ⟨B, 11, none⟩) GB.out.2.2.1 (str a4.1)).set2 (p := ⟨B, 12, none⟩) GB.out.2.2.1 (str a4.2)).trans hn)⟩
        · obtain ⟨rfl, hn⟩ := ppost_bad h4 hp
          exact ⟨rfl, ppost_of_bad (R3.out.trans (bnd_bad h4)) (N3.out.trans hn)⟩
      · obtain ⟨rfl, hn⟩ := ppost_bad h3 hp
        exact ⟨rfl, ppost_of_bad (R2.out.trans (bnd_bad h3)) (((N2.out.set2 (p := ⟨B, 3, none⟩) GB.out.2.2.1 (str a2.1)).set2 (p := ⟨B, 4, none⟩) GB.out.2.2.1 (str a2.2)).trans hn)⟩
    · obtain ⟨rfl, hn⟩ := ppost_bad h2 hp
      exact ⟨rfl, ppost_of_bad (R1.out.trans (bnd_bad h2)) ((N1.out.trans (Tch.of_below (below_box _ (.cells #[.int .i64 8, str a1, .int .i64 0, str [], str [], .slice none 0 0, .slice none 0 0, .int .i64 0, .int .i64 0, .int .i64 0, .slice none 0 0, str [], str [], .slice none 0 0, .slice none 0 0, .slice none 0 0, .int .i64 0, str [], .slice none 0 0, .slice none 0 0, .slice none 0 0, str [], str [], .int .i64 0, .int .i64 0] 51)))).trans hn)⟩
  · obtain ⟨rfl, hn⟩ := ppost_bad h1 hp
    exact ⟨rfl, ppost_of_bad (R0.out.trans (bnd_bad h1)) ((N0.out.trans (Tch.of_below (below_box _ (.cells #[.int .i64 0, str [], .int .i64 0, str [], str [], .slice none 0 0, .slice none 0 0, .int .i64 0, .int .i64 0, .int .i64 0, .slice none 0 0, str [], str [], .slice none 0 0, .slice none 0 0, .slice none 0 0, .int .i64 0, str [], .slice none 0 0, .slice none 0 0, .slice none 0 0, str [], str [], .int .i64 0, .int .i64 0] 51)))).trans hn)⟩
set_option maxRecDepth 100000 in
set_option maxHeartbeats 8000000 in
theorem deny_any {p : Ps} {r : List Tk} {lv : Int} (w : World) (h : Sta w p r lv) :
    Calls Tryz.prog 52 #[ptr p.g] w (PPost p lv w (isIt w.heap.size) (denyP r)) := by
  obtain ⟨R, hR⟩ : ∃ R, denyP r = R := ⟨_, rfl⟩
  rw [hR]
  have R0 := Lib.hid hR.symm
  have G := Lib.hid (And.intro h.lt h.lt2)
  have S0 := Lib.hid h
  have N0 := Lib.hid (Tch.refl (fun b => b = p.g) w)
  obtain ⟨A, hA⟩ : ∃ A, w.heap.size = A := ⟨_, rfl⟩
  have HA := Lib.hid hA
  rw [hA] at G
  rw [hA]
  clear hR h
  go_enter Tryz.func52, Tryz.ntmps52
  go_wp2_with fail
  refine (name_any _ (S0.out.keep (below_box _ (.cells #[.int .i64 0, str [], .int .i64 0, str [], str [], .slice none 0 0, .slice none 0 0, .int .i64 0, .int .i64 0, .int .i64 0, .slice none 0 0, str [], str [], .slice none 0 0, .slice none 0 0, .slice none 0 0, .int .i64 0, str [], .slice none 0 0, .slice none 0 0, .slice none 0 0, str [], str [], .int .i64 0, .int .i64 0] 51)))).mono ?_
  intro e w1 hp
  rcases h1 : nameP r with ⟨a1, r1⟩ | ⟨b1, r1⟩
  · obtain ⟨v1, rfl, rfl, hs, hn⟩ := ppost_ok h1 hp
    have R1 := Lib.hid (R0.out.trans (bnd_ok h1))
    have S1 := Lib.hid hs
    have hA : Blk w1 A 51 #[.int .i64 0, str [], .int .i64 0, str [], str [], .slice none 0 0, .slice none 0 0, .int .i64 0, .int .i64 0, .int .i64 0, .slice none 0 0, str [], str [], .slice none 0 0, .slice none 0 0, .slice none 0 0, .int .i64 0, str [], .slice none 0 0, .slice none 0 0, .slice none 0 0, str [], str [], .int .i64 0, .int .i64 0] := by
      have q := ((Blk.new w 51 #[.int .i64 0, str [], .int .i64 0, str [], str [], .slice none 0 0, .slice none 0 0, .int .i64 0, .int .i64 0, .int .i64 0, .slice none 0 0, str [], str [], .slice none 0 0, .slice none 0 0, .slice none 0 0, .int .i64 0, str [], .slice none 0 0, .slice none 0 0, .slice none 0 0, str [], str [], .int .i64 0, .int .i64 0]) : Blk _ _ _ _)
      rw [HA.out] at q
      exact q.near hn (Nat.ne_of_gt G.out.1)
    have BA1 := Lib.hid hA
    have N1 := Lib.hid ((N0.out.trans (Tch.of_below (below_box _ (.cells #[.int .i64 0, str [], .int .i64 0, str [], str [], .slice none 0 0, .slice none 0 0, .int .i64 0, .int .i64 0, .int .i64 0, .slice none 0 0, str [], str [], .slice none 0 0, .slice none 0 0, .slice none 0 0, .int .i64 0, str [], .slice none 0 0, .slice none 0 0, .slice none 0 0, str [], str [], .int .i64 0, .int .i64 0] 51)))).trans hn)
    have Y1 := Lib.hid h1
    clear hs hn hp hA h1
    obtain ⟨B, hB⟩ : ∃ x, w1.heap.size = x := ⟨_, rfl⟩
    have HB := Lib.hid hB
    have GB := Lib.hid (show p.g < B ∧ p.b < B ∧ w.heap.size ≤ B ∧ A < B from by have q1 := (S1.out).lt; have q2 := (S1.out).lt2; have q3 := (N1.out).size; rw [hB] at q1 q2 q3; have q4 := (BA1.out).lt; have q5 := HA.out; rw [hB] at q4; exact ⟨q1, q2, q3, by omega⟩)
    go_wp2_with (refine wpList_store_new rfl 51 (.tmp 3) (.tmp 6) rfl B _ #[.int .i64 9, str a1, .int .i64 0, str [], str [], .slice none 0 0, .slice none 0 0, .int .i64 0, .int .i64 0, .int .i64 0, .slice none 0 0, str [], str [], .slice none 0 0, .slice none 0 0, .slice none 0 0, .int .i64 0, str [], .slice none 0 0, .slice none 0 0, .slice none 0 0, str [], str [], .int .i64 0, .int .i64 0] HB.out rfl rfl infoIt rfl (by simp [oc_int, oc_str, oc_slice]) ?_)
    refine (vr_list [44] (by decide) _ (S1.out.keep (below_box _ (.cells #[.int .i64 9, str a1, .int .i64 0, str [], str [], .slice none 0 0, .slice none 0 0, .int .i64 0, .int .i64 0, .int .i64 0, .slice none 0 0, str [], str [], .slice none 0 0, .slice none 0 0, .slice none 0 0, .int .i64 0, str [], .slice none 0 0, .slice none 0 0, .slice none 0 0, str [], str [], .int .i64 0, .int .i64 0] 51)))).mono ?_
    intro e w2 hp
    rcases h2 : listP [44] varP FU r1 with ⟨a2, r2⟩ | ⟨b2, r2⟩
    · obtain ⟨v2, rfl, hv2, hs, hn⟩ := ppost_ok h2 hp
      have R2 := Lib.hid (R1.out.trans (bnd_ok h2))
      obtain ⟨D2, hD2⟩ : ∃ x, (w1.alloc (.cells #[.int .i64 9, str a1, .int .i64 0, str [], str [], .slice none 0 0, .slice none 0 0, .int .i64 0, .int .i64 0, .int .i64 0, .slice none 0 0, str [], str [], .slice none 0 0, .slice none 0 0, .slice none 0 0, .int .i64 0, str [], .slice none 0 0, .slice none 0 0, .slice none 0 0, str [], str [], .int .i64 0, .int .i64 0] 51)).heap.size = x := ⟨_, rfl⟩
      have GD2 := Lib.hid (show p.g < D2 ∧ A < D2 ∧ B < D2 ∧ w.heap.size ≤ D2 from by have q0 := ((S1.out.keep (below_box _ (.cells #[.int .i64 9, str a1, .int .i64 0, str [], str [], .slice none 0 0, .slice none 0 0, .int .i64 0, .int .i64 0, .int .i64 0, .slice none 0 0, str [], str [], .slice none 0 0, .slice none 0 0, .slice none 0 0, .int .i64 0, str [], .slice none 0 0, .slice none 0 0, .slice none 0 0, str [], str [], .int .i64 0, .int .i64 0] 51)))).lt; have q1 := ((BA1.out.alloc (.cells #[.int .i64 9, str a1, .int .i64 0, str [], str [], .slice none 0 0, .slice none 0 0, .int .i64 0, .int .i64 0, .int .i64 0, .slice none 0 0, str [], str [], .slice none 0 0, .slice none 0 0, .slice none 0 0, .int .i64 0, str [], .slice none 0 0, .slice none 0 0, .slice none 0 0, str [], str [], .int .i64 0, .int .i64 0] 51))).lt; have q2 := ((Blk.new w1 51 #[.int .i64 9, str a1, .int .i64 0, str [], str [], .slice none 0 0, .slice none 0 0, .int .i64 0, .int .i64 0, .int .i64 0, .slice none 0 0, str [], str [], .slice none 0 0, .slice none 0 0, .slice none 0 0, .int .i64 0, str [], .slice none 0 0, .slice none 0 0, .slice none 0 0, str [], str [], .int .i64 0, .int .i64 0])).lt; have qq := ((N1.out.trans (Tch.of_below (below_box _ (.cells #[.int .i64 9, str a1, .int .i64 0, str [], str [], .slice none 0 0, .slice none 0 0, .int .i64 0, .int .i64 0, .int .i64 0, .slice none 0 0, str [], str [], .slice none 0 0, .slice none 0 0, .slice none 0 0, .int .i64 0, str [], .slice none 0 0, .slice none 0 0, .slice none 0 0, str [], str [], .int .i64 0, .int .i64 0] 51))))).size; have eA := HA.out; have eB := HB.out; omega)
      rw [hD2] at hv2
      obtain ⟨sA2, sn2, sc2, rfl⟩ := hv2.isSl
      have V2 := Lib.hid hv2
      have K2_2 := Lib.hid (Kept.refl D2 w2)
      clear hv2 hD2
      have S2 := Lib.hid hs
      have hA : Blk w2 A 51 #[.int .i64 0, str [], .int .i64 0, str [], str [], .slice none 0 0, .slice none 0 0, .int .i64 0, .int .i64 0, .int .i64 0, .slice none 0 0, str [], str [], .slice none 0 0, .slice none 0 0, .slice none 0 0, .int .i64 0, str [], .slice none 0 0, .slice none 0 0, .slice none 0 0, str [], str [], .int .i64 0, .int .i64 0] := (BA1.out.alloc (.cells #[.int .i64 9, str a1, .int .i64 0, str [], str [], .slice none 0 0, .slice none 0 0, .int .i64 0, .int .i64 0, .int .i64 0, .slice none 0 0, str [], str [], .slice none 0 0, .slice none 0 0, .slice none 0 0, .int .i64 0, str [], .slice none 0 0, .slice none 0 0, .slice none 0 0, str [], str [], .int .i64 0, .int .i64 0] 51)).near hn (Nat.ne_of_gt G.out.1)
      have hB : Blk w2 B 51 #[.int .i64 9, str a1, .int .i64 0, str [], str [], .slice none 0 0, .slice none 0 0, .int .i64 0, .int .i64 0, .int .i64 0, .slice none 0 0, str [], str [], .slice none 0 0, .slice none 0 0, .slice none 0 0, .int .i64 0, str [], .slice none 0 0, .slice none 0 0, .slice none 0 0, str [], str [], .int .i64 0, .int .i64 0] := by
        have q := ((Blk.new w1 51 #[.int .i64 9, str a1, .int .i64 0, str [], str [], .slice none 0 0, .slice none 0 0, .int .i64 0, .int .i64 0, .int .i64 0, .slice none 0 0, str [], str [], .slice none 0 0, .slice none 0 0, .slice none 0 0, .int .i64 0, str [], .slice none 0 0, .slice none 0 0, .slice none 0 0, str [], str [], .int .i64 0, .int .i64 0]) : Blk _ _ _ _)
        rw [HB.out] at q
        exact q.near hn (Nat.ne_of_gt GB.out.1)
      have BA2 := Lib.hid hA
      have BB2 := Lib.hid hB
      have N2 := Lib.hid ((N1.out.trans (Tch.of_below (below_box _ (.cells #[.int .i64 9, str a1, .int .i64 0, str [], str [], .slice none 0 0, .slice none 0 0, .int .i64 0, .int .i64 0, .int .i64 0, .slice none 0 0, str [], str [], .slice none 0 0, .slice none 0 0, .slice none 0 0, .int .i64 0, str [], .slice none 0 0, .slice none 0 0, .slice none 0 0, str [], str [], .int .i64 0, .int .i64 0] 51)))).trans hn)
      have Y2 := Lib.hid h2
      clear hs hn hp hA hB h2
      have cB2 := fun i => BB2.out.cell i
      have fB2 := fun i => BB2.out.frozen i
      go_wp2_with fail
      refine (conds_any _ (S2.out.cell (a := ⟨B, 14, none⟩) GB.out.1 GB.out.2.1 (.slice sA2 sn2 sc2))).mono ?_
      intro e w3 hp
      rcases h3 : condsP r2 with ⟨a3, r3⟩ | ⟨b3, r3⟩
      · obtain ⟨v3, rfl, hv3, hs, hn⟩ := ppost_ok h3 hp
        have R3 := Lib.hid (R2.out.trans (bnd_ok h3))
        obtain ⟨D3, hD3⟩ : ∃ x, (w2.setCell ⟨B, 14, none⟩ (.slice sA2 sn2 sc2)).heap.size = x := ⟨_, rfl⟩
        have GD3 := Lib.hid (show p.g < D3 ∧ A < D3 ∧ B < D3 ∧ w.heap.size ≤ D3 from by have q0 := ((S2.out.cell (a := ⟨B, 14, none⟩) GB.out.1 GB.out.2.1 (.slice sA2 sn2 sc2))).lt; have q1 := ((BA2.out.far (p := ⟨B, 14, none⟩) (Nat.ne_of_lt GB.out.2.2.2) (.slice sA2 sn2 sc2))).lt; have q2 := ((BB2.out.set_ 14 (.slice sA2 sn2 sc2))).lt; have qq := ((N2.out.set2 (p := ⟨B, 14, none⟩) GB.out.2.2.1 (.slice sA2 sn2 sc2))).size; have eA := HA.out; have eB := HB.out; omega)
        rw [hD3] at hv3
        obtain ⟨sA3, sn3, sc3, rfl⟩ := hv3.isSl
        have V3 := Lib.hid hv3
        have K3_3 := Lib.hid (Kept.refl D3 w3)
        clear hv3 hD3
        have S3 := Lib.hid hs
        have hA : Blk w3 A 51 #[.int .i64 0, str [], .int .i64 0, str [], str [], .slice none 0 0, .slice none 0 0, .int .i64 0, .int .i64 0, .int .i64 0, .slice none 0 0, str [], str [], .slice none 0 0, .slice none 0 0, .slice none 0 0, .int .i64 0, str [], .slice none 0 0, .slice none 0 0, .slice none 0 0, str [], str [], .int .i64 0, .int .i64 0] := (BA2.out.far (p := ⟨B, 14, none⟩) (Nat.ne_of_lt GB.out.2.2.2) (.slice sA2 sn2 sc2)).near hn (Nat.ne_of_gt G.out.1)
        have hB : Blk w3 B 51 #[.int .i64 9, str a1, .int .i64 0, str [], str [], .slice none 0 0, .slice none 0 0, .int .i64 0, .int .i64 0, .int .i64 0, .slice none 0 0, str [], str [], .slice none 0 0, .slice sA2 sn2 sc2, .slice none 0 0, .int .i64 0, str [], .slice none 0 0, .slice none 0 0, .slice none 0 0, str [], str [], .int .i64 0, .int .i64 0] := (BB2.out.set_ 14 (.slice sA2 sn2 sc2)).near hn (Nat.ne_of_gt GB.out.1)
        have BA3 := Lib.hid hA
        have BB3 := Lib.hid hB
        have N3 := Lib.hid ((N2.out.set2 (p := ⟨B, 14, none⟩) GB.out.2.2.1 (.slice sA2 sn2 sc2)).trans hn)
        have K2_3 := Lib.hid ((K2_2.out.set (p := ⟨B, 14, none⟩) GD2.out.2.2.1 (.slice sA2 sn2 sc2)).near hn GD2.out.1)
        have Y3 := Lib.hid h3
        clear hs hn hp hA hB h3
        have cB3 := fun i => BB3.out.cell i
        have fB3 := fun i => BB3.out.frozen i
        go_wp2_with fail
        refine (expect_one [59] (by decide) _ _ _ (by first | omega | (simp; omega) | simp) (S3.out.cell (a := ⟨B, 15, none⟩) GB.out.1 GB.out.2.1 (.slice sA3 sn3 sc3))).mono ?_
        intro e w4 hp
        rcases h4 : expP [59] r3 with ⟨a4, r4⟩ | ⟨b4, r4⟩
        · obtain ⟨v4, rfl, rfl, hs, hn⟩ := ppost_ok h4 hp
          have R4 := Lib.hid (R3.out.trans (bnd_ok h4))
          have S4 := Lib.hid hs
          have hA : Blk w4 A 51 #[.int .i64 0, str [], .int .i64 0, str [], str [], .slice none 0 0, .slice none 0 0, .int .i64 0, .int .i64 0, .int .i64 0, .slice none 0 0, str [], str [], .slice none 0 0, .slice none 0 0, .slice none 0 0, .int .i64 0, str [], .slice none 0 0, .slice none 0 0, .slice none 0 0, str [], str [], .int .i64 0, .int .i64 0] := (BA3.out.far (p := ⟨B, 15, none⟩) (Nat.ne_of_lt GB.out.2.2.2) (.slice sA3 sn3 sc3)).near hn (Nat.ne_of_gt G.out.1)
          have hB : Blk w4 B 51 #[.int .i64 9, str a1, .int .i64 0, str [], str [], .slice none 0 0, .slice none 0 0, .int .i64 0, .int .i64 0, .int .i64 0, .slice none 0 0, str [], str [], .slice none 0 0, .slice sA2 sn2 sc2, .slice sA3 sn3 sc3, .int .i64 0, str [], .slice none 0 0, .slice none 0 0, .slice none 0 0, str [], str [], .int .i64 0, .int .i64 0] := (BB3.out.set_ 15 (.slice sA3 sn3 sc3)).near hn (Nat.ne_of_gt GB.out.1)
          have BA4 := Lib.hid hA
          have BB4 := Lib.hid hB
          have N4 := Lib.hid ((N3.out.set2 (p := ⟨B, 15, none⟩) GB.out.2.2.1 (.slice sA3 sn3 sc3)).trans hn)
          have K2_4 := Lib.hid ((K2_3.out.set (p := ⟨B, 15, none⟩) GD2.out.2.2.1 (.slice sA3 sn3 sc3)).near hn GD2.out.1)
          have K3_4 := Lib.hid ((K3_3.out.set (p := ⟨B, 15, none⟩) GD3.out.2.2.1 (.slice sA3 sn3 sc3)).near hn GD3.out.1)
          have Y4 := Lib.hid h4
          clear hs hn hp hA hB h4
          have HL := Lib.hid (show Blk _ B 51 #[.int .i64 9, str a1, .int .i64 0, str [], str [], .slice none 0 0, .slice none 0 0, .int .i64 0, .int .i64 0, .int .i64 0, .slice none 0 0, str [], str [], .slice none 0 0, .slice sA2 sn2 sc2, .slice sA3 sn3 sc3, .int .i64 0, str [], .slice none 0 0, .slice none 0 0, .slice none 0 0, str [], str [], .int .i64 0, .int .i64 0] from BB4.out)
          have HQ := Lib.hid BA4.out
          go_wp2_with (first | (refine wpList_load_row rfl 51 (.tmp 3) rfl B rfl _ #[.int .i64 9, str a1, .int .i64 0, str [], str [], .slice none 0 0, .slice none 0 0, .int .i64 0, .int .i64 0, .int .i64 0, .slice none 0 0, str [], str [], .slice none 0 0, .slice sA2 sn2 sc2, .slice sA3 sn3 sc3, .int .i64 0, str [], .slice none 0 0, .slice none 0 0, .slice none 0 0, str [], str [], .int .i64 0, .int .i64 0] _ _ HL.out Tryz.underlying51 rfl infoIt ?_) | (refine wpList_store_row rfl 51 (.tmp 2) (.tmp 18) rfl A #[.int .i64 9, str a1, .int .i64 0, str [], str [], .slice none 0 0, .slice none 0 0, .int .i64 0, .int .i64 0, .int .i64 0, .slice none 0 0, str [], str [], .slice none 0 0, .slice sA2 sn2 sc2, .slice sA3 sn3 sc3, .int .i64 0, str [], .slice none 0 0, .slice none 0 0, .slice none 0 0, str [], str [], .int .i64 0, .int .i64 0] rfl rfl _ _ HQ.out infoIt rfl (by simp [oc_int, oc_str, oc_slice, (V2.out.stay len_vr K2_4.out).isSl.one, (V3.out.stay len_cnd K3_4.out).isSl.one]) ?_))
          have hres := (HQ.out.row #[.int .i64 9, str a1, .int .i64 0, str [], str [], .slice none 0 0, .slice none 0 0, .int .i64 0, .int .i64 0, .int .i64 0, .slice none 0 0, str [], str [], .slice none 0 0, .slice sA2 sn2 sc2, .slice sA3 sn3 sc3, .int .i64 0, str [], .slice none 0 0, .slice none 0 0, .slice none 0 0, str [], str [], .int .i64 0, .int .i64 0])
          exact bodyPost_ret (v := .agg #[.int .i64 9, str a1, .int .i64 0, str [], str [], .slice none 0 0, .slice none 0 0, .int .i64 0, .int .i64 0, .int .i64 0, .slice none 0 0, str [], str [], .slice none 0 0, .slice sA2 sn2 sc2, .slice sA3 sn3 sc3, .int .i64 0, str [], .slice none 0 0, .slice none 0 0, .slice none 0 0, str [], str [], .int .i64 0, .int .i64 0]) (results_cell_row rfl _ _ A _ _ _ _ rfl hres Tryz.underlying51 rfl infoIt) rfl
            (ppost_of_ok (V := isIt A) (R4.out.trans rfl) ⟨⟨.slice none 0 0, .slice none 0 0, .slice none 0 0, .slice none 0 0, .slice sA2 sn2 sc2, .slice sA3 sn3 sc3, .slice none 0 0, .slice none 0 0, .slice none 0 0⟩, rfl, { cols := Lst.nil _, names := Lst.nil _, terms := Lst.nil _, fixed := Lst.nil _, vars := ((V2.out.stay len_vr (K2_4.out.row GD2.out.2.1 _)).lower (Nat.le_of_lt GD2.out.2.1)), conds := ((V3.out.stay len_cnd (K3_4.out.row GD3.out.2.1 _)).lower (Nat.le_of_lt GD3.out.2.1)), ex := exC_zero _ _ }⟩ (S4.out.row G.out.1 G.out.2 _) (N4.out.row (Nat.le_of_eq HA.out) _))
        · obtain ⟨rfl, hn⟩ := ppost_bad h4 hp
          exact ⟨rfl, ppost_of_bad (R3.out.trans (bnd_bad h4)) ((N3.out.set2 (p := ⟨B, 15, none⟩) GB.out.2.2.1 (.slice sA3 sn3 sc3)).trans hn)⟩
      · obtain ⟨rfl, hn⟩ := ppost_bad h3 hp
        exact ⟨rfl, ppost_of_bad (R2.out.trans (bnd_bad h3)) ((N2.out.set2 (p := ⟨B, 14, none⟩) GB.out.2.2.1 (.slice sA2 sn2 sc2)).trans hn)⟩
    · obtain ⟨rfl, hn⟩ := ppost_bad h2 hp
      exact ⟨rfl, ppost_of_bad (R1.out.trans (bnd_bad h2)) ((N1.out.trans (Tch.of_below (below_box _ (.cells #[.int .i64 9, str a1, .int .i64 0, str [], str [], .slice none 0 0, .slice none 0 0, .int .i64 0, .int .i64 0, .int .i64 0, .slice none 0 0, str [], str [], .slice none 0 0, .slice none 0 0, .slice none 0 0, .int .i64 0, str [], .slice none 0 0, .slice none 0 0, .slice none 0 0, str [], str [], .int .i64 0, .int .i64 0] 51)))).trans hn)⟩
  · obtain ⟨rfl, hn⟩ := ppost_bad h1 hp
    exact ⟨rfl, ppost_of_bad (R0.out.trans (bnd_bad h1)) ((N0.out.trans (Tch.of_below (below_box _ (.cells #[.int .i64 0, str [], .int .i64 0, str [], str [], .slice none 0 0, .slice none 0 0, .int .i64 0, .int .i64 0, .int .i64 0, .slice none 0 0, str [], str [], .slice none 0 0, .slice none 0 0, .slice none 0 0, .int .i64 0, str [], .slice none 0 0, .slice none 0 0, .slice none 0 0, str [], str [], .int .i64 0, .int .i64 0] 51)))).trans hn)⟩
set_option maxRecDepth 100000 in
set_option maxHeartbeats 8000000 in
theorem attrs_any {p : Ps} {r : List Tk} {lv : Int} (kd : Int) (w : World) (h : Sta w p r lv) :
    Calls Tryz.prog 70 #[ptr p.g, .int .i64 kd] w (PPost p lv w (isIt w.heap.size) (attrsP kd r)) := by
  obtain ⟨R, hR⟩ : ∃ R, attrsP kd r = R := ⟨_, rfl⟩
  rw [hR]
  have R0 := Lib.hid hR.symm
  have G := Lib.hid (And.intro h.lt h.lt2)
  have S0 := Lib.hid h
  have N0 := Lib.hid (Tch.refl (fun b => b = p.g) w)
  obtain ⟨A, hA⟩ : ∃ A, w.heap.size = A := ⟨_, rfl⟩
  have HA := Lib.hid hA
  rw [hA] at G
  rw [hA]
  clear hR h
  go_enter Tryz.func70, Tryz.ntmps70
  go_wp2_with fail
  refine (name_any _ (S0.out.keep (below_box _ (.cells #[.int .i64 0, str [], .int .i64 0, str [], str [], .slice none 0 0, .slice none 0 0, .int .i64 0, .int .i64 0, .int .i64 0, .slice none 0 0, str [], str [], .slice none 0 0, .slice none 0 0, .slice none 0 0, .int .i64 0, str [], .slice none 0 0, .slice none 0 0, .slice none 0 0, str [], str [], .int .i64 0, .int .i64 0] 51)))).mono ?_
  intro e w1 hp
  rcases h1 : nameP r with ⟨a1, r1⟩ | ⟨b1, r1⟩
  · obtain ⟨v1, rfl, rfl, hs, hn⟩ := ppost_ok h1 hp
    have R1 := Lib.hid (R0.out.trans (bnd_ok h1))
    have S1 := Lib.hid hs
    have hA : Blk w1 A 51 #[.int .i64 0, str [], .int .i64 0, str [], str [], .slice none 0 0, .slice none 0 0, .int .i64 0, .int .i64 0, .int .i64 0, .slice none 0 0, str [], str [], .slice none 0 0, .slice none 0 0, .slice none 0 0, .int .i64 0, str [], .slice none 0 0, .slice none 0 0, .slice none 0 0, str [], str [], .int .i64 0, .int .i64 0] := by
      have q := ((Blk.new w 51 #[.int .i64 0, str [], .int .i64 0, str [], str [], .slice none 0 0, .slice none 0 0, .int .i64 0, .int .i64 0, .int .i64 0, .slice none 0 0, str [], str [], .slice none 0 0, .slice none 0 0, .slice none 0 0, .int .i64 0, str [], .slice none 0 0, .slice none 0 0, .slice none 0 0, str [], str [], .int .i64 0, .int .i64 0]) : Blk _ _ _ _)
      rw [HA.out] at q
      exact q.near hn (Nat.ne_of_gt G.out.1)
    have BA1 := Lib.hid hA
    have N1 := Lib.hid ((N0.out.trans (Tch.of_below (below_box _ (.cells #[.int .i64 0, str [], .int .i64 0, str [], str [], .slice none 0 0, .slice none 0 0, .int .i64 0, .int .i64 0, .int .i64 0, .slice none 0 0, str [], str [], .slice none 0 0, .slice none 0 0, .slice none 0 0, .int .i64 0, str [], .slice none 0 0, .slice none 0 0, .slice none 0 0, str [], str [], .int .i64 0, .int .i64 0] 51)))).trans hn)
    have Y1 := Lib.hid h1
    clear hs hn hp hA h1
    obtain ⟨B, hB⟩ : ∃ x, w1.heap.size = x := ⟨_, rfl⟩
    have HB := Lib.hid hB
    have GB := Lib.hid (show p.g < B ∧ p.b < B ∧ w.heap.size ≤ B ∧ A < B from by have q1 := (S1.out).lt; have q2 := (S1.out).lt2; have q3 := (N1.out).size; rw [hB] at q1 q2 q3; have q4 := (BA1.out).lt; have q5 := HA.out; rw [hB] at q4; exact ⟨q1, q2, q3, by omega⟩)
    go_wp2_with (refine wpList_store_new rfl 51 (.tmp 5) (.tmp 9) rfl B _ #[.int .i64 kd, str a1, .int .i64 0, str [], str [], .slice none 0 0, .slice none 0 0, .int .i64 0, .int .i64 0, .int .i64 0, .slice none 0 0, str [], str [], .slice none 0 0, .slice none 0 0, .slice none 0 0, .int .i64 0, str [], .slice none 0 0, .slice none 0 0, .slice none 0 0, str [], str [], .int .i64 0, .int .i64 0] HB.out rfl rfl infoIt rfl (by simp [oc_int, oc_str, oc_slice]) ?_)
    refine (expect_one [111, 110] (by decide) _ _ _ (by first | omega | (simp; omega) | simp) (S1.out.keep (below_box _ (.cells #[.int .i64 kd, str a1, .int .i64 0, str [], str [], .slice none 0 0, .slice none 0 0, .int .i64 0, .int .i64 0, .int .i64 0, .slice none 0 0, str [], str [], .slice none 0 0, .slice none 0 0, .slice none 0 0, .int .i64 0, str [], .slice none 0 0, .slice none 0 0, .slice none 0 0, str [], str [], .int .i64 0, .int .i64 0] 51)))).mono ?_
    intro e w2 hp
    rcases h2 : expP [111, 110] r1 with ⟨a2, r2⟩ | ⟨b2, r2⟩
    · obtain ⟨v2, rfl, rfl, hs, hn⟩ := ppost_ok h2 hp
      have R2 := Lib.hid (R1.out.trans (bnd_ok h2))
      have S2 := Lib.hid hs
      have hA : Blk w2 A 51 #[.int .i64 0, str [], .int .i64 0, str [], str [], .slice none 0 0, .slice none 0 0, .int .i64 0, .int .i64 0, .int .i64 0, .slice none 0 0, str [], str [], .slice none 0 0, .slice none 0 0, .slice none 0 0, .int .i64 0, str [], .slice none 0 0, .slice none 0 0, .slice none 0 0, str [], str [], .int .i64 0, .int .i64 0] := (BA1.out.alloc (.cells #[.int .i64 kd, str a1, .int .i64 0, str [], str [], .slice none 0 0, .slice none 0 0, .int .i64 0, .int .i64 0, .int .i64 0, .slice none 0 0, str [], str [], .slice none 0 0, .slice none 0 0, .slice none 0 0, .int .i64 0, str [], .slice none 0 0, .slice none 0 0, .slice none 0 0, str [], str [], .int .i64 0, .int .i64 0] 51)).near hn (Nat.ne_of_gt G.out.1)
      have hB : Blk w2 B 51 #[.int .i64 kd, str a1, .int .i64 0, str [], str [], .slice none 0 0, .slice none 0 0, .int .i64 0, .int .i64 0, .int .i64 0, .slice none 0 0, str [], str [], .slice none 0 0, .slice none 0 0, .slice none 0 0, .int .i64 0, str [], .slice none 0 0, .slice none 0 0, .slice none 0 0, str [], str [], .int .i64 0, .int .i64 0] := by
        have q := ((Blk.new w1 51 #[.int .i64 kd, str a1, .int .i64 0, str [], str [], .slice none 0 0, .slice none 0 0, .int .i64 0, .int .i64 0, .int .i64 0, .slice none 0 0, str [], str [], .slice none 0 0, .slice none 0 0, .slice none 0 0, .int .i64 0, str [], .slice none 0 0, .slice none 0 0, .slice none 0 0, str [], str [], .int .i64 0, .int .i64 0]) : Blk _ _ _ _)
        rw [HB.out] at q
        exact q.near hn (Nat.ne_of_gt GB.out.1)
      have BA2 := Lib.hid hA
      have BB2 := Lib.hid hB
      have N2 := Lib.hid ((N1.out.trans (Tch.of_below (below_box _ (.cells #[.int .i64 kd, str a1, .int .i64 0, str [], str [], .slice none 0 0, .slice none 0 0, .int .i64 0, .int .i64 0, .int .i64 0, .slice none 0 0, str [], str [], .slice none 0 0, .slice none 0 0, .slice none 0 0, .int .i64 0, str [], .slice none 0 0, .slice none 0 0, .slice none 0 0, str [], str [], .int .i64 0, .int .i64 0] 51)))).trans hn)
      have Y2 := Lib.hid h2
      clear hs hn hp hA hB h2
      go_wp2_with fail
      refine (name_any _ S2.out).mono ?_
      intro e w3 hp
      rcases h3 : nameP r2 with ⟨a3, r3⟩ | ⟨b3, r3⟩
      · obtain ⟨v3, rfl, rfl, hs, hn⟩ := ppost_ok h3 hp
        have R3 := Lib.hid (R2.out.trans (bnd_ok h3))
        have S3 := Lib.hid hs
        have hA : Blk w3 A 51 #[.int .i64 0, str [], .int .i64 0, str [], str [], .slice none 0 0, .slice none 0 0, .int .i64 0, .int .i64 0, .int .i64 0, .slice none 0 0, str [], str [], .slice none 0 0, .slice none 0 0, .slice none 0 0, .int .i64 0, str [], .slice none 0 0, .slice none 0 0, .slice none 0 0, str [], str [], .int .i64 0, .int .i64 0] := BA2.out.near hn (Nat.ne_of_gt G.out.1)
        have hB : Blk w3 B 51 #[.int .i64 kd, str a1, .int .i64 0, str [], str [], .slice none 0 0, .slice none 0 0, .int .i64 0, .int .i64 0, .int .i64 0, .slice none 0 0, str [], str [], .slice none 0 0, .slice none 0 0, .slice none 0 0, .int .i64 0, str [], .slice none 0 0, .slice none 0 0, .slice none 0 0, str [], str [], .int .i64 0, .int .i64 0] := BB2.out.near hn (Nat.ne_of_gt GB.out.1)
        have BA3 := Lib.hid hA
        have BB3 := Lib.hid hB
        have N3 := Lib.hid (N2.out.trans hn)
        have Y3 := Lib.hid h3
        clear hs hn hp hA hB h3
        have cB3 := fun i => BB3.out.cell i
        have fB3 := fun i => BB3.out.frozen i
        go_wp2_with fail
        refine (expect_one [40] (by decide) _ _ _ (by first | omega | (simp; omega) | simp) (S3.out.cell (a := ⟨B, 3, none⟩) GB.out.1 GB.out.2.1 (str a3))).mono ?_
        intro e w4 hp
        rcases h4 : expP [40] r3 with ⟨a4, r4⟩ | ⟨b4, r4⟩
        · obtain ⟨v4, rfl, rfl, hs, hn⟩ := ppost_ok h4 hp
          have R4 := Lib.hid (R3.out.trans (bnd_ok h4))
          have S4 := Lib.hid hs
          have hA : Blk w4 A 51 #[.int .i64 0, str [], .int .i64 0, str [], str [], .slice none 0 0, .slice none 0 0, .int .i64 0, .int .i64 0, .int .i64 0, .slice none 0 0, str [], str [], .slice none 0 0, .slice none 0 0, .slice none 0 0, .int .i64 0, str [], .slice none 0 0, .slice none 0 0, .slice none 0 0, str [], str [], .int .i64 0, .int .i64 0] := (BA3.out.far (p := ⟨B, 3, none⟩) (Nat.ne_of_lt GB.out.2.2.2) (str a3)).near hn (Nat.ne_of_gt G.out.1)
          have hB : Blk w4 B 51 #[.int .i64 kd, str a1, .int .i64 0, str a3, str [], .slice none 0 0, .slice none 0 0, .int .i64 0, .int .i64 0, .int .i64 0, .slice none 0 0, str [], str [], .slice none 0 0, .slice none 0 0, .slice none 0 0, .int .i64 0, str [], .slice none 0 0, .slice none 0 0, .slice none 0 0, str [], str [], .int .i64 0, .int .i64 0] := (BB3.out.set_ 3 (str a3)).near hn (Nat.ne_of_gt GB.out.1)
          have BA4 := Lib.hid hA
          have BB4 := Lib.hid hB
          have N4 := Lib.hid ((N3.out.set2 (p := ⟨B, 3, none⟩) GB.out.2.2.1 (str a3)).trans hn)
          have Y4 := Lib.hid h4
          clear hs hn hp hA hB h4
          go_wp2_with fail
          refine (txt_list [44] (by decide) _ S4.out).mono ?_
          intro e w5 hp
          rcases h5 : listP [44] nameP FU r4 with ⟨a5, r5⟩ | ⟨b5, r5⟩
          · obtain ⟨v5, rfl, hv5, hs, hn⟩ := ppost_ok h5 hp
            have R5 := Lib.hid (R4.out.trans (bnd_ok h5))
            obtain ⟨D5, hD5⟩ : ∃ x, w4.heap.size = x := ⟨_, rfl⟩
            have GD5 := Lib.hid (show p.g < D5 ∧ A < D5 ∧ B < D5 ∧ w.heap.size ≤ D5 from by have q0 := (S4.out).lt; have q1 := (BA4.out).lt; have q2 := (BB4.out).lt; have qq := (N4.out).size; have eA := HA.out; have eB := HB.out; omega)
            rw [hD5] at hv5
            obtain ⟨sA5, sn5, sc5, rfl⟩ := hv5.isSl
            have V5 := Lib.hid hv5
            have K5_5 := Lib.hid (Kept.refl D5 w5)
            clear hv5 hD5
            have S5 := Lib.hid hs
            have hA : Blk w5 A 51 #[.int .i64 0, str [], .int .i64 0, str [], str [], .slice none 0 0, .slice none 0 0, .int .i64 0, .int .i64 0, .int .i64 0, .slice none 0 0, str [], str [], .slice none 0 0, .slice none 0 0, .slice none 0 0, .int .i64 0, str [], .slice none 0 0, .slice none 0 0, .slice none 0 0, str [], str [], .int .i64 0, .int .i64 0] := BA4.out.near hn (Nat.ne_of_gt G.out.1)
            have hB : Blk w5 B 51 #[.int .i64 kd, str a1, .int .i64 0, str a3, str [], .slice none 0 0, .slice none 0 0, .int .i64 0, .int .i64 0, .int .i64 0, .slice none 0 0, str [], str [], .slice none 0 0, .slice none 0 0, .slice none 0 0, .int .i64 0, str [], .slice none 0 0, .slice none 0 0, .slice none 0 0, str [], str [], .int .i64 0, .int .i64 0] := BB4.out.near hn (Nat.ne_of_gt GB.out.1)
            have BA5 := Lib.hid hA
            have BB5 := Lib.hid hB
            have N5 := Lib.hid (N4.out.trans hn)
            have Y5 := Lib.hid h5
            clear hs hn hp hA hB h5
            have cB5 := fun i => BB5.out.cell i
            have fB5 := fun i => BB5.out.frozen i
            go_wp2_with fail
            refine (expect_one [41] (by decide) _ _ _ (by first | omega | (simp; omega) | simp) (S5.out.cell (a := ⟨B, 6, none⟩) GB.out.1 GB.out.2.1 (.slice sA5 sn5 sc5))).mono ?_
            intro e w6 hp
            rcases h6 : expP [41] r5 with ⟨a6, r6⟩ | ⟨b6, r6⟩
            · obtain ⟨v6, rfl, rfl, hs, hn⟩ := ppost_ok h6 hp
              have R6 := Lib.hid (R5.out.trans (bnd_ok h6))
              have S6 := Lib.hid hs
              have hA : Blk w6 A 51 #[.int .i64 0, str [], .int .i64 0, str [], str [], .slice none 0 0, .slice none 0 0, .int .i64 0, .int .i64 0, .int .i64 0, .slice none 0 0, str [], str [], .slice none 0 0, .slice none 0 0, .slice none 0 0, .int .i64 0, str [], .slice none 0 0, .slice none 0 0, .slice none 0 0, str [], str [], .int .i64 0, .int .i64 0] := (BA5.out.far (p := ⟨B, 6, none⟩) (Nat.ne_of_lt GB.out.2.2.2) (.slice sA5 sn5 sc5)).near hn (Nat.ne_of_gt G.out.1)
              have hB : Blk w6 B 51 #[.int .i64 kd, str a1, .int .i64 0, str a3, str [], .slice none 0 0, .slice sA5 sn5 sc5, .int .i64 0, .int .i64 0, .int .i64 0, .slice none 0 0, str [], str [], .slice none 0 0, .slice none 0 0, .slice none 0 0, .int .i64 0, str [], .slice none 0 0, .slice none 0 0, .slice none 0 0, str [], str [], .int .i64 0, .int .i64 0] := (BB5.out.set_ 6 (.slice sA5 sn5 sc5)).near hn (Nat.ne_of_gt GB.out.1)
              have BA6 := Lib.hid hA
              have BB6 := Lib.hid hB
              have N6 := Lib.hid ((N5.out.set2 (p := ⟨B, 6, none⟩) GB.out.2.2.1 (.slice sA5 sn5 sc5)).trans hn)
              have K5_6 := Lib.hid ((K5_5.out.set (p := ⟨B, 6, none⟩) GD5.out.2.2.1 (.slice sA5 sn5 sc5)).near hn GD5.out.1)
              have Y6 := Lib.hid h6
              clear hs hn hp hA hB h6
              have HL := Lib.hid (show Blk _ B 51 #[.int .i64 kd, str a1, .int .i64 0, str a3, str [], .slice none 0 0, .slice sA5 sn5 sc5, .int .i64 0, .int .i64 0, .int .i64 0, .slice none 0 0, str [], str [], .slice none 0 0, .slice none 0 0, .slice none 0 0, .int .i64 0, str [], .slice none 0 0, .slice none 0 0, .slice none 0 0, str [], str [], .int .i64 0, .int .i64 0] from BB6.out)
              have HQ := Lib.hid BA6.out
              go_wp2_with (first | (refine wpList_load_row rfl 51 (.tmp 5) rfl B rfl _ #[.int .i64 kd, str a1, .int .i64 0, str a3, str [], .slice none 0 0, .slice sA5 sn5 sc5, .int .i64 0, .int .i64 0, .int .i64 0, .slice none 0 0, str [], str [], .slice none 0 0, .slice none 0 0, .slice none 0 0, .int .i64 0, str [], .slice none 0 0, .slice none 0 0, .slice none 0 0, str [], str [], .int .i64 0, .int .i64 0] _ _ HL.out Tryz.underlying51 rfl infoIt ?_) | (refine wpList_store_row rfl 51 (.tmp 4) (.tmp 27) rfl A #[.int .i64 kd, str a1, .int .i64 0, str a3, str [], .slice none 0 0, .slice sA5 sn5 sc5, .int .i64 0, .int .i64 0, .int .i64 0, .slice none 0 0, str [], str [], .slice none 0 0, .slice none 0 0, .slice none 0 0, .int .i64 0, str [], .slice none 0 0, .slice none 0 0, .slice none 0 0, str [], str [], .int .i64 0, .int .i64 0] rfl rfl _ _ HQ.out infoIt rfl (by simp [oc_int, oc_str, oc_slice, (V5.out.stay len_txt K5_6.out).isSl.one]) ?_))
              have hres := (HQ.out.row #[.int .i64 kd, str a1, .int .i64 0, str a3, str [], .slice none 0 0, .slice sA5 sn5 sc5, .int .i64 0, .int .i64 0, .int .i64 0, .slice none 0 0, str [], str [], .slice none 0 0, .slice none 0 0, .slice none 0 0, .int .i64 0, str [], .slice none 0 0, .slice none 0 0, .slice none 0 0, str [], str [], .int .i64 0, .int .i64 0])
              exact bodyPost_ret (v := .agg #[.int .i64 kd, str a1, .int .i64 0, str a3, str [], .slice none 0 0, .slice sA5 sn5 sc5, .int .i64 0, .int .i64 0, .int .i64 0, .slice none 0 0, str [], str [], .slice none 0 0, .slice none 0 0, .slice none 0 0, .int .i64 0, str [], .slice none 0 0, .slice none 0 0, .slice none 0 0, str [], str [], .int .i64 0, .int .i64 0]) (results_cell_row rfl _ _ A _ _ _ _ rfl hres Tryz.underlying51 rfl infoIt) rfl
                (ppost_of_ok (V := isIt A) (R6.out.trans rfl) ⟨⟨.slice none 0 0, .slice sA5 sn5 sc5, .slice none 0 0, .slice none 0 0, .slice none 0 0, .slice none 0 0, .slice none 0 0, .slice none 0 0, .slice none 0 0⟩, rfl, { cols := Lst.nil _, names := ((V5.out.stay len_txt (K5_6.out.row GD5.out.2.1 _)).lower (Nat.le_of_lt GD5.out.2.1)), terms := Lst.nil _, fixed := Lst.nil _, vars := Lst.nil _, conds := Lst.nil _, ex := exC_zero _ _ }⟩ (S6.out.row G.out.1 G.out.2 _) (N6.out.row (Nat.le_of_eq HA.out) _))
            · obtain ⟨rfl, hn⟩ := ppost_bad h6 hp
              exact ⟨rfl, ppost_of_bad (R5.out.trans (bnd_bad h6)) ((N5.out.set2 (p := ⟨B, 6, none⟩) GB.out.2.2.1 (.slice sA5 sn5 sc5)).trans hn)⟩
          · obtain ⟨rfl, hn⟩ := ppost_bad h5 hp
            exact ⟨rfl, ppost_of_bad (R4.out.trans (bnd_bad h5)) (N4.out.trans hn)⟩
        · obtain ⟨rfl, hn⟩ := ppost_bad h4 hp
          exact ⟨rfl, ppost_of_bad (R3.out.trans (bnd_bad h4)) ((N3.out.set2 (p := ⟨B, 3, none⟩) GB.out.2.2.1 (str a3)).trans hn)⟩
      · obtain ⟨rfl, hn⟩ := ppost_bad h3 hp
        exact ⟨rfl, ppost_of_bad (R2.out.trans (bnd_bad h3)) (N2.out.trans hn)⟩
    · obtain ⟨rfl, hn⟩ := ppost_bad h2 hp
      exact ⟨rfl, ppost_of_bad (R1.out.trans (bnd_bad h2)) ((N1.out.trans (Tch.of_below (below_box _ (.cells #[.int .i64 kd, str a1, .int .i64 0, str [], str [], .slice none 0 0, .slice none 0 0, .int .i64 0, .int .i64 0, .int .i64 0, .slice none 0 0, str [], str [], .slice none 0 0, .slice none 0 0, .slice none 0 0, .int .i64 0, str [], .slice none 0 0, .slice none 0 0, .slice none 0 0, str [], str [], .int .i64 0, .int .i64 0] 51)))).trans hn)⟩
  · obtain ⟨rfl, hn⟩ := ppost_bad h1 hp
    exact ⟨rfl, ppost_of_bad (R0.out.trans (bnd_bad h1)) ((N0.out.trans (Tch.of_below (below_box _ (.cells #[.int .i64 0, str [], .int .i64 0, str [], str [], .slice none 0 0, .slice none 0 0, .int .i64 0, .int .i64 0, .int .i64 0, .slice none 0 0, str [], str [], .slice none 0 0, .slice none 0 0, .slice none 0 0, .int .i64 0, str [], .slice none 0 0, .slice none 0 0, .slice none 0 0, str [], str [], .int .i64 0, .int .i64 0] 51)))).trans hn)⟩
end Go.Proofs.YtcgkaecaddpenaaGreatDoor
