/- The program's unique and depend. -/
import Derived.Test.YtcgkaecaddpenaaGreatDoorPsPgO
namespace Go.Proofs.YtcgkaecaddpenaaGreatDoor
open Go.RowKit
open L7 (Tk)
open L8
set_option linter.unusedSimpArgs false

set_option maxRecDepth 100000 in
set_option maxHeartbeats 8000000 in
theorem unique_any {p : Ps} {r : List Tk} {lv : Int} (w : World) (h : Sta w p r lv) :
    Calls Tryz.prog 49 #[ptr p.g] w (PPost p lv w (isIt w.heap.size) (uniqueP r)) := by
  obtain ⟨R, hR⟩ : ∃ R, uniqueP r = R := ⟨_, rfl⟩
  rw [hR]
  have R0 := Lib.hid hR.symm
  have G := Lib.hid (And.intro h.lt h.lt2)
  have S0 := Lib.hid h
  have N0 := Lib.hid (Tch.refl (fun b => b = p.g) w)
  obtain ⟨A, hA⟩ : ∃ A, w.heap.size = A := ⟨_, rfl⟩
  have HA := Lib.hid hA
  rw [hA] at G
  rw [hA]
  clear hR h
  go_enter Tryz.func49, Tryz.ntmps49
  go_wp2_with fail
  refine (attrs_any 6 _ (S0.out.keep (below_box _ (.cells #[.int .i64 0, str [], .int .i64 0, str [], str [], .slice none 0 0, .slice none 0 0, .int .i64 0, .int .i64 0, .int .i64 0, .slice none 0 0, str [], str [], .slice none 0 0, .slice none 0 0, .slice none 0 0, .int .i64 0, str [], .slice none 0 0, .slice none 0 0, .slice none 0 0, str [], str [], .int .i64 0, .int .i64 0] 51)))).mono ?_
  intro e w1 hp
  rcases h1 : attrsP 6 r with ⟨a1, r1⟩ | ⟨b1, r1⟩
  · obtain ⟨v1, rfl, hv1, hs, hn⟩ := ppost_ok h1 hp
    have R1 := Lib.hid (R0.out.trans (bnd_ok h1))
    obtain ⟨D1, hD1⟩ : ∃ x, (w.alloc (.cells #[.int .i64 0, str [], .int .i64 0, str [], str [], .slice none 0 0, .slice none 0 0, .int .i64 0, .int .i64 0, .int .i64 0, .slice none 0 0, str [], str [], .slice none 0 0, .slice none 0 0, .slice none 0 0, .int .i64 0, str [], .slice none 0 0, .slice none 0 0, .slice none 0 0, str [], str [], .int .i64 0, .int .i64 0] 51)).heap.size = x := ⟨_, rfl⟩
    have GD1 := Lib.hid (show p.g < D1 ∧ A < D1 ∧ w.heap.size ≤ D1 from by have q0 := ((S0.out.keep (below_box _ (.cells #[.int .i64 0, str [], .int .i64 0, str [], str [], .slice none 0 0, .slice none 0 0, .int .i64 0, .int .i64 0, .int .i64 0, .slice none 0 0, str [], str [], .slice none 0 0, .slice none 0 0, .slice none 0 0, .int .i64 0, str [], .slice none 0 0, .slice none 0 0, .slice none 0 0, str [], str [], .int .i64 0, .int .i64 0] 51)))).lt; have q1 := ((Blk.new w 51 #[.int .i64 0, str [], .int .i64 0, str [], str [], .slice none 0 0, .slice none 0 0, .int .i64 0, .int .i64 0, .int .i64 0, .slice none 0 0, str [], str [], .slice none 0 0, .slice none 0 0, .slice none 0 0, .int .i64 0, str [], .slice none 0 0, .slice none 0 0, .slice none 0 0, str [], str [], .int .i64 0, .int .i64 0])).lt; have qq := ((N0.out.trans (Tch.of_below (below_box _ (.cells #[.int .i64 0, str [], .int .i64 0, str [], str [], .slice none 0 0, .slice none 0 0, .int .i64 0, .int .i64 0, .int .i64 0, .slice none 0 0, str [], str [], .slice none 0 0, .slice none 0 0, .slice none 0 0, .int .i64 0, str [], .slice none 0 0, .slice none 0 0, .slice none 0 0, str [], str [], .int .i64 0, .int .i64 0] 51))))).size; have eA := HA.out; omega)
    rw [hD1] at hv1
    obtain ⟨z1, rfl, hv1⟩ := hv1
    have V1 := Lib.hid hv1
    have K1_1 := Lib.hid (Kept.refl D1 w1)
    clear hv1 hD1
    have S1 := Lib.hid hs
    have hA : Blk w1 A 51 #[.int .i64 0, str [], .int .i64 0, str [], str [], .slice none 0 0, .slice none 0 0, .int .i64 0, .int .i64 0, .int .i64 0, .slice none 0 0, str [], str [], .slice none 0 0, .slice none 0 0, .slice none 0 0, .int .i64 0, str [], .slice none 0 0, .slice none 0 0, .slice none 0 0, str [], str [], .int .i64 0, .int .i64 0] := by
      have q := ((Blk.new w 51 #[.int .i64 0, str [], .int .i64 0, str [], str [], .slice none 0 0, .slice none 0 0, .int .i64 0, .int .i64 0, .int .i64 0, .slice none 0 0, str [], str [], .slice none 0 0, .slice none 0 0, .slice none 0 0, .int .i64 0, str [], .slice none 0 0, .slice none 0 0, .slice none 0 0, str [], str [], .int .i64 0, .int .i64 0]) : Blk _ _ _ _)
      rw [HA.out] at q
      exact q.near hn (Nat.ne_of_gt G.out.1)
    have BA1 := Lib.hid hA
    have N1 := Lib.hid ((N0.out.trans (Tch.of_below (below_box _ (.cells #[.int .i64 0, str [], .int .i64 0, str [], str [], .slice none 0 0, .slice none 0 0, .int .i64 0, .int .i64 0, .int .i64 0, .slice none 0 0, str [], str [], .slice none 0 0, .slice none 0 0, .slice none 0 0, .int .i64 0, str [], .slice none 0 0, .slice none 0 0, .slice none 0 0, str [], str [], .int .i64 0, .int .i64 0] 51)))).trans hn)
    have Y1 := Lib.hid h1
    clear hs hn hp hA h1
    obtain ⟨B, hB⟩ : ∃ x, w1.heap.size = x := ⟨_, rfl⟩
    have HB := Lib.hid hB
    have GB := Lib.hid (show p.g < B ∧ p.b < B ∧ w.heap.size ≤ B ∧ A < B from by have q1 := (S1.out).lt; have q2 := (S1.out).lt2; have q3 := (N1.out).size; rw [hB] at q1 q2 q3; have q4 := (BA1.out).lt; have q5 := HA.out; rw [hB] at q4; exact ⟨q1, q2, q3, by omega⟩)
    have GL1B := Lib.hid (show w1.heap.size ≤ B from by have q := (K1_1.out).size; omega)
    go_wp2_with (refine wpList_store_new rfl 51 (.tmp 3) (.tmp 5) rfl B _ #[.int .i64 a1.kind, str a1.name, .int .i64 a1.at_, str a1.table, str a1.attr, z1.cols, z1.names, .int .i64 a1.by_, .int .i64 a1.n, .int .i64 a1.m, z1.terms, str a1.other, str a1.oattr, z1.fixed, z1.vars, z1.conds, .int .i64 (hd a1.ex).kind, str (hd a1.ex).table, z1.ks, z1.cs, z1.ns, str (hd a1.ex).attr, str (hd a1.ex).as_, .int .i64 (hd a1.ex).agg, .int .i64 (hd a1.ex).at_] HB.out rfl rfl infoIt rfl (by exact ((V1.out.stay K1_1.out)).one) ?_)
    refine (expect_one [59] (by decide) _ _ _ (by first | omega | (simp; omega) | simp) (S1.out.keep (below_box _ (.cells #[.int .i64 a1.kind, str a1.name, .int .i64 a1.at_, str a1.table, str a1.attr, z1.cols, z1.names, .int .i64 a1.by_, .int .i64 a1.n, .int .i64 a1.m, z1.terms, str a1.other, str a1.oattr, z1.fixed, z1.vars, z1.conds, .int .i64 (hd a1.ex).kind, str (hd a1.ex).table, z1.ks, z1.cs, z1.ns, str (hd a1.ex).attr, str (hd a1.ex).as_, .int .i64 (hd a1.ex).agg, .int .i64 (hd a1.ex).at_] 51)))).mono ?_
    intro e w2 hp
    rcases h2 : expP [59] r1 with ⟨a2, r2⟩ | ⟨b2, r2⟩
    · obtain ⟨v2, rfl, rfl, hs, hn⟩ := ppost_ok h2 hp
      have R2 := Lib.hid (R1.out.trans (bnd_ok h2))
      have S2 := Lib.hid hs
      have hA : Blk w2 A 51 #[.int .i64 0, str [], .int .i64 0, str [], str [], .slice none 0 0, .slice none 0 0, .int .i64 0, .int .i64 0, .int .i64 0, .slice none 0 0, str [], str [], .slice none 0 0, .slice none 0 0, .slice none 0 0, .int .i64 0, str [], .slice none 0 0, .slice none 0 0, .slice none 0 0, str [], str [], .int .i64 0, .int .i64 0] := (BA1.out.alloc (.cells #[.int .i64 a1.kind, str a1.name, .int .i64 a1.at_, str a1.table, str a1.attr, z1.cols, z1.names, .int .i64 a1.by_, .int .i64 a1.n, .int .i64 a1.m, z1.terms, str a1.other, str a1.oattr, z1.fixed, z1.vars, z1.conds, .int .i64 (hd a1.ex).kind, str (hd a1.ex).table, z1.ks, z1.cs, z1.ns, str (hd a1.ex).attr, str (hd a1.ex).as_, .int .i64 (hd a1.ex).agg, .int .i64 (hd a1.ex).at_] 51)).near hn (Nat.ne_of_gt G.out.1)
      have hB : Blk w2 B 51 #[.int .i64 a1.kind, str a1.name, .int .i64 a1.at_, str a1.table, str a1.attr, z1.cols, z1.names, .int .i64 a1.by_, .int .i64 a1.n, .int .i64 a1.m, z1.terms, str a1.other, str a1.oattr, z1.fixed, z1.vars, z1.conds, .int .i64 (hd a1.ex).kind, str (hd a1.ex).table, z1.ks, z1.cs, z1.ns, str (hd a1.ex).attr, str (hd a1.ex).as_, .int .i64 (hd a1.ex).agg, .int .i64 (hd a1.ex).at_] := by
        have q := ((Blk.new w1 51 #[.int .i64 a1.kind, str a1.name, .int .i64 a1.at_, str a1.table, str a1.attr, z1.cols, z1.names, .int .i64 a1.by_, .int .i64 a1.n, .int .i64 a1.m, z1.terms, str a1.other, str a1.oattr, z1.fixed, z1.vars, z1.conds, .int .i64 (hd a1.ex).kind, str (hd a1.ex).table, z1.ks, z1.cs, z1.ns, str (hd a1.ex).attr, str (hd a1.ex).as_, .int .i64 (hd a1.ex).agg, .int .i64 (hd a1.ex).at_]) : Blk _ _ _ _)
        rw [HB.out] at q
        exact q.near hn (Nat.ne_of_gt GB.out.1)
      have BA2 := Lib.hid hA
      have BB2 := Lib.hid hB
      have N2 := Lib.hid ((N1.out.trans (Tch.of_below (below_box _ (.cells #[.int .i64 a1.kind, str a1.name, .int .i64 a1.at_, str a1.table, str a1.attr, z1.cols, z1.names, .int .i64 a1.by_, .int .i64 a1.n, .int .i64 a1.m, z1.terms, str a1.other, str a1.oattr, z1.fixed, z1.vars, z1.conds, .int .i64 (hd a1.ex).kind, str (hd a1.ex).table, z1.ks, z1.cs, z1.ns, str (hd a1.ex).attr, str (hd a1.ex).as_, .int .i64 (hd a1.ex).agg, .int .i64 (hd a1.ex).at_] 51)))).trans hn)
      have K1_2 := Lib.hid ((K1_1.out.keep (below_box _ (.cells #[.int .i64 a1.kind, str a1.name, .int .i64 a1.at_, str a1.table, str a1.attr, z1.cols, z1.names, .int .i64 a1.by_, .int .i64 a1.n, .int .i64 a1.m, z1.terms, str a1.other, str a1.oattr, z1.fixed, z1.vars, z1.conds, .int .i64 (hd a1.ex).kind, str (hd a1.ex).table, z1.ks, z1.cs, z1.ns, str (hd a1.ex).attr, str (hd a1.ex).as_, .int .i64 (hd a1.ex).agg, .int .i64 (hd a1.ex).at_] 51))).near hn GD1.out.1)
      have Y2 := Lib.hid h2
      clear hs hn hp hA hB h2
      have HL := Lib.hid (show Blk _ B 51 #[.int .i64 a1.kind, str a1.name, .int .i64 a1.at_, str a1.table, str a1.attr, z1.cols, z1.names, .int .i64 a1.by_, .int .i64 a1.n, .int .i64 a1.m, z1.terms, str a1.other, str a1.oattr, z1.fixed, z1.vars, z1.conds, .int .i64 (hd a1.ex).kind, str (hd a1.ex).table, z1.ks, z1.cs, z1.ns, str (hd a1.ex).attr, str (hd a1.ex).as_, .int .i64 (hd a1.ex).agg, .int .i64 (hd a1.ex).at_] from BB2.out)
      have HQ := Lib.hid BA2.out
      have hone : (#[.int .i64 a1.kind, str a1.name, .int .i64 a1.at_, str a1.table, str a1.attr, z1.cols, z1.names, .int .i64 a1.by_, .int .i64 a1.n, .int .i64 a1.m, z1.terms, str a1.other, str a1.oattr, z1.fixed, z1.vars, z1.conds, .int .i64 (hd a1.ex).kind, str (hd a1.ex).table, z1.ks, z1.cs, z1.ns, str (hd a1.ex).attr, str (hd a1.ex).as_, .int .i64 (hd a1.ex).agg, .int .i64 (hd a1.ex).at_] : Array Value).all (·.oneCell') = true := by
        have hz := (V1.out.stay K1_2.out)
        simp [oc_int, oc_str, oc_slice, hz.cols.isSl.one, hz.names.isSl.one, hz.terms.isSl.one, hz.fixed.isSl.one, hz.vars.isSl.one, hz.conds.isSl.one, hz.ex.isSl.1.one, hz.ex.isSl.2.1.one, hz.ex.isSl.2.2.one]
      go_wp2_with (first | (refine wpList_load_row rfl 51 (.tmp 3) rfl B rfl _ #[.int .i64 a1.kind, str a1.name, .int .i64 a1.at_, str a1.table, str a1.attr, z1.cols, z1.names, .int .i64 a1.by_, .int .i64 a1.n, .int .i64 a1.m, z1.terms, str a1.other, str a1.oattr, z1.fixed, z1.vars, z1.conds, .int .i64 (hd a1.ex).kind, str (hd a1.ex).table, z1.ks, z1.cs, z1.ns, str (hd a1.ex).attr, str (hd a1.ex).as_, .int .i64 (hd a1.ex).agg, .int .i64 (hd a1.ex).at_] _ _ HL.out Tryz.underlying51 rfl infoIt ?_) | (refine wpList_store_row rfl 51 (.tmp 2) (.tmp 9) rfl A #[.int .i64 a1.kind, str a1.name, .int .i64 a1.at_, str a1.table, str a1.attr, z1.cols, z1.names, .int .i64 a1.by_, .int .i64 a1.n, .int .i64 a1.m, z1.terms, str a1.other, str a1.oattr, z1.fixed, z1.vars, z1.conds, .int .i64 (hd a1.ex).kind, str (hd a1.ex).table, z1.ks, z1.cs, z1.ns, str (hd a1.ex).attr, str (hd a1.ex).as_, .int .i64 (hd a1.ex).agg, .int .i64 (hd a1.ex).at_] rfl rfl _ _ HQ.out infoIt rfl hone ?_))
      have hres := (HQ.out.row #[.int .i64 a1.kind, str a1.name, .int .i64 a1.at_, str a1.table, str a1.attr, z1.cols, z1.names, .int .i64 a1.by_, .int .i64 a1.n, .int .i64 a1.m, z1.terms, str a1.other, str a1.oattr, z1.fixed, z1.vars, z1.conds, .int .i64 (hd a1.ex).kind, str (hd a1.ex).table, z1.ks, z1.cs, z1.ns, str (hd a1.ex).attr, str (hd a1.ex).as_, .int .i64 (hd a1.ex).agg, .int .i64 (hd a1.ex).at_])
      have HI := ((V1.out.stay (K1_2.out.row GD1.out.2.1 #[.int .i64 a1.kind, str a1.name, .int .i64 a1.at_, str a1.table, str a1.attr, z1.cols, z1.names, .int .i64 a1.by_, .int .i64 a1.n, .int .i64 a1.m, z1.terms, str a1.other, str a1.oattr, z1.fixed, z1.vars, z1.conds, .int .i64 (hd a1.ex).kind, str (hd a1.ex).table, z1.ks, z1.cs, z1.ns, str (hd a1.ex).attr, str (hd a1.ex).as_, .int .i64 (hd a1.ex).agg, .int .i64 (hd a1.ex).at_])).lower (Nat.le_of_lt GD1.out.2.1))
      exact bodyPost_ret (v := .agg #[.int .i64 a1.kind, str a1.name, .int .i64 a1.at_, str a1.table, str a1.attr, z1.cols, z1.names, .int .i64 a1.by_, .int .i64 a1.n, .int .i64 a1.m, z1.terms, str a1.other, str a1.oattr, z1.fixed, z1.vars, z1.conds, .int .i64 (hd a1.ex).kind, str (hd a1.ex).table, z1.ks, z1.cs, z1.ns, str (hd a1.ex).attr, str (hd a1.ex).as_, .int .i64 (hd a1.ex).agg, .int .i64 (hd a1.ex).at_]) (results_cell_row rfl _ _ A _ _ _ _ rfl hres Tryz.underlying51 rfl infoIt) rfl
        (ppost_of_ok (V := isIt A) (R2.out.trans rfl) ⟨z1, rfl, HI⟩ (S2.out.row G.out.1 G.out.2 _) (N2.out.row (Nat.le_of_eq HA.out) _))
    · obtain ⟨rfl, hn⟩ := ppost_bad h2 hp
      exact ⟨rfl, ppost_of_bad (R1.out.trans (bnd_bad h2)) ((N1.out.trans (Tch.of_below (below_box _ (.cells #[.int .i64 a1.kind, str a1.name, .int .i64 a1.at_, str a1.table, str a1.attr, z1.cols, z1.names, .int .i64 a1.by_, .int .i64 a1.n, .int .i64 a1.m, z1.terms, str a1.other, str a1.oattr, z1.fixed, z1.vars, z1.conds, .int .i64 (hd a1.ex).kind, str (hd a1.ex).table, z1.ks, z1.cs, z1.ns, str (hd a1.ex).attr, str (hd a1.ex).as_, .int .i64 (hd a1.ex).agg, .int .i64 (hd a1.ex).at_] 51)))).trans hn)⟩
  · obtain ⟨rfl, hn⟩ := ppost_bad h1 hp
    exact ⟨rfl, ppost_of_bad (R0.out.trans (bnd_bad h1)) ((N0.out.trans (Tch.of_below (below_box _ (.cells #[.int .i64 0, str [], .int .i64 0, str [], str [], .slice none 0 0, .slice none 0 0, .int .i64 0, .int .i64 0, .int .i64 0, .slice none 0 0, str [], str [], .slice none 0 0, .slice none 0 0, .slice none 0 0, .int .i64 0, str [], .slice none 0 0, .slice none 0 0, .slice none 0 0, str [], str [], .int .i64 0, .int .i64 0] 51)))).trans hn)⟩
set_option maxRecDepth 100000 in
set_option maxHeartbeats 8000000 in
theorem depend_any {p : Ps} {r : List Tk} {lv : Int} (w : World) (h : Sta w p r lv) :
    Calls Tryz.prog 50 #[ptr p.g] w (PPost p lv w (isIt w.heap.size) (dependP r)) := by
  obtain ⟨R, hR⟩ : ∃ R, dependP r = R := ⟨_, rfl⟩
  rw [hR]
  have R0 := Lib.hid hR.symm
  have G := Lib.hid (And.intro h.lt h.lt2)
  have S0 := Lib.hid h
  have N0 := Lib.hid (Tch.refl (fun b => b = p.g) w)
  obtain ⟨A, hA⟩ : ∃ A, w.heap.size = A := ⟨_, rfl⟩
  have HA := Lib.hid hA
  rw [hA] at G
  rw [hA]
  clear hR h
  go_enter Tryz.func50, Tryz.ntmps50
  go_wp2_with fail
  refine (attrs_any 7 _ (S0.out.keep (below_box _ (.cells #[.int .i64 0, str [], .int .i64 0, str [], str [], .slice none 0 0, .slice none 0 0, .int .i64 0, .int .i64 0, .int .i64 0, .slice none 0 0, str [], str [], .slice none 0 0, .slice none 0 0, .slice none 0 0, .int .i64 0, str [], .slice none 0 0, .slice none 0 0, .slice none 0 0, str [], str [], .int .i64 0, .int .i64 0] 51)))).mono ?_
  intro e w1 hp
  rcases h1 : attrsP 7 r with ⟨a1, r1⟩ | ⟨b1, r1⟩
  · obtain ⟨v1, rfl, hv1, hs, hn⟩ := ppost_ok h1 hp
    have R1 := Lib.hid (R0.out.trans (bnd_ok h1))
    obtain ⟨D1, hD1⟩ : ∃ x, (w.alloc (.cells #[.int .i64 0, str [], .int .i64 0, str [], str [], .slice none 0 0, .slice none 0 0, .int .i64 0, .int .i64 0, .int .i64 0, .slice none 0 0, str [], str [], .slice none 0 0, .slice none 0 0, .slice none 0 0, .int .i64 0, str [], .slice none 0 0, .slice none 0 0, .slice none 0 0, str [], str [], .int .i64 0, .int .i64 0] 51)).heap.size = x := ⟨_, rfl⟩
    have GD1 := Lib.hid (show p.g < D1 ∧ A < D1 ∧ w.heap.size ≤ D1 from by have q0 := ((S0.out.keep (below_box _ (.cells #[.int .i64 0, str [], .int .i64 0, str [], str [], .slice none 0 0, .slice none 0 0, .int .i64 0, .int .i64 0, .int .i64 0, .slice none 0 0, str [], str [], .slice none 0 0, .slice none 0 0, .slice none 0 0, .int .i64 0, str [], .slice none 0 0, .slice none 0 0, .slice none 0 0, str [], str [], .int .i64 0, .int .i64 0] 51)))).lt; have q1 := ((Blk.new w 51 #[.int .i64 0, str [], .int .i64 0, str [], str [], .slice none 0 0, .slice none 0 0, .int .i64 0, .int .i64 0, .int .i64 0, .slice none 0 0, str [], str [], .slice none 0 0, .slice none 0 0, .slice none 0 0, .int .i64 0, str [], .slice none 0 0, .slice none 0 0, .slice none 0 0, str [], str [], .int .i64 0, .int .i64 0])).lt; have qq := ((N0.out.trans (Tch.of_below (below_box _ (.cells #[.int .i64 0, str [], .int .i64 0, str [], str [], .slice none 0 0, .slice none 0 0, .int .i64 0, .int .i64 0, .int .i64 0, .slice none 0 0, str [], str [], .slice none 0 0, .slice none 0 0, .slice none 0 0, .int .i64 0, str [], .slice none 0 0, .slice none 0 0, .slice none 0 0, str [], str [], .int .i64 0, .int .i64 0] 51))))).size; have eA := HA.out; omega)
    rw [hD1] at hv1
    obtain ⟨z1, rfl, hv1⟩ := hv1
    have V1 := Lib.hid hv1
    have K1_1 := Lib.hid (Kept.refl D1 w1)
    clear hv1 hD1
    have S1 := Lib.hid hs
    have hA : Blk w1 A 51 #[.int .i64 0, str [], .int .i64 0, str [], str [], .slice none 0 0, .slice none 0 0, .int .i64 0, .int .i64 0, .int .i64 0, .slice none 0 0, str [], str [], .slice none 0 0, .slice none 0 0, .slice none 0 0, .int .i64 0, str [], .slice none 0 0, .slice none 0 0, .slice none 0 0, str [], str [], .int .i64 0, .int .i64 0] := by
      have q := ((Blk.new w 51 #[.int .i64 0, str [], .int .i64 0, str [], str [], .slice none 0 0, .slice none 0 0, .int .i64 0, .int .i64 0, .int .i64 0, .slice none 0 0, str [], str [], .slice none 0 0, .slice none 0 0, .slice none 0 0, .int .i64 0, str [], .slice none 0 0, .slice none 0 0, .slice none 0 0, str [], str [], .int .i64 0, .int .i64 0]) : Blk _ _ _ _)
      rw [HA.out] at q
      exact q.near hn (Nat.ne_of_gt G.out.1)
    have BA1 := Lib.hid hA
    have N1 := Lib.hid ((N0.out.trans (Tch.of_below (below_box _ (.cells #[.int .i64 0, str [], .int .i64 0, str [], str [], .slice none 0 0, .slice none 0 0, .int .i64 0, .int .i64 0, .int .i64 0, .slice none 0 0, str [], str [], .slice none 0 0, .slice none 0 0, .slice none 0 0, .int .i64 0, str [], .slice none 0 0, .slice none 0 0, .slice none 0 0, str [], str [], .int .i64 0, .int .i64 0] 51)))).trans hn)
    have Y1 := Lib.hid h1
    clear hs hn hp hA h1
    obtain ⟨B, hB⟩ : ∃ x, w1.heap.size = x := ⟨_, rfl⟩
    have HB := Lib.hid hB
    have GB := Lib.hid (show p.g < B ∧ p.b < B ∧ w.heap.size ≤ B ∧ A < B from by have q1 := (S1.out).lt; have q2 := (S1.out).lt2; have q3 := (N1.out).size; rw [hB] at q1 q2 q3; have q4 := (BA1.out).lt; have q5 := HA.out; rw [hB] at q4; exact ⟨q1, q2, q3, by omega⟩)
    have GL1B := Lib.hid (show w1.heap.size ≤ B from by have q := (K1_1.out).size; omega)
    go_wp2_with (refine wpList_store_new rfl 51 (.tmp 3) (.tmp 5) rfl B _ #[.int .i64 a1.kind, str a1.name, .int .i64 a1.at_, str a1.table, str a1.attr, z1.cols, z1.names, .int .i64 a1.by_, .int .i64 a1.n, .int .i64 a1.m, z1.terms, str a1.other, str a1.oattr, z1.fixed, z1.vars, z1.conds, .int .i64 (hd a1.ex).kind, str (hd a1.ex).table, z1.ks, z1.cs, z1.ns, str (hd a1.ex).attr, str (hd a1.ex).as_, .int .i64 (hd a1.ex).agg, .int .i64 (hd a1.ex).at_] HB.out rfl rfl infoIt rfl (by exact ((V1.out.stay K1_1.out)).one) ?_)
    refine (expect_one [116, 111] (by decide) _ _ _ (by first | omega | (simp; omega) | simp) (S1.out.keep (below_box _ (.cells #[.int .i64 a1.kind, str a1.name, .int .i64 a1.at_, str a1.table, str a1.attr, z1.cols, z1.names, .int .i64 a1.by_, .int .i64 a1.n, .int .i64 a1.m, z1.terms, str a1.other, str a1.oattr, z1.fixed, z1.vars, z1.conds, .int .i64 (hd a1.ex).kind, str (hd a1.ex).table, z1.ks, z1.cs, z1.ns, str (hd a1.ex).attr, str (hd a1.ex).as_, .int .i64 (hd a1.ex).agg, .int .i64 (hd a1.ex).at_] 51)))).mono ?_
    intro e w2 hp
    rcases h2 : expP [116, 111] r1 with ⟨a2, r2⟩ | ⟨b2, r2⟩
    · obtain ⟨v2, rfl, rfl, hs, hn⟩ := ppost_ok h2 hp
      have R2 := Lib.hid (R1.out.trans (bnd_ok h2))
      have S2 := Lib.hid hs
      have hA : Blk w2 A 51 #[.int .i64 0, str [], .int .i64 0, str [], str [], .slice none 0 0, .slice none 0 0, .int .i64 0, .int .i64 0, .int .i64 0, .slice none 0 0, str [], str [], .slice none 0 0, .slice none 0 0, .slice none 0 0, .int .i64 0, str [], .slice none 0 0, .slice none 0 0, .slice none 0 0, str [], str [], .int .i64 0, .int .i64 0] := (BA1.out.alloc (.cells #[.int .i64 a1.kind, str a1.name, .int .i64 a1.at_, str a1.table, str a1.attr, z1.cols, z1.names, .int .i64 a1.by_, .int .i64 a1.n, .int .i64 a1.m, z1.terms, str a1.other, str a1.oattr, z1.fixed, z1.vars, z1.conds, .int .i64 (hd a1.ex).kind, str (hd a1.ex).table, z1.ks, z1.cs, z1.ns, str (hd a1.ex).attr, str (hd a1.ex).as_, .int .i64 (hd a1.ex).agg, .int .i64 (hd a1.ex).at_] 51)).near hn (Nat.ne_of_gt G.out.1)
      have hB : Blk w2 B 51 #[.int .i64 a1.kind, str a1.name, .int .i64 a1.at_, str a1.table, str a1.attr, z1.cols, z1.names, .int .i64 a1.by_, .int .i64 a1.n, .int .i64 a1.m, z1.terms, str a1.other, str a1.oattr, z1.fixed, z1.vars, z1.conds, .int .i64 (hd a1.ex).kind, str (hd a1.ex).table, z1.ks, z1.cs, z1.ns, str (hd a1.ex).attr, str (hd a1.ex).as_, .int .i64 (hd a1.ex).agg, .int .i64 (hd a1.ex).at_] := by
        have q := ((Blk.new w1 51 #[.int .i64 a1.kind, str a1.name, .int .i64 a1.at_, str a1.table, str a1.attr, z1.cols, z1.names, .int .i64 a1.by_, .int .i64 a1.n, .int .i64 a1.m, z1.terms, str a1.other, str a1.oattr, z1.fixed, z1.vars, z1.conds, .int .i64 (hd a1.ex).kind, str (hd a1.ex).table, z1.ks, z1.cs, z1.ns, str (hd a1.ex).attr, str (hd a1.ex).as_, .int .i64 (hd a1.ex).agg, .int .i64 (hd a1.ex).at_]) : Blk _ _ _ _)
        rw [HB.out] at q
        exact q.near hn (Nat.ne_of_gt GB.out.1)
      have BA2 := Lib.hid hA
      have BB2 := Lib.hid hB
      have N2 := Lib.hid ((N1.out.trans (Tch.of_below (below_box _ (.cells #[.int .i64 a1.kind, str a1.name, .int .i64 a1.at_, str a1.table, str a1.attr, z1.cols, z1.names, .int .i64 a1.by_, .int .i64 a1.n, .int .i64 a1.m, z1.terms, str a1.other, str a1.oattr, z1.fixed, z1.vars, z1.conds, .int .i64 (hd a1.ex).kind, str (hd a1.ex).table, z1.ks, z1.cs, z1.ns, str (hd a1.ex).attr, str (hd a1.ex).as_, .int .i64 (hd a1.ex).agg, .int .i64 (hd a1.ex).at_] 51)))).trans hn)
      have K1_2 := Lib.hid ((K1_1.out.keep (below_box _ (.cells #[.int .i64 a1.kind, str a1.name, .int .i64 a1.at_, str a1.table, str a1.attr, z1.cols, z1.names, .int .i64 a1.by_, .int .i64 a1.n, .int .i64 a1.m, z1.terms, str a1.other, str a1.oattr, z1.fixed, z1.vars, z1.conds, .int .i64 (hd a1.ex).kind, str (hd a1.ex).table, z1.ks, z1.cs, z1.ns, str (hd a1.ex).attr, str (hd a1.ex).as_, .int .i64 (hd a1.ex).agg, .int .i64 (hd a1.ex).at_] 51))).near hn GD1.out.1)
      have Y2 := Lib.hid h2
      clear hs hn hp hA hB h2
      go_wp2_with fail
      refine (name_any _ S2.out).mono ?_
      intro e w3 hp
      rcases h3 : nameP r2 with ⟨a3, r3⟩ | ⟨b3, r3⟩
      · obtain ⟨v3, rfl, rfl, hs, hn⟩ := ppost_ok h3 hp
        have R3 := Lib.hid (R2.out.trans (bnd_ok h3))
        have S3 := Lib.hid hs
        have hA : Blk w3 A 51 #[.int .i64 0, str [], .int .i64 0, str [], str [], .slice none 0 0, .slice none 0 0, .int .i64 0, .int .i64 0, .int .i64 0, .slice none 0 0, str [], str [], .slice none 0 0, .slice none 0 0, .slice none 0 0, .int .i64 0, str [], .slice none 0 0, .slice none 0 0, .slice none 0 0, str [], str [], .int .i64 0, .int .i64 0] := BA2.out.near hn (Nat.ne_of_gt G.out.1)
        have hB : Blk w3 B 51 #[.int .i64 a1.kind, str a1.name, .int .i64 a1.at_, str a1.table, str a1.attr, z1.cols, z1.names, .int .i64 a1.by_, .int .i64 a1.n, .int .i64 a1.m, z1.terms, str a1.other, str a1.oattr, z1.fixed, z1.vars, z1.conds, .int .i64 (hd a1.ex).kind, str (hd a1.ex).table, z1.ks, z1.cs, z1.ns, str (hd a1.ex).attr, str (hd a1.ex).as_, .int .i64 (hd a1.ex).agg, .int .i64 (hd a1.ex).at_] := BB2.out.near hn (Nat.ne_of_gt GB.out.1)
        have BA3 := Lib.hid hA
        have BB3 := Lib.hid hB
        have N3 := Lib.hid (N2.out.trans hn)
        have K1_3 := Lib.hid (K1_2.out.near hn GD1.out.1)
        have Y3 := Lib.hid h3
        clear hs hn hp hA hB h3
        have cB3 := fun i => BB3.out.cell i
        have fB3 := fun i => BB3.out.frozen i
        obtain ⟨c4, r4, h4⟩ := acc_ok [119, 104, 101, 114, 101] r3
        have X4 := Lib.hid h4
        go_wp2_with fail
        refine (accept_any [119, 104, 101, 114, 101] (by decide) _ (S3.out.cell (a := ⟨B, 4, none⟩) GB.out.1 GB.out.2.1 (str a3))).mono ?_
        intro e w4 hp
        obtain ⟨v4, rfl, rfl, hs, hn⟩ := ppost_ok X4.out hp
        have R4 := Lib.hid (R3.out.trans (bnd_ok X4.out))
        have S4 := Lib.hid hs
        have hA : Blk w4 A 51 #[.int .i64 0, str [], .int .i64 0, str [], str [], .slice none 0 0, .slice none 0 0, .int .i64 0, .int .i64 0, .int .i64 0, .slice none 0 0, str [], str [], .slice none 0 0, .slice none 0 0, .slice none 0 0, .int .i64 0, str [], .slice none 0 0, .slice none 0 0, .slice none 0 0, str [], str [], .int .i64 0, .int .i64 0] := (BA3.out.far (p := ⟨B, 4, none⟩) (Nat.ne_of_lt GB.out.2.2.2) (str a3)).near hn (Nat.ne_of_gt G.out.1)
        have hB : Blk w4 B 51 #[.int .i64 a1.kind, str a1.name, .int .i64 a1.at_, str a1.table, str a3, z1.cols, z1.names, .int .i64 a1.by_, .int .i64 a1.n, .int .i64 a1.m, z1.terms, str a1.other, str a1.oattr, z1.fixed, z1.vars, z1.conds, .int .i64 (hd a1.ex).kind, str (hd a1.ex).table, z1.ks, z1.cs, z1.ns, str (hd a1.ex).attr, str (hd a1.ex).as_, .int .i64 (hd a1.ex).agg, .int .i64 (hd a1.ex).at_] := (BB3.out.set_ 4 (str a3)).near hn (Nat.ne_of_gt GB.out.1)
        have BA4 := Lib.hid hA
        have BB4 := Lib.hid hB
        have N4 := Lib.hid ((N3.out.set2 (p := ⟨B, 4, none⟩) GB.out.2.2.1 (str a3)).trans hn)
        have K1_4 := Lib.hid ((K1_3.out.set2 (p := ⟨B, 4, none⟩) GL1B.out (str a3)).near hn GD1.out.1)
        clear hs hn hp hA hB h4
        cases c4
        · skip
          have R4q := R4.out
          simp only [eq_self, if_true, if_false, Bool.false_eq_true, pur_bnd] at R4q
          have R4z := Lib.hid R4q
          clear R4q
          go_wp2_with fail
          refine (expect_one [59] (by decide) _ _ _ (by first | omega | (simp; omega) | simp) S4.out).mono ?_
          intro e w5 hp
          rcases h5 : expP [59] r4 with ⟨a5, r5⟩ | ⟨b5, r5⟩
          · obtain ⟨v5, rfl, rfl, hs, hn⟩ := ppost_ok h5 hp
            have R5 := Lib.hid (R4z.out.trans (bnd_ok h5))
            have S5 := Lib.hid hs
            have hA : Blk w5 A 51 #[.int .i64 0, str [], .int .i64 0, str [], str [], .slice none 0 0, .slice none 0 0, .int .i64 0, .int .i64 0, .int .i64 0, .slice none 0 0, str [], str [], .slice none 0 0, .slice none 0 0, .slice none 0 0, .int .i64 0, str [], .slice none 0 0, .slice none 0 0, .slice none 0 0, str [], str [], .int .i64 0, .int .i64 0] := BA4.out.near hn (Nat.ne_of_gt G.out.1)
            have hB : Blk w5 B 51 #[.int .i64 a1.kind, str a1.name, .int .i64 a1.at_, str a1.table, str a3, z1.cols, z1.names, .int .i64 a1.by_, .int .i64 a1.n, .int .i64 a1.m, z1.terms, str a1.other, str a1.oattr, z1.fixed, z1.vars, z1.conds, .int .i64 (hd a1.ex).kind, str (hd a1.ex).table, z1.ks, z1.cs, z1.ns, str (hd a1.ex).attr, str (hd a1.ex).as_, .int .i64 (hd a1.ex).agg, .int .i64 (hd a1.ex).at_] := BB4.out.near hn (Nat.ne_of_gt GB.out.1)
            have BA5 := Lib.hid hA
            have BB5 := Lib.hid hB
            have N5 := Lib.hid (N4.out.trans hn)
            have K1_5 := Lib.hid (K1_4.out.near hn GD1.out.1)
            have Y5 := Lib.hid h5
            clear hs hn hp hA hB h5
            have HL := Lib.hid (show Blk _ B 51 #[.int .i64 a1.kind, str a1.name, .int .i64 a1.at_, str a1.table, str a3, z1.cols, z1.names, .int .i64 a1.by_, .int .i64 a1.n, .int .i64 a1.m, z1.terms, str a1.other, str a1.oattr, z1.fixed, z1.vars, z1.conds, .int .i64 (hd a1.ex).kind, str (hd a1.ex).table, z1.ks, z1.cs, z1.ns, str (hd a1.ex).attr, str (hd a1.ex).as_, .int .i64 (hd a1.ex).agg, .int .i64 (hd a1.ex).at_] from BB5.out)
            have HQ := Lib.hid BA5.out
            have hone : (#[.int .i64 a1.kind, str a1.name, .int .i64 a1.at_, str a1.table, str a3, z1.cols, z1.names, .int .i64 a1.by_, .int .i64 a1.n, .int .i64 a1.m, z1.terms, str a1.other, str a1.oattr, z1.fixed, z1.vars, z1.conds, .int .i64 (hd a1.ex).kind, str (hd a1.ex).table, z1.ks, z1.cs, z1.ns, str (hd a1.ex).attr, str (hd a1.ex).as_, .int .i64 (hd a1.ex).agg, .int .i64 (hd a1.ex).at_] : Array Value).all (·.oneCell') = true := by
              have hz := (V1.out.stay K1_5.out)
              simp [oc_int, oc_str, oc_slice, hz.cols.isSl.one, hz.names.isSl.one, hz.terms.isSl.one, hz.fixed.isSl.one, hz.vars.isSl.one, hz.conds.isSl.one, hz.ex.isSl.1.one, hz.ex.isSl.2.1.one, hz.ex.isSl.2.2.one]
            go_wp2_with (first | (refine wpList_load_row rfl 51 (.tmp 3) rfl B rfl _ #[.int .i64 a1.kind, str a1.name, .int .i64 a1.at_, str a1.table, str a3, z1.cols, z1.names, .int .i64 a1.by_, .int .i64 a1.n, .int .i64 a1.m, z1.terms, str a1.other, str a1.oattr, z1.fixed, z1.vars, z1.conds, .int .i64 (hd a1.ex).kind, str (hd a1.ex).table, z1.ks, z1.cs, z1.ns, str (hd a1.ex).attr, str (hd a1.ex).as_, .int .i64 (hd a1.ex).agg, .int .i64 (hd a1.ex).at_] _ _ HL.out Tryz.underlying51 rfl infoIt ?_) | (refine wpList_store_row rfl 51 (.tmp 2) (.tmp 22) rfl A #[.int .i64 a1.kind, str a1.name, .int .i64 a1.at_, str a1.table, str a3, z1.cols, z1.names, .int .i64 a1.by_, .int .i64 a1.n, .int .i64 a1.m, z1.terms, str a1.other, str a1.oattr, z1.fixed, z1.vars, z1.conds, .int .i64 (hd a1.ex).kind, str (hd a1.ex).table, z1.ks, z1.cs, z1.ns, str (hd a1.ex).attr, str (hd a1.ex).as_, .int .i64 (hd a1.ex).agg, .int .i64 (hd a1.ex).at_] rfl rfl _ _ HQ.out infoIt rfl hone ?_))
            have hres := (HQ.out.row #[.int .i64 a1.kind, str a1.name, .int .i64 a1.at_, str a1.table, str a3, z1.cols, z1.names, .int .i64 a1.by_, .int .i64 a1.n, .int .i64 a1.m, z1.terms, str a1.other, str a1.oattr, z1.fixed, z1.vars, z1.conds, .int .i64 (hd a1.ex).kind, str (hd a1.ex).table, z1.ks, z1.cs, z1.ns, str (hd a1.ex).attr, str (hd a1.ex).as_, .int .i64 (hd a1.ex).agg, .int .i64 (hd a1.ex).at_])
            have HI := ((V1.out.stay (K1_5.out.row GD1.out.2.1 #[.int .i64 a1.kind, str a1.name, .int .i64 a1.at_, str a1.table, str a3, z1.cols, z1.names, .int .i64 a1.by_, .int .i64 a1.n, .int .i64 a1.m, z1.terms, str a1.other, str a1.oattr, z1.fixed, z1.vars, z1.conds, .int .i64 (hd a1.ex).kind, str (hd a1.ex).table, z1.ks, z1.cs, z1.ns, str (hd a1.ex).attr, str (hd a1.ex).as_, .int .i64 (hd a1.ex).agg, .int .i64 (hd a1.ex).at_])).lower (Nat.le_of_lt GD1.out.2.1))
            exact bodyPost_ret (v := .agg #[.int .i64 a1.kind, str a1.name, .int .i64 a1.at_, str a1.table, str a3, z1.cols, z1.names, .int .i64 a1.by_, .int .i64 a1.n, .int .i64 a1.m, z1.terms, str a1.other, str a1.oattr, z1.fixed, z1.vars, z1.conds, .int .i64 (hd a1.ex).kind, str (hd a1.ex).table, z1.ks, z1.cs, z1.ns, str (hd a1.ex).attr, str (hd a1.ex).as_, .int .i64 (hd a1.ex).agg, .int .i64 (hd a1.ex).at_]) (results_cell_row rfl _ _ A _ _ _ _ rfl hres Tryz.underlying51 rfl infoIt) rfl
              (ppost_of_ok (V := isIt A) (R5.out.trans rfl) ⟨{ z1 with fixed := z1.fixed }, rfl, { HI with fixed := HI.fixed }⟩ (S5.out.row G.out.1 G.out.2 _) (N5.out.row (Nat.le_of_eq HA.out) _))
          · obtain ⟨rfl, hn⟩ := ppost_bad h5 hp
            exact ⟨rfl, ppost_of_bad (R4z.out.trans (bnd_bad h5)) (N4.out.trans hn)⟩
        · skip
          have R4q := R4.out
          simp only [eq_self, if_true, if_false, Bool.false_eq_true, pur_bnd] at R4q
          have R4z := Lib.hid R4q
          clear R4q
          go_wp2_with fail
          refine (nam_list [44] (by decide) _ S4.out).mono ?_
          intro e w5 hp
          rcases h5 : listP [44] fixedP FU r4 with ⟨a5, r5⟩ | ⟨b5, r5⟩
          · obtain ⟨v5, rfl, hv5, hs, hn⟩ := ppost_ok h5 hp
            have R5 := Lib.hid (R4z.out.trans (bnd_ok h5))
            obtain ⟨D5, hD5⟩ : ∃ x, w4.heap.size = x := ⟨_, rfl⟩
            have GD5 := Lib.hid (show p.g < D5 ∧ A < D5 ∧ B < D5 ∧ w.heap.size ≤ D5 from by have q0 := (S4.out).lt; have q1 := (BA4.out).lt; have q2 := (BB4.out).lt; have qq := (N4.out).size; have eA := HA.out; have eB := HB.out; omega)
            rw [hD5] at hv5
            obtain ⟨sA5, sn5, sc5, rfl⟩ := hv5.isSl
            have V5 := Lib.hid hv5
            have K5_5 := Lib.hid (Kept.refl D5 w5)
            clear hv5 hD5
            have S5 := Lib.hid hs
            have hA : Blk w5 A 51 #[.int .i64 0, str [], .int .i64 0, str [], str [], .slice none 0 0, .slice none 0 0, .int .i64 0, .int .i64 0, .int .i64 0, .slice none 0 0, str [], str [], .slice none 0 0, .slice none 0 0, .slice none 0 0, .int .i64 0, str [], .slice none 0 0, .slice none 0 0, .slice none 0 0, str [], str [], .int .i64 0, .int .i64 0] := BA4.out.near hn (Nat.ne_of_gt G.out.1)
            have hB : Blk w5 B 51 #[.int .i64 a1.kind, str a1.name, .int .i64 a1.at_, str a1.table, str a3, z1.cols, z1.names, .int .i64 a1.by_, .int .i64 a1.n, .int .i64 a1.m, z1.terms, str a1.other, str a1.oattr, z1.fixed, z1.vars, z1.conds, .int .i64 (hd a1.ex).kind, str (hd a1.ex).table, z1.ks, z1.cs, z1.ns, str (hd a1.ex).attr, str (hd a1.ex).as_, .int .i64 (hd a1.ex).agg, .int .i64 (hd a1.ex).at_] := BB4.out.near hn (Nat.ne_of_gt GB.out.1)
            have BA5 := Lib.hid hA
            have BB5 := Lib.hid hB
            have N5 := Lib.hid (N4.out.trans hn)
            have K1_5 := Lib.hid (K1_4.out.near hn GD1.out.1)
            have Y5 := Lib.hid h5
            clear hs hn hp hA hB h5
            have cB5 := fun i => BB5.out.cell i
            have fB5 := fun i => BB5.out.frozen i
            go_wp2_with fail
            refine (expect_one [59] (by decide) _ _ _ (by first | omega | (simp; omega) | simp) (S5.out.cell (a := ⟨B, 13, none⟩) GB.out.1 GB.out.2.1 (.slice sA5 sn5 sc5))).mono ?_
            intro e w6 hp
            rcases h6 : expP [59] r5 with ⟨a6, r6⟩ | ⟨b6, r6⟩
            · obtain ⟨v6, rfl, rfl, hs, hn⟩ := ppost_ok h6 hp
              have R6 := Lib.hid (R5.out.trans (bnd_ok h6))
              have S6 := Lib.hid hs
              have hA : Blk w6 A 51 #[.int .i64 0, str [], .int .i64 0, str [], str [], .slice none 0 0, .slice none 0 0, .int .i64 0, .int .i64 0, .int .i64 0, .slice none 0 0, str [], str [], .slice none 0 0, .slice none 0 0, .slice none 0 0, .int .i64 0, str [], .slice none 0 0, .slice none 0 0, .slice none 0 0, str [], str [], .int .i64 0, .int .i64 0] := (BA5.out.far (p := ⟨B, 13, none⟩) (Nat.ne_of_lt GB.out.2.2.2) (.slice sA5 sn5 sc5)).near hn (Nat.ne_of_gt G.out.1)
              have hB : Blk w6 B 51 #[.int .i64 a1.kind, str a1.name, .int .i64 a1.at_, str a1.table, str a3, z1.cols, z1.names, .int .i64 a1.by_, .int .i64 a1.n, .int .i64 a1.m, z1.terms, str a1.other, str a1.oattr, .slice sA5 sn5 sc5, z1.vars, z1.conds, .int .i64 (hd a1.ex).kind, str (hd a1.ex).table, z1.ks, z1.cs, z1.ns, str (hd a1.ex).attr, str (hd a1.ex).as_, .int .i64 (hd a1.ex).agg, .int .i64 (hd a1.ex).at_] := (BB5.out.set_ 13 (.slice sA5 sn5 sc5)).near hn (Nat.ne_of_gt GB.out.1)
              have BA6 := Lib.hid hA
              have BB6 := Lib.hid hB
              have N6 := Lib.hid ((N5.out.set2 (p := ⟨B, 13, none⟩) GB.out.2.2.1 (.slice sA5 sn5 sc5)).trans hn)
              have K1_6 := Lib.hid ((K1_5.out.set2 (p := ⟨B, 13, none⟩) GL1B.out (.slice sA5 sn5 sc5)).near hn GD1.out.1)
              have K5_6 := Lib.hid ((K5_5.out.set (p := ⟨B, 13, none⟩) GD5.out.2.2.1 (.slice sA5 sn5 sc5)).near hn GD5.out.1)
              have Y6 := Lib.hid h6
              clear hs hn hp hA hB h6
              have HL := Lib.hid (show Blk _ B 51 #[.int .i64 a1.kind, str a1.name, .int .i64 a1.at_, str a1.table, str a3, z1.cols, z1.names, .int .i64 a1.by_, .int .i64 a1.n, .int .i64 a1.m, z1.terms, str a1.other, str a1.oattr, .slice sA5 sn5 sc5, z1.vars, z1.conds, .int .i64 (hd a1.ex).kind, str (hd a1.ex).table, z1.ks, z1.cs, z1.ns, str (hd a1.ex).attr, str (hd a1.ex).as_, .int .i64 (hd a1.ex).agg, .int .i64 (hd a1.ex).at_] from BB6.out)
              have HQ := Lib.hid BA6.out
              have hone : (#[.int .i64 a1.kind, str a1.name, .int .i64 a1.at_, str a1.table, str a3, z1.cols, z1.names, .int .i64 a1.by_, .int .i64 a1.n, .int .i64 a1.m, z1.terms, str a1.other, str a1.oattr, .slice sA5 sn5 sc5, z1.vars, z1.conds, .int .i64 (hd a1.ex).kind, str (hd a1.ex).table, z1.ks, z1.cs, z1.ns, str (hd a1.ex).attr, str (hd a1.ex).as_, .int .i64 (hd a1.ex).agg, .int .i64 (hd a1.ex).at_] : Array Value).all (·.oneCell') = true := by
                have hz := (V1.out.stay K1_6.out)
                simp [oc_int, oc_str, oc_slice, hz.cols.isSl.one, hz.names.isSl.one, hz.terms.isSl.one, hz.fixed.isSl.one, hz.vars.isSl.one, hz.conds.isSl.one, hz.ex.isSl.1.one, hz.ex.isSl.2.1.one, hz.ex.isSl.2.2.one]
              go_wp2_with (first | (refine wpList_load_row rfl 51 (.tmp 3) rfl B rfl _ #[.int .i64 a1.kind, str a1.name, .int .i64 a1.at_, str a1.table, str a3, z1.cols, z1.names, .int .i64 a1.by_, .int .i64 a1.n, .int .i64 a1.m, z1.terms, str a1.other, str a1.oattr, .slice sA5 sn5 sc5, z1.vars, z1.conds, .int .i64 (hd a1.ex).kind, str (hd a1.ex).table, z1.ks, z1.cs, z1.ns, str (hd a1.ex).attr, str (hd a1.ex).as_, .int .i64 (hd a1.ex).agg, .int .i64 (hd a1.ex).at_] _ _ HL.out Tryz.underlying51 rfl infoIt ?_) | (refine wpList_store_row rfl 51 (.tmp 2) (.tmp 22) rfl A #[.int .i64 a1.kind, str a1.name, .int .i64 a1.at_, str a1.table, str a3, z1.cols, z1.names, .int .i64 a1.by_, .int .i64 a1.n, .int .i64 a1.m, z1.terms, str a1.other, str a1.oattr, .slice sA5 sn5 sc5, z1.vars, z1.conds, .int .i64 (hd a1.ex).kind, str (hd a1.ex).table, z1.ks, z1.cs, z1.ns, str (hd a1.ex).attr, str (hd a1.ex).as_, .int .i64 (hd a1.ex).agg, .int .i64 (hd a1.ex).at_] rfl rfl _ _ HQ.out infoIt rfl hone ?_))
              have hres := (HQ.out.row #[.int .i64 a1.kind, str a1.name, .int .i64 a1.at_, str a1.table, str a3, z1.cols, z1.names, .int .i64 a1.by_, .int .i64 a1.n, .int .i64 a1.m, z1.terms, str a1.other, str a1.oattr, .slice sA5 sn5 sc5, z1.vars, z1.conds, .int .i64 (hd a1.ex).kind, str (hd a1.ex).table, z1.ks, z1.cs, z1.ns, str (hd a1.ex).attr, str (hd a1.ex).as_, .int .i64 (hd a1.ex).agg, .int .i64 (hd a1.ex).at_])
              have HI := ((V1.out.stay (K1_6.out.row GD1.out.2.1 #[.int .i64 a1.kind, str a1.name, .int .i64 a1.at_, str a1.table, str a3, z1.cols, z1.names, .int .i64 a1.by_, .int .i64 a1.n, .int .i64 a1.m, z1.terms, str a1.other, str a1.oattr, .slice sA5 sn5 sc5, z1.vars, z1.conds, .int .i64 (hd a1.ex).kind, str (hd a1.ex).table, z1.ks, z1.cs, z1.ns, str (hd a1.ex).attr, str (hd a1.ex).as_, .int .i64 (hd a1.ex).agg, .int .i64 (hd a1.ex).at_])).lower (Nat.le_of_lt GD1.out.2.1))
              exact bodyPost_ret (v := .agg #[.int .i64 a1.kind, str a1.name, .int .i64 a1.at_, str a1.table, str a3, z1.cols, z1.names, .int .i64 a1.by_, .int .i64 a1.n, .int .i64 a1.m, z1.terms, str a1.other, str a1.oattr, .slice sA5 sn5 sc5, z1.vars, z1.conds, .int .i64 (hd a1.ex).kind, str (hd a1.ex).table, z1.ks, z1.cs, z1.ns, str (hd a1.ex).attr, str (hd a1.ex).as_, .int .i64 (hd a1.ex).agg, .int .i64 (hd a1.ex).at_]) (results_cell_row rfl _ _ A _ _ _ _ rfl hres Tryz.underlying51 rfl infoIt) rfl
                (ppost_of_ok (V := isIt A) (R6.out.trans rfl) ⟨{ z1 with fixed := .slice sA5 sn5 sc5 }, rfl, { HI with fixed := ((V5.out.stay len_nam (K5_6.out.row GD5.out.2.1 _)).lower (Nat.le_of_lt GD5.out.2.1)) }⟩ (S6.out.row G.out.1 G.out.2 _) (N6.out.row (Nat.le_of_eq HA.out) _))
            · obtain ⟨rfl, hn⟩ := ppost_bad h6 hp
              exact ⟨rfl, ppost_of_bad (R5.out.trans (bnd_bad h6)) ((N5.out.set2 (p := ⟨B, 13, none⟩) GB.out.2.2.1 (.slice sA5 sn5 sc5)).trans hn)⟩
          · obtain ⟨rfl, hn⟩ := ppost_bad h5 hp
            exact ⟨rfl, ppost_of_bad (R4z.out.trans (bnd_bad h5)) (N4.out.trans hn)⟩
      · obtain ⟨rfl, hn⟩ := ppost_bad h3 hp
        exact ⟨rfl, ppost_of_bad (R2.out.trans (bnd_bad h3)) (N2.out.trans hn)⟩
    · obtain ⟨rfl, hn⟩ := ppost_bad h2 hp
      exact ⟨rfl, ppost_of_bad (R1.out.trans (bnd_bad h2)) ((N1.out.trans (Tch.of_below (below_box _ (.cells #[.int .i64 a1.kind, str a1.name, .int .i64 a1.at_, str a1.table, str a1.attr, z1.cols, z1.names, .int .i64 a1.by_, .int .i64 a1.n, .int .i64 a1.m, z1.terms, str a1.other, str a1.oattr, z1.fixed, z1.vars, z1.conds, .int .i64 (hd a1.ex).kind, str (hd a1.ex).table, z1.ks, z1.cs, z1.ns, str (hd a1.ex).attr, str (hd a1.ex).as_, .int .i64 (hd a1.ex).agg, .int .i64 (hd a1.ex).at_] 51)))).trans hn)⟩
  · obtain ⟨rfl, hn⟩ := ppost_bad h1 hp
    exact ⟨rfl, ppost_of_bad (R0.out.trans (bnd_bad h1)) ((N0.out.trans (Tch.of_below (below_box _ (.cells #[.int .i64 0, str [], .int .i64 0, str [], str [], .slice none 0 0, .slice none 0 0, .int .i64 0, .int .i64 0, .int .i64 0, .slice none 0 0, str [], str [], .slice none 0 0, .slice none 0 0, .slice none 0 0, .int .i64 0, str [], .slice none 0 0, .slice none 0 0, .slice none 0 0, str [], str [], .int .i64 0, .int .i64 0] 51)))).trans hn)⟩
end Go.Proofs.YtcgkaecaddpenaaGreatDoor
