/- ParserOffsets, walked. -/
import Derived.Test.YtfipkdnddghjpaaGreatDoorPsOrdW
namespace Go.Proofs.YtfipkdnddghjpaaGreatDoor
open Go.RowKit
open L7 (Tk lexT lx gap)
open L8
set_option linter.unusedSimpArgs false

theorem parse_nil {t : Txt} {a : List It} {er x : Int} (h : parseT t = (a, er, x)) (he : er ≠ 0) : a = [] := by
  by_cases hl : (lexT t).2.1 ≠ 0
  · rw [parse_err hl] at h
    simp only [Prod.mk.injEq] at h
    exact h.1.symm
  · have he2 : lexT t = ((lexT t).1, 0, (lexT t).2.2) := Prod.ext rfl (Prod.ext (by simpa using hl) rfl)
    rw [parse_lex he2] at h
    rcases e : itemsP 200 (lexT t).1 with ⟨l, r⟩ | ⟨c, r⟩
    · rw [e] at h
      simp only [endT, Prod.mk.injEq] at h
      omega
    · rw [e] at h
      simp only [endT, Prod.mk.injEq] at h
      exact h.1.symm
set_option maxRecDepth 100000 in
set_option maxHeartbeats 8000000 in
theorem words_any (w : World) : Calls Tryz.prog 17 #[] w (fun e w' => e = .returned (.slice (some ⟨w.heap.size, 0, none⟩) 10 10) ∧ (∀ k x, kindsW[k]? = some x → w'.cell? ⟨w.heap.size, k, none⟩ = some (str x)) ∧ Below w.heap.size w w') := by
  go_enter Tryz.func17, Tryz.ntmps17
  go_wp2_with fail
  go_ret
  refine ⟨rfl, fun k x hk => ?_, below_box w _⟩
  have hk10 : k < 10 := (List.getElem?_eq_some_iff.1 hk).1
  have h2 := (Blk.new w 9 #[str [116, 97, 98, 108, 101], str [115, 111, 117, 114, 99, 101], str [98, 108, 111, 99, 107], str [109, 97, 116, 99, 104], str [107, 101, 101, 112], str [117, 110, 105, 113, 117, 101], str [100, 101, 112, 101, 110, 100], str [105, 110, 99, 108, 117, 100, 101], str [100, 101, 110, 121], str [113, 117, 101, 114, 121]]).cell k
  rw [show (w.alloc _).cell? ⟨w.heap.size, k, none⟩ = _ from h2]
  match k, hk10 with
  | 0, _ => cases hk; rfl
  | 1, _ => cases hk; rfl
  | 2, _ => cases hk; rfl
  | 3, _ => cases hk; rfl
  | 4, _ => cases hk; rfl
  | 5, _ => cases hk; rfl
  | 6, _ => cases hk; rfl
  | 7, _ => cases hk; rfl
  | 8, _ => cases hk; rfl
  | 9, _ => cases hk; rfl
set_option maxRecDepth 100000 in
set_option maxHeartbeats 8000000 in
theorem off_long (t : Txt) (h : 8000 < t.length) (w : World) : Calls Tryz.prog 7 #[str t] w (fun e w' => e = .returned (.bool true) ∧ Below w.heap.size w w') := by
  have hsz := sz t
  have d : (8000 : Int) < (t.length : Int) := by omega
  clear h
  go_enter Tryz.func7, Tryz.ntmps7
  go_wp2_with fail
  refine (head_any _).mono ?_
  rintro e w1 ⟨rfl, hb1⟩
  have HB1 := Lib.hid hb1
  clear hb1
  go_wp2_with fail
  go_ret
  exact ⟨rfl, HB1.out⟩
set_option maxRecDepth 100000 in
set_option maxHeartbeats 8000000 in
theorem off_err (t : Txt) (h : t.length ≤ 8000) {a : List It} {er x : Int} (hp : parseT t = (a, er, x)) (he : er ≠ 0) (w : World) : Calls Tryz.prog 7 #[str t] w (fun e w' => e = .returned (.bool true) ∧ Below w.heap.size w w') := by
  have hsz := sz t
  have d : ¬ (8000 : Int) < (t.length : Int) := by omega
  obtain rfl := parse_nil hp he
  have C := Lib.hid (fun W => hps t _ (by omega) hp W)
  have d4 : (er != 0) = true := by simpa using he
  clear h he hp
  go_enter Tryz.func7, Tryz.ntmps7
  go_wp2_with fail
  refine (head_any _).mono ?_
  rintro e w1 ⟨rfl, hb1⟩
  have HB1 := Lib.hid hb1
  clear hb1
  go_wp2_with fail
  refine (C.out _).mono ?_
  rintro e w2 ⟨v2, rfl, hi2, hb2⟩
  have HB2 := Lib.hid hb2
  clear hb2
  obtain ⟨A2, c2, rfl, _⟩ := Slc.form hi2
  clear hi2
  go_wp2_with fail
  go_ret
  exact ⟨rfl, (below2 HB1.out HB2.out).trans ((below_box _ _).mono (below2 HB1.out HB2.out).size)⟩
set_option maxRecDepth 100000 in
set_option maxHeartbeats 8000000 in
theorem off_none (t : Txt) (h : t.length ≤ 8000) {x : Int} (hp : parseT t = ([], 0, x)) (w : World) : Calls Tryz.prog 7 #[str t] w (fun e w' => e = .returned (.bool true) ∧ Below w.heap.size w w') := by
  have hsz := sz t
  have d : ¬ (8000 : Int) < (t.length : Int) := by omega
  have C := Lib.hid (fun W => hps t _ (by omega) hp W)
  clear h hp
  go_enter Tryz.func7, Tryz.ntmps7
  go_wp2_with fail
  refine (head_any _).mono ?_
  rintro e w1 ⟨rfl, hb1⟩
  have HB1 := Lib.hid hb1
  clear hb1
  go_wp2_with fail
  refine (C.out _).mono ?_
  rintro e w2 ⟨v2, rfl, hi2, hb2⟩
  have HB2 := Lib.hid hb2
  clear hb2
  obtain ⟨A2, c2, rfl, _⟩ := Slc.form hi2
  have HI2 := Lib.hid hi2
  clear hi2
  go_wp2_with fail
  go_loopw [7, 8] (fun f i wr => wr = w2.alloc (.cells #[.slice A2 0 c2] 25) ∧ i = .int .i64 0) (fun _ i _ => 1)
  case atStart => exact ⟨rfl, rfl⟩
  case round =>
    obtain ⟨rfl, rfl⟩ := hrel
    go_wp2_with fail
    go_ret
    exact ⟨rfl, (below2 HB1.out HB2.out).trans ((below_box _ _).mono (below2 HB1.out HB2.out).size)⟩
set_option maxRecDepth 100000 in
set_option maxHeartbeats 8000000 in
theorem off_some (t : Txt) (h : t.length ≤ 8000) {a : List It} {x : Int} (hp : parseT t = (a, 0, x)) (hne : 0 < a.length) (w : World) : Calls Tryz.prog 7 #[str t] w (fun e w' => e = .returned (.bool true) ∧ Below w.heap.size w w') := by
  have hsz := sz t
  have d : ¬ (8000 : Int) < (t.length : Int) := by omega
  have C := Lib.hid (fun W => hps t _ (by omega) hp W)
  have OF := Lib.hid (offsets_math hp)
  have NE := Lib.hid hne
  have hal := (show a.length ≤ 200 from by obtain ⟨l, _, _, q, _, q2, _⟩ := parse_ok hp; exact (items_app 200 l a [] q2 q).2.1)
  clear h hp hne
  go_enter Tryz.func7, Tryz.ntmps7
  go_wp2_with fail
  refine (head_any _).mono ?_
  rintro e w1 ⟨rfl, hb1⟩
  have HB1 := Lib.hid hb1
  clear hb1
  go_wp2_with fail
  refine (C.out _).mono ?_
  rintro e w2 ⟨v2, rfl, hi2, hb2⟩
  have HB2 := Lib.hid hb2
  clear hb2
  obtain ⟨b2, o2, c2, rfl, hc2, hg2⟩ := hi2.spot NE.out
  have G2 := Lib.hid hg2
  clear hi2 hg2
  go_wp2_with fail
  go_loopw [7, 8] (fun f i wr => Below (w2.alloc (.cells #[.slice (some ⟨b2, o2, none⟩) a.length c2] 25)).heap.size (w2.alloc (.cells #[.slice (some ⟨b2, o2, none⟩) a.length c2] 25)) wr ∧ ∃ k m : Nat, i = .int .i64 (k : Int) ∧ f = .int .i64 (m : Int) ∧ k ≤ a.length ∧ offI t (a.drop k) (m : Int) = true) (fun _ i _ => a.length - (intOf i).toNat)
  case atStart => exact ⟨Below.refl _ _, 0, 0, rfl, rfl, Nat.zero_le _, by rw [List.drop_zero]; exact OF.out⟩
  case round =>
    obtain ⟨hb, k, m, rfl, rfl, hk, hof⟩ := hrel
    have q0 := cellB hb (show (w2.alloc (.cells #[.slice (some ⟨b2, o2, none⟩) a.length c2] 25)).cell? ⟨w2.heap.size, 0, none⟩ = some (.slice (some ⟨b2, o2, none⟩) a.length c2) by simp [go_sem])
    have HB := Lib.hid hb
    clear hb
    by_cases hlt : k < a.length
    · skip
      obtain ⟨z, hcell, hitm⟩ := G2.out k hlt
      rw [List.drop_eq_getElem_cons hlt] at hof
      obtain ⟨it, hit⟩ : ∃ it, a[k] = it := ⟨_, rfl⟩
      rw [hit] at hcell hitm hof
      clear hit
      have hitm2 := hitm.stay (kept_below (below_from HB.out))
      obtain ⟨z1, z2, z3, z4, z5, z6, z7, z8, z9⟩ := z
      obtain ⟨sA1, sn1, sc1, e1⟩ := hitm.cols.isSl
      obtain ⟨sA2, sn2, sc2, e2⟩ := hitm.names.isSl
      obtain ⟨sA3, sn3, sc3, e3⟩ := hitm.terms.isSl
      obtain ⟨sA4, sn4, sc4, e4⟩ := hitm.fixed.isSl
      obtain ⟨sA5, sn5, sc5, e5⟩ := hitm.vars.isSl
      obtain ⟨sA6, sn6, sc6, e6⟩ := hitm.conds.isSl
      obtain ⟨⟨sA7, sn7, sc7, e7⟩, ⟨sA8, sn8, sc8, e8⟩, ⟨sA9, sn9, sc9, e9⟩⟩ := hitm.ex.isSl
      simp only at e1 e2 e3 e4 e5 e6 e7 e8 e9
      subst e1 e2 e3 e4 e5 e6 e7 e8 e9
      have RG := Lib.hid (show wr.rangeAt b2 (o2 + k * 25) [.int .i64 it.kind, str it.name, .int .i64 it.at_, str it.table, str it.attr, .slice sA1 sn1 sc1, .slice sA2 sn2 sc2, .int .i64 it.by_, .int .i64 it.n, .int .i64 it.m, .slice sA3 sn3 sc3, str it.other, str it.oattr, .slice sA4 sn4 sc4, .slice sA5 sn5 sc5, .slice sA6 sn6 sc6, .int .i64 (hd it.ex).kind, str (hd it.ex).table, .slice sA7 sn7 sc7, .slice sA8 sn8 sc8, .slice sA9 sn9 sc9, str (hd it.ex).attr, str (hd it.ex).as_, .int .i64 (hd it.ex).agg, .int .i64 (hd it.ex).at_] from fun j v hj => cellB (below_from HB.out) ((hcell j (List.getElem?_eq_some_iff.1 hj).1).trans hj))
      have IM := Lib.hid hitm2
      clear hcell hitm hitm2
      unfold offI at hof
      rw [Bool.and_eq_true] at hof
      obtain ⟨hh, hof2⟩ := hof
      unfold offH at hh
      rw [decide_eq_true_eq] at hh
      obtain ⟨h1, h2, h3, h4, h5⟩ := hh
      obtain ⟨K, hK⟩ : ∃ K : Nat, it.kind = (K : Int) + 1 := ⟨(it.kind - 1).toNat, by omega⟩
      have hwd : kindsW[K]? = some (wordI it.kind) := by
        unfold wordI
        rw [hK, show ((K : Int) + 1 - 1).toNat = K by omega, List.getElem?_eq_getElem (by show K < 10; omega)]
        rfl
      obtain ⟨wd, hwdE⟩ : ∃ wd, wordI it.kind = wd := ⟨_, rfl⟩
      rw [hwdE] at h4 h5 hof2 hwd
      obtain ⟨p, hp⟩ : ∃ p : Nat, it.at_ = (p : Int) := ⟨it.at_.toNat, by omega⟩
      rw [hp] at h3 h4 h5 hof2 RG
      rw [hK] at RG hof2
      rw [Int.toNat_natCast] at h5
      have HWD := Lib.hid hwd
      have hst := sz wd
      have hK10 : K < 10 := by omega
      clear hwdE hK hp hwd h1 h2
      have i0 : (0 : Int) ≤ (k : Int) := by omega
      have i1 : (k : Int) < (a.length : Int) := by omega
      have i2 : IntKind.i64.wrap ((k : Int) + 1) = (k : Int) + 1 := IntWalk.i64_in _ (by omega)
      have k1 : ¬ (K : Int) + 1 < 1 := by omega
      have k2 : ¬ (10 : Int) < (K : Int) + 1 := by omega
      have k3 : IntKind.i64.wrap ((K : Int) + 1 - 1) = (K : Int) := by rw [Int.add_sub_cancel]; exact IntWalk.i64_in _ (by omega)
      have k4 : IntKind.i64.wrap (K : Int) = (K : Int) := IntWalk.i64_in _ (by omega)
      have k5 : (0 : Int) ≤ (K : Int) := by omega
      have k6 : (K : Int) < 10 := by omega
      have k7 : K < 10 := by omega
      have p1 : ¬ (p : Int) < (m : Int) := by omega
      have p2 : IntKind.i64.wrap ((t.length : Int) - (wd.length : Int)) = (t.length : Int) - (wd.length : Int) := IntWalk.i64_in _ (by omega)
      have p3 : ¬ (t.length : Int) - (wd.length : Int) < (p : Int) := by omega
      have p4 : IntKind.i64.wrap ((p : Int) + (wd.length : Int)) = (p : Int) + (wd.length : Int) := IntWalk.i64_in _ (by omega)
      have p5 : (0 : Int) ≤ (p : Int) + (wd.length : Int) := by omega
      have p6 : (p : Int) + (wd.length : Int) ≤ (t.length : Int) := by omega
      have p7 : ((p : Int) + (wd.length : Int)).toNat = p + wd.length := by omega
      have p8 : (p : Int) ≤ (p : Int) + (wd.length : Int) := by omega
      have p9 : (0 : Int) ≤ (p : Int) := by omega
      have xt : (⟨t.toArray⟩ : ByteArray).extract p (p + wd.length) = ⟨wd.toArray⟩ := by rw [ext_eq, Nat.add_sub_cancel_left, h5]
      obtain ⟨lt, hlt2⟩ : ∃ lt, a.drop (k + 1) = lt := ⟨_, rfl⟩
      rw [hlt2] at hof2
      have LT := Lib.hid hlt2
      have HOF := Lib.hid hof2
      clear hlt2 hof2 h3 h4 h5
      go_wp2_with (first | (refine wpList_load_mid rfl 51 (.tmp 43) rfl b2 (o2 + k * 25) rfl [.int .i64 ((K : Int) + 1), str it.name, .int .i64 (p : Int), str it.table, str it.attr, .slice sA1 sn1 sc1, .slice sA2 sn2 sc2, .int .i64 it.by_, .int .i64 it.n, .int .i64 it.m, .slice sA3 sn3 sc3, str it.other, str it.oattr, .slice sA4 sn4 sc4, .slice sA5 sn5 sc5, .slice sA6 sn6 sc6, .int .i64 (hd it.ex).kind, str (hd it.ex).table, .slice sA7 sn7 sc7, .slice sA8 sn8 sc8, .slice sA9 sn9 sc9, str (hd it.ex).attr, str (hd it.ex).as_, .int .i64 (hd it.ex).agg, .int .i64 (hd it.ex).at_] _ RG.out Tryz.underlying51 rfl infoIt ?_) | (refine wpList_store_new rfl 51 (.tmp 9) (.tmp 44) rfl wr.heap.size _ #[.int .i64 ((K : Int) + 1), str it.name, .int .i64 (p : Int), str it.table, str it.attr, .slice sA1 sn1 sc1, .slice sA2 sn2 sc2, .int .i64 it.by_, .int .i64 it.n, .int .i64 it.m, .slice sA3 sn3 sc3, str it.other, str it.oattr, .slice sA4 sn4 sc4, .slice sA5 sn5 sc5, .slice sA6 sn6 sc6, .int .i64 (hd it.ex).kind, str (hd it.ex).table, .slice sA7 sn7 sc7, .slice sA8 sn8 sc8, .slice sA9 sn9 sc9, str (hd it.ex).attr, str (hd it.ex).as_, .int .i64 (hd it.ex).agg, .int .i64 (hd it.ex).at_] rfl rfl rfl infoIt rfl (by simp [oc_int, oc_str, oc_slice]) ?_))
      obtain ⟨W, hW⟩ : ∃ W, wr.alloc (.cells #[.int .i64 ((K : Int) + 1), str it.name, .int .i64 (p : Int), str it.table, str it.attr, .slice sA1 sn1 sc1, .slice sA2 sn2 sc2, .int .i64 it.by_, .int .i64 it.n, .int .i64 it.m, .slice sA3 sn3 sc3, str it.other, str it.oattr, .slice sA4 sn4 sc4, .slice sA5 sn5 sc5, .slice sA6 sn6 sc6, .int .i64 (hd it.ex).kind, str (hd it.ex).table, .slice sA7 sn7 sc7, .slice sA8 sn8 sc8, .slice sA9 sn9 sc9, str (hd it.ex).attr, str (hd it.ex).as_, .int .i64 (hd it.ex).agg, .int .i64 (hd it.ex).at_] 51) = W := ⟨_, rfl⟩
      have hBW : Blk W wr.heap.size 51 #[.int .i64 ((K : Int) + 1), str it.name, .int .i64 (p : Int), str it.table, str it.attr, .slice sA1 sn1 sc1, .slice sA2 sn2 sc2, .int .i64 it.by_, .int .i64 it.n, .int .i64 it.m, .slice sA3 sn3 sc3, str it.other, str it.oattr, .slice sA4 sn4 sc4, .slice sA5 sn5 sc5, .slice sA6 sn6 sc6, .int .i64 (hd it.ex).kind, str (hd it.ex).table, .slice sA7 sn7 sc7, .slice sA8 sn8 sc8, .slice sA9 sn9 sc9, str (hd it.ex).attr, str (hd it.ex).as_, .int .i64 (hd it.ex).agg, .int .i64 (hd it.ex).at_] := hW ▸ Blk.new wr 51 #[.int .i64 ((K : Int) + 1), str it.name, .int .i64 (p : Int), str it.table, str it.attr, .slice sA1 sn1 sc1, .slice sA2 sn2 sc2, .int .i64 it.by_, .int .i64 it.n, .int .i64 it.m, .slice sA3 sn3 sc3, str it.other, str it.oattr, .slice sA4 sn4 sc4, .slice sA5 sn5 sc5, .slice sA6 sn6 sc6, .int .i64 (hd it.ex).kind, str (hd it.ex).table, .slice sA7 sn7 sc7, .slice sA8 sn8 sc8, .slice sA9 sn9 sc9, str (hd it.ex).attr, str (hd it.ex).as_, .int .i64 (hd it.ex).agg, .int .i64 (hd it.ex).at_]
      have hbW : Below wr.heap.size wr W := hW ▸ below_box wr _
      rw [hW]
      have BW := Lib.hid hBW
      have HBW := Lib.hid hbW
      have cW := fun i => hBW.cell i
      clear hW hBW hbW
      go_region_with (go_at_call 17; refine (words_any _).mono ?_; rintro e w8 ⟨rfl, hwc, hb8⟩; have hwK : w8.cell? ⟨W.heap.size, K, none⟩ = some (str wd) := hwc K wd HWD.out; have HB8 := Lib.hid (show Below W.heap.size W w8 from (below_drewN _ W 1).trans hb8); have BW8 := Lib.hid (show Blk w8 wr.heap.size 51 #[.int .i64 ((K : Int) + 1), str it.name, .int .i64 (p : Int), str it.table, str it.attr, .slice sA1 sn1 sc1, .slice sA2 sn2 sc2, .int .i64 it.by_, .int .i64 it.n, .int .i64 it.m, .slice sA3 sn3 sc3, str it.other, str it.oattr, .slice sA4 sn4 sc4, .slice sA5 sn5 sc5, .slice sA6 sn6 sc6, .int .i64 (hd it.ex).kind, str (hd it.ex).table, .slice sA7 sn7 sc7, .slice sA8 sn8 sc8, .slice sA9 sn9 sc9, str (hd it.ex).attr, str (hd it.ex).as_, .int .i64 (hd it.ex).agg, .int .i64 (hd it.ex).at_] from (hb8.block wr.heap.size BW.out.lt).trans BW.out); have c80 : w8.cell? ⟨wr.heap.size, 0, none⟩ = some (.int .i64 ((K : Int) + 1)) := (BW8.out.cell 0).trans rfl; clear hwc hb8)
      all_goals
        have c8 := fun i => BW8.out.cell i
        have BE := Lib.hid (below_step2 HB.out (below_step2 HBW.out HB8.out))
        by_cases h10 : K = 9
        · subst h10
          have ho := HOF.out
          rw [if_pos (by rfl)] at ho
          rcases e1 : ordE t it.ex ((p : Int) + (wd.length : Int)) with _ | n
          · rw [e1] at ho
            cases ho
          · rw [e1] at ho
            have ho2 : offI t lt (n + 1) = true := ho
            have HX := Lib.hid (ordered_ok t (by omega) it.ex _ n _ w8 _ _ _ p5 e1 (IM.out.ex.stay (kept_below (below_step2 HBW.out HB8.out))))
            obtain ⟨n0, n1⟩ := HX.out.1
            have HO2 := Lib.hid ho2
            have n2 : IntKind.i64.wrap (n + 1) = n + 1 := IntWalk.i64_in _ (by omega)
            clear ho ho2 e1
            go_wp2_with fail
            refine (HX.out.2).mono ?_
            rintro e w9 ⟨rfl, hb9⟩
            have HB9 := Lib.hid hb9
            clear hb9
            go_wp2_with fail
            go_roundw
            case rel => exact ⟨below_step2 BE.out HB9.out, k + 1, n.toNat + 1, by simp, by simp; omega, by omega, by rw [LT.out]; rw [show ((n.toNat + 1 : Nat) : Int) = n + 1 by omega]; exact HO2.out⟩
            case measure => simp [intOf]; omega
        · have d10 : ((K : Int) + 1 != 10) = true := by simp; omega
          have ho := HOF.out
          rw [if_neg (by omega)] at ho
          have HO := Lib.hid ho
          clear ho
          go_wp2_with fail
          go_roundw
          case rel => exact ⟨BE.out, k + 1, p + wd.length, by simp, by simp, by omega, by rw [LT.out]; rw [show ((p + wd.length : Nat) : Int) = (p : Int) + (wd.length : Int) by omega]; exact HO.out⟩
          case measure => simp [intOf]; omega
    · obtain rfl : k = a.length := by omega
      have i1 : ¬ (a.length : Int) < (a.length : Int) := by omega
      go_wp2_with fail
      go_ret
      exact ⟨rfl, below2b (below2 HB1.out HB2.out) HB.out⟩
theorem off_law (t : Txt) (w : World) : Calls Tryz.prog 7 #[str t] w (fun e w' => e = .returned (.bool true) ∧ Below w.heap.size w w') := by
  by_cases h : 8000 < t.length
  · exact off_long t h w
  · obtain ⟨⟨a, er, x⟩, hp⟩ : ∃ y, parseT t = y := ⟨_, rfl⟩
    by_cases he : er = 0
    · subst he
      cases a with
      | nil => exact off_none t (by omega) hp w
      | cons i l => exact off_some t (by omega) hp (by simp) w
    · exact off_err t (by omega) hp he w
end Go.Proofs.YtfipkdnddghjpaaGreatDoor
