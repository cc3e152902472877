/- ParserOperations: expressions of twelve levels. -/
import Derived.Test.YtcgkaecaddpenaaGreatDoorPOa
namespace Go.Proofs.YtcgkaecaddpenaaGreatDoor
open Go.RowKit
open L7 (Tk lexT lx gap)
open L8
set_option linter.unusedSimpArgs false

set_option maxRecDepth 100000 in
set_option maxHeartbeats 16000000 in
theorem ops_deep (one two : Txt) (h : one.length ≤ 1000) (h2 : two.length ≤ 1000) {i j : It} {x y : Int} (hp : parseT (qpre ++ (one ++ [10, 59])) = ([i], 0, x)) (hp2 : parseT (qpre ++ (two ++ [10, 59])) = ([j], 0, y)) (hd1 : 11 < depE i.ex) (w : World) : Calls Tryz.prog 6 #[str one, str two] w (fun e w' => e = .returned (.bool true) ∧ Below w.heap.size w w') := by
  have hsz := sz one
  have hsu := sz two
  have d : ¬ (1000 : Int) < (one.length : Int) := by omega
  have d2 : ¬ (1000 : Int) < (two.length : Int) := by omega
  have q1 : (9223372036854775807 < 10 + one.length) = False := eq_false (by omega)
  have q2 : (9223372036854775807 < 10 + one.length + 2) = False := eq_false (by omega)
  have q3 : (9223372036854775807 < 10 + two.length) = False := eq_false (by omega)
  have q4 : (9223372036854775807 < 10 + two.length + 2) = False := eq_false (by omega)
  have C := Lib.hid (fun W => hps (qpre ++ (one ++ [10, 59])) _ (by simp [qpre]; omega) hp W)
  have C3 := Lib.hid (fun W => hps (qpre ++ (two ++ [10, 59])) _ (by simp [qpre]; omega) hp2 W)
  have DI := Lib.hid (show depE i.ex ≤ 12 from parse_deep hp i (by simp))
  have DJ := Lib.hid (show depE j.ex ≤ 12 from parse_deep hp2 j (by simp))
  have e1 : (11 : Int) < (depE i.ex : Int) := by omega
  clear h h2 hp hp2 hd1
  go_enter Tryz.func6, Tryz.ntmps6
  go_wp2_with fail
  refine (head_any _).mono ?_
  rintro e w1 ⟨rfl, hb1⟩
  have HB1 := Lib.hid hb1
  clear hb1
  go_wp2_with fail
  refine (calls_str (str_eq (by simp [qpre])) (C.out _)).mono ?_
  rintro e w2 ⟨v2, rfl, hi2, hb2⟩
  have HB2 := Lib.hid hb2
  obtain ⟨b2, o2, c2, rfl, hc2, hg2⟩ := hi2.spot (by simp)
  rw [show ([i] : List It).length = 1 from rfl] at hc2 ⊢
  obtain ⟨z2, zc2, zm2⟩ := hg2 0 (by simp)
  simp only [List.getElem_cons_zero, Nat.zero_mul, Nat.add_zero] at zc2 zm2
  obtain ⟨y12, y22, y32, y42, y52, y62, y72, y82, y92⟩ := z2
  obtain ⟨⟨xA, xn, xc, f2a⟩, ⟨xB, xm, xd, f2b⟩, ⟨xC, xo, xe, f2c⟩⟩ := zm2.ex.isSl
  simp only at f2a f2b f2c
  subst f2a f2b f2c
  have XM2 := Lib.hid zm2.ex
  have RG2 : w2.rangeAt b2 (o2 + 16) [.int .i64 (hd i.ex).kind, str (hd i.ex).table, .slice xA xn xc, .slice xB xm xd, .slice xC xo xe, str (hd i.ex).attr, str (hd i.ex).as_, .int .i64 (hd i.ex).agg, .int .i64 (hd i.ex).at_] := fun q v hq => by
    have hq9 : q < 9 := (List.getElem?_eq_some_iff.1 hq).1
    have h1 := zc2 (16 + q) (by omega)
    rw [← Nat.add_assoc] at h1
    rw [h1, ← hq]
    match q, hq9 with
    | 0, _ => rfl
    | 1, _ => rfl
    | 2, _ => rfl
    | 3, _ => rfl
    | 4, _ => rfl
    | 5, _ => rfl
    | 6, _ => rfl
    | 7, _ => rfl
    | 8, _ => rfl
  have RH2 := Lib.hid RG2
  clear hi2 hb2 hg2 zc2 zm2 RG2
  go_wp2_with fail
  refine (calls_str (str_eq (by simp [qpre])) (C3.out _)).mono ?_
  rintro e w3 ⟨v3, rfl, hi3, hb3⟩
  have HB3 := Lib.hid hb3
  obtain ⟨b3, o3, c3, rfl, hc3, hg3⟩ := hi3.spot (by simp)
  rw [show ([j] : List It).length = 1 from rfl] at hc3 ⊢
  obtain ⟨z3, zc3, zm3⟩ := hg3 0 (by simp)
  simp only [List.getElem_cons_zero, Nat.zero_mul, Nat.add_zero] at zc3 zm3
  obtain ⟨y13, y23, y33, y43, y53, y63, y73, y83, y93⟩ := z3
  obtain ⟨⟨yA, yn, yc, f3a⟩, ⟨yB, ym, yd, f3b⟩, ⟨yC, yo, ye, f3c⟩⟩ := zm3.ex.isSl
  simp only at f3a f3b f3c
  subst f3a f3b f3c
  have XM3 := Lib.hid zm3.ex
  have RG3 : w3.rangeAt b3 (o3 + 16) [.int .i64 (hd j.ex).kind, str (hd j.ex).table, .slice yA yn yc, .slice yB ym yd, .slice yC yo ye, str (hd j.ex).attr, str (hd j.ex).as_, .int .i64 (hd j.ex).agg, .int .i64 (hd j.ex).at_] := fun q v hq => by
    have hq9 : q < 9 := (List.getElem?_eq_some_iff.1 hq).1
    have h1 := zc3 (16 + q) (by omega)
    rw [← Nat.add_assoc] at h1
    rw [h1, ← hq]
    match q, hq9 with
    | 0, _ => rfl
    | 1, _ => rfl
    | 2, _ => rfl
    | 3, _ => rfl
    | 4, _ => rfl
    | 5, _ => rfl
    | 6, _ => rfl
    | 7, _ => rfl
    | 8, _ => rfl
  have RH3 := Lib.hid RG3
  clear hi3 hb3 hg3 zc3 zm3 RG3
  have g0 : (w3.alloc (.cells #[.slice (some ⟨b3, o3, none⟩) 1 c3] 29)).cell? ⟨w2.heap.size, 0, none⟩ = some (.slice (some ⟨b2, o2, none⟩) 1 c2) := cellB (below_box _ _) (cellB HB3.out (show (w2.alloc (.cells #[.slice (some ⟨b2, o2, none⟩) 1 c2] 29)).cell? ⟨w2.heap.size, 0, none⟩ = some (.slice (some ⟨b2, o2, none⟩) 1 c2) by simp [go_sem]))
  have g1 : (w3.alloc (.cells #[.slice (some ⟨b3, o3, none⟩) 1 c3] 29)).cell? ⟨w3.heap.size, 0, none⟩ = some (.slice (some ⟨b3, o3, none⟩) 1 c3) := by simp [go_sem]
  have BW3 := Lib.hid (show Below w.heap.size w (w3.alloc (.cells #[.slice (some ⟨b3, o3, none⟩) 1 c3] 29)) from below2 (below2b (below2 HB1.out HB2.out) HB3.out) (below_box _ _))
  have BQ2 := Lib.hid (show Below w2.heap.size w2 (w3.alloc (.cells #[.slice (some ⟨b3, o3, none⟩) 1 c3] 29)) from below_step2 (below_from HB3.out) (below_box _ _))
  have RR2 := Lib.hid (show ∀ W, Below ((w3.alloc (.cells #[.slice (some ⟨b3, o3, none⟩) 1 c3] 29))).heap.size (w3.alloc (.cells #[.slice (some ⟨b3, o3, none⟩) 1 c3] 29)) W → W.rangeAt b2 (o2 + 16) [.int .i64 (hd i.ex).kind, str (hd i.ex).table, .slice xA xn xc, .slice xB xm xd, .slice xC xo xe, str (hd i.ex).attr, str (hd i.ex).as_, .int .i64 (hd i.ex).agg, .int .i64 (hd i.ex).at_] from fun W hb q v hq => cellB (below_step2 BQ2.out hb) (RH2.out q v hq))
  have RR3 := Lib.hid (show ∀ W, Below ((w3.alloc (.cells #[.slice (some ⟨b3, o3, none⟩) 1 c3] 29))).heap.size (w3.alloc (.cells #[.slice (some ⟨b3, o3, none⟩) 1 c3] 29)) W → W.rangeAt b3 (o3 + 16) [.int .i64 (hd j.ex).kind, str (hd j.ex).table, .slice yA yn yc, .slice yB ym yd, .slice yC yo ye, str (hd j.ex).attr, str (hd j.ex).as_, .int .i64 (hd j.ex).agg, .int .i64 (hd j.ex).at_] from fun W hb q v hq => cellB (below_step2 (below_box _ _) hb) (RH3.out q v hq))
  have BX := Lib.hid (show Blk (((w3.alloc (.cells #[.slice (some ⟨b3, o3, none⟩) 1 c3] 29)).alloc (.cells #[.int .i64 (hd i.ex).kind, str (hd i.ex).table, .slice xA xn xc, .slice xB xm xd, .slice xC xo xe, str (hd i.ex).attr, str (hd i.ex).as_, .int .i64 (hd i.ex).agg, .int .i64 (hd i.ex).at_] 49)).alloc (.cells #[.int .i64 (hd j.ex).kind, str (hd j.ex).table, .slice yA yn yc, .slice yB ym yd, .slice yC yo ye, str (hd j.ex).attr, str (hd j.ex).as_, .int .i64 (hd j.ex).agg, .int .i64 (hd j.ex).at_] 49)) (w3.heap.size + 1) 49 #[.int .i64 (hd i.ex).kind, str (hd i.ex).table, .slice xA xn xc, .slice xB xm xd, .slice xC xo xe, str (hd i.ex).attr, str (hd i.ex).as_, .int .i64 (hd i.ex).agg, .int .i64 (hd i.ex).at_] from (blk_at (by simp)).alloc _)
  have BY := Lib.hid (show Blk (((w3.alloc (.cells #[.slice (some ⟨b3, o3, none⟩) 1 c3] 29)).alloc (.cells #[.int .i64 (hd i.ex).kind, str (hd i.ex).table, .slice xA xn xc, .slice xB xm xd, .slice xC xo xe, str (hd i.ex).attr, str (hd i.ex).as_, .int .i64 (hd i.ex).agg, .int .i64 (hd i.ex).at_] 49)).alloc (.cells #[.int .i64 (hd j.ex).kind, str (hd j.ex).table, .slice yA yn yc, .slice yB ym yd, .slice yC yo ye, str (hd j.ex).attr, str (hd j.ex).as_, .int .i64 (hd j.ex).agg, .int .i64 (hd j.ex).at_] 49)) (w3.heap.size + 1 + 1) 49 #[.int .i64 (hd j.ex).kind, str (hd j.ex).table, .slice yA yn yc, .slice yB ym yd, .slice yC yo ye, str (hd j.ex).attr, str (hd j.ex).as_, .int .i64 (hd j.ex).agg, .int .i64 (hd j.ex).at_] from blk_at (by simp))
  have BE := Lib.hid (show Below ((w3.alloc (.cells #[.slice (some ⟨b3, o3, none⟩) 1 c3] 29))).heap.size (w3.alloc (.cells #[.slice (some ⟨b3, o3, none⟩) 1 c3] 29)) (((w3.alloc (.cells #[.slice (some ⟨b3, o3, none⟩) 1 c3] 29)).alloc (.cells #[.int .i64 (hd i.ex).kind, str (hd i.ex).table, .slice xA xn xc, .slice xB xm xd, .slice xC xo xe, str (hd i.ex).attr, str (hd i.ex).as_, .int .i64 (hd i.ex).agg, .int .i64 (hd i.ex).at_] 49)).alloc (.cells #[.int .i64 (hd j.ex).kind, str (hd j.ex).table, .slice yA yn yc, .slice yB ym yd, .slice yC yo ye, str (hd j.ex).attr, str (hd j.ex).as_, .int .i64 (hd j.ex).agg, .int .i64 (hd j.ex).at_] 49)) from below_step2 (below_box _ _) (below_box _ _))
  go_wp2_with (first
    | ((with_reducible show wpList _ _ _ (Oper.mk _ (.load _ _) _ _ _ _ :: _) _ _); first
      | (refine wpList_load_mid rfl 49 (.tmp 69) rfl b2 (o2 + 16) rfl [.int .i64 (hd i.ex).kind, str (hd i.ex).table, .slice xA xn xc, .slice xB xm xd, .slice xC xo xe, str (hd i.ex).attr, str (hd i.ex).as_, .int .i64 (hd i.ex).agg, .int .i64 (hd i.ex).at_] _ (RR2.out _ (Below.refl _ _)) Tryz.underlying49 rfl infoEx ?_)
      | (refine wpList_load_mid rfl 49 (.tmp 74) rfl b3 (o3 + 16) rfl [.int .i64 (hd j.ex).kind, str (hd j.ex).table, .slice yA yn yc, .slice yB ym yd, .slice yC yo ye, str (hd j.ex).attr, str (hd j.ex).as_, .int .i64 (hd j.ex).agg, .int .i64 (hd j.ex).at_] _ (RR3.out _ (below_box _ _)) Tryz.underlying49 rfl infoEx ?_)
      | (refine wpList_load_row rfl 49 (.tmp 12) rfl (w3.heap.size + 1) rfl _ #[.int .i64 (hd i.ex).kind, str (hd i.ex).table, .slice xA xn xc, .slice xB xm xd, .slice xC xo xe, str (hd i.ex).attr, str (hd i.ex).as_, .int .i64 (hd i.ex).agg, .int .i64 (hd i.ex).at_] _ _ BX.out Tryz.underlying49 rfl infoEx ?_))
    | ((with_reducible show wpList _ _ _ (Oper.mk _ (.store _ _ _) _ _ _ _ :: _) _ _); first
      | (refine wpList_store_new rfl 49 (.tmp 12) (.tmp 70) rfl (w3.heap.size + 1) _ #[.int .i64 (hd i.ex).kind, str (hd i.ex).table, .slice xA xn xc, .slice xB xm xd, .slice xC xo xe, str (hd i.ex).attr, str (hd i.ex).as_, .int .i64 (hd i.ex).agg, .int .i64 (hd i.ex).at_] (by simp) rfl rfl infoEx rfl (by simp [oc_int, oc_str, oc_slice, oc_bool]) ?_)
      | (refine wpList_store_new rfl 49 (.tmp 13) (.tmp 75) rfl (w3.heap.size + 1 + 1) _ #[.int .i64 (hd j.ex).kind, str (hd j.ex).table, .slice yA yn yc, .slice yB ym yd, .slice yC yo ye, str (hd j.ex).attr, str (hd j.ex).as_, .int .i64 (hd j.ex).agg, .int .i64 (hd j.ex).at_] (by simp) rfl rfl infoEx rfl (by simp [oc_int, oc_str, oc_slice, oc_bool]) ?_)))
  obtain ⟨W, hW⟩ : ∃ W, (((w3.alloc (.cells #[.slice (some ⟨b3, o3, none⟩) 1 c3] 29)).alloc (.cells #[.int .i64 (hd i.ex).kind, str (hd i.ex).table, .slice xA xn xc, .slice xB xm xd, .slice xC xo xe, str (hd i.ex).attr, str (hd i.ex).as_, .int .i64 (hd i.ex).agg, .int .i64 (hd i.ex).at_] 49)).alloc (.cells #[.int .i64 (hd j.ex).kind, str (hd j.ex).table, .slice yA yn yc, .slice yB ym yd, .slice yC yo ye, str (hd j.ex).attr, str (hd j.ex).as_, .int .i64 (hd j.ex).agg, .int .i64 (hd j.ex).at_] 49)) = W := ⟨_, rfl⟩
  rw [hW] at BX BY BE
  rw [hW]
  clear hW
  have BWW := Lib.hid (below_step2 BW3.out BE.out)
  have XI := Lib.hid (XM2.out.stay (kept_below (below_step2 BQ2.out BE.out)))
  have XJ := Lib.hid (XM3.out.stay (kept_below (below_step2 (below_box w3 (.cells #[.slice (some ⟨b3, o3, none⟩) 1 c3] 29)) BE.out)))
  refine (depth_ok i.ex _ _ _ _ _ (by have := DI.out; omega) XI.out).mono ?_
  rintro e w5 ⟨rfl, hb5⟩
  have HB5 := Lib.hid hb5
  have BX5 := Lib.hid (BX.out.keep hb5)
  have BY5 := Lib.hid (BY.out.keep hb5)
  have cY := fun k => BY5.out.cell k
  clear hb5
  go_wp2_with fail
  go_ret
  exact ⟨rfl, below2 BWW.out HB5.out⟩
set_option maxRecDepth 100000 in
set_option maxHeartbeats 16000000 in
theorem ops_deep2 (one two : Txt) (h : one.length ≤ 1000) (h2 : two.length ≤ 1000) {i j : It} {x y : Int} (hp : parseT (qpre ++ (one ++ [10, 59])) = ([i], 0, x)) (hp2 : parseT (qpre ++ (two ++ [10, 59])) = ([j], 0, y)) (hd1 : depE i.ex ≤ 11) (hd2 : 11 < depE j.ex) (w : World) : Calls Tryz.prog 6 #[str one, str two] w (fun e w' => e = .returned (.bool true) ∧ Below w.heap.size w w') := by
  have hsz := sz one
  have hsu := sz two
  have d : ¬ (1000 : Int) < (one.length : Int) := by omega
  have d2 : ¬ (1000 : Int) < (two.length : Int) := by omega
  have q1 : (9223372036854775807 < 10 + one.length) = False := eq_false (by omega)
  have q2 : (9223372036854775807 < 10 + one.length + 2) = False := eq_false (by omega)
  have q3 : (9223372036854775807 < 10 + two.length) = False := eq_false (by omega)
  have q4 : (9223372036854775807 < 10 + two.length + 2) = False := eq_false (by omega)
  have C := Lib.hid (fun W => hps (qpre ++ (one ++ [10, 59])) _ (by simp [qpre]; omega) hp W)
  have C3 := Lib.hid (fun W => hps (qpre ++ (two ++ [10, 59])) _ (by simp [qpre]; omega) hp2 W)
  have DI := Lib.hid (show depE i.ex ≤ 12 from parse_deep hp i (by simp))
  have DJ := Lib.hid (show depE j.ex ≤ 12 from parse_deep hp2 j (by simp))
  have e1 : ¬ (11 : Int) < (depE i.ex : Int) := by omega
  have e2 : (11 : Int) < (depE j.ex : Int) := by omega
  clear h h2 hp hp2 hd1 hd2
  go_enter Tryz.func6, Tryz.ntmps6
  go_wp2_with fail
  refine (head_any _).mono ?_
  rintro e w1 ⟨rfl, hb1⟩
  have HB1 := Lib.hid hb1
  clear hb1
  go_wp2_with fail
  refine (calls_str (str_eq (by simp [qpre])) (C.out _)).mono ?_
  rintro e w2 ⟨v2, rfl, hi2, hb2⟩
  have HB2 := Lib.hid hb2
  obtain ⟨b2, o2, c2, rfl, hc2, hg2⟩ := hi2.spot (by simp)
  rw [show ([i] : List It).length = 1 from rfl] at hc2 ⊢
  obtain ⟨z2, zc2, zm2⟩ := hg2 0 (by simp)
  simp only [List.getElem_cons_zero, Nat.zero_mul, Nat.add_zero] at zc2 zm2
  obtain ⟨y12, y22, y32, y42, y52, y62, y72, y82, y92⟩ := z2
  obtain ⟨⟨xA, xn, xc, f2a⟩, ⟨xB, xm, xd, f2b⟩, ⟨xC, xo, xe, f2c⟩⟩ := zm2.ex.isSl
  simp only at f2a f2b f2c
  subst f2a f2b f2c
  have XM2 := Lib.hid zm2.ex
  have RG2 : w2.rangeAt b2 (o2 + 16) [.int .i64 (hd i.ex).kind, str (hd i.ex).table, .slice xA xn xc, .slice xB xm xd, .slice xC xo xe, str (hd i.ex).attr, str (hd i.ex).as_, .int .i64 (hd i.ex).agg, .int .i64 (hd i.ex).at_] := fun q v hq => by
    have hq9 : q < 9 := (List.getElem?_eq_some_iff.1 hq).1
    have h1 := zc2 (16 + q) (by omega)
    rw [← Nat.add_assoc] at h1
    rw [h1, ← hq]
    match q, hq9 with
    | 0, _ => rfl
    | 1, _ => rfl
    | 2, _ => rfl
    | 3, _ => rfl
    | 4, _ => rfl
    | 5, _ => rfl
    | 6, _ => rfl
    | 7, _ => rfl
    | 8, _ => rfl
  have RH2 := Lib.hid RG2
  clear hi2 hb2 hg2 zc2 zm2 RG2
  go_wp2_with fail
  refine (calls_str (str_eq (by simp [qpre])) (C3.out _)).mono ?_
  rintro e w3 ⟨v3, rfl, hi3, hb3⟩
  have HB3 := Lib.hid hb3
  obtain ⟨b3, o3, c3, rfl, hc3, hg3⟩ := hi3.spot (by simp)
  rw [show ([j] : List It).length = 1 from rfl] at hc3 ⊢
  obtain ⟨z3, zc3, zm3⟩ := hg3 0 (by simp)
  simp only [List.getElem_cons_zero, Nat.zero_mul, Nat.add_zero] at zc3 zm3
  obtain ⟨y13, y23, y33, y43, y53, y63, y73, y83, y93⟩ := z3
  obtain ⟨⟨yA, yn, yc, f3a⟩, ⟨yB, ym, yd, f3b⟩, ⟨yC, yo, ye, f3c⟩⟩ := zm3.ex.isSl
  simp only at f3a f3b f3c
  subst f3a f3b f3c
  have XM3 := Lib.hid zm3.ex
  have RG3 : w3.rangeAt b3 (o3 + 16) [.int .i64 (hd j.ex).kind, str (hd j.ex).table, .slice yA yn yc, .slice yB ym yd, .slice yC yo ye, str (hd j.ex).attr, str (hd j.ex).as_, .int .i64 (hd j.ex).agg, .int .i64 (hd j.ex).at_] := fun q v hq => by
    have hq9 : q < 9 := (List.getElem?_eq_some_iff.1 hq).1
    have h1 := zc3 (16 + q) (by omega)
    rw [← Nat.add_assoc] at h1
    rw [h1, ← hq]
    match q, hq9 with
    | 0, _ => rfl
    | 1, _ => rfl
    | 2, _ => rfl
    | 3, _ => rfl
    | 4, _ => rfl
    | 5, _ => rfl
    | 6, _ => rfl
    | 7, _ => rfl
    | 8, _ => rfl
  have RH3 := Lib.hid RG3
  clear hi3 hb3 hg3 zc3 zm3 RG3
  have g0 : (w3.alloc (.cells #[.slice (some ⟨b3, o3, none⟩) 1 c3] 29)).cell? ⟨w2.heap.size, 0, none⟩ = some (.slice (some ⟨b2, o2, none⟩) 1 c2) := cellB (below_box _ _) (cellB HB3.out (show (w2.alloc (.cells #[.slice (some ⟨b2, o2, none⟩) 1 c2] 29)).cell? ⟨w2.heap.size, 0, none⟩ = some (.slice (some ⟨b2, o2, none⟩) 1 c2) by simp [go_sem]))
  have g1 : (w3.alloc (.cells #[.slice (some ⟨b3, o3, none⟩) 1 c3] 29)).cell? ⟨w3.heap.size, 0, none⟩ = some (.slice (some ⟨b3, o3, none⟩) 1 c3) := by simp [go_sem]
  have BW3 := Lib.hid (show Below w.heap.size w (w3.alloc (.cells #[.slice (some ⟨b3, o3, none⟩) 1 c3] 29)) from below2 (below2b (below2 HB1.out HB2.out) HB3.out) (below_box _ _))
  have BQ2 := Lib.hid (show Below w2.heap.size w2 (w3.alloc (.cells #[.slice (some ⟨b3, o3, none⟩) 1 c3] 29)) from below_step2 (below_from HB3.out) (below_box _ _))
  have RR2 := Lib.hid (show ∀ W, Below ((w3.alloc (.cells #[.slice (some ⟨b3, o3, none⟩) 1 c3] 29))).heap.size (w3.alloc (.cells #[.slice (some ⟨b3, o3, none⟩) 1 c3] 29)) W → W.rangeAt b2 (o2 + 16) [.int .i64 (hd i.ex).kind, str (hd i.ex).table, .slice xA xn xc, .slice xB xm xd, .slice xC xo xe, str (hd i.ex).attr, str (hd i.ex).as_, .int .i64 (hd i.ex).agg, .int .i64 (hd i.ex).at_] from fun W hb q v hq => cellB (below_step2 BQ2.out hb) (RH2.out q v hq))
  have RR3 := Lib.hid (show ∀ W, Below ((w3.alloc (.cells #[.slice (some ⟨b3, o3, none⟩) 1 c3] 29))).heap.size (w3.alloc (.cells #[.slice (some ⟨b3, o3, none⟩) 1 c3] 29)) W → W.rangeAt b3 (o3 + 16) [.int .i64 (hd j.ex).kind, str (hd j.ex).table, .slice yA yn yc, .slice yB ym yd, .slice yC yo ye, str (hd j.ex).attr, str (hd j.ex).as_, .int .i64 (hd j.ex).agg, .int .i64 (hd j.ex).at_] from fun W hb q v hq => cellB (below_step2 (below_box _ _) hb) (RH3.out q v hq))
  have BX := Lib.hid (show Blk (((w3.alloc (.cells #[.slice (some ⟨b3, o3, none⟩) 1 c3] 29)).alloc (.cells #[.int .i64 (hd i.ex).kind, str (hd i.ex).table, .slice xA xn xc, .slice xB xm xd, .slice xC xo xe, str (hd i.ex).attr, str (hd i.ex).as_, .int .i64 (hd i.ex).agg, .int .i64 (hd i.ex).at_] 49)).alloc (.cells #[.int .i64 (hd j.ex).kind, str (hd j.ex).table, .slice yA yn yc, .slice yB ym yd, .slice yC yo ye, str (hd j.ex).attr, str (hd j.ex).as_, .int .i64 (hd j.ex).agg, .int .i64 (hd j.ex).at_] 49)) (w3.heap.size + 1) 49 #[.int .i64 (hd i.ex).kind, str (hd i.ex).table, .slice xA xn xc, .slice xB xm xd, .slice xC xo xe, str (hd i.ex).attr, str (hd i.ex).as_, .int .i64 (hd i.ex).agg, .int .i64 (hd i.ex).at_] from (blk_at (by simp)).alloc _)
  have BY := Lib.hid (show Blk (((w3.alloc (.cells #[.slice (some ⟨b3, o3, none⟩) 1 c3] 29)).alloc (.cells #[.int .i64 (hd i.ex).kind, str (hd i.ex).table, .slice xA xn xc, .slice xB xm xd, .slice xC xo xe, str (hd i.ex).attr, str (hd i.ex).as_, .int .i64 (hd i.ex).agg, .int .i64 (hd i.ex).at_] 49)).alloc (.cells #[.int .i64 (hd j.ex).kind, str (hd j.ex).table, .slice yA yn yc, .slice yB ym yd, .slice yC yo ye, str (hd j.ex).attr, str (hd j.ex).as_, .int .i64 (hd j.ex).agg, .int .i64 (hd j.ex).at_] 49)) (w3.heap.size + 1 + 1) 49 #[.int .i64 (hd j.ex).kind, str (hd j.ex).table, .slice yA yn yc, .slice yB ym yd, .slice yC yo ye, str (hd j.ex).attr, str (hd j.ex).as_, .int .i64 (hd j.ex).agg, .int .i64 (hd j.ex).at_] from blk_at (by simp))
  have BE := Lib.hid (show Below ((w3.alloc (.cells #[.slice (some ⟨b3, o3, none⟩) 1 c3] 29))).heap.size (w3.alloc (.cells #[.slice (some ⟨b3, o3, none⟩) 1 c3] 29)) (((w3.alloc (.cells #[.slice (some ⟨b3, o3, none⟩) 1 c3] 29)).alloc (.cells #[.int .i64 (hd i.ex).kind, str (hd i.ex).table, .slice xA xn xc, .slice xB xm xd, .slice xC xo xe, str (hd i.ex).attr, str (hd i.ex).as_, .int .i64 (hd i.ex).agg, .int .i64 (hd i.ex).at_] 49)).alloc (.cells #[.int .i64 (hd j.ex).kind, str (hd j.ex).table, .slice yA yn yc, .slice yB ym yd, .slice yC yo ye, str (hd j.ex).attr, str (hd j.ex).as_, .int .i64 (hd j.ex).agg, .int .i64 (hd j.ex).at_] 49)) from below_step2 (below_box _ _) (below_box _ _))
  go_wp2_with (first
    | ((with_reducible show wpList _ _ _ (Oper.mk _ (.load _ _) _ _ _ _ :: _) _ _); first
      | (refine wpList_load_mid rfl 49 (.tmp 69) rfl b2 (o2 + 16) rfl [.int .i64 (hd i.ex).kind, str (hd i.ex).table, .slice xA xn xc, .slice xB xm xd, .slice xC xo xe, str (hd i.ex).attr, str (hd i.ex).as_, .int .i64 (hd i.ex).agg, .int .i64 (hd i.ex).at_] _ (RR2.out _ (Below.refl _ _)) Tryz.underlying49 rfl infoEx ?_)
      | (refine wpList_load_mid rfl 49 (.tmp 74) rfl b3 (o3 + 16) rfl [.int .i64 (hd j.ex).kind, str (hd j.ex).table, .slice yA yn yc, .slice yB ym yd, .slice yC yo ye, str (hd j.ex).attr, str (hd j.ex).as_, .int .i64 (hd j.ex).agg, .int .i64 (hd j.ex).at_] _ (RR3.out _ (below_box _ _)) Tryz.underlying49 rfl infoEx ?_)
      | (refine wpList_load_row rfl 49 (.tmp 12) rfl (w3.heap.size + 1) rfl _ #[.int .i64 (hd i.ex).kind, str (hd i.ex).table, .slice xA xn xc, .slice xB xm xd, .slice xC xo xe, str (hd i.ex).attr, str (hd i.ex).as_, .int .i64 (hd i.ex).agg, .int .i64 (hd i.ex).at_] _ _ BX.out Tryz.underlying49 rfl infoEx ?_))
    | ((with_reducible show wpList _ _ _ (Oper.mk _ (.store _ _ _) _ _ _ _ :: _) _ _); first
      | (refine wpList_store_new rfl 49 (.tmp 12) (.tmp 70) rfl (w3.heap.size + 1) _ #[.int .i64 (hd i.ex).kind, str (hd i.ex).table, .slice xA xn xc, .slice xB xm xd, .slice xC xo xe, str (hd i.ex).attr, str (hd i.ex).as_, .int .i64 (hd i.ex).agg, .int .i64 (hd i.ex).at_] (by simp) rfl rfl infoEx rfl (by simp [oc_int, oc_str, oc_slice, oc_bool]) ?_)
      | (refine wpList_store_new rfl 49 (.tmp 13) (.tmp 75) rfl (w3.heap.size + 1 + 1) _ #[.int .i64 (hd j.ex).kind, str (hd j.ex).table, .slice yA yn yc, .slice yB ym yd, .slice yC yo ye, str (hd j.ex).attr, str (hd j.ex).as_, .int .i64 (hd j.ex).agg, .int .i64 (hd j.ex).at_] (by simp) rfl rfl infoEx rfl (by simp [oc_int, oc_str, oc_slice, oc_bool]) ?_)))
  obtain ⟨W, hW⟩ : ∃ W, (((w3.alloc (.cells #[.slice (some ⟨b3, o3, none⟩) 1 c3] 29)).alloc (.cells #[.int .i64 (hd i.ex).kind, str (hd i.ex).table, .slice xA xn xc, .slice xB xm xd, .slice xC xo xe, str (hd i.ex).attr, str (hd i.ex).as_, .int .i64 (hd i.ex).agg, .int .i64 (hd i.ex).at_] 49)).alloc (.cells #[.int .i64 (hd j.ex).kind, str (hd j.ex).table, .slice yA yn yc, .slice yB ym yd, .slice yC yo ye, str (hd j.ex).attr, str (hd j.ex).as_, .int .i64 (hd j.ex).agg, .int .i64 (hd j.ex).at_] 49)) = W := ⟨_, rfl⟩
  rw [hW] at BX BY BE
  rw [hW]
  clear hW
  have BWW := Lib.hid (below_step2 BW3.out BE.out)
  have XI := Lib.hid (XM2.out.stay (kept_below (below_step2 BQ2.out BE.out)))
  have XJ := Lib.hid (XM3.out.stay (kept_below (below_step2 (below_box w3 (.cells #[.slice (some ⟨b3, o3, none⟩) 1 c3] 29)) BE.out)))
  refine (depth_ok i.ex _ _ _ _ _ (by have := DI.out; omega) XI.out).mono ?_
  rintro e w5 ⟨rfl, hb5⟩
  have HB5 := Lib.hid hb5
  have BX5 := Lib.hid (BX.out.keep hb5)
  have BY5 := Lib.hid (BY.out.keep hb5)
  have cY := fun k => BY5.out.cell k
  clear hb5
  go_wp2_with fail
  refine (depth_ok j.ex _ _ _ _ _ (by have := DJ.out; omega) (XJ.out.stay (kept_below HB5.out))).mono ?_
  rintro e w6 ⟨rfl, hb6⟩
  have HB6 := Lib.hid hb6
  have BX6 := Lib.hid (BX5.out.keep hb6)
  have BY6 := Lib.hid (BY5.out.keep hb6)
  have BW6 := Lib.hid (below2 (below2 BWW.out HB5.out) hb6)
  clear hb6 cY
  go_wp2_with fail
  go_ret
  exact ⟨rfl, BW6.out⟩
end Go.Proofs.YtcgkaecaddpenaaGreatDoor
