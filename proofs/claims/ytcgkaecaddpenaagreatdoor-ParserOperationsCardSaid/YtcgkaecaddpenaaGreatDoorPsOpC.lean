/- ParserOperations: the seven operations. -/
import Derived.Test.YtcgkaecaddpenaaGreatDoorPOa
namespace Go.Proofs.YtcgkaecaddpenaaGreatDoor
open Go.RowKit
open L7 (Tk lexT lx gap)
open L8
set_option linter.unusedSimpArgs false

set_option maxRecDepth 100000 in
set_option maxHeartbeats 16000000 in
theorem ops_ok (one two : Txt) (h : one.length ≤ 1000) (h2 : two.length ≤ 1000) {i j : It} {x y : Int} (hp : parseT (qpre ++ (one ++ [10, 59])) = ([i], 0, x)) (hp2 : parseT (qpre ++ (two ++ [10, 59])) = ([j], 0, y)) (hd1 : depE i.ex ≤ 11) (hd2 : depE j.ex ≤ 11) (w : World) : Calls Tryz.prog 6 #[str one, str two] w (fun e w' => e = .returned (.bool true) ∧ Below w.heap.size w w') := by
  have hsz := sz one
  have hsu := sz two
  have d : ¬ (1000 : Int) < (one.length : Int) := by omega
  have d2 : ¬ (1000 : Int) < (two.length : Int) := by omega
  have q1 : (9223372036854775807 < 10 + one.length) = False := eq_false (by omega)
  have q2 : (9223372036854775807 < 10 + one.length + 2) = False := eq_false (by omega)
  have q3 : (9223372036854775807 < 10 + two.length) = False := eq_false (by omega)
  have q4 : (9223372036854775807 < 10 + two.length + 2) = False := eq_false (by omega)
  have C := Lib.hid (fun W => hps (qpre ++ (one ++ [10, 59])) _ (by simp [qpre]; omega) hp W)
  have C3 := Lib.hid (fun W => hps (qpre ++ (two ++ [10, 59])) _ (by simp [qpre]; omega) hp2 W)
  have DI := Lib.hid (show depE i.ex ≤ 12 from parse_deep hp i (by simp))
  have DJ := Lib.hid (show depE j.ex ≤ 12 from parse_deep hp2 j (by simp))
  have e1 : ¬ (11 : Int) < (depE i.ex : Int) := by omega
  have e2 : ¬ (11 : Int) < (depE j.ex : Int) := by omega
  have O := Lib.hid (ops_all (isE_of h hp hd1) (isE_of h2 hp2 hd2))
  have TL := Lib.hid (fun k => tx_len h h2 k)
  have r0 : (9223372036854775807 < 7 + one.length) = False := eq_false (by omega)
  have r1 : (9223372036854775807 < 7 + one.length + 15) = False := eq_false (by omega)
  have r2 : (9223372036854775807 < 8 + one.length) = False := eq_false (by omega)
  have r3 : (9223372036854775807 < 8 + one.length + 9) = False := eq_false (by omega)
  have r4 : (9223372036854775807 < 5 + one.length) = False := eq_false (by omega)
  have r5 : (9223372036854775807 < 5 + one.length + 2) = False := eq_false (by omega)
  have r6 : (9223372036854775807 < 5 + one.length + 2 + two.length) = False := eq_false (by omega)
  have r7 : (9223372036854775807 < 5 + one.length + 2 + two.length + 2) = False := eq_false (by omega)
  have r8 : (9223372036854775807 < 6 + one.length) = False := eq_false (by omega)
  have r9 : (9223372036854775807 < 6 + one.length + 2) = False := eq_false (by omega)
  have r10 : (9223372036854775807 < 6 + one.length + 2 + two.length) = False := eq_false (by omega)
  have r11 : (9223372036854775807 < 6 + one.length + 2 + two.length + 2) = False := eq_false (by omega)
  have r12 : (9223372036854775807 < 7 + one.length + 10) = False := eq_false (by omega)
  have r13 : (9223372036854775807 < 6 + one.length + 22) = False := eq_false (by omega)
  clear h h2 hp hp2 hd1 hd2
  go_enter Tryz.func6, Tryz.ntmps6
  go_wp2_with fail
  refine (head_any _).mono ?_
  rintro e w1 ⟨rfl, hb1⟩
  have HB1 := Lib.hid hb1
  clear hb1
  go_wp2_with fail
  refine (calls_str (str_eq (by simp [qpre])) (C.out _)).mono ?_
  rintro e w2 ⟨v2, rfl, hi2, hb2⟩
  have HB2 := Lib.hid hb2
  obtain ⟨b2, o2, c2, rfl, hc2, hg2⟩ := hi2.spot (by simp)
  rw [show ([i] : List It).length = 1 from rfl] at hc2 ⊢
  obtain ⟨z2, zc2, zm2⟩ := hg2 0 (by simp)
  simp only [List.getElem_cons_zero, Nat.zero_mul, Nat.add_zero] at zc2 zm2
  obtain ⟨y12, y22, y32, y42, y52, y62, y72, y82, y92⟩ := z2
  obtain ⟨⟨xA, xn, xc, f2a⟩, ⟨xB, xm, xd, f2b⟩, ⟨xC, xo, xe, f2c⟩⟩ := zm2.ex.isSl
  simp only at f2a f2b f2c
  subst f2a f2b f2c
  have XM2 := Lib.hid zm2.ex
  have RG2 : w2.rangeAt b2 (o2 + 16) [.int .i64 (hd i.ex).kind, str (hd i.ex).table, .slice xA xn xc, .slice xB xm xd, .slice xC xo xe, str (hd i.ex).attr, str (hd i.ex).as_, .int .i64 (hd i.ex).agg, .int .i64 (hd i.ex).at_] := fun q v hq => by
    have hq9 : q < 9 := (List.getElem?_eq_some_iff.1 hq).1
    have h1 := zc2 (16 + q) (by omega)
    rw [← Nat.add_assoc] at h1
    rw [h1, ← hq]
    match q, hq9 with
    | 0, _ => rfl
    | 1, _ => rfl
    | 2, _ => rfl
    | 3, _ => rfl
    | 4, _ => rfl
    | 5, _ => rfl
    | 6, _ => rfl
    | 7, _ => rfl
    | 8, _ => rfl
  have RH2 := Lib.hid RG2
  clear hi2 hb2 hg2 zc2 zm2 RG2
  go_wp2_with fail
  refine (calls_str (str_eq (by simp [qpre])) (C3.out _)).mono ?_
  rintro e w3 ⟨v3, rfl, hi3, hb3⟩
  have HB3 := Lib.hid hb3
  obtain ⟨b3, o3, c3, rfl, hc3, hg3⟩ := hi3.spot (by simp)
  rw [show ([j] : List It).length = 1 from rfl] at hc3 ⊢
  obtain ⟨z3, zc3, zm3⟩ := hg3 0 (by simp)
  simp only [List.getElem_cons_zero, Nat.zero_mul, Nat.add_zero] at zc3 zm3
  obtain ⟨y13, y23, y33, y43, y53, y63, y73, y83, y93⟩ := z3
  obtain ⟨⟨yA, yn, yc, f3a⟩, ⟨yB, ym, yd, f3b⟩, ⟨yC, yo, ye, f3c⟩⟩ := zm3.ex.isSl
  simp only at f3a f3b f3c
  subst f3a f3b f3c
  have XM3 := Lib.hid zm3.ex
  have RG3 : w3.rangeAt b3 (o3 + 16) [.int .i64 (hd j.ex).kind, str (hd j.ex).table, .slice yA yn yc, .slice yB ym yd, .slice yC yo ye, str (hd j.ex).attr, str (hd j.ex).as_, .int .i64 (hd j.ex).agg, .int .i64 (hd j.ex).at_] := fun q v hq => by
    have hq9 : q < 9 := (List.getElem?_eq_some_iff.1 hq).1
    have h1 := zc3 (16 + q) (by omega)
    rw [← Nat.add_assoc] at h1
    rw [h1, ← hq]
    match q, hq9 with
    | 0, _ => rfl
    | 1, _ => rfl
    | 2, _ => rfl
    | 3, _ => rfl
    | 4, _ => rfl
    | 5, _ => rfl
    | 6, _ => rfl
    | 7, _ => rfl
    | 8, _ => rfl
  have RH3 := Lib.hid RG3
  clear hi3 hb3 hg3 zc3 zm3 RG3
  have g0 : (w3.alloc (.cells #[.slice (some ⟨b3, o3, none⟩) 1 c3] 29)).cell? ⟨w2.heap.size, 0, none⟩ = some (.slice (some ⟨b2, o2, none⟩) 1 c2) := cellB (below_box _ _) (cellB HB3.out (show (w2.alloc (.cells #[.slice (some ⟨b2, o2, none⟩) 1 c2] 29)).cell? ⟨w2.heap.size, 0, none⟩ = some (.slice (some ⟨b2, o2, none⟩) 1 c2) by simp [go_sem]))
  have g1 : (w3.alloc (.cells #[.slice (some ⟨b3, o3, none⟩) 1 c3] 29)).cell? ⟨w3.heap.size, 0, none⟩ = some (.slice (some ⟨b3, o3, none⟩) 1 c3) := by simp [go_sem]
  have BW3 := Lib.hid (show Below w.heap.size w (w3.alloc (.cells #[.slice (some ⟨b3, o3, none⟩) 1 c3] 29)) from below2 (below2b (below2 HB1.out HB2.out) HB3.out) (below_box _ _))
  have BQ2 := Lib.hid (show Below w2.heap.size w2 (w3.alloc (.cells #[.slice (some ⟨b3, o3, none⟩) 1 c3] 29)) from below_step2 (below_from HB3.out) (below_box _ _))
  have RR2 := Lib.hid (show ∀ W, Below ((w3.alloc (.cells #[.slice (some ⟨b3, o3, none⟩) 1 c3] 29))).heap.size (w3.alloc (.cells #[.slice (some ⟨b3, o3, none⟩) 1 c3] 29)) W → W.rangeAt b2 (o2 + 16) [.int .i64 (hd i.ex).kind, str (hd i.ex).table, .slice xA xn xc, .slice xB xm xd, .slice xC xo xe, str (hd i.ex).attr, str (hd i.ex).as_, .int .i64 (hd i.ex).agg, .int .i64 (hd i.ex).at_] from fun W hb q v hq => cellB (below_step2 BQ2.out hb) (RH2.out q v hq))
  have RR3 := Lib.hid (show ∀ W, Below ((w3.alloc (.cells #[.slice (some ⟨b3, o3, none⟩) 1 c3] 29))).heap.size (w3.alloc (.cells #[.slice (some ⟨b3, o3, none⟩) 1 c3] 29)) W → W.rangeAt b3 (o3 + 16) [.int .i64 (hd j.ex).kind, str (hd j.ex).table, .slice yA yn yc, .slice yB ym yd, .slice yC yo ye, str (hd j.ex).attr, str (hd j.ex).as_, .int .i64 (hd j.ex).agg, .int .i64 (hd j.ex).at_] from fun W hb q v hq => cellB (below_step2 (below_box _ _) hb) (RH3.out q v hq))
  have BX := Lib.hid (show Blk (((w3.alloc (.cells #[.slice (some ⟨b3, o3, none⟩) 1 c3] 29)).alloc (.cells #[.int .i64 (hd i.ex).kind, str (hd i.ex).table, .slice xA xn xc, .slice xB xm xd, .slice xC xo xe, str (hd i.ex).attr, str (hd i.ex).as_, .int .i64 (hd i.ex).agg, .int .i64 (hd i.ex).at_] 49)).alloc (.cells #[.int .i64 (hd j.ex).kind, str (hd j.ex).table, .slice yA yn yc, .slice yB ym yd, .slice yC yo ye, str (hd j.ex).attr, str (hd j.ex).as_, .int .i64 (hd j.ex).agg, .int .i64 (hd j.ex).at_] 49)) (w3.heap.size + 1) 49 #[.int .i64 (hd i.ex).kind, str (hd i.ex).table, .slice xA xn xc, .slice xB xm xd, .slice xC xo xe, str (hd i.ex).attr, str (hd i.ex).as_, .int .i64 (hd i.ex).agg, .int .i64 (hd i.ex).at_] from (blk_at (by simp)).alloc _)
  have BY := Lib.hid (show Blk (((w3.alloc (.cells #[.slice (some ⟨b3, o3, none⟩) 1 c3] 29)).alloc (.cells #[.int .i64 (hd i.ex).kind, str (hd i.ex).table, .slice xA xn xc, .slice xB xm xd, .slice xC xo xe, str (hd i.ex).attr, str (hd i.ex).as_, .int .i64 (hd i.ex).agg, .int .i64 (hd i.ex).at_] 49)).alloc (.cells #[.int .i64 (hd j.ex).kind, str (hd j.ex).table, .slice yA yn yc, .slice yB ym yd, .slice yC yo ye, str (hd j.ex).attr, str (hd j.ex).as_, .int .i64 (hd j.ex).agg, .int .i64 (hd j.ex).at_] 49)) (w3.heap.size + 1 + 1) 49 #[.int .i64 (hd j.ex).kind, str (hd j.ex).table, .slice yA yn yc, .slice yB ym yd, .slice yC yo ye, str (hd j.ex).attr, str (hd j.ex).as_, .int .i64 (hd j.ex).agg, .int .i64 (hd j.ex).at_] from blk_at (by simp))
  have BE := Lib.hid (show Below ((w3.alloc (.cells #[.slice (some ⟨b3, o3, none⟩) 1 c3] 29))).heap.size (w3.alloc (.cells #[.slice (some ⟨b3, o3, none⟩) 1 c3] 29)) (((w3.alloc (.cells #[.slice (some ⟨b3, o3, none⟩) 1 c3] 29)).alloc (.cells #[.int .i64 (hd i.ex).kind, str (hd i.ex).table, .slice xA xn xc, .slice xB xm xd, .slice xC xo xe, str (hd i.ex).attr, str (hd i.ex).as_, .int .i64 (hd i.ex).agg, .int .i64 (hd i.ex).at_] 49)).alloc (.cells #[.int .i64 (hd j.ex).kind, str (hd j.ex).table, .slice yA yn yc, .slice yB ym yd, .slice yC yo ye, str (hd j.ex).attr, str (hd j.ex).as_, .int .i64 (hd j.ex).agg, .int .i64 (hd j.ex).at_] 49)) from below_step2 (below_box _ _) (below_box _ _))
  go_wp2_with (first
    | ((with_reducible show wpList _ _ _ (Oper.mk _ (.load _ _) _ _ _ _ :: _) _ _); first
      | (refine wpList_load_mid rfl 49 (.tmp 69) rfl b2 (o2 + 16) rfl [.int .i64 (hd i.ex).kind, str (hd i.ex).table, .slice xA xn xc, .slice xB xm xd, .slice xC xo xe, str (hd i.ex).attr, str (hd i.ex).as_, .int .i64 (hd i.ex).agg, .int .i64 (hd i.ex).at_] _ (RR2.out _ (Below.refl _ _)) Tryz.underlying49 rfl infoEx ?_)
      | (refine wpList_load_mid rfl 49 (.tmp 74) rfl b3 (o3 + 16) rfl [.int .i64 (hd j.ex).kind, str (hd j.ex).table, .slice yA yn yc, .slice yB ym yd, .slice yC yo ye, str (hd j.ex).attr, str (hd j.ex).as_, .int .i64 (hd j.ex).agg, .int .i64 (hd j.ex).at_] _ (RR3.out _ (below_box _ _)) Tryz.underlying49 rfl infoEx ?_)
      | (refine wpList_load_row rfl 49 (.tmp 12) rfl (w3.heap.size + 1) rfl _ #[.int .i64 (hd i.ex).kind, str (hd i.ex).table, .slice xA xn xc, .slice xB xm xd, .slice xC xo xe, str (hd i.ex).attr, str (hd i.ex).as_, .int .i64 (hd i.ex).agg, .int .i64 (hd i.ex).at_] _ _ BX.out Tryz.underlying49 rfl infoEx ?_))
    | ((with_reducible show wpList _ _ _ (Oper.mk _ (.store _ _ _) _ _ _ _ :: _) _ _); first
      | (refine wpList_store_new rfl 49 (.tmp 12) (.tmp 70) rfl (w3.heap.size + 1) _ #[.int .i64 (hd i.ex).kind, str (hd i.ex).table, .slice xA xn xc, .slice xB xm xd, .slice xC xo xe, str (hd i.ex).attr, str (hd i.ex).as_, .int .i64 (hd i.ex).agg, .int .i64 (hd i.ex).at_] (by simp) rfl rfl infoEx rfl (by simp [oc_int, oc_str, oc_slice, oc_bool]) ?_)
      | (refine wpList_store_new rfl 49 (.tmp 13) (.tmp 75) rfl (w3.heap.size + 1 + 1) _ #[.int .i64 (hd j.ex).kind, str (hd j.ex).table, .slice yA yn yc, .slice yB ym yd, .slice yC yo ye, str (hd j.ex).attr, str (hd j.ex).as_, .int .i64 (hd j.ex).agg, .int .i64 (hd j.ex).at_] (by simp) rfl rfl infoEx rfl (by simp [oc_int, oc_str, oc_slice, oc_bool]) ?_)))
  obtain ⟨W, hW⟩ : ∃ W, (((w3.alloc (.cells #[.slice (some ⟨b3, o3, none⟩) 1 c3] 29)).alloc (.cells #[.int .i64 (hd i.ex).kind, str (hd i.ex).table, .slice xA xn xc, .slice xB xm xd, .slice xC xo xe, str (hd i.ex).attr, str (hd i.ex).as_, .int .i64 (hd i.ex).agg, .int .i64 (hd i.ex).at_] 49)).alloc (.cells #[.int .i64 (hd j.ex).kind, str (hd j.ex).table, .slice yA yn yc, .slice yB ym yd, .slice yC yo ye, str (hd j.ex).attr, str (hd j.ex).as_, .int .i64 (hd j.ex).agg, .int .i64 (hd j.ex).at_] 49)) = W := ⟨_, rfl⟩
  rw [hW] at BX BY BE
  rw [hW]
  clear hW
  have BWW := Lib.hid (below_step2 BW3.out BE.out)
  have XI := Lib.hid (XM2.out.stay (kept_below (below_step2 BQ2.out BE.out)))
  have XJ := Lib.hid (XM3.out.stay (kept_below (below_step2 (below_box w3 (.cells #[.slice (some ⟨b3, o3, none⟩) 1 c3] 29)) BE.out)))
  refine (depth_ok i.ex _ _ _ _ _ (by have := DI.out; omega) XI.out).mono ?_
  rintro e w5 ⟨rfl, hb5⟩
  have HB5 := Lib.hid hb5
  have BX5 := Lib.hid (BX.out.keep hb5)
  have BY5 := Lib.hid (BY.out.keep hb5)
  have cY := fun k => BY5.out.cell k
  clear hb5
  go_wp2_with fail
  refine (depth_ok j.ex _ _ _ _ _ (by have := DJ.out; omega) (XJ.out.stay (kept_below HB5.out))).mono ?_
  rintro e w6 ⟨rfl, hb6⟩
  have HB6 := Lib.hid hb6
  have BX6 := Lib.hid (BX5.out.keep hb6)
  have BY6 := Lib.hid (BY5.out.keep hb6)
  have BW6 := Lib.hid (below2 (below2 BWW.out HB5.out) hb6)
  clear hb6 cY
  go_upto_region 14 with fail
  go_wp2_with ((with_reducible show wpList _ _ _ (Oper.mk _ (.load _ _) _ _ _ _ :: _) _ _); first
    | (refine wpList_load_row rfl 49 (.tmp 12) rfl (w3.heap.size + 1) rfl _ #[.int .i64 (hd i.ex).kind, str (hd i.ex).table, .slice xA xn xc, .slice xB xm xd, .slice xC xo xe, str (hd i.ex).attr, str (hd i.ex).as_, .int .i64 (hd i.ex).agg, .int .i64 (hd i.ex).at_] _ _ (show Blk _ (w3.heap.size + 1) 49 #[.int .i64 (hd i.ex).kind, str (hd i.ex).table, .slice xA xn xc, .slice xB xm xd, .slice xC xo xe, str (hd i.ex).attr, str (hd i.ex).as_, .int .i64 (hd i.ex).agg, .int .i64 (hd i.ex).at_] from (by repeat' first | with_reducible exact BX6.out | with_reducible exact BY6.out | with_reducible refine Blk.alloc ?_ _)) Tryz.underlying49 rfl infoEx ?_)
    | (refine wpList_load_row rfl 49 (.tmp 13) rfl (w3.heap.size + 1 + 1) rfl _ #[.int .i64 (hd j.ex).kind, str (hd j.ex).table, .slice yA yn yc, .slice yB ym yd, .slice yC yo ye, str (hd j.ex).attr, str (hd j.ex).as_, .int .i64 (hd j.ex).agg, .int .i64 (hd j.ex).at_] _ _ (show Blk _ (w3.heap.size + 1 + 1) 49 #[.int .i64 (hd j.ex).kind, str (hd j.ex).table, .slice yA yn yc, .slice yB ym yd, .slice yC yo ye, str (hd j.ex).attr, str (hd j.ex).as_, .int .i64 (hd j.ex).agg, .int .i64 (hd j.ex).at_] from (by repeat' first | with_reducible exact BX6.out | with_reducible exact BY6.out | with_reducible refine Blk.alloc ?_ _)) Tryz.underlying49 rfl infoEx ?_)
    | (refine wpList_load_row rfl 59 (.tmp 14) rfl (w6.heap.size) rfl _ #[str [], str [97], .bool false, .int .i64 0, .int .i64 0, str [], .int .i64 3, str [], str [], .bool true, .int .i64 1, .int .i64 0, str [98], .int .i64 0] _ _ (((Blk.new _ _ _).alloc _).alloc _) Tryz.underlying59 rfl infoCnd ?_))
  go_loopw [17] (fun q wr => (∃ W, OpsG one two i.ex j.ex w W (w6.heap.size + 1) (w6.heap.size + 1 + 1 + 1 + 1 + 1 + 1 + 1 + 1 + 1 + 1 + 1 + 1) ∧ Below W.heap.size W wr) ∧ ∃ k : Nat, q = .int .i64 (k : Int) ∧ k ≤ 7) (fun q _ => 7 - (intOf q).toNat)
  case atStart =>
    refine ⟨⟨_, ⟨?_, ?_, ?_⟩, Below.refl _ _⟩, 0, rfl, Nat.zero_le _⟩
    · repeat' first | exact BW6.out | refine below_step2 ?_ (below_box _ _)
    · intro k hk
      refine ((show Blk _ (w6.heap.size + 1) 9 #[_, _, _, _, _, _, _] from (by repeat' first | (refine blk_at ?_; first | (simp only [World.size_alloc]; done) | (simp only [World.size_alloc]; omega) | omega) | refine Blk.alloc ?_ _)).cell k).trans ?_
      match k, hk with
      | 0, _ => exact congrArg some (str_eq (by simp [tx]))
      | 1, _ => exact congrArg some (str_eq (by simp [tx]))
      | 2, _ => exact congrArg some (str_eq (by simp [tx]))
      | 3, _ => exact congrArg some (str_eq (by simp [tx]))
      | 4, _ => exact congrArg some (str_eq (by simp [tx]))
      | 5, _ => exact congrArg some (str_eq (by simp [tx]))
      | 6, _ => exact congrArg some (str_eq (by simp [tx]))
    · refine want_facts i.ex j.ex (.slice xA xn xc) (.slice xB xm xd) (.slice xC xo xe) (.slice yA yn yc) (.slice yB ym yd) (.slice yC yo ye) _ (w6.heap.size + 1 + 1) 49 59 49 9 49 49 49 49 49 9 49 ?_ ?_ ?_ ?_ ?_ ?_ ?_ ?_ ?_ ?_ ?_ ?_ ?_
      · exact ExC.lower (Nat.zero_le _) (XI.out.stay (kept_below (by repeat' first | exact below_step2 HB5.out HB6.out | refine below_step2 ?_ (below_box _ _))))
      · exact ExC.lower (Nat.zero_le _) (XJ.out.stay (kept_below (by repeat' first | exact below_step2 HB5.out HB6.out | refine below_step2 ?_ (below_box _ _))))
      all_goals (repeat' first | (refine blk_at ?_; first | (simp only [World.size_alloc]; done) | (simp only [World.size_alloc]; omega) | omega) | refine Blk.alloc ?_ _)
  case round =>
    obtain ⟨⟨WG, hG, hbG⟩, k, rfl, hk⟩ := hrel
    have G := Lib.hid hG
    have HBG := Lib.hid hbG
    clear hG hbG
    by_cases hlt : k < 7
    · obtain ⟨it, hpk, hek⟩ := O.out k hlt
      have hsl := TL.out k
      have ct := cellB HBG.out (G.out.text k hlt)
      obtain ⟨ks, cs, ns, hwc, hwx⟩ := G.out.want k hlt
      obtain ⟨s, hs⟩ : ∃ s, tx one two k = s := ⟨_, rfl⟩
      obtain ⟨XX, hXX⟩ : ∃ XX, wx i.ex j.ex k = XX := ⟨_, rfl⟩
      rw [hs] at hpk hsl ct
      rw [hXX] at hek hwc hwx
      obtain ⟨⟨uA, un, uc, rfl⟩, ⟨uB, um, ud, rfl⟩, ⟨uC, uo, ue, rfl⟩⟩ := hwx.isSl
      have HWX := Lib.hid (hwx.stay (kept_below HBG.out))
      have ZS := Lib.hid ((parse_size hpk it (by simp)).ex)
      have CP := Lib.hid (fun W => hps (qpre ++ (s ++ [59])) _ (by simp [qpre]; omega) hpk W)
      have HEK := Lib.hid (show EqE false it.ex XX from hek)
      have hss := sz s
      have t1 : (9223372036854775807 < 10 + s.length) = False := eq_false (by omega)
      have t2 : (9223372036854775807 < 10 + s.length + 1) = False := eq_false (by omega)
      have i0 : (0 : Int) ≤ (k : Int) := by omega
      have i1 : (k : Int) < 7 := by omega
      have i2 : IntKind.i64.wrap ((k : Int) + 1) = (k : Int) + 1 := IntWalk.i64_in _ (by omega)
      have yw0 : wr.cell? ⟨w6.heap.size + 1 + 1 + 1 + 1 + 1 + 1 + 1 + 1 + 1 + 1 + 1 + 1, k * 9, none⟩ = some (.int .i64 (hd XX).kind) := cellB HBG.out ((hwc 0 (by decide)).trans rfl)
      have yw1 : wr.cell? ⟨w6.heap.size + 1 + 1 + 1 + 1 + 1 + 1 + 1 + 1 + 1 + 1 + 1 + 1, k * 9 + 1, none⟩ = some (str (hd XX).table) := cellB HBG.out ((hwc 1 (by decide)).trans rfl)
      have yw2 : wr.cell? ⟨w6.heap.size + 1 + 1 + 1 + 1 + 1 + 1 + 1 + 1 + 1 + 1 + 1 + 1, k * 9 + 2, none⟩ = some (.slice uA un uc) := cellB HBG.out ((hwc 2 (by decide)).trans rfl)
      have yw3 : wr.cell? ⟨w6.heap.size + 1 + 1 + 1 + 1 + 1 + 1 + 1 + 1 + 1 + 1 + 1 + 1, k * 9 + 3, none⟩ = some (.slice uB um ud) := cellB HBG.out ((hwc 3 (by decide)).trans rfl)
      have yw4 : wr.cell? ⟨w6.heap.size + 1 + 1 + 1 + 1 + 1 + 1 + 1 + 1 + 1 + 1 + 1 + 1, k * 9 + 4, none⟩ = some (.slice uC uo ue) := cellB HBG.out ((hwc 4 (by decide)).trans rfl)
      have yw5 : wr.cell? ⟨w6.heap.size + 1 + 1 + 1 + 1 + 1 + 1 + 1 + 1 + 1 + 1 + 1 + 1, k * 9 + 5, none⟩ = some (str (hd XX).attr) := cellB HBG.out ((hwc 5 (by decide)).trans rfl)
      have yw6 : wr.cell? ⟨w6.heap.size + 1 + 1 + 1 + 1 + 1 + 1 + 1 + 1 + 1 + 1 + 1 + 1, k * 9 + 6, none⟩ = some (str (hd XX).as_) := cellB HBG.out ((hwc 6 (by decide)).trans rfl)
      have yw7 : wr.cell? ⟨w6.heap.size + 1 + 1 + 1 + 1 + 1 + 1 + 1 + 1 + 1 + 1 + 1 + 1, k * 9 + 7, none⟩ = some (.int .i64 (hd XX).agg) := cellB HBG.out ((hwc 7 (by decide)).trans rfl)
      have yw8 : wr.cell? ⟨w6.heap.size + 1 + 1 + 1 + 1 + 1 + 1 + 1 + 1 + 1 + 1 + 1 + 1, k * 9 + 8, none⟩ = some (.int .i64 (hd XX).at_) := cellB HBG.out ((hwc 8 (by decide)).trans rfl)
      clear hs hXX hek hwc hwx hpk hsl
      go_wp2_with fail
      refine (calls_str (str_eq (by simp [qpre])) (CP.out _)).mono ?_
      rintro e w8 ⟨v8, rfl, hi8, hb8⟩
      have HB8 := Lib.hid hb8
      obtain ⟨b8, o8, c8, rfl, hc8, hg8⟩ := hi8.spot (by simp)
      rw [show ([it] : List It).length = 1 from rfl] at hc8 ⊢
      obtain ⟨z8, zc8, zm8⟩ := hg8 0 (by simp)
      simp only [List.getElem_cons_zero, Nat.zero_mul, Nat.add_zero] at zc8 zm8
      obtain ⟨v1, v2, v3, v4, v5, v6, v7, v8, v9⟩ := z8
      obtain ⟨⟨tA, tn, tc, p1⟩, ⟨tB, tm, td, p2⟩, ⟨tC, to, te, p3⟩⟩ := zm8.ex.isSl
      simp only at p1 p2 p3
      subst p1 p2 p3
      have XM8 := Lib.hid zm8.ex
      have x0 : (w8.alloc (.cells #[.slice (some ⟨b8, o8, none⟩) 1 c8] 29)).cell? ⟨b8, o8 + 16, none⟩ = some (.int .i64 (hd it.ex).kind) := cellB (below_box _ _) ((zc8 16 (by decide)).trans rfl)
      have x1 : (w8.alloc (.cells #[.slice (some ⟨b8, o8, none⟩) 1 c8] 29)).cell? ⟨b8, o8 + 17, none⟩ = some (str (hd it.ex).table) := cellB (below_box _ _) ((zc8 17 (by decide)).trans rfl)
      have x2 : (w8.alloc (.cells #[.slice (some ⟨b8, o8, none⟩) 1 c8] 29)).cell? ⟨b8, o8 + 18, none⟩ = some (.slice tA tn tc) := cellB (below_box _ _) ((zc8 18 (by decide)).trans rfl)
      have x3 : (w8.alloc (.cells #[.slice (some ⟨b8, o8, none⟩) 1 c8] 29)).cell? ⟨b8, o8 + 19, none⟩ = some (.slice tB tm td) := cellB (below_box _ _) ((zc8 19 (by decide)).trans rfl)
      have x4 : (w8.alloc (.cells #[.slice (some ⟨b8, o8, none⟩) 1 c8] 29)).cell? ⟨b8, o8 + 20, none⟩ = some (.slice tC to te) := cellB (below_box _ _) ((zc8 20 (by decide)).trans rfl)
      have x5 : (w8.alloc (.cells #[.slice (some ⟨b8, o8, none⟩) 1 c8] 29)).cell? ⟨b8, o8 + 21, none⟩ = some (str (hd it.ex).attr) := cellB (below_box _ _) ((zc8 21 (by decide)).trans rfl)
      have x6 : (w8.alloc (.cells #[.slice (some ⟨b8, o8, none⟩) 1 c8] 29)).cell? ⟨b8, o8 + 22, none⟩ = some (str (hd it.ex).as_) := cellB (below_box _ _) ((zc8 22 (by decide)).trans rfl)
      have x7 : (w8.alloc (.cells #[.slice (some ⟨b8, o8, none⟩) 1 c8] 29)).cell? ⟨b8, o8 + 23, none⟩ = some (.int .i64 (hd it.ex).agg) := cellB (below_box _ _) ((zc8 23 (by decide)).trans rfl)
      have x8 : (w8.alloc (.cells #[.slice (some ⟨b8, o8, none⟩) 1 c8] 29)).cell? ⟨b8, o8 + 24, none⟩ = some (.int .i64 (hd it.ex).at_) := cellB (below_box _ _) ((zc8 24 (by decide)).trans rfl)
      have y0 : (w8.alloc (.cells #[.slice (some ⟨b8, o8, none⟩) 1 c8] 29)).cell? ⟨w6.heap.size + 1 + 1 + 1 + 1 + 1 + 1 + 1 + 1 + 1 + 1 + 1 + 1, k * 9, none⟩ = some (.int .i64 (hd XX).kind) := cellB (below_box _ _) (cellB HB8.out yw0)
      have y1 : (w8.alloc (.cells #[.slice (some ⟨b8, o8, none⟩) 1 c8] 29)).cell? ⟨w6.heap.size + 1 + 1 + 1 + 1 + 1 + 1 + 1 + 1 + 1 + 1 + 1 + 1, k * 9 + 1, none⟩ = some (str (hd XX).table) := cellB (below_box _ _) (cellB HB8.out yw1)
      have y2 : (w8.alloc (.cells #[.slice (some ⟨b8, o8, none⟩) 1 c8] 29)).cell? ⟨w6.heap.size + 1 + 1 + 1 + 1 + 1 + 1 + 1 + 1 + 1 + 1 + 1 + 1, k * 9 + 2, none⟩ = some (.slice uA un uc) := cellB (below_box _ _) (cellB HB8.out yw2)
      have y3 : (w8.alloc (.cells #[.slice (some ⟨b8, o8, none⟩) 1 c8] 29)).cell? ⟨w6.heap.size + 1 + 1 + 1 + 1 + 1 + 1 + 1 + 1 + 1 + 1 + 1 + 1, k * 9 + 3, none⟩ = some (.slice uB um ud) := cellB (below_box _ _) (cellB HB8.out yw3)
      have y4 : (w8.alloc (.cells #[.slice (some ⟨b8, o8, none⟩) 1 c8] 29)).cell? ⟨w6.heap.size + 1 + 1 + 1 + 1 + 1 + 1 + 1 + 1 + 1 + 1 + 1 + 1, k * 9 + 4, none⟩ = some (.slice uC uo ue) := cellB (below_box _ _) (cellB HB8.out yw4)
      have y5 : (w8.alloc (.cells #[.slice (some ⟨b8, o8, none⟩) 1 c8] 29)).cell? ⟨w6.heap.size + 1 + 1 + 1 + 1 + 1 + 1 + 1 + 1 + 1 + 1 + 1 + 1, k * 9 + 5, none⟩ = some (str (hd XX).attr) := cellB (below_box _ _) (cellB HB8.out yw5)
      have y6 : (w8.alloc (.cells #[.slice (some ⟨b8, o8, none⟩) 1 c8] 29)).cell? ⟨w6.heap.size + 1 + 1 + 1 + 1 + 1 + 1 + 1 + 1 + 1 + 1 + 1 + 1, k * 9 + 6, none⟩ = some (str (hd XX).as_) := cellB (below_box _ _) (cellB HB8.out yw6)
      have y7 : (w8.alloc (.cells #[.slice (some ⟨b8, o8, none⟩) 1 c8] 29)).cell? ⟨w6.heap.size + 1 + 1 + 1 + 1 + 1 + 1 + 1 + 1 + 1 + 1 + 1 + 1, k * 9 + 7, none⟩ = some (.int .i64 (hd XX).agg) := cellB (below_box _ _) (cellB HB8.out yw7)
      have y8 : (w8.alloc (.cells #[.slice (some ⟨b8, o8, none⟩) 1 c8] 29)).cell? ⟨w6.heap.size + 1 + 1 + 1 + 1 + 1 + 1 + 1 + 1 + 1 + 1 + 1 + 1, k * 9 + 8, none⟩ = some (.int .i64 (hd XX).at_) := cellB (below_box _ _) (cellB HB8.out yw8)
      have f0 : (w8.alloc (.cells #[.slice (some ⟨b8, o8, none⟩) 1 c8] 29)).cell? ⟨w8.heap.size, 0, none⟩ = some (.slice (some ⟨b8, o8, none⟩) 1 c8) := by simp [go_sem]
      have SM := Lib.hid (fun W (hb : Below ((w8.alloc (.cells #[.slice (some ⟨b8, o8, none⟩) 1 c8] 29))).heap.size (w8.alloc (.cells #[.slice (some ⟨b8, o8, none⟩) 1 c8] 29)) W) => same_ok false it.ex XX _ _ W _ _ _ _ _ _ HEK.out (XM8.out.stay (kept_below (below_step2 (below_box _ _) hb))) (HWX.out.stay (kept_below (below_step2 (below_step2 HB8.out (below_box _ _)) hb))) ZS.out)
      have BR := Lib.hid (show Below w.heap.size w (w8.alloc (.cells #[.slice (some ⟨b8, o8, none⟩) 1 c8] 29)) from below_step2 (below_step2 (below_step2 G.out.below HBG.out) HB8.out) (below_box _ _))
      have BR2 := Lib.hid (show Below WG.heap.size WG (w8.alloc (.cells #[.slice (some ⟨b8, o8, none⟩) 1 c8] 29)) from below_step2 (below_step2 HBG.out HB8.out) (below_box _ _))
      clear hi8 hb8 hg8 zc8 zm8 yw0 yw1 yw2 yw3 yw4 yw5 yw6 yw7 yw8
      go_wp2_with fail
      obtain ⟨W9, hW9⟩ : ∃ W9, (w8.alloc (.cells #[.slice (some ⟨b8, o8, none⟩) 1 c8] 29)) = W9 := ⟨_, rfl⟩
      rw [hW9] at f0 SM BR BR2 x0 y0 x1 y1 x2 y2 x3 y3 x4 y4 x5 y5 x6 y6 x7 y7 x8 y8
      rw [hW9]
      clear hW9
      go_region_held3 (fun w' => w'.cell? ⟨w8.heap.size, 0, none⟩ = some (.slice (some ⟨b8, o8, none⟩) 1 c8) ∧ w'.cell? ⟨b8, o8 + 16, none⟩ = some (.int .i64 (hd it.ex).kind) ∧ w'.cell? ⟨b8, o8 + 17, none⟩ = some (str (hd it.ex).table) ∧ w'.cell? ⟨b8, o8 + 18, none⟩ = some (.slice tA tn tc) ∧ w'.cell? ⟨b8, o8 + 19, none⟩ = some (.slice tB tm td) ∧ w'.cell? ⟨b8, o8 + 20, none⟩ = some (.slice tC to te) ∧ w'.cell? ⟨b8, o8 + 21, none⟩ = some (str (hd it.ex).attr) ∧ w'.cell? ⟨b8, o8 + 22, none⟩ = some (str (hd it.ex).as_) ∧ w'.cell? ⟨b8, o8 + 23, none⟩ = some (.int .i64 (hd it.ex).agg) ∧ w'.cell? ⟨b8, o8 + 24, none⟩ = some (.int .i64 (hd it.ex).at_) ∧ w'.cell? ⟨w6.heap.size + 1 + 1 + 1 + 1 + 1 + 1 + 1 + 1 + 1 + 1 + 1 + 1, k * 9, none⟩ = some (.int .i64 (hd XX).kind) ∧ w'.cell? ⟨w6.heap.size + 1 + 1 + 1 + 1 + 1 + 1 + 1 + 1 + 1 + 1 + 1 + 1, k * 9 + 1, none⟩ = some (str (hd XX).table) ∧ w'.cell? ⟨w6.heap.size + 1 + 1 + 1 + 1 + 1 + 1 + 1 + 1 + 1 + 1 + 1 + 1, k * 9 + 2, none⟩ = some (.slice uA un uc) ∧ w'.cell? ⟨w6.heap.size + 1 + 1 + 1 + 1 + 1 + 1 + 1 + 1 + 1 + 1 + 1 + 1, k * 9 + 3, none⟩ = some (.slice uB um ud) ∧ w'.cell? ⟨w6.heap.size + 1 + 1 + 1 + 1 + 1 + 1 + 1 + 1 + 1 + 1 + 1 + 1, k * 9 + 4, none⟩ = some (.slice uC uo ue) ∧ w'.cell? ⟨w6.heap.size + 1 + 1 + 1 + 1 + 1 + 1 + 1 + 1 + 1 + 1 + 1 + 1, k * 9 + 5, none⟩ = some (str (hd XX).attr) ∧ w'.cell? ⟨w6.heap.size + 1 + 1 + 1 + 1 + 1 + 1 + 1 + 1 + 1 + 1 + 1 + 1, k * 9 + 6, none⟩ = some (str (hd XX).as_) ∧ w'.cell? ⟨w6.heap.size + 1 + 1 + 1 + 1 + 1 + 1 + 1 + 1 + 1 + 1 + 1 + 1, k * 9 + 7, none⟩ = some (.int .i64 (hd XX).agg) ∧ w'.cell? ⟨w6.heap.size + 1 + 1 + 1 + 1 + 1 + 1 + 1 + 1 + 1 + 1 + 1 + 1, k * 9 + 8, none⟩ = some (.int .i64 (hd XX).at_)) (go_keep) ((go_at_call 14; refine (SM.out _ (below_drewN _ W9 1)).mono ?_; rintro e w10 ⟨rfl, hb10⟩; have E10 := Lib.hid (show Below W9.heap.size W9 w10 from (below_drewN _ W9 1).trans hb10); have s0 := cellB E10.out f0; have sx0 := cellB E10.out x0; have sy0 := cellB E10.out y0; have sx1 := cellB E10.out x1; have sy1 := cellB E10.out y1; have sx2 := cellB E10.out x2; have sy2 := cellB E10.out y2; have sx3 := cellB E10.out x3; have sy3 := cellB E10.out y3; have sx4 := cellB E10.out x4; have sy4 := cellB E10.out y4; have sx5 := cellB E10.out x5; have sy5 := cellB E10.out y5; have sx6 := cellB E10.out x6; have sy6 := cellB E10.out y6; have sx7 := cellB E10.out x7; have sy7 := cellB E10.out y7; have sx8 := cellB E10.out x8; have sy8 := cellB E10.out y8; clear hb10))
      all_goals
        go_wp2_with fail
        go_roundw
        case rel => exact ⟨⟨WG, G.out, below_step2 BR2.out E10.out⟩, k + 1, by simp, by omega⟩
        case measure => simp [intOf]; omega
    · obtain rfl : k = 7 := by omega
      go_wp2_with fail
      go_ret
      exact ⟨rfl, below2 G.out.below HBG.out⟩
end Go.Proofs.YtcgkaecaddpenaaGreatDoor
