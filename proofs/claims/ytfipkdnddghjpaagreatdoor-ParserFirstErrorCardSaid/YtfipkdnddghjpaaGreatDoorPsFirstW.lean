/- ParserFirstError, walked. -/
import Derived.Test.YtfipkdnddghjpaaGreatDoorPsLawB
namespace Go.Proofs.YtfipkdnddghjpaaGreatDoor
open Go.RowKit
open L7 (Tk lexT lx gap)
open L8
set_option linter.unusedSimpArgs false

set_option maxRecDepth 100000 in
set_option maxHeartbeats 8000000 in
theorem first_long (t u : Txt) (h : 2000 < t.length) (w : World) : Calls Tryz.prog 6 #[str t, str u] w (fun e w' => e = .returned (.bool true) ∧ Below w.heap.size w w') := by
  have hsz := sz t
  have hsu := sz u
  have d : (2000 : Int) < (t.length : Int) := by omega
  clear h
  go_enter Tryz.func6, Tryz.ntmps6
  go_wp2_with fail
  refine (head_any _).mono ?_
  rintro e w1 ⟨rfl, hb1⟩
  have HB1 := Lib.hid hb1
  clear hb1
  go_wp2_with fail
  go_ret
  exact ⟨rfl, HB1.out⟩
set_option maxRecDepth 100000 in
set_option maxHeartbeats 8000000 in
theorem first_long2 (t u : Txt) (h : t.length ≤ 2000) (h2 : 2000 < u.length) (w : World) : Calls Tryz.prog 6 #[str t, str u] w (fun e w' => e = .returned (.bool true) ∧ Below w.heap.size w w') := by
  have hsz := sz t
  have hsu := sz u
  have d : ¬ (2000 : Int) < (t.length : Int) := by omega
  have d2 : (2000 : Int) < (u.length : Int) := by omega
  clear h h2
  go_enter Tryz.func6, Tryz.ntmps6
  go_wp2_with fail
  refine (head_any _).mono ?_
  rintro e w1 ⟨rfl, hb1⟩
  have HB1 := Lib.hid hb1
  clear hb1
  go_wp2_with fail
  go_ret
  exact ⟨rfl, HB1.out⟩
set_option maxRecDepth 100000 in
set_option maxHeartbeats 8000000 in
theorem first_other (t u : Txt) (h : t.length ≤ 2000) (h2 : u.length ≤ 2000) (h4 : (parseT t).2.1 ≠ 4) (w : World) : Calls Tryz.prog 6 #[str t, str u] w (fun e w' => e = .returned (.bool true) ∧ Below w.heap.size w w') := by
  have hsz := sz t
  have hsu := sz u
  have d : ¬ (2000 : Int) < (t.length : Int) := by omega
  have d2 : ¬ (2000 : Int) < (u.length : Int) := by omega
  obtain ⟨⟨ts, er, at_⟩, hp⟩ : ∃ x, parseT t = x := ⟨_, rfl⟩
  rw [hp] at h4
  have C := Lib.hid (fun W => hps t _ (by omega) hp W)
  obtain ⟨⟨l, er2, at2⟩, hl⟩ : ∃ x, lexT t = x := ⟨_, rfl⟩
  have D := Lib.hid (fun W => hlx t _ (by omega) hl W)
  have d4 : (er != 4) = true := by simpa using h4
  clear h h2 h4 hp hl
  go_enter Tryz.func6, Tryz.ntmps6
  go_wp2_with fail
  refine (head_any _).mono ?_
  rintro e w1 ⟨rfl, hb1⟩
  have HB1 := Lib.hid hb1
  clear hb1
  go_wp2_with fail
  refine (C.out _).mono ?_
  rintro e w2 ⟨v2, rfl, hi2, hb2⟩
  have HB2 := Lib.hid hb2
  clear hb2
  obtain ⟨A2, c2, rfl, _⟩ := Slc.form hi2
  clear hi2
  go_wp2_with fail
  refine (D.out _).mono ?_
  rintro e w3 ⟨v3, rfl, ht3, hb3⟩
  have HB3 := Lib.hid hb3
  clear hb3
  clear ht3
  go_wp2_with fail
  go_ret
  exact ⟨rfl, below2b (below2 HB1.out HB2.out) HB3.out⟩
set_option maxRecDepth 100000 in
set_option maxHeartbeats 8000000 in
theorem first_syntax (t u : Txt) (h : t.length ≤ 2000) (h2 : u.length ≤ 2000) {a : List It} {x : Int} (hp : parseT t = (a, 4, x)) (w : World) : Calls Tryz.prog 6 #[str t, str u] w (fun e w' => e = .returned (.bool true) ∧ Below w.heap.size w w') := by
  have hsz := sz t
  have hsu := sz u
  have d : ¬ (2000 : Int) < (t.length : Int) := by omega
  have d2 : ¬ (2000 : Int) < (u.length : Int) := by omega
  have C := Lib.hid (fun W => hps t _ (by omega) hp W)
  obtain ⟨l, ix, hix, hl, hpw, hat, n, E, hxn, hnE, hE, hnext, hlast, hcut, hchg⟩ := first_math h hp
  have IX := Lib.hid hix
  have LL := Lib.hid (lexT_ok hl).2.1
  have D := Lib.hid (fun W => hlx t _ (by omega) hl W)
  obtain ⟨⟨l2, er2, at2⟩, hp2⟩ : ∃ y, parseT (t.take n) = y := ⟨_, rfl⟩
  have C2 := Lib.hid (fun W => hps (t.take n) _ (by simp; omega) hp2 W)
  rw [hp2] at hcut
  have CUT := Lib.hid hcut
  obtain ⟨⟨l3, er3, at3⟩, hl3⟩ : ∃ y, lexT (t.take E ++ 10 :: u) = y := ⟨_, rfl⟩
  have D2 := Lib.hid (fun W => hlx (t.take E ++ 10 :: u) _ (by simp; omega) hl3 W)
  obtain ⟨⟨l4, er4, at4⟩, hp4⟩ : ∃ y, parseT (t.take E ++ 10 :: u) = y := ⟨_, rfl⟩
  have C3 := Lib.hid (fun W => hps (t.take E ++ 10 :: u) _ (by simp; omega) hp4 W)
  have CHG := Lib.hid (show er3 = 0 → er4 = 4 ∧ at4 = (n : Int) from fun q => by have := hchg u h2 (by rw [hl3]; exact q); rw [hp4] at this; simp only [Prod.mk.injEq] at this; exact ⟨this.1, this.2.trans hxn⟩)
  subst hxn
  have PW := Lib.hid hpw
  have HAT := Lib.hid hat
  have HNX := Lib.hid hnext
  have HLS := Lib.hid hlast
  clear hp h h2 hl hpw hat hnext hlast hcut hchg hp2 hl3 hp4
  go_enter Tryz.func6, Tryz.ntmps6
  go_wp2_with fail
  refine (head_any _).mono ?_
  rintro e w1 ⟨rfl, hb1⟩
  have HB1 := Lib.hid hb1
  clear hb1
  go_wp2_with fail
  refine (C.out _).mono ?_
  rintro e w2 ⟨v2, rfl, hi2, hb2⟩
  have HB2 := Lib.hid hb2
  clear hb2
  obtain ⟨A2, c2, rfl, _⟩ := Slc.form hi2
  clear hi2
  go_wp2_with fail
  refine (D.out _).mono ?_
  rintro e w3 ⟨v3, rfl, ht3, hb3⟩
  have HB3 := Lib.hid hb3
  clear hb3
  have HT3 := Lib.hid ht3
  clear ht3
  obtain ⟨b3, o3, c3, rfl, hc3, _⟩ := Toks.at (l := l) HT3.out (by have := IX.out; omega)
  go_wp2_with fail
  obtain ⟨wo, hwo⟩ : ∃ wo, wo = w3 := ⟨_, rfl⟩
  have HO := Lib.hid hwo
  clear hwo
  go_loopw [12, 13] (fun e i wr => Below wo.heap.size wo wr ∧ ∃ k : Nat, i = .int .i64 (k : Int) ∧ k ≤ l.length ∧ ((k ≤ ix ∧ e = .int .i64 (-1)) ∨ (ix < k ∧ e = .int .i64 (E : Int)))) (fun _ i _ => l.length - (intOf i).toNat)
  case atStart => exact ⟨HO.out ▸ Below.refl _ _, 0, rfl, Nat.zero_le _, .inl ⟨Nat.zero_le _, rfl⟩⟩
  case round =>
    obtain ⟨hb, k, rfl, hk, hek⟩ := hrel
    have HBr := Lib.hid hb
    clear hb
    by_cases hlt : k < l.length
    · have ca := (tk_at (HT3.out.below (HO.out ▸ HBr.out)) k hlt).2.2.2
      have i0 : (0 : Int) ≤ (k : Int) := by omega
      have i1 : (k : Int) < (l.length : Int) := by omega
      have i2 : IntKind.i64.wrap ((k : Int) + 1) = (k : Int) + 1 := IntWalk.i64_in _ (by have := LL.out; omega)
      by_cases he : k = ix
      · subst he
        rw [HAT.out] at ca
        have d5 : ((n : Int) == (n : Int)) = true := by simp
        clear hek
        by_cases hn2 : k + 1 < l.length
        · have cb := (tk_at (HT3.out.below (HO.out ▸ HBr.out)) (k + 1) hn2).2.2.2
          rw [HNX.out hn2] at cb
          have cb2 : wr.cell? ⟨b3, o3 + (k + 1) * 4 + 3, none⟩ = some (.int .i64 (E : Int)) := cb
          have i3 : (k : Int) + 1 < (l.length : Int) := by omega
          have i4 : (0 : Int) ≤ (k : Int) + 1 := by omega
          have i5 : ((k : Int) + 1).toNat = k + 1 := by omega
          clear cb
          go_wp2_with fail
          go_roundw
          case rel => exact ⟨HBr.out, k + 1, by simp, by omega, .inr ⟨by omega, rfl⟩⟩
          case measure => simp [intOf]; omega
        · have hEl := HLS.out (by omega)
          have i3 : ¬ (k : Int) + 1 < (l.length : Int) := by omega
          have he2 : (t.length : Int) = (E : Int) := by omega
          go_wp2_with fail
          go_roundw
          case rel => exact ⟨HBr.out, k + 1, by simp, by omega, .inr ⟨by omega, rfl⟩⟩
          case measure => simp [intOf]; omega
      · have hne : l[k].at_ ≠ (n : Int) := fun e => by
          have q := HAT.out
          rcases Nat.lt_or_gt_of_ne he with z | z
          · have := List.pairwise_iff_getElem.1 PW.out k ix hlt IX.out z; omega
          · have := List.pairwise_iff_getElem.1 PW.out ix k IX.out hlt z; omega
        have d5 : (l[k].at_ == (n : Int)) = false := by rw [beq_eq_false_iff_ne]; exact hne
        obtain ⟨la, hla⟩ : ∃ la, l[k].at_ = la := ⟨_, rfl⟩
        rw [hla] at ca d5
        clear hne hla
        rcases hek with ⟨q1, rfl⟩ | ⟨q1, rfl⟩
        · go_wp2_with fail
          go_roundw
          case rel => exact ⟨HBr.out, k + 1, by simp, by omega, .inl ⟨by omega, rfl⟩⟩
          case measure => simp [intOf]; omega
        · go_wp2_with fail
          go_roundw
          case rel => exact ⟨HBr.out, k + 1, by simp, by omega, .inr ⟨by omega, rfl⟩⟩
          case measure => simp [intOf]; omega
    · obtain rfl : k = l.length := by omega
      have i1 : ¬ (l.length : Int) < (l.length : Int) := by omega
      obtain ⟨_, rfl⟩ : ix < l.length ∧ _ := hek.resolve_left (fun q => by have := IX.out; omega)
      have e1 : ¬ (E : Int) < (n : Int) := by omega
      have e2 : ¬ (n : Int) < 0 := by omega
      have e3 : ¬ (t.length : Int) < (E : Int) := by omega
      have n0 : (0 : Int) ≤ (n : Int) := by omega
      have n1 : (n : Int) ≤ (t.length : Int) := by omega
      have e0 : (0 : Int) ≤ (E : Int) := by omega
      have e4 : (E : Int) ≤ (t.length : Int) := by omega
      have x1 : (⟨t.toArray⟩ : ByteArray).extract 0 n = ⟨(t.take n).toArray⟩ := by rw [ext_eq, List.drop_zero, Nat.sub_zero]
      have x2 : (⟨t.toArray⟩ : ByteArray).extract 0 E = ⟨(t.take E).toArray⟩ := by rw [ext_eq, List.drop_zero, Nat.sub_zero]
      have hte : (t.take E).length = E := by rw [List.length_take]; omega
      have q1 : (9223372036854775807 < (t.take E).length + 1) = False := eq_false (by omega)
      have q2 : (9223372036854775807 < (t.take E).length + 1 + u.length) = False := eq_false (by omega)
      have BWo := Lib.hid (show Below w.heap.size w wr from below2 (HO.out ▸ below2b (below2 HB1.out HB2.out) HB3.out : Below w.heap.size w wo) HBr.out)
      go_wp2_with fail
      refine (C2.out _).mono ?_
      rintro e w4 ⟨v4, rfl, hi4, hb4⟩
      have HB4 := Lib.hid hb4
      clear hb4
      obtain ⟨A4, c4, rfl, _⟩ := Slc.form hi4
      clear hi4
      rcases CUT.out with q | ⟨q, q5⟩
      · subst q
        go_wp2_with fail
        refine (calls_str (str_eq (by simp)) (D2.out _)).mono ?_
        rintro e w5 ⟨v5, rfl, ht5, hb5⟩
        have HB5 := Lib.hid hb5
        clear hb5
        clear ht5
        go_wp2_with fail
        refine (calls_str (str_eq (by simp)) (C3.out _)).mono ?_
        rintro e w6 ⟨v6, rfl, hi6, hb6⟩
        have HB6 := Lib.hid hb6
        clear hb6
        obtain ⟨A6, c6, rfl, _⟩ := Slc.form hi6
        clear hi6
        have BZ := Lib.hid (show Below w.heap.size w w6 from below2 (below2b (below2 BWo.out HB4.out) HB5.out) HB6.out)
        by_cases h0 : er3 = 0
        · subst h0
          obtain ⟨rfl, rfl⟩ := CHG.out rfl
          have d8 : ((n : Int) == (n : Int)) = true := by simp
          go_wp2_with fail
          go_ret
          exact ⟨rfl, BZ.out.trans ((below_box _ _).mono BZ.out.size)⟩
        · have d8 : (er3 != 0) = true := by simpa using h0
          go_wp2_with fail
          go_ret
          exact ⟨rfl, BZ.out.trans ((below_box _ _).mono BZ.out.size)⟩
      · subst q q5
        have d7 : ((n : Int) != (n : Int)) = false := by simp
        go_wp2_with fail
        refine (calls_str (str_eq (by simp)) (D2.out _)).mono ?_
        rintro e w5 ⟨v5, rfl, ht5, hb5⟩
        have HB5 := Lib.hid hb5
        clear hb5
        clear ht5
        go_wp2_with fail
        refine (calls_str (str_eq (by simp)) (C3.out _)).mono ?_
        rintro e w6 ⟨v6, rfl, hi6, hb6⟩
        have HB6 := Lib.hid hb6
        clear hb6
        obtain ⟨A6, c6, rfl, _⟩ := Slc.form hi6
        clear hi6
        have BZ := Lib.hid (show Below w.heap.size w w6 from below2 (below2b (below2 BWo.out HB4.out) HB5.out) HB6.out)
        by_cases h0 : er3 = 0
        · subst h0
          obtain ⟨rfl, rfl⟩ := CHG.out rfl
          have d8 : ((n : Int) == (n : Int)) = true := by simp
          go_wp2_with fail
          go_ret
          exact ⟨rfl, BZ.out.trans ((below_box _ _).mono BZ.out.size)⟩
        · have d8 : (er3 != 0) = true := by simpa using h0
          go_wp2_with fail
          go_ret
          exact ⟨rfl, BZ.out.trans ((below_box _ _).mono BZ.out.size)⟩
theorem first_law (t u : Txt) (w : World) : Calls Tryz.prog 6 #[str t, str u] w (fun e w' => e = .returned (.bool true) ∧ Below w.heap.size w w') := by
  by_cases h : 2000 < t.length
  · exact first_long t u h w
  · by_cases h2 : 2000 < u.length
    · exact first_long2 t u (by omega) h2 w
    · by_cases h4 : (parseT t).2.1 = 4
      · exact first_syntax t u (by omega) (by omega) (a := (parseT t).1) (x := (parseT t).2.2) (Prod.ext rfl (Prod.ext h4 rfl)) w
      · exact first_other t u (by omega) (by omega) h4 w
end Go.Proofs.YtfipkdnddghjpaaGreatDoor
