/- The reference's Lex; LexerMatchesReference, walked. -/
import Derived.Test.YtblgfillaenemaaDoorLxRfD
import Derived.Test.YtblgfillaenemaaDoorLxPartW
namespace Go.Proofs.YtblgfillaenemaaDoor
open Go.RowKit
open L7 (Tk lexT lx gap RI tok tkOf)

set_option maxRecDepth 100000 in
set_option maxHeartbeats 8000000 in
theorem lex_rf (t : Txt) (htl : t.length ≤ 90000) (w : World) : Calls Tryd.prog 12 #[str t] w (LexPost w (lexT t)) := by
  have hsz := sz t
  by_cases h2 : 20000 < t.length
  · rw [L7.lexT_long h2]
    have d : (20000 : Int) < (t.length : Int) := by omega
    clear h2
    go_enter Tryd.func12, Tryd.ntmps12
    go_wp2_with fail
    go_ret3
    exact ⟨_, rfl, Slc.nil _, Below.refl _ _⟩
  · have d : ¬ (20000 : Int) < (t.length : Int) := by omega
    obtain ⟨R, hR⟩ : ∃ R, lexT t = R := ⟨_, rfl⟩
    rw [hR]
    have HR := Lib.hid hR
    clear hR
    have HRI := Lib.hid (L7.ri_start t (by omega))
    obtain ⟨g, hg⟩ : ∃ g, gap t = g := ⟨_, rfl⟩
    rw [hg] at HRI
    have CG := Lib.hid (fun W => (show Calls Tryd.prog 19 #[str t, .int .i64 0] W (fun e w' => e = .returned (.int .i64 (g : Int)) ∧ W = w') by
      have := gap_rf t 0 (by omega) (by omega) W
      rw [List.drop_zero, hg] at this
      exact this))
    clear hg h2
    go_enter Tryd.func12, Tryd.ntmps12
    go_wp2_with fail
    refine (CG.out _).mono ?_
    rintro e w1 ⟨rfl, rfl⟩
    go_wp2_with fail
    go_loopw [5, 6] (fun y i wr => ∃ (p : Nat) (acc : List Tk), i = .int .i64 (p : Int) ∧ RI t acc p ∧ wr.ownsRow w.heap.size 30 4 y acc.length (acc.flatMap tokC) ∧ Below w.heap.size w wr) (fun _ i _ => t.length + 1 - (intOf i).toNat)
    case atStart => exact ⟨g, [], by simp, HRI.out, World.ownsRow_nil _ _ _ _, Below.refl _ _⟩
    case round =>
      obtain ⟨v, rfl⟩ : ∃ v, v = u5 := ⟨_, rfl⟩
      obtain ⟨p, acc, rfl, hri, hown, hb⟩ := hrel
      have HI := Lib.hid hri
      have HO := Lib.hid hown
      have HB := Lib.hid hb
      have hpl := hri.le
      have hfew := hri.few
      have htl2 := htl
      obtain ⟨Av, cv, rfl⟩ := own_isSl hown
      clear hri hown hb
      by_cases hlt : p < t.length
      · have i1 : (p : Int) < (t.length : Int) := by omega
        have i0 : (0 : Int) ≤ (p : Int) := by omega
        have HC := Lib.hid (fun W => token_rf t p hlt htl2 W)
        go_wp2_with fail
        refine (HC.out _).mono ?_
        rintro e w1 ⟨⟨hne, rfl⟩ | ⟨heq, rfl⟩, hb1⟩
        · obtain ⟨er, her⟩ : ∃ er, (tok (t.drop p)).2.2 = er := ⟨_, rfl⟩
          rw [her] at hne ⊢
          have d1 : ((er : Int) != 0) = true := by simpa using hne
          have HF := Lib.hid (show R = ([], er, (p : Int)) from HR.out.symm.trans (L7.ri_err HI.out hlt her hne))
          have HB1 := Lib.hid (below_up HB.out hb1 HB.out.size)
          clear hne her hb1
          go_wp2_with fail
          go_ret3
          rw [HF.out]
          exact ⟨_, rfl, Slc.nil _, HB1.out.alloc HB1.out.size _⟩
        · obtain ⟨⟨⟨kd, xs, nn⟩, n, ez⟩, htk⟩ : ∃ y, tok (t.drop p) = y := ⟨_, rfl⟩
          rw [htk] at heq
          simp only at heq
          subst heq
          rw [htk]
          have HT := Lib.hid htk
          have hext := L7.tok_ext htk
          have hn1 := hext.1
          have hnl := hext.2.1
          rw [List.length_drop] at hnl
          have HB1 := Lib.hid hb1
          have HO1 := Lib.hid (own_below HO.out hb1)
          have HBw := Lib.hid (below_up HB.out hb1 HB.out.size)
          clear htk hext hb1
          by_cases h5 : acc.length = 5000
          · have HL := Lib.hid h5
            have d5 : ((acc.length : Int) == 5000) = true := by rw [beq_iff_eq]; omega
            have HF := Lib.hid (show R = ([], 3, (p : Int)) from HR.out.symm.trans (L7.ri_limit HI.out hlt HT.out HL.out))
            clear h5
            go_wp2_with fail
            go_ret3
            rw [HF.out]
            exact ⟨_, rfl, Slc.nil _, HBw.out.alloc HBw.out.size _⟩
          · have HL := Lib.hid h5
            have d5 : ((acc.length : Int) == 5000) = false := by rw [beq_eq_false_iff_ne]; omega
            have hstep := L7.ri_step HI.out hlt HT.out HL.out
            obtain ⟨G2, hG2⟩ : ∃ G2, gap (t.drop (p + n)) = G2 := ⟨_, rfl⟩
            have CG2 := Lib.hid (fun W => (show Calls Tryd.prog 19 #[str t, .int .i64 ((p : Int) + (n : Int))] W (fun e w' => e = .returned (.int .i64 (G2 : Int)) ∧ W = w') by
              have := gap_rf t (p + n) (by omega) (by omega) W
              rw [hG2] at this
              exact this))
            rw [hG2] at hstep
            have hle2 := hstep.2.2.le
            have HST := Lib.hid hstep
            have i3 : IntKind.i64.wrap ((p : Int) + (n : Int)) = (p : Int) + (n : Int) := IntWalk.i64_in _ (by omega)
            have i4 : IntKind.i64.wrap ((p : Int) + (n : Int) + (G2 : Int)) = (p : Int) + (n : Int) + (G2 : Int) := IntWalk.i64_in _ (by omega)
            have hsize := HBw.out.size
            clear h5 hstep hG2
            go_wp2_with (at_builtin; (refine wpList_app elemTok rfl (.tmp 34) (.tmp 36) rfl (base := w.heap.size) (by rfl) (World.ownsRow.alloc (World.ownsRow.alloc HO1.out _) _) (by rfl) (src_tok _ kd nn (p : Int) xs 30 (w1.heap.size + 1) (by simp)) (by omega) (by simp; omega) ?_; intro v2 w4 hown hg hat; obtain ⟨A2, c2, rfl⟩ := own_isSl hown))
            have HO2 := Lib.hid (show w4.ownsRow w.heap.size 30 4 (.slice A2 (acc.length + 1) c2) (acc ++ [tkOf (kd, xs, nn) p]).length ((acc ++ [tkOf (kd, xs, nn) p]).flatMap tokC) from by
              rw [List.length_append, List.flatMap_append]
              simpa [tokC, tkOf] using hown)
            have HB4 := Lib.hid (below_app (HBw.out.alloc HBw.out.size (.cells #[.int .i64 kd, .string ⟨xs.toArray⟩, .int .i64 nn, .int .i64 (p : Int)] 30)) (by simp; omega) (World.ownsRow.alloc HO1.out _) hg)
            clear hown hg hat
            go_wp2_with fail
            refine (CG2.out _).mono ?_
            rintro e w5 ⟨rfl, rfl⟩
            go_wp2_with fail
            go_roundw
            case rel => exact ⟨p + n + G2, _, by simp, HST.out.2.2, by simpa using HO2.out, HB4.out⟩
            case measure => simp [intOf]; omega
      · have HP := Lib.hid (show p = t.length from by omega)
        have i1 : ¬ (p : Int) < (t.length : Int) := by omega
        have HF := Lib.hid (show R = (acc, 0, 0) from HR.out.symm.trans (L7.ri_end HI.out HP.out))
        go_wp2_with fail
        go_ret3
        rw [HF.out]
        exact ⟨_, rfl, toks_of_own rfl HO.out, HB.out⟩
theorem lexT_small (t : Txt) (h : t.length ≤ 90000) : (lexT t).1.length ≤ 100000 ∧ ∀ u ∈ (lexT t).1, 0 ≤ u.at_ ∧ u.at_ ≤ 100000000 := by
  have n1 := L7.lx_count t.length t 0 (Nat.le_refl _)
  have a1 := L7.lx_at t.length t 0 (Nat.le_refl _)
  have nil : (lexT t).1 = [] ∨ (lexT t).1 = (lx t 0).1 := by
    rw [L7.lexT_lx]
    split
    · exact .inl rfl
    · split
      · exact .inl rfl
      · split
        · exact .inl rfl
        · exact .inr rfl
  rcases nil with e | e
  · rw [e]
    exact ⟨by simp, fun u hu => by simp at hu⟩
  · rw [e]
    refine ⟨by omega, fun u hu => ?_⟩
    have := a1 u hu
    omega
set_option maxRecDepth 100000 in
set_option maxHeartbeats 8000000 in
theorem match_long (t : Txt) (h : 21000 < t.length) (w : World) : Calls Tryd.prog 3 #[str t] w (fun e w' => e = .returned (.bool true) ∧ Below w.heap.size w w') := by
  have hsz := sz t
  have d : (21000 : Int) < (t.length : Int) := by omega
  clear h
  go_enter Tryd.func3, Tryd.ntmps3
  go_wp2_with fail
  refine (head_any _).mono ?_
  rintro e w1 ⟨rfl, hb1⟩
  have HB1 := Lib.hid hb1
  clear hb1
  go_wp2_with fail
  go_ret
  exact ⟨rfl, HB1.out⟩
set_option maxRecDepth 100000 in
set_option maxHeartbeats 8000000 in
theorem match_ok (t : Txt) (h : t.length ≤ 21000) (w : World) : Calls Tryd.prog 3 #[str t] w (fun e w' => e = .returned (.bool true) ∧ Below w.heap.size w w') := by
  have hsz := sz t
  have d : ¬ (21000 : Int) < (t.length : Int) := by omega
  have hs := lexT_small t (by omega)
  obtain ⟨R, hR⟩ : ∃ R, lexT t = R := ⟨_, rfl⟩
  have C := Lib.hid (fun W => lex_any t (by omega) W)
  have D := Lib.hid (fun W => lex_rf t (by omega) W)
  rw [hR] at C D hs
  obtain ⟨ts, er, at_⟩ := R
  have HS := Lib.hid hs
  have HX := Lib.hid (show ts.map (L7.sh 0) = ts from List.map_id'' (fun t => by cases t; simp [L7.sh]) _)
  clear hR hs
  go_enter Tryd.func3, Tryd.ntmps3
  go_wp2_with fail
  refine (head_any _).mono ?_
  rintro e w1 ⟨rfl, hb1⟩
  have HB1 := Lib.hid hb1
  clear hb1
  go_wp2_with fail
  refine (C.out _).mono ?_
  rintro e w2 ⟨v2, rfl, ht2, hb2⟩
  have HB2 := Lib.hid hb2
  clear hb2
  have HT2 := Lib.hid ht2
  clear ht2
  go_wp2_with fail
  refine (D.out _).mono ?_
  rintro e w3 ⟨v3, rfl, ht3, hb3⟩
  have HB3 := Lib.hid hb3
  clear hb3
  have HT3 := Lib.hid ht3
  clear ht3
  go_wp2_with fail
  refine (same_true _ _ ts ts 0 HS.out.1 HX.out HS.out.2 _ (HT2.out.below HB3.out) HT3.out).mono ?_
  rintro e w4 ⟨rfl, hb4⟩
  have HB4 := Lib.hid hb4
  clear hb4
  go_wp2_with fail
  go_ret
  exact ⟨rfl, (below_up HB1.out (below_up HB2.out (below_up HB3.out HB4.out (HB3.out).size) (HB2.out).size) (HB1.out).size)⟩
theorem match_law (t : Txt) (w : World) : Calls Tryd.prog 3 #[str t] w (fun e w' => e = .returned (.bool true) ∧ Below w.heap.size w w') := by
  by_cases h : 21000 < t.length
  · exact match_long t h w
  · exact match_ok t (by omega) w
end Go.Proofs.YtblgfillaenemaaDoor
