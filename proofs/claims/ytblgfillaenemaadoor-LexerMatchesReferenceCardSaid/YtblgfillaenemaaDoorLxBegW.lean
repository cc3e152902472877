/- LexerBeginnings, walked. -/
import Derived.Test.YtblgfillaenemaaDoorLxHead
import Derived.Test.YtblgfillaenemaaDoorLxLaw3
namespace Go.Proofs.YtblgfillaenemaaDoor
open Go.RowKit
open L7 (Tk lexT lx gap)

theorem hlx (t : Txt) (R : List Tk × Int × Int) (hl : t.length ≤ 100000000) (h : lexT t = R) (w : World) : Calls Tryd.prog 11 #[str t] w (LexPost w R) := by rw [← h]; exact lex_any t hl w
theorem lexT_ok {t : Txt} (hl : t.length ≤ 5000) (h : (lx t 0).2.1 = 0) : lexT t = ((lx t 0).1, 0, 0) := by rw [L7.lexT_short hl, if_neg (by simpa using h)]
theorem lexT_err {t : Txt} (hl : t.length ≤ 5000) (h : (lx t 0).2.1 ≠ 0) : lexT t = ([], (lx t 0).2) := by rw [L7.lexT_short hl, if_pos h]
set_option maxRecDepth 100000 in
set_option maxHeartbeats 8000000 in
theorem beg_long (t : Txt) (h : 3000 < t.length) (w : World) : Calls Tryd.prog 7 #[str t] w (fun e w' => e = .returned (.bool true) ∧ Below w.heap.size w w') := by
  have hsz := sz t
  have d : (3000 : Int) < (t.length : Int) := by omega
  clear h
  go_enter Tryd.func7, Tryd.ntmps7
  go_wp2_with fail
  refine (head_any _).mono ?_
  rintro e w1 ⟨rfl, hb1⟩
  have HB1 := Lib.hid hb1
  clear hb1
  go_wp2_with fail
  go_ret
  exact ⟨rfl, HB1.out⟩
set_option maxRecDepth 100000 in
set_option maxHeartbeats 8000000 in
theorem beg_ok (t : Txt) (h : t.length ≤ 3000) (h0 : (lx t 0).2.1 = 0) (w : World) : Calls Tryd.prog 7 #[str t] w (fun e w' => e = .returned (.bool true) ∧ Below w.heap.size w w') := by
  have hsz := sz t
  have d : ¬ (3000 : Int) < (t.length : Int) := by omega
  have C := Lib.hid (fun W => hlx t _ (by omega) (lexT_ok (by omega) h0) W)
  obtain ⟨ts, hts⟩ : ∃ ts, (lx t 0).1 = ts := ⟨_, rfl⟩
  rw [hts] at C
  clear h h0 hts
  go_enter Tryd.func7, Tryd.ntmps7
  go_wp2_with fail
  refine (head_any _).mono ?_
  rintro e w1 ⟨rfl, hb1⟩
  have HB1 := Lib.hid hb1
  clear hb1
  go_wp2_with fail
  refine (C.out _).mono ?_
  rintro e w2 ⟨v2, rfl, ht2, hb2⟩
  have HB2 := Lib.hid hb2
  clear hb2
  clear ht2
  go_wp2_with fail
  go_ret
  exact ⟨rfl, (below_up HB1.out HB2.out (HB1.out).size)⟩
set_option maxRecDepth 100000 in
set_option maxHeartbeats 8000000 in
theorem beg_bad (t : Txt) (h : t.length ≤ 3000) (h0 : (lx t 0).2.1 ≠ 0) (w : World) : Calls Tryd.prog 7 #[str t] w (fun e w' => e = .returned (.bool true) ∧ Below w.heap.size w w') := by
  have hsz := sz t
  have d : ¬ (3000 : Int) < (t.length : Int) := by omega
  obtain ⟨k, hk, ha, hb, hc⟩ := L7.lx_begin t.length t 0 (Nat.le_refl _) h0
  have C := Lib.hid (fun W => hlx t _ (by omega) (lexT_err (by omega) h0) W)
  have D := Lib.hid (fun W => hlx (t.take k) _ (by simp; omega) (lexT_ok (by simp; omega) hb) W)
  have hc0 := hc 0
  have E := Lib.hid (fun W => hlx (t.drop k) _ (by simp; omega) (lexT_err (by simp; omega) (by rw [hc0]; exact h0)) W)
  rw [hc0] at E
  obtain ⟨er, her⟩ : ∃ er, (lx t 0).2.1 = er := ⟨_, rfl⟩
  have hp : (lx t 0).2 = (er, (k : Int)) := Prod.ext her (by rw [ha]; simp)
  rw [hp] at C
  rw [her] at E h0
  obtain ⟨ts, hts⟩ : ∃ ts, (lx (t.take k) 0).1 = ts := ⟨_, rfl⟩
  rw [hts] at D
  have e0 : ((er : Int) == 0) = false := by rw [beq_eq_false_iff_ne]; exact h0
  have k0 : (0 : Int) ≤ (k : Int) := by omega
  have k1 : (k : Int) < (t.length : Int) := by omega
  have x1 : (⟨t.toArray⟩ : ByteArray).extract 0 k = ⟨(t.take k).toArray⟩ := by rw [ext_eq, List.drop_zero, Nat.sub_zero]
  have x2 : (⟨t.toArray⟩ : ByteArray).extract k t.length = ⟨(t.drop k).toArray⟩ := by rw [ext_eq, List.take_of_length_le (by simp)]
  clear h h0 ha hb hc hc0 hp her hts
  go_enter Tryd.func7, Tryd.ntmps7
  go_wp2_with fail
  refine (head_any _).mono ?_
  rintro e w1 ⟨rfl, hb1⟩
  have HB1 := Lib.hid hb1
  clear hb1
  go_wp2_with fail
  refine (C.out _).mono ?_
  rintro e w2 ⟨v2, rfl, ht2, hb2⟩
  have HB2 := Lib.hid hb2
  clear hb2
  clear ht2
  go_wp2_with fail
  refine (D.out _).mono ?_
  rintro e w3 ⟨v3, rfl, ht3, hb3⟩
  have HB3 := Lib.hid hb3
  clear hb3
  clear ht3
  go_wp2_with fail
  refine (E.out _).mono ?_
  rintro e w4 ⟨v4, rfl, ht4, hb4⟩
  have HB4 := Lib.hid hb4
  clear hb4
  clear ht4
  go_wp2_with fail
  go_ret
  exact ⟨rfl, (below_up HB1.out (below_up HB2.out (below_up HB3.out HB4.out (HB3.out).size) (HB2.out).size) (HB1.out).size)⟩
theorem beg_law (t : Txt) (w : World) : Calls Tryd.prog 7 #[str t] w (fun e w' => e = .returned (.bool true) ∧ Below w.heap.size w w') := by
  by_cases h : 3000 < t.length
  · exact beg_long t h w
  · by_cases h0 : (lx t 0).2.1 = 0
    · exact beg_ok t (by omega) h0 w
    · exact beg_bad t (by omega) h0 w
end Go.Proofs.YtblgfillaenemaaDoor
