/- The fixed examples: head answers true. -/
import Derived.Test.YtblgfillaenemaaDoorLxPgE
import Derived.Test.YtblgfillaenemaaDoorLxHeadM
namespace Go.Proofs.YtblgfillaenemaaDoor
open Go.RowKit
open L7 (Tk lexT)

/-- The cells of the i-th token of a list. -/
theorem Toks.at {w : World} {v : Value} {l : List Tk} (h : Toks w v l) (hl : 0 < l.length) : ∃ b off cap, v = .slice (some ⟨b, off, none⟩) l.length cap ∧ l.length ≤ cap ∧ ∀ i (hi : i < l.length),
    w.cell? ⟨b, off + i * 4, none⟩ = some (.int .i64 l[i].kind) ∧ w.cell? ⟨b, off + i * 4 + 1, none⟩ = some (str l[i].text) ∧ w.cell? ⟨b, off + i * 4 + 2, none⟩ = some (.int .i64 l[i].n) ∧ w.cell? ⟨b, off + i * 4 + 3, none⟩ = some (.int .i64 l[i].at_) := by
  obtain ⟨A, cap, rfl, hc⟩ := Slc.form h
  obtain ⟨_, _, b, off, rfl, f⟩ := Slc.spot h hl
  exact ⟨b, off, cap, rfl, hc, fun i hi => ⟨f i hi 0 (by omega), f i hi 1 (by omega), f i hi 2 (by omega), f i hi 3 (by omega)⟩⟩
theorem tk_at {w : World} {b off n cap : Nat} {l : List Tk} (h : Toks w (.slice (some ⟨b, off, none⟩) n cap) l) (i : Nat) (hi : i < l.length) :
    w.cell? ⟨b, off + i * 4, none⟩ = some (.int .i64 l[i].kind) ∧ w.cell? ⟨b, off + i * 4 + 1, none⟩ = some (str l[i].text) ∧ w.cell? ⟨b, off + i * 4 + 2, none⟩ = some (.int .i64 l[i].n) ∧ w.cell? ⟨b, off + i * 4 + 3, none⟩ = some (.int .i64 l[i].at_) := by
  obtain ⟨b', off', cap', e, _, f⟩ := h.at (by omega)
  injection e with e1 e2 e3
  injection e1 with e1
  injection e1 with e4 e5
  subst e4 e5
  exact f i hi
theorem lex_a (w : World) : Calls Tryd.prog 11 #[.string ⟨#[107, 101, 121, 32, 97, 95, 49, 59]⟩] w (LexPost w ([⟨1, [107, 101, 121], 0, 0⟩, ⟨1, [97, 95, 49], 0, 4⟩, ⟨4, [59], 0, 7⟩], 0, 0)) := by
  rw [← L7.hd_a]
  exact lex_any [107, 101, 121, 32, 97, 95, 49, 59] (by decide) w
theorem lex_b (w : World) : Calls Tryd.prog 11 #[.string ⟨#[120, 60, 61, 49, 50, 32, 35, 32, 51]⟩] w (LexPost w ([⟨1, [120], 0, 0⟩, ⟨4, [60, 61], 0, 1⟩, ⟨2, [49, 50], 12, 3⟩], 0, 0)) := by
  rw [← L7.hd_b]
  exact lex_any [120, 60, 61, 49, 50, 32, 35, 32, 51] (by decide) w
theorem lex_c (w : World) : Calls Tryd.prog 11 #[.string ⟨#[34, 97, 92, 34, 98, 34]⟩] w (LexPost w ([⟨3, [97, 34, 98], 0, 0⟩], 0, 0)) := by
  rw [← L7.hd_c]
  exact lex_any [34, 97, 92, 34, 98, 34] (by decide) w
theorem lex_d (w : World) : Calls Tryd.prog 11 #[.string ⟨#[97, 32, 34, 98]⟩] w (LexPost w ([], 7, 2)) := by
  rw [← L7.hd_d]
  exact lex_any [97, 32, 34, 98] (by decide) w
theorem lex_e (w : World) : Calls Tryd.prog 11 #[.string ⟨#[55, 120]⟩] w (LexPost w ([], 6, 0)) := by
  rw [← L7.hd_e]
  exact lex_any [55, 120] (by decide) w
theorem lex_f (w : World) : Calls Tryd.prog 11 #[.string ⟨#[97, 32, 33, 98]⟩] w (LexPost w ([], 5, 2)) := by
  rw [← L7.hd_f]
  exact lex_any [97, 32, 33, 98] (by decide) w
set_option maxRecDepth 100000 in
set_option maxHeartbeats 8000000 in
theorem head_any (w : World) : Calls Tryd.prog 10 #[] w fun e w' => e = .returned (.bool true) ∧ Below w.heap.size w w' := by
  go_enter Tryd.func10, Tryd.ntmps10
  go_wp2_with fail
  refine (lex_a _).mono ?_
  rintro e w1 ⟨v1, rfl, ht1, hb1⟩
  obtain ⟨b1, o1, c1, rfl, hc1, _⟩ := ht1.at (by decide)
  have HT1 := Lib.hid ht1
  clear ht1
  have HB1 := Lib.hid hb1
  clear hb1
  go_wp2_with fail
  refine (lex_b _).mono ?_
  rintro e w2 ⟨v2, rfl, ht2, hb2⟩
  obtain ⟨b2, o2, c2, rfl, hc2, _⟩ := ht2.at (by decide)
  have HT2 := Lib.hid ht2
  clear ht2
  have HB2 := Lib.hid hb2
  clear hb2
  go_wp2_with fail
  refine (lex_c _).mono ?_
  rintro e w3 ⟨v3, rfl, ht3, hb3⟩
  obtain ⟨b3, o3, c3, rfl, hc3, _⟩ := ht3.at (by decide)
  have HT3 := Lib.hid ht3
  clear ht3
  have HB3 := Lib.hid hb3
  clear hb3
  go_wp2_with fail
  refine (lex_d _).mono ?_
  rintro e w4 ⟨v4, rfl, ht4, hb4⟩
  clear ht4
  have HB4 := Lib.hid hb4
  clear hb4
  go_wp2_with fail
  refine (lex_e _).mono ?_
  rintro e w5 ⟨v5, rfl, ht5, hb5⟩
  clear ht5
  have HB5 := Lib.hid hb5
  clear hb5
  go_wp2_with fail
  refine (lex_f _).mono ?_
  rintro e w6 ⟨v6, rfl, ht6, hb6⟩
  clear ht6
  have HB6 := Lib.hid hb6
  clear hb6
  have B56 := HB6.out
  have B46 := below_up HB5.out B56 HB5.out.size
  have B36 := below_up HB4.out B46 HB4.out.size
  have B26 := below_up HB3.out B36 HB3.out.size
  have B16 := below_up HB2.out B26 HB2.out.size
  have BW := Lib.hid (below_up HB1.out B16 HB1.out.size)
  obtain ⟨p11, q11, r11, s11⟩ := (tk_at (HT1.out.below B16) 1 (by decide))
  simp only [List.getElem_cons_succ, List.getElem_cons_zero] at p11 q11 r11 s11
  obtain ⟨p21, q21, r21, s21⟩ := (tk_at (HT2.out.below B26) 1 (by decide))
  simp only [List.getElem_cons_succ, List.getElem_cons_zero] at p21 q21 r21 s21
  obtain ⟨p22, q22, r22, s22⟩ := (tk_at (HT2.out.below B26) 2 (by decide))
  simp only [List.getElem_cons_succ, List.getElem_cons_zero] at p22 q22 r22 s22
  obtain ⟨p30, q30, r30, s30⟩ := (tk_at (HT3.out.below B36) 0 (by decide))
  simp only [List.getElem_cons_zero, Nat.zero_mul, Nat.add_zero] at p30 q30 r30 s30
  clear B16 B26 B36 B46 B56
  go_wp2_with fail
  go_ret
  exact ⟨rfl, BW.out⟩
end Go.Proofs.YtblgfillaenemaaDoor
