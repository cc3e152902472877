/- ParserTokens, walked. -/
import Derived.Test.YtcgkaecaddpenaaGreatDoorPsTokA
import Derived.Test.YtcgkaecaddpenaaGreatDoorPsSameGb
namespace Go.Proofs.YtcgkaecaddpenaaGreatDoor
open Go.RowKit
open L7 (Tk lexT lx gap wr7 wrAll)
open L8
set_option linter.unusedSimpArgs false

set_option maxRecDepth 100000 in
set_option maxHeartbeats 8000000 in
theorem same_prog (a b : List It) (A B : Option Addr) (c d D E : Nat) (hab : a.length = b.length) (he : ∀ i (h : i < a.length) (h2 : i < b.length), EqI false a[i] b[i]) (hz : ∀ i ∈ a, ItZ i) (hl : a.length ≤ 6000) (w : World) (h1 : Its D w (.slice A a.length c) a) (h2 : Its E w (.slice B b.length d) b) :
    Calls Tryz.prog 11 #[.agg #[.slice A a.length c], .agg #[.slice B b.length d], .bool false] w (fun e w' => e = .returned (.bool true) ∧ Below w.heap.size w w') := by
  have S := Lib.hid (fun W (hb : Below w.heap.size w W) => items_same_b a b (.slice A a.length c) (.slice B b.length d) D E hab he hz hl W (h1.below hb) (h2.below hb))
  obtain ⟨m, hm⟩ : ∃ m, a.length = m := ⟨_, rfl⟩
  obtain ⟨k, hk⟩ : ∃ k, b.length = k := ⟨_, rfl⟩
  rw [hm, hk] at S
  rw [hm, hk]
  clear hab he hz hl h1 h2 hm hk
  go_enter Tryz.func11, Tryz.ntmps11
  go_wp2_with fail
  refine (S.out _ (below_step2 (below_box _ _) (below_box _ _))).mono ?_
  rintro e w1 ⟨rfl, hb1⟩
  have HB1 := Lib.hid hb1
  clear hb1
  go_wp2_with fail
  go_ret
  exact ⟨rfl, below_step2 (below_step2 (below_box _ _) (below_box _ _)) HB1.out⟩
set_option maxRecDepth 100000 in
set_option maxHeartbeats 8000000 in
theorem tok_long (t : Txt) (h : 2000 < t.length) (w : World) : Calls Tryz.prog 3 #[str t] w (fun e w' => e = .returned (.bool true) ∧ Below w.heap.size w w') := by
  have hsz := sz t
  have d : (2000 : Int) < (t.length : Int) := by omega
  clear h
  go_enter Tryz.func3, Tryz.ntmps3
  go_wp2_with fail
  refine (head_any _).mono ?_
  rintro e w1 ⟨rfl, hb1⟩
  have HB1 := Lib.hid hb1
  clear hb1
  go_wp2_with fail
  go_ret
  exact ⟨rfl, HB1.out⟩
set_option maxRecDepth 100000 in
set_option maxHeartbeats 8000000 in
theorem tok_bad (t : Txt) (h : t.length ≤ 2000) {l : List Tk} {e0 x : Int} (hl : lexT t = (l, e0, x)) (he : e0 ≠ 0) (w : World) : Calls Tryz.prog 3 #[str t] w (fun e w' => e = .returned (.bool true) ∧ Below w.heap.size w w') := by
  have hsz := sz t
  have d : ¬ (2000 : Int) < (t.length : Int) := by omega
  have C := Lib.hid (fun W => hlx t _ (by omega) hl W)
  have hp : parseT t = ([], e0, x) := by rw [parse_err (by rw [hl]; exact he), hl]
  have C2 := Lib.hid (fun W => hps t _ (by omega) hp W)
  have d4 : (e0 != 0) = true := by simpa using he
  have d5 : (e0 == e0) = true := by simp
  clear h hl he hp
  go_enter Tryz.func3, Tryz.ntmps3
  go_wp2_with fail
  refine (head_any _).mono ?_
  rintro e w1 ⟨rfl, hb1⟩
  have HB1 := Lib.hid hb1
  clear hb1
  go_wp2_with fail
  refine (C.out _).mono ?_
  rintro e w2 ⟨v2, rfl, ht2, hb2⟩
  have HB2 := Lib.hid hb2
  clear hb2 ht2
  go_wp2_with fail
  refine (C2.out _).mono ?_
  rintro e w3 ⟨v3, rfl, hi3, hb3⟩
  have HB3 := Lib.hid hb3
  clear hb3
  obtain ⟨A3, c3, rfl, _⟩ := Slc.form hi3
  clear hi3
  go_wp2_with fail
  go_ret
  exact ⟨rfl, below_step2 (below2 (below2 HB1.out HB2.out) HB3.out) (below_box _ _)⟩
/-! ### Texts with tokens. -/
set_option maxRecDepth 100000 in
set_option maxHeartbeats 8000000 in
theorem tok_ok (t : Txt) (h : t.length ≤ 2000) {l : List Tk} {x : Int} (hl : lexT t = (l, 0, x)) {a b : List It} (hp : parseT t = (a, 0, 0)) (hp2 : parseT (wrAll l) = (b, 0, 0)) (hab : a.map eraI = b.map eraI) (hal : a.length ≤ 200) (w : World) : Calls Tryz.prog 3 #[str t] w (fun e w' => e = .returned (.bool true) ∧ Below w.heap.size w w') := by
  have hsz := sz t
  have d : ¬ (2000 : Int) < (t.length : Int) := by omega
  obtain ⟨k1, k2, _, _⟩ := lexT_ok hl
  have hwt := L7.wr_total t.length t 0 l (Nat.le_refl _) k1
  have hwl := L7.wr_len t.length t 0 l (Nat.le_refl _) k1
  have C := Lib.hid (fun W => hlx t _ (by omega) hl W)
  have J := Lib.hid (fun v W (hT : Toks W v l) => joined_any v l (by omega) (by omega) (fun u hu => by have := (hwl u hu).1; omega) W hT)
  have C3 := Lib.hid (fun W => hps t _ (by omega) hp W)
  have C4 := Lib.hid (fun W => hps (wrAll l) _ (by omega) hp2 W)
  have ZS := Lib.hid (parse_size hp)
  have HLL := Lib.hid (show a.length = b.length by have := congrArg List.length hab; simpa using this)
  have HE := Lib.hid (show ∀ i (p : i < a.length) (q : i < b.length), EqI false a[i] b[i] from fun i p q => by
    have e : (a.map eraI)[i]'(by simpa using p) = (b.map eraI)[i]'(by simpa using q) := by simp only [hab]
    rw [List.getElem_map, List.getElem_map] at e
    exact e)
  have HAL := Lib.hid hal
  have NL := Lib.hid (show l.length ≤ 5000 from k2)
  obtain ⟨X, hX⟩ : ∃ X, wrAll l = X := ⟨_, rfl⟩
  have HXX := Lib.hid hX
  rw [hX] at C4 J hwt
  have hsX := sz X
  clear h hl hp hp2 hab hal k1 k2 hwt hwl hX
  go_enter Tryz.func3, Tryz.ntmps3
  go_wp2_with fail
  refine (head_any _).mono ?_
  rintro e w1 ⟨rfl, hb1⟩
  have HB1 := Lib.hid hb1
  clear hb1
  go_wp2_with fail
  refine (C.out _).mono ?_
  rintro e w2 ⟨v2, rfl, ht2, hb2⟩
  have HB2 := Lib.hid hb2
  clear hb2
  have HT2 := Lib.hid ht2
  clear ht2
  obtain ⟨A2, c2, rfl, hc2⟩ := Slc.form HT2.out
  go_wp2_with fail
  refine (J.out _ _ HT2.out).mono ?_
  rintro e w3 ⟨v3, rfl, hi3, hb3⟩
  have HB3 := Lib.hid hb3
  have HI3 := Lib.hid hi3
  obtain ⟨A3, c3, rfl, hc3⟩ := Slc.form hi3
  clear hb3 hi3
  rw [offsT_len] at HI3 hc3
  rw [offsT_len]
  go_wp2_with fail
  refine (C3.out _).mono ?_
  rintro e w4 ⟨v4, rfl, hi4, hb4⟩
  have HB4 := Lib.hid hb4
  have HI4 := Lib.hid hi4
  obtain ⟨A4, c4, rfl, hc4⟩ := Slc.form hi4
  clear hb4 hi4
  go_wp2_with fail
  refine (C4.out _).mono ?_
  rintro e w5 ⟨v5, rfl, hi5, hb5⟩
  have HB5 := Lib.hid hb5
  have HI5 := Lib.hid hi5
  obtain ⟨A5, c5, rfl, hc5⟩ := Slc.form hi5
  have g0 := cellB hb5 (show (w4.alloc (.cells #[.slice A4 a.length c4] 29)).cell? ⟨w4.heap.size, 0, none⟩ = some (.slice A4 a.length c4) by simp [go_sem])
  clear hb5 hi5
  have n0 : ((0 : Int) != (0 : Int)) = false := by simp
  have g1 : (w5.alloc (.cells #[.slice A5 b.length c5] 29)).cell? ⟨w4.heap.size, 0, none⟩ = some (.slice A4 a.length c4) := cellB (below_box _ _) g0
  have BW4 := Lib.hid (show Below w4.heap.size w4 (w5.alloc (.cells #[.slice A5 b.length c5] 29)) from below_step2 (below_from HB5.out) (below_box _ _))
  have BW := Lib.hid (show Below w.heap.size w (w5.alloc (.cells #[.slice A5 b.length c5] 29)) from below2 (below2 (below2 (below2 HB1.out HB2.out) HB3.out) HB4.out) BW4.out)
  have BW2 := Lib.hid (show Below w2.heap.size w2 (w5.alloc (.cells #[.slice A5 b.length c5] 29)) from below2 (below2 HB3.out HB4.out) BW4.out)
  have BW3 := Lib.hid (show Below w3.heap.size w3 (w5.alloc (.cells #[.slice A5 b.length c5] 29)) from below2 HB4.out BW4.out)
  clear g0
  go_wp2_with fail
  refine (same_prog a b A4 A5 c4 c5 _ _ HLL.out HE.out ZS.out (by have := HAL.out; omega) _ (HI4.out.below BW4.out) (HI5.out.below (below_box _ _))).mono ?_
  rintro e w6 ⟨rfl, hb6⟩
  have HB6 := Lib.hid hb6
  have BE := Lib.hid (below_step2 BW.out hb6)
  have BE2 := Lib.hid (below_step2 BW2.out hb6)
  have BE3 := Lib.hid (below_step2 BW3.out hb6)
  clear hb6
  go_wp2_with fail
  go_ret
  exact ⟨rfl, BE.out⟩
set_option maxRecDepth 100000 in
set_option maxHeartbeats 8000000 in
theorem tok_end (t : Txt) (h : t.length ≤ 2000) {l : List Tk} {x : Int} (hl : lexT t = (l, 0, x)) {a b : List It} (hp : parseT t = (a, 7, (t.length : Int))) (hp2 : parseT (wrAll l) = (b, 7, ((wrAll l).length : Int))) (hab : a.map eraI = b.map eraI) (hal : a.length ≤ 200) (w : World) : Calls Tryz.prog 3 #[str t] w (fun e w' => e = .returned (.bool true) ∧ Below w.heap.size w w') := by
  have hsz := sz t
  have d : ¬ (2000 : Int) < (t.length : Int) := by omega
  obtain ⟨k1, k2, _, _⟩ := lexT_ok hl
  have hwt := L7.wr_total t.length t 0 l (Nat.le_refl _) k1
  have hwl := L7.wr_len t.length t 0 l (Nat.le_refl _) k1
  have C := Lib.hid (fun W => hlx t _ (by omega) hl W)
  have J := Lib.hid (fun v W (hT : Toks W v l) => joined_any v l (by omega) (by omega) (fun u hu => by have := (hwl u hu).1; omega) W hT)
  have C3 := Lib.hid (fun W => hps t _ (by omega) hp W)
  have C4 := Lib.hid (fun W => hps (wrAll l) _ (by omega) hp2 W)
  have ZS := Lib.hid (parse_size hp)
  have HLL := Lib.hid (show a.length = b.length by have := congrArg List.length hab; simpa using this)
  have HE := Lib.hid (show ∀ i (p : i < a.length) (q : i < b.length), EqI false a[i] b[i] from fun i p q => by
    have e : (a.map eraI)[i]'(by simpa using p) = (b.map eraI)[i]'(by simpa using q) := by simp only [hab]
    rw [List.getElem_map, List.getElem_map] at e
    exact e)
  have HAL := Lib.hid hal
  have NL := Lib.hid (show l.length ≤ 5000 from k2)
  obtain ⟨X, hX⟩ : ∃ X, wrAll l = X := ⟨_, rfl⟩
  have HXX := Lib.hid hX
  rw [hX] at C4 J hwt
  have hsX := sz X
  have z1 : ((t.length : Int) == (t.length : Int)) = true := by simp
  have z2 : ((X.length : Int) == (X.length : Int)) = true := by simp
  clear h hl hp hp2 hab hal k1 k2 hwt hwl hX
  go_enter Tryz.func3, Tryz.ntmps3
  go_wp2_with fail
  refine (head_any _).mono ?_
  rintro e w1 ⟨rfl, hb1⟩
  have HB1 := Lib.hid hb1
  clear hb1
  go_wp2_with fail
  refine (C.out _).mono ?_
  rintro e w2 ⟨v2, rfl, ht2, hb2⟩
  have HB2 := Lib.hid hb2
  clear hb2
  have HT2 := Lib.hid ht2
  clear ht2
  obtain ⟨A2, c2, rfl, hc2⟩ := Slc.form HT2.out
  go_wp2_with fail
  refine (J.out _ _ HT2.out).mono ?_
  rintro e w3 ⟨v3, rfl, hi3, hb3⟩
  have HB3 := Lib.hid hb3
  have HI3 := Lib.hid hi3
  obtain ⟨A3, c3, rfl, hc3⟩ := Slc.form hi3
  clear hb3 hi3
  rw [offsT_len] at HI3 hc3
  rw [offsT_len]
  go_wp2_with fail
  refine (C3.out _).mono ?_
  rintro e w4 ⟨v4, rfl, hi4, hb4⟩
  have HB4 := Lib.hid hb4
  have HI4 := Lib.hid hi4
  obtain ⟨A4, c4, rfl, hc4⟩ := Slc.form hi4
  clear hb4 hi4
  go_wp2_with fail
  refine (C4.out _).mono ?_
  rintro e w5 ⟨v5, rfl, hi5, hb5⟩
  have HB5 := Lib.hid hb5
  have HI5 := Lib.hid hi5
  obtain ⟨A5, c5, rfl, hc5⟩ := Slc.form hi5
  have g0 := cellB hb5 (show (w4.alloc (.cells #[.slice A4 a.length c4] 29)).cell? ⟨w4.heap.size, 0, none⟩ = some (.slice A4 a.length c4) by simp [go_sem])
  clear hb5 hi5
  have n0 : ((7 : Int) != (7 : Int)) = false := by simp
  have g1 : (w5.alloc (.cells #[.slice A5 b.length c5] 29)).cell? ⟨w4.heap.size, 0, none⟩ = some (.slice A4 a.length c4) := cellB (below_box _ _) g0
  have BW4 := Lib.hid (show Below w4.heap.size w4 (w5.alloc (.cells #[.slice A5 b.length c5] 29)) from below_step2 (below_from HB5.out) (below_box _ _))
  have BW := Lib.hid (show Below w.heap.size w (w5.alloc (.cells #[.slice A5 b.length c5] 29)) from below2 (below2 (below2 (below2 HB1.out HB2.out) HB3.out) HB4.out) BW4.out)
  have BW2 := Lib.hid (show Below w2.heap.size w2 (w5.alloc (.cells #[.slice A5 b.length c5] 29)) from below2 (below2 HB3.out HB4.out) BW4.out)
  have BW3 := Lib.hid (show Below w3.heap.size w3 (w5.alloc (.cells #[.slice A5 b.length c5] 29)) from below2 HB4.out BW4.out)
  clear g0
  go_wp2_with fail
  refine (same_prog a b A4 A5 c4 c5 _ _ HLL.out HE.out ZS.out (by have := HAL.out; omega) _ (HI4.out.below BW4.out) (HI5.out.below (below_box _ _))).mono ?_
  rintro e w6 ⟨rfl, hb6⟩
  have HB6 := Lib.hid hb6
  have BE := Lib.hid (below_step2 BW.out hb6)
  have BE2 := Lib.hid (below_step2 BW2.out hb6)
  have BE3 := Lib.hid (below_step2 BW3.out hb6)
  clear hb6
  go_wp2_with fail
  go_ret
  exact ⟨rfl, BE.out⟩
set_option maxRecDepth 100000 in
set_option maxHeartbeats 8000000 in
theorem tok_err (t : Txt) (h : t.length ≤ 2000) {l : List Tk} {x : Int} (hl : lexT t = (l, 0, x)) {a b : List It} {er p q : Int} (h0 : er ≠ 0) (h7 : er ≠ 7) (hinc : l.Pairwise (fun a b => a.at_ < b.at_)) {j : Nat} (hj : j < l.length) (hat : l[j].at_ = p) (hq : q = ((wrAll (l.take j)).length : Int)) (hp : parseT t = (a, er, p)) (hp2 : parseT (wrAll l) = (b, er, q)) (hab : a.map eraI = b.map eraI) (hal : a.length ≤ 200) (w : World) : Calls Tryz.prog 3 #[str t] w (fun e w' => e = .returned (.bool true) ∧ Below w.heap.size w w') := by
  have hsz := sz t
  have d : ¬ (2000 : Int) < (t.length : Int) := by omega
  obtain ⟨k1, k2, _, _⟩ := lexT_ok hl
  have hwt := L7.wr_total t.length t 0 l (Nat.le_refl _) k1
  have hwl := L7.wr_len t.length t 0 l (Nat.le_refl _) k1
  have C := Lib.hid (fun W => hlx t _ (by omega) hl W)
  have J := Lib.hid (fun v W (hT : Toks W v l) => joined_any v l (by omega) (by omega) (fun u hu => by have := (hwl u hu).1; omega) W hT)
  have C3 := Lib.hid (fun W => hps t _ (by omega) hp W)
  have C4 := Lib.hid (fun W => hps (wrAll l) _ (by omega) hp2 W)
  have ZS := Lib.hid (parse_size hp)
  have HLL := Lib.hid (show a.length = b.length by have := congrArg List.length hab; simpa using this)
  have HE := Lib.hid (show ∀ i (p : i < a.length) (q : i < b.length), EqI false a[i] b[i] from fun i p q => by
    have e : (a.map eraI)[i]'(by simpa using p) = (b.map eraI)[i]'(by simpa using q) := by simp only [hab]
    rw [List.getElem_map, List.getElem_map] at e
    exact e)
  have HAL := Lib.hid hal
  have NL := Lib.hid (show l.length ≤ 5000 from k2)
  obtain ⟨X, hX⟩ : ∃ X, wrAll l = X := ⟨_, rfl⟩
  have HXX := Lib.hid hX
  rw [hX] at C4 J hwt
  have hsX := sz X
  have z0 : (er == 0) = false := by rw [beq_eq_false_iff_ne]; exact h0
  have z7 : (er == 7) = false := by rw [beq_eq_false_iff_ne]; exact h7
  have HJ := Lib.hid hj
  have HAT := Lib.hid (show ∀ h, (l[j]'h).at_ = p from fun _ => hat)
  have HQ := Lib.hid hq
  have HINC := Lib.hid hinc
  clear h0 h7 hinc hj hat hq
  clear h hl hp hp2 hab hal k1 k2 hwt hwl hX
  go_enter Tryz.func3, Tryz.ntmps3
  go_wp2_with fail
  refine (head_any _).mono ?_
  rintro e w1 ⟨rfl, hb1⟩
  have HB1 := Lib.hid hb1
  clear hb1
  go_wp2_with fail
  refine (C.out _).mono ?_
  rintro e w2 ⟨v2, rfl, ht2, hb2⟩
  have HB2 := Lib.hid hb2
  clear hb2
  have HT2 := Lib.hid ht2
  clear ht2
  obtain ⟨A2, c2, rfl, hc2⟩ := Slc.form HT2.out
  go_wp2_with fail
  refine (J.out _ _ HT2.out).mono ?_
  rintro e w3 ⟨v3, rfl, hi3, hb3⟩
  have HB3 := Lib.hid hb3
  have HI3 := Lib.hid hi3
  obtain ⟨A3, c3, rfl, hc3⟩ := Slc.form hi3
  clear hb3 hi3
  rw [offsT_len] at HI3 hc3
  rw [offsT_len]
  go_wp2_with fail
  refine (C3.out _).mono ?_
  rintro e w4 ⟨v4, rfl, hi4, hb4⟩
  have HB4 := Lib.hid hb4
  have HI4 := Lib.hid hi4
  obtain ⟨A4, c4, rfl, hc4⟩ := Slc.form hi4
  clear hb4 hi4
  go_wp2_with fail
  refine (C4.out _).mono ?_
  rintro e w5 ⟨v5, rfl, hi5, hb5⟩
  have HB5 := Lib.hid hb5
  have HI5 := Lib.hid hi5
  obtain ⟨A5, c5, rfl, hc5⟩ := Slc.form hi5
  have g0 := cellB hb5 (show (w4.alloc (.cells #[.slice A4 a.length c4] 29)).cell? ⟨w4.heap.size, 0, none⟩ = some (.slice A4 a.length c4) by simp [go_sem])
  clear hb5 hi5
  have n0 : (er != er) = false := by simp
  have g1 : (w5.alloc (.cells #[.slice A5 b.length c5] 29)).cell? ⟨w4.heap.size, 0, none⟩ = some (.slice A4 a.length c4) := cellB (below_box _ _) g0
  have BW4 := Lib.hid (show Below w4.heap.size w4 (w5.alloc (.cells #[.slice A5 b.length c5] 29)) from below_step2 (below_from HB5.out) (below_box _ _))
  have BW := Lib.hid (show Below w.heap.size w (w5.alloc (.cells #[.slice A5 b.length c5] 29)) from below2 (below2 (below2 (below2 HB1.out HB2.out) HB3.out) HB4.out) BW4.out)
  have BW2 := Lib.hid (show Below w2.heap.size w2 (w5.alloc (.cells #[.slice A5 b.length c5] 29)) from below2 (below2 HB3.out HB4.out) BW4.out)
  have BW3 := Lib.hid (show Below w3.heap.size w3 (w5.alloc (.cells #[.slice A5 b.length c5] 29)) from below2 HB4.out BW4.out)
  clear g0
  go_wp2_with fail
  refine (same_prog a b A4 A5 c4 c5 _ _ HLL.out HE.out ZS.out (by have := HAL.out; omega) _ (HI4.out.below BW4.out) (HI5.out.below (below_box _ _))).mono ?_
  rintro e w6 ⟨rfl, hb6⟩
  have HB6 := Lib.hid hb6
  have BE := Lib.hid (below_step2 BW.out hb6)
  have BE2 := Lib.hid (below_step2 BW2.out hb6)
  have BE3 := Lib.hid (below_step2 BW3.out hb6)
  clear hb6
  obtain ⟨b2, o2, c2', hva, hca2, _⟩ := Toks.at HT2.out (by have := HJ.out; omega)
  injection hva with hva1 hva2 hva3
  subst hva1 hva3
  obtain ⟨hx1, hx2, b3, o3, rfl, hg3⟩ := Slc.spot HI3.out (by rw [offsT_len]; have := HJ.out; omega)
  have G3 := Lib.hid hg3
  clear hg3 hva2 hx1 hx2
  go_wp2_with fail
  go_loopw [18] (fun i wr => Below w6.heap.size w6 wr ∧ ∃ k : Nat, i = .int .i64 (k : Int) ∧ k ≤ j) (fun i _ => l.length - (intOf i).toNat)
  case atStart => exact ⟨Below.refl _ _, 0, rfl, Nat.zero_le _⟩
  case round =>
    obtain ⟨hb, k, rfl, hk⟩ := hrel
    have HB := Lib.hid hb
    clear hb
    have hjl := HJ.out
    have hlt : k < l.length := by omega
    have ca := (tk_at (HT2.out.below (below_step2 BE2.out HB.out)) k hlt).2.2.2
    have i0 : (0 : Int) ≤ (k : Int) := by omega
    have i1 : (k : Int) < (l.length : Int) := by omega
    have i2 : IntKind.i64.wrap ((k : Int) + 1) = (k : Int) + 1 := IntWalk.i64_in _ (by have := NL.out; omega)
    by_cases he : k = j
    · subst he
      rw [HAT.out hjl] at ca
      have cb := cellB (below_step2 BE3.out HB.out) (G3.out k (by rw [offsT_len]; exact hlt))
      have hoe : (offsT l l.length)[k]'(by rw [offsT_len]; exact hlt) = q := by rw [HQ.out]; simp [offsT]
      rw [hoe, Nat.mul_one] at cb
      have z3 : (p == p) = true := by simp
      have z4 : (q == q) = true := by simp
      clear hoe
      go_wp2_with fail
      go_ret
      exact ⟨rfl, below2 BE.out HB.out⟩
    · have hne : l[k].at_ ≠ p := fun e => by
        have z := HAT.out hjl
        have := List.pairwise_iff_getElem.1 HINC.out k j hlt hjl (by omega)
        omega
      have d5 : (l[k].at_ == p) = false := by rw [beq_eq_false_iff_ne]; exact hne
      obtain ⟨la, hla⟩ : ∃ la, l[k].at_ = la := ⟨_, rfl⟩
      rw [hla] at ca d5
      clear hne hla
      go_wp2_with fail
      go_roundw
      case rel => exact ⟨HB.out, k + 1, by simp, by omega⟩
      case measure => simp [intOf]; omega
theorem tok_law (t : Txt) (w : World) : Calls Tryz.prog 3 #[str t] w (fun e w' => e = .returned (.bool true) ∧ Below w.heap.size w w') := by
  by_cases h : 2000 < t.length
  · exact tok_long t h w
  · obtain ⟨⟨l, e0, x⟩, hl⟩ : ∃ y, lexT t = y := ⟨_, rfl⟩
    by_cases he : e0 = 0
    · subst he
      obtain ⟨m1, m2, m3⟩ := tokens_math (by omega) hl
      obtain ⟨⟨a, er, p⟩, hp⟩ : ∃ y, parseT t = y := ⟨_, rfl⟩
      obtain ⟨⟨b, er2, q⟩, hp2⟩ : ∃ y, parseT (wrAll l) = y := ⟨_, rfl⟩
      rw [hp, hp2] at m1 m2 m3
      simp only at m1 m2 m3
      subst m1
      rcases m3 with ⟨rfl, rfl, rfl⟩ | ⟨rfl, rfl, rfl⟩ | ⟨h0, h7, hinc, j, hj, hat, hq⟩
      · exact tok_ok t (by omega) hl hp hp2 m2 (by obtain ⟨_, _, _, q, _, q2, _⟩ := parse_ok hp; exact (items_app 200 _ a [] q2 q).2.1) w
      · obtain rfl := parse_nil hp (by decide)
        exact tok_end t (by omega) hl hp hp2 m2 (by simp) w
      · obtain rfl := parse_nil hp h0
        exact tok_err t (by omega) hl h0 h7 hinc hj hat hq hp hp2 m2 (by simp) w
    · exact tok_bad t (by omega) hl he w
end Go.Proofs.YtcgkaecaddpenaaGreatDoor
