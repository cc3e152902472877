/- The program's letters, digits, parts of names, spans, gaps and escapes. -/
import Derived.Test.YtcgkaecaddpenaaGreatDoorPRf
import Derived.Laws.EntriesVeiled
namespace Go.Proofs.YtcgkaecaddpenaaGreatDoor
open Go.RowKit
open L7 (Lt Dg In gapC gap)

/-- A function value that captured nothing. -/
abbrev fnv (f : Nat) : Value := .func (Fn.func f) #[] #[]
/-- A panic with an error. -/
abbrev Pn (e : Int) : Ending := .panicked [{ v := .iface 24 (.int .i64 e), recovered := false }]
set_option maxRecDepth 100000 in
set_option maxHeartbeats 2000000 in
theorem letter_pg (c : UInt8) (w : World) : Calls Tryz.prog 34 #[.int .u8 (c.toNat : Int)] w (fun e w' => e = .returned (.bool (Lt c)) ∧ w = w') := by
  by_cases h1 : (97 : Int) ≤ (c.toNat : Int)
  · by_cases h2 : (c.toNat : Int) ≤ 122
    · have HF := Lib.hid (show Lt c = true from lt_yes (by omega))
      rw [HF.out]
      go_enter Tryz.func34, Tryz.ntmps34
      go_wp2_with fail
      go_ret
      exact ⟨rfl, rfl⟩
    · by_cases h3 : (c.toNat : Int) ≤ 90
      · omega
      · have HF := Lib.hid (show Lt c = false from lt_no (by omega))
        rw [HF.out]
        go_enter Tryz.func34, Tryz.ntmps34
        go_wp2_with fail
        go_ret
        exact ⟨rfl, rfl⟩
  · by_cases h2 : (65 : Int) ≤ (c.toNat : Int)
    · by_cases h3 : (c.toNat : Int) ≤ 90
      · have HF := Lib.hid (show Lt c = true from lt_yes (by omega))
        rw [HF.out]
        go_enter Tryz.func34, Tryz.ntmps34
        go_wp2_with fail
        go_ret
        exact ⟨rfl, rfl⟩
      · have HF := Lib.hid (show Lt c = false from lt_no (by omega))
        rw [HF.out]
        go_enter Tryz.func34, Tryz.ntmps34
        go_wp2_with fail
        go_ret
        exact ⟨rfl, rfl⟩
    · have HF := Lib.hid (show Lt c = false from lt_no (by omega))
      rw [HF.out]
      go_enter Tryz.func34, Tryz.ntmps34
      go_wp2_with fail
      go_ret
      exact ⟨rfl, rfl⟩
set_option maxRecDepth 100000 in
set_option maxHeartbeats 2000000 in
theorem digit_pg (c : UInt8) (w : World) : Calls Tryz.prog 37 #[.int .u8 (c.toNat : Int)] w (fun e w' => e = .returned (.bool (Dg c)) ∧ w = w') := by
  by_cases h1 : (48 : Int) ≤ (c.toNat : Int)
  · by_cases h2 : (c.toNat : Int) ≤ 57
    · have HF := Lib.hid (show Dg c = true from dg_yes h1 h2)
      rw [HF.out]
      go_enter Tryz.func37, Tryz.ntmps37
      go_wp2_with fail
      go_ret
      exact ⟨rfl, rfl⟩
    · have HF := Lib.hid (show Dg c = false from dg_no (by omega))
      rw [HF.out]
      go_enter Tryz.func37, Tryz.ntmps37
      go_wp2_with fail
      go_ret
      exact ⟨rfl, rfl⟩
  · have HF := Lib.hid (show Dg c = false from dg_no (by omega))
    rw [HF.out]
    go_enter Tryz.func37, Tryz.ntmps37
    go_wp2_with fail
    go_ret
    exact ⟨rfl, rfl⟩
set_option maxRecDepth 100000 in
set_option maxHeartbeats 2000000 in
theorem part_pg (c : UInt8) (w : World) : Calls Tryz.prog 36 #[.int .u8 (c.toNat : Int)] w (fun e w' => e = .returned (.bool (In c)) ∧ w = w') := by
  obtain ⟨r1, e1⟩ : ∃ r, Lt c = r := ⟨_, rfl⟩
  obtain ⟨r2, e2⟩ : ∃ r, Dg c = r := ⟨_, rfl⟩
  have C1 := Lib.hid (fun W => (show Calls Tryz.prog 34 #[.int .u8 (c.toNat : Int)] W (fun e w' => e = .returned (.bool r1) ∧ W = w') by rw [← e1]; exact letter_pg c W))
  have C2 := Lib.hid (fun W => (show Calls Tryz.prog 37 #[.int .u8 (c.toNat : Int)] W (fun e w' => e = .returned (.bool r2) ∧ W = w') by rw [← e2]; exact digit_pg c W))
  have HF := Lib.hid (show In c = (r1 || r2 || c == 95) by unfold In; rw [e1, e2])
  rw [HF.out]
  clear e1 e2
  go_enter Tryz.func36, Tryz.ntmps36
  cases r1
  · cases r2
    · by_cases h : (c.toNat : Int) = 95
      · have HG := Lib.hid (show (c == 95) = true by rw [beq_iff_eq]; exact eq_of_int h)
        have d1 : ((c.toNat : Int) == 95) = true := by simpa using h
        clear h
        rw [HG.out]
        go_wp2_with (first | (go_at_call 34; refine (C1.out _).mono ?_; rintro e w1 ⟨rfl, rfl⟩) | (go_at_call 37; refine (C2.out _).mono ?_; rintro e w1 ⟨rfl, rfl⟩))
        go_ret
        exact ⟨rfl, rfl⟩
      · have HG := Lib.hid (show (c == 95) = false by rw [beq_eq_false_iff_ne]; exact ne_of_int h)
        have d1 : ((c.toNat : Int) == 95) = false := by simpa using h
        clear h
        rw [HG.out]
        go_wp2_with (first | (go_at_call 34; refine (C1.out _).mono ?_; rintro e w1 ⟨rfl, rfl⟩) | (go_at_call 37; refine (C2.out _).mono ?_; rintro e w1 ⟨rfl, rfl⟩))
        go_ret
        exact ⟨rfl, rfl⟩
    · go_wp2_with (first | (go_at_call 34; refine (C1.out _).mono ?_; rintro e w1 ⟨rfl, rfl⟩) | (go_at_call 37; refine (C2.out _).mono ?_; rintro e w1 ⟨rfl, rfl⟩))
      go_ret
      exact ⟨rfl, rfl⟩
  · go_wp2_with (go_at_call 34; refine (C1.out _).mono ?_; rintro e w1 ⟨rfl, rfl⟩)
    go_ret
    exact ⟨rfl, rfl⟩

theorem tw_yes (p : UInt8 → Bool) {t : Txt} {k : Nat} (h : k < t.length) (hc : p t[k] = true) : ((t.drop k).takeWhile p).length = 1 + ((t.drop (k + 1)).takeWhile p).length := by
  rw [List.drop_eq_getElem_cons h, List.takeWhile_cons_of_pos hc, List.length_cons]
  omega
theorem tw_no (p : UInt8 → Bool) {t : Txt} {k : Nat} (h : k < t.length) (hc : p t[k] = false) : ((t.drop k).takeWhile p).length = 0 := by
  rw [List.drop_eq_getElem_cons h, List.takeWhile_cons_of_neg (by simp [hc]), List.length_nil]
theorem gapC_nil (cm : Bool) : gapC cm [] = 0 := by rw [gapC]
theorem tw_end (p : UInt8 → Bool) {t : Txt} {k : Nat} (h : t.length ≤ k) : ((t.drop k).takeWhile p).length = 0 := by
  rw [List.drop_eq_nil_of_le h, List.takeWhile_nil, List.length_nil]
set_option maxRecDepth 100000 in
set_option maxHeartbeats 2000000 in
theorem span_part (t : Txt) (htl : t.length ≤ 100000) (w : World) :
    Calls Tryz.prog 35 #[str t, fnv 36] w fun e w' => e = .returned (.int .i64 ((t.takeWhile In).length : Int)) ∧ w = w' := by
  obtain ⟨G, hG⟩ : ∃ G, (t.takeWhile In).length = G := ⟨_, rfl⟩
  rw [hG]
  have HG := Lib.hid hG
  have hsz := sz t
  clear hG
  go_enter Tryz.func35, Tryz.ntmps35
  go_wp2_with fail
  go_loopw [8] (fun i wr => ∃ (k : Nat), k ≤ t.length ∧ i = .int .i64 (k : Int) ∧ G = k + ((t.drop k).takeWhile In).length ∧ wr = w) (fun i _ => t.length - (intOf i).toNat)
  case atStart => exact ⟨0, by omega, by simp, by have := HG.out; simpa using this.symm, rfl⟩
  case round =>
    obtain ⟨k, hk, rfl, hg, rfl⟩ := hrel
    by_cases hlt : k < t.length
    · obtain ⟨c, hc⟩ : ∃ c, t[k] = c := ⟨_, rfl⟩
      have HGG := Lib.hid hg
      have ex : ∀ h, (⟨t.toArray⟩ : ByteArray)[k]'h = c := fun _ => hc
      have i1 : (0 : Int) ≤ (k : Int) := by omega
      have i2 : (k : Int) < (t.length : Int) := by omega
      have HC := Lib.hid hc
      clear hg hc
      cases hb : In c
      · have HN := Lib.hid (show G = k from by have := HGG.out; rw [tw_no In hlt (by rw [HC.out]; exact hb)] at this; omega)
        have C1 := Lib.hid (fun W => (show Calls Tryz.prog 36 #[.int .u8 (c.toNat : Int)] W (fun e w' => e = .returned (.bool false) ∧ W = w') by rw [← hb]; exact part_pg c W))
        clear hb
        go_wp2_with (go_at_call 36; refine (C1.out _).mono ?_; rintro e w1 ⟨rfl, rfl⟩)
        go_ret
        exact ⟨ret_int (by rw [HN.out]), rfl⟩
      · have HN := Lib.hid (show G = k + 1 + ((t.drop (k + 1)).takeWhile In).length from by have := HGG.out; rw [tw_yes In hlt (by rw [HC.out]; exact hb)] at this; omega)
        have C1 := Lib.hid (fun W => (show Calls Tryz.prog 36 #[.int .u8 (c.toNat : Int)] W (fun e w' => e = .returned (.bool true) ∧ W = w') by rw [← hb]; exact part_pg c W))
        clear hb
        go_wp2_with (go_at_call 36; refine (C1.out _).mono ?_; rintro e w1 ⟨rfl, rfl⟩)
        go_roundw
        case rel => exact ⟨k + 1, by omega, by simp, HN.out, trivial⟩
        case measure => simp [intOf]; omega
    · have HN := Lib.hid (show G = t.length from by rw [tw_end In (by omega)] at hg; omega)
      clear hg
      go_wp2_with fail
      go_ret
      exact ⟨ret_int (by rw [HN.out]), rfl⟩
set_option maxRecDepth 100000 in
set_option maxHeartbeats 2000000 in
theorem span_digit (t : Txt) (htl : t.length ≤ 100000) (w : World) :
    Calls Tryz.prog 35 #[str t, fnv 37] w fun e w' => e = .returned (.int .i64 ((t.takeWhile Dg).length : Int)) ∧ w = w' := by
  obtain ⟨G, hG⟩ : ∃ G, (t.takeWhile Dg).length = G := ⟨_, rfl⟩
  rw [hG]
  have HG := Lib.hid hG
  have hsz := sz t
  clear hG
  go_enter Tryz.func35, Tryz.ntmps35
  go_wp2_with fail
  go_loopw [8] (fun i wr => ∃ (k : Nat), k ≤ t.length ∧ i = .int .i64 (k : Int) ∧ G = k + ((t.drop k).takeWhile Dg).length ∧ wr = w) (fun i _ => t.length - (intOf i).toNat)
  case atStart => exact ⟨0, by omega, by simp, by have := HG.out; simpa using this.symm, rfl⟩
  case round =>
    obtain ⟨k, hk, rfl, hg, rfl⟩ := hrel
    by_cases hlt : k < t.length
    · obtain ⟨c, hc⟩ : ∃ c, t[k] = c := ⟨_, rfl⟩
      have HGG := Lib.hid hg
      have ex : ∀ h, (⟨t.toArray⟩ : ByteArray)[k]'h = c := fun _ => hc
      have i1 : (0 : Int) ≤ (k : Int) := by omega
      have i2 : (k : Int) < (t.length : Int) := by omega
      have HC := Lib.hid hc
      clear hg hc
      cases hb : Dg c
      · have HN := Lib.hid (show G = k from by have := HGG.out; rw [tw_no Dg hlt (by rw [HC.out]; exact hb)] at this; omega)
        have C1 := Lib.hid (fun W => (show Calls Tryz.prog 37 #[.int .u8 (c.toNat : Int)] W (fun e w' => e = .returned (.bool false) ∧ W = w') by rw [← hb]; exact digit_pg c W))
        clear hb
        go_wp2_with (go_at_call 37; refine (C1.out _).mono ?_; rintro e w1 ⟨rfl, rfl⟩)
        go_ret
        exact ⟨ret_int (by rw [HN.out]), rfl⟩
      · have HN := Lib.hid (show G = k + 1 + ((t.drop (k + 1)).takeWhile Dg).length from by have := HGG.out; rw [tw_yes Dg hlt (by rw [HC.out]; exact hb)] at this; omega)
        have C1 := Lib.hid (fun W => (show Calls Tryz.prog 37 #[.int .u8 (c.toNat : Int)] W (fun e w' => e = .returned (.bool true) ∧ W = w') by rw [← hb]; exact digit_pg c W))
        clear hb
        go_wp2_with (go_at_call 37; refine (C1.out _).mono ?_; rintro e w1 ⟨rfl, rfl⟩)
        go_roundw
        case rel => exact ⟨k + 1, by omega, by simp, HN.out, trivial⟩
        case measure => simp [intOf]; omega
    · have HN := Lib.hid (show G = t.length from by rw [tw_end Dg (by omega)] at hg; omega)
      clear hg
      go_wp2_with fail
      go_ret
      exact ⟨ret_int (by rw [HN.out]), rfl⟩
set_option maxRecDepth 100000 in
set_option maxHeartbeats 2000000 in
theorem gap_pg (t : Txt) (htl : t.length ≤ 100000) (w : World) :
    Calls Tryz.prog 27 #[str t] w fun e w' => e = .returned (.int .i64 (gap t : Int)) ∧ w = w' := by
  obtain ⟨G, hG⟩ : ∃ G, gap t = G := ⟨_, rfl⟩
  rw [hG]
  have HG := Lib.hid hG
  have hsz := sz t
  clear hG
  go_enter Tryz.func27, Tryz.ntmps27
  go_wp2_with fail
  go_loopw [3, 8] (fun c i wr => ∃ (k : Nat) (cm : Bool), k ≤ t.length ∧ i = .int .i64 (k : Int) ∧ c = .bool cm ∧ G = k + gapC cm (t.drop k) ∧ wr = w) (fun _ i _ => t.length - (intOf i).toNat)
  case atStart => exact ⟨0, false, by omega, by simp, rfl, by have := HG.out; simpa using this.symm, rfl⟩
  case round =>
    obtain ⟨k, cm, hk, rfl, rfl, hg, rfl⟩ := hrel
    by_cases hlt : k < t.length
    · have hd : t.drop k = t[k] :: t.drop (k + 1) := List.drop_eq_getElem_cons hlt
      obtain ⟨c, hc⟩ : ∃ c, t[k] = c := ⟨_, rfl⟩
      rw [hd, hc] at hg
      have HGG := Lib.hid hg
      have ex : ∀ h, (⟨t.toArray⟩ : ByteArray)[k]'h = c := fun _ => hc
      have i1 : (0 : Int) ≤ (k : Int) := by omega
      have i2 : (k : Int) < (t.length : Int) := by omega
      clear hg hd hc
      by_cases h1 : (c.toNat : Int) = 10
      · have HN := Lib.hid (show G = k + 1 + gapC false (t.drop (k + 1)) from by have := HGG.out; rw [L7.gapC_nl (eq_of_int (d := 10) h1)] at this; omega)
        go_wp2_with fail
        go_roundw
        case rel => exact ⟨k + 1, false, by omega, by simp, rfl, HN.out, trivial⟩
        case measure => simp [intOf]; omega
      · by_cases h2 : (c.toNat : Int) = 35
        · have HN := Lib.hid (show G = k + 1 + gapC true (t.drop (k + 1)) from by have := HGG.out; rw [L7.gapC_hash (ne_of_int (d := 10) h1) (eq_of_int (d := 35) h2)] at this; omega)
          go_wp2_with fail
          go_roundw
          case rel => exact ⟨k + 1, true, by omega, by simp, rfl, HN.out, trivial⟩
          case measure => simp [intOf]; omega
        · by_cases h3 : (c.toNat : Int) = 32
          · have HN := Lib.hid (show G = k + 1 + gapC cm (t.drop (k + 1)) from by have := HGG.out; rw [L7.gapC_in (ne_of_int (d := 10) h1) (ne_of_int (d := 35) h2) (fun q => q.2.1 (eq_of_int (d := 32) h3))] at this; omega)
            have d1 : ((c.toNat : Int) != 32) = false := by simp [h3]
            go_wp2_with fail
            go_roundw
            case rel => exact ⟨k + 1, cm, by omega, by simp, rfl, HN.out, trivial⟩
            case measure => simp [intOf]; omega
          · have d1 : ((c.toNat : Int) != 32) = true := by simpa using h3
            by_cases h4 : (c.toNat : Int) = 9
            · have HN := Lib.hid (show G = k + 1 + gapC cm (t.drop (k + 1)) from by have := HGG.out; rw [L7.gapC_in (ne_of_int (d := 10) h1) (ne_of_int (d := 35) h2) (fun q => q.2.2 (eq_of_int (d := 9) h4))] at this; omega)
              have d2 : ((c.toNat : Int) != 9) = false := by simp [h4]
              go_wp2_with fail
              go_roundw
              case rel => exact ⟨k + 1, cm, by omega, by simp, rfl, HN.out, trivial⟩
              case measure => simp [intOf]; omega
            · have d2 : ((c.toNat : Int) != 9) = true := by simpa using h4
              cases cm
              · have HN := Lib.hid (show G = k from by have := HGG.out; rw [L7.gapC_tok (ne_of_int (d := 10) h1) (ne_of_int (d := 35) h2) ⟨rfl, ne_of_int (d := 32) h3, ne_of_int (d := 9) h4⟩] at this; omega)
                go_wp2_with fail
                go_ret
                exact ⟨ret_int (by rw [HN.out]), rfl⟩
              · have HN := Lib.hid (show G = k + 1 + gapC true (t.drop (k + 1)) from by have := HGG.out; rw [L7.gapC_in (ne_of_int (d := 10) h1) (ne_of_int (d := 35) h2) (fun q => by simp at q)] at this; omega)
                go_wp2_with fail
                go_roundw
                case rel => exact ⟨k + 1, true, by omega, by simp, rfl, HN.out, trivial⟩
                case measure => simp [intOf]; omega
    · have hd : t.drop k = [] := List.drop_eq_nil_of_le (by omega)
      rw [hd] at hg
      have HN := Lib.hid (show G = t.length from by rw [gapC_nil] at hg; omega)
      clear hg hd
      go_wp2_with fail
      go_ret
      exact ⟨ret_int (by rw [HN.out]), rfl⟩
set_option maxRecDepth 100000 in
set_option maxHeartbeats 2000000 in
theorem esc_q (w : World) : Calls Tryz.prog 39 #[.int .u8 34] w fun e w' => e = .returned (.int .u8 34) ∧ w = w' := by
  go_enter Tryz.func39, Tryz.ntmps39
  go_wp2_with fail
  go_ret
  exact ⟨rfl, rfl⟩
set_option maxRecDepth 100000 in
set_option maxHeartbeats 2000000 in
theorem esc_b (w : World) : Calls Tryz.prog 39 #[.int .u8 92] w fun e w' => e = .returned (.int .u8 92) ∧ w = w' := by
  go_enter Tryz.func39, Tryz.ntmps39
  go_wp2_with fail
  go_ret
  exact ⟨rfl, rfl⟩
set_option maxRecDepth 100000 in
set_option maxHeartbeats 2000000 in
theorem esc_n (w : World) : Calls Tryz.prog 39 #[.int .u8 110] w fun e w' => e = .returned (.int .u8 10) ∧ w = w' := by
  go_enter Tryz.func39, Tryz.ntmps39
  go_wp2_with fail
  go_ret
  exact ⟨rfl, rfl⟩
set_option maxRecDepth 100000 in
set_option maxHeartbeats 2000000 in
theorem esc_bad (c : UInt8) (h : ¬ (c = 34 ∨ c = 92 ∨ c = 110)) (w : World) : Calls Tryz.prog 39 #[.int .u8 (c.toNat : Int)] w fun e w' => e = Pn 5 ∧ w = w' := by
  have d1 : ((c.toNat : Int) == 34) = false := by rw [beq_eq_false_iff_ne]; exact fun e => (fun q => h (.inl q)) (eq_of_int (d := 34) e)
  have d2 : ((c.toNat : Int) == 92) = false := by rw [beq_eq_false_iff_ne]; exact fun e => (fun q => h (.inr (.inl q))) (eq_of_int (d := 92) e)
  have d3 : ((c.toNat : Int) == 110) = false := by rw [beq_eq_false_iff_ne]; exact fun e => (fun q => h (.inr (.inr q))) (eq_of_int (d := 110) e)
  clear h
  go_enter Tryz.func39, Tryz.ntmps39
  go_wp2_with fail
  exact ⟨rfl, rfl, rfl⟩
end Go.Proofs.YtcgkaecaddpenaaGreatDoor
