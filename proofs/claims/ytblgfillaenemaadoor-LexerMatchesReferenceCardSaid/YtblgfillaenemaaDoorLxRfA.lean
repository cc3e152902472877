/- The reference's letters, gaps and symbols. -/
import Derived.Test.YtblgfillaenemaaDoorKSlc
import Derived.Test.YtblgfillaenemaaDoorLxLaw3
namespace Go.Proofs.YtblgfillaenemaaDoor
open Go.RowKit

open L7 (Lt Dg In gapC gap symN syms)

theorem lt_yes {c : UInt8} (h : ((97 : Int) ≤ (c.toNat : Int) ∧ (c.toNat : Int) ≤ 122) ∨ ((65 : Int) ≤ (c.toNat : Int) ∧ (c.toNat : Int) ≤ 90)) : Lt c = true := by
  unfold Lt
  simp only [Bool.or_eq_true, Bool.and_eq_true, decide_eq_true_eq]
  omega
theorem lt_no {c : UInt8} (h : ¬ (((97 : Int) ≤ (c.toNat : Int) ∧ (c.toNat : Int) ≤ 122) ∨ ((65 : Int) ≤ (c.toNat : Int) ∧ (c.toNat : Int) ≤ 90))) : Lt c = false := by
  cases hl : Lt c with
  | false => rfl
  | true =>
    unfold Lt at hl
    simp only [Bool.or_eq_true, Bool.and_eq_true, decide_eq_true_eq] at hl
    omega
theorem dg_yes {c : UInt8} (h1 : (48 : Int) ≤ (c.toNat : Int)) (h2 : (c.toNat : Int) ≤ 57) : Dg c = true := by
  unfold Dg
  simp only [Bool.and_eq_true, decide_eq_true_eq]
  omega
theorem dg_no {c : UInt8} (h : ¬ ((48 : Int) ≤ (c.toNat : Int) ∧ (c.toNat : Int) ≤ 57)) : Dg c = false := by
  cases hl : Dg c with
  | false => rfl
  | true =>
    unfold Dg at hl
    simp only [Bool.and_eq_true, decide_eq_true_eq] at hl
    omega
theorem eq_of_int {c d : UInt8} (h : (c.toNat : Int) = (d.toNat : Int)) : c = d := UInt8.toNat_inj.1 (by omega)
theorem ne_of_int {c d : UInt8} (h : ¬ (c.toNat : Int) = (d.toNat : Int)) : c ≠ d := fun e => h (by rw [e])
set_option maxRecDepth 100000 in
set_option maxHeartbeats 2000000 in
theorem letter_rf (c : UInt8) (w : World) : Calls Tryd.prog 32 #[.int .u8 (c.toNat : Int)] w (fun e w' => e = .returned (.bool (Lt c)) ∧ w = w') := by
  by_cases h1 : (97 : Int) ≤ (c.toNat : Int)
  · by_cases h2 : (c.toNat : Int) ≤ 122
    · have HF := Lib.hid (show Lt c = true from lt_yes (by omega))
      rw [HF.out]
      go_enter Tryd.func32, Tryd.ntmps32
      go_wp2_with fail
      go_ret
      exact ⟨rfl, rfl⟩
    · by_cases h3 : (c.toNat : Int) ≤ 90
      · omega
      · have HF := Lib.hid (show Lt c = false from lt_no (by omega))
        rw [HF.out]
        go_enter Tryd.func32, Tryd.ntmps32
        go_wp2_with fail
        go_ret
        exact ⟨rfl, rfl⟩
  · by_cases h2 : (65 : Int) ≤ (c.toNat : Int)
    · by_cases h3 : (c.toNat : Int) ≤ 90
      · have HF := Lib.hid (show Lt c = true from lt_yes (by omega))
        rw [HF.out]
        go_enter Tryd.func32, Tryd.ntmps32
        go_wp2_with fail
        go_ret
        exact ⟨rfl, rfl⟩
      · have HF := Lib.hid (show Lt c = false from lt_no (by omega))
        rw [HF.out]
        go_enter Tryd.func32, Tryd.ntmps32
        go_wp2_with fail
        go_ret
        exact ⟨rfl, rfl⟩
    · have HF := Lib.hid (show Lt c = false from lt_no (by omega))
      rw [HF.out]
      go_enter Tryd.func32, Tryd.ntmps32
      go_wp2_with fail
      go_ret
      exact ⟨rfl, rfl⟩
set_option maxRecDepth 100000 in
set_option maxHeartbeats 2000000 in
theorem digit_rf (c : UInt8) (w : World) : Calls Tryd.prog 34 #[.int .u8 (c.toNat : Int)] w (fun e w' => e = .returned (.bool (Dg c)) ∧ w = w') := by
  by_cases h1 : (48 : Int) ≤ (c.toNat : Int)
  · by_cases h2 : (c.toNat : Int) ≤ 57
    · have HF := Lib.hid (show Dg c = true from dg_yes h1 h2)
      rw [HF.out]
      go_enter Tryd.func34, Tryd.ntmps34
      go_wp2_with fail
      go_ret
      exact ⟨rfl, rfl⟩
    · have HF := Lib.hid (show Dg c = false from dg_no (by omega))
      rw [HF.out]
      go_enter Tryd.func34, Tryd.ntmps34
      go_wp2_with fail
      go_ret
      exact ⟨rfl, rfl⟩
  · have HF := Lib.hid (show Dg c = false from dg_no (by omega))
    rw [HF.out]
    go_enter Tryd.func34, Tryd.ntmps34
    go_wp2_with fail
    go_ret
    exact ⟨rfl, rfl⟩
set_option maxRecDepth 100000 in
set_option maxHeartbeats 2000000 in
theorem inner_rf (c : UInt8) (w : World) : Calls Tryd.prog 33 #[.int .u8 (c.toNat : Int)] w (fun e w' => e = .returned (.bool (In c)) ∧ w = w') := by
  obtain ⟨r1, e1⟩ : ∃ r, Lt c = r := ⟨_, rfl⟩
  obtain ⟨r2, e2⟩ : ∃ r, Dg c = r := ⟨_, rfl⟩
  have C1 := Lib.hid (fun W => (show Calls Tryd.prog 32 #[.int .u8 (c.toNat : Int)] W (fun e w' => e = .returned (.bool r1) ∧ W = w') by rw [← e1]; exact letter_rf c W))
  have C2 := Lib.hid (fun W => (show Calls Tryd.prog 34 #[.int .u8 (c.toNat : Int)] W (fun e w' => e = .returned (.bool r2) ∧ W = w') by rw [← e2]; exact digit_rf c W))
  have HF := Lib.hid (show In c = (r1 || r2 || c == 95) by unfold In; rw [e1, e2])
  rw [HF.out]
  clear e1 e2
  go_enter Tryd.func33, Tryd.ntmps33
  cases r1
  · cases r2
    · by_cases h : (c.toNat : Int) = 95
      · have HG := Lib.hid (show (c == 95) = true by rw [beq_iff_eq]; exact eq_of_int h)
        have d1 : ((c.toNat : Int) == 95) = true := by simpa using h
        clear h
        rw [HG.out]
        go_wp2_with (first | (go_at_call 32; refine (C1.out _).mono ?_; rintro e w1 ⟨rfl, rfl⟩) | (go_at_call 34; refine (C2.out _).mono ?_; rintro e w1 ⟨rfl, rfl⟩))
        go_ret
        exact ⟨rfl, rfl⟩
      · have HG := Lib.hid (show (c == 95) = false by rw [beq_eq_false_iff_ne]; exact ne_of_int h)
        have d1 : ((c.toNat : Int) == 95) = false := by simpa using h
        clear h
        rw [HG.out]
        go_wp2_with (first | (go_at_call 32; refine (C1.out _).mono ?_; rintro e w1 ⟨rfl, rfl⟩) | (go_at_call 34; refine (C2.out _).mono ?_; rintro e w1 ⟨rfl, rfl⟩))
        go_ret
        exact ⟨rfl, rfl⟩
    · go_wp2_with (first | (go_at_call 32; refine (C1.out _).mono ?_; rintro e w1 ⟨rfl, rfl⟩) | (go_at_call 34; refine (C2.out _).mono ?_; rintro e w1 ⟨rfl, rfl⟩))
      go_ret
      exact ⟨rfl, rfl⟩
  · go_wp2_with (go_at_call 32; refine (C1.out _).mono ?_; rintro e w1 ⟨rfl, rfl⟩)
    go_ret
    exact ⟨rfl, rfl⟩

/-! ### Gap. -/
theorem gap_go {cm : Bool} {c : UInt8} {r : List UInt8} : (c = 10 → gapC cm (c :: r) = gapC false r + 1) ∧ (c ≠ 10 → c = 35 → gapC cm (c :: r) = gapC true r + 1) :=
  ⟨fun h => L7.gapC_nl h, fun h h2 => L7.gapC_hash h h2⟩
set_option maxRecDepth 100000 in
set_option maxHeartbeats 2000000 in
theorem gap_rf (t : Txt) (p : Nat) (hp : p ≤ t.length) (htl : t.length ≤ 100000) (w : World) :
    Calls Tryd.prog 19 #[str t, .int .i64 (p : Int)] w fun e w' => e = .returned (.int .i64 (gap (t.drop p) : Int)) ∧ w = w' := by
  obtain ⟨G, hG⟩ : ∃ G, gap (t.drop p) = G := ⟨_, rfl⟩
  rw [hG]
  have HG := Lib.hid hG
  have hsz := sz t
  clear hG
  go_enter Tryd.func19, Tryd.ntmps19
  go_wp2_with fail
  go_loopw [5, 6] (fun i c wr => ∃ (k : Nat) (cm : Bool), p + k ≤ t.length ∧ i = .int .i64 (k : Int) ∧ c = .bool cm ∧ G = k + gapC cm (t.drop (p + k)) ∧ wr = w) (fun i _ _ => t.length - (intOf i).toNat)
  case atStart => exact ⟨0, false, by omega, by simp, rfl, by have := HG.out; simpa using this.symm, rfl⟩
  case round =>
    obtain ⟨k, cm, hk, rfl, rfl, hg, rfl⟩ := hrel
    by_cases hlt : p + k < t.length
    · have hd : t.drop (p + k) = t[p + k] :: t.drop (p + k + 1) := List.drop_eq_getElem_cons hlt
      obtain ⟨c, hc⟩ : ∃ c, t[p + k] = c := ⟨_, rfl⟩
      rw [hd, hc] at hg
      have HGG := Lib.hid hg
      have ex : ∀ h, (⟨t.toArray⟩ : ByteArray)[p + k]'h = c := fun _ => hc
      have i1 : (0 : Int) ≤ (p : Int) + (k : Int) := by omega
      have i2 : (p : Int) + (k : Int) < (t.length : Int) := by omega
      have i3 : IntKind.i64.wrap ((p : Int) + (k : Int)) = (p : Int) + (k : Int) := IntWalk.i64_in _ (by omega)
      clear hg hd hc
      by_cases h1 : (c.toNat : Int) = 10
      · have HN := Lib.hid (show G = k + 1 + gapC false (t.drop (p + (k + 1))) from by have := HGG.out; rw [L7.gapC_nl (eq_of_int (d := 10) h1)] at this; rw [← Nat.add_assoc]; omega)
        go_wp2_with fail
        go_roundw
        case rel => exact ⟨k + 1, false, by omega, by simp, rfl, HN.out, trivial⟩
        case measure => simp [intOf]; omega
      · by_cases h2 : (c.toNat : Int) = 35
        · have HN := Lib.hid (show G = k + 1 + gapC true (t.drop (p + (k + 1))) from by have := HGG.out; rw [L7.gapC_hash (ne_of_int (d := 10) h1) (eq_of_int (d := 35) h2)] at this; rw [← Nat.add_assoc]; omega)
          go_wp2_with fail
          go_roundw
          case rel => exact ⟨k + 1, true, by omega, by simp, rfl, HN.out, trivial⟩
          case measure => simp [intOf]; omega
        · cases cm
          · by_cases h3 : (c.toNat : Int) = 32
            · have HN := Lib.hid (show G = k + 1 + gapC false (t.drop (p + (k + 1))) from by have := HGG.out; rw [L7.gapC_in (ne_of_int (d := 10) h1) (ne_of_int (d := 35) h2) (fun q => q.2.1 (eq_of_int (d := 32) h3))] at this; rw [← Nat.add_assoc]; omega)
              have d1 : ((c.toNat : Int) != 32) = false := by simp [h3]
              go_wp2_with fail
              go_roundw
              case rel => exact ⟨k + 1, false, by omega, by simp, rfl, HN.out, trivial⟩
              case measure => simp [intOf]; omega
            · by_cases h4 : (c.toNat : Int) = 9
              · have HN := Lib.hid (show G = k + 1 + gapC false (t.drop (p + (k + 1))) from by have := HGG.out; rw [L7.gapC_in (ne_of_int (d := 10) h1) (ne_of_int (d := 35) h2) (fun q => q.2.2 (eq_of_int (d := 9) h4))] at this; rw [← Nat.add_assoc]; omega)
                have d1 : ((c.toNat : Int) != 32) = true := by simpa using h3
                have d2 : ((c.toNat : Int) != 9) = false := by simp [h4]
                go_wp2_with fail
                go_roundw
                case rel => exact ⟨k + 1, false, by omega, by simp, rfl, HN.out, trivial⟩
                case measure => simp [intOf]; omega
              · have HN := Lib.hid (show G = k from by have := HGG.out; rw [L7.gapC_tok (ne_of_int (d := 10) h1) (ne_of_int (d := 35) h2) ⟨rfl, ne_of_int (d := 32) h3, ne_of_int (d := 9) h4⟩] at this; omega)
                have d1 : ((c.toNat : Int) != 32) = true := by simpa using h3
                have d2 : ((c.toNat : Int) != 9) = true := by simpa using h4
                go_wp2_with fail
                go_ret
                exact ⟨ret_int (by rw [HN.out]), rfl⟩
          · have HN := Lib.hid (show G = k + 1 + gapC true (t.drop (p + (k + 1))) from by have := HGG.out; rw [L7.gapC_in (ne_of_int (d := 10) h1) (ne_of_int (d := 35) h2) (fun q => by simp at q)] at this; rw [← Nat.add_assoc]; omega)
            go_wp2_with fail
            go_roundw
            case rel => exact ⟨k + 1, true, by omega, by simp, rfl, HN.out, trivial⟩
            case measure => simp [intOf]; omega
    · have hd : t.drop (p + k) = [] := List.drop_eq_nil_of_le (by omega)
      have i3 : IntKind.i64.wrap ((p : Int) + (k : Int)) = (p : Int) + (k : Int) := IntWalk.i64_in _ (by omega)
      rw [hd] at hg
      have HN := Lib.hid (show G = k by simpa [gapC] using hg)
      clear hg hd
      go_wp2_with fail
      go_ret
      exact ⟨ret_int (by rw [HN.out]), rfl⟩
end Go.Proofs.YtblgfillaenemaaDoor
