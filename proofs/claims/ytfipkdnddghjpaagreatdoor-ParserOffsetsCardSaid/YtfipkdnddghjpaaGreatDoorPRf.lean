import Derived.Test.YtfipkdnddghjpaaGreatDoorKSlc
import Derived.Test.YtfipkdnddghjpaaGreatDoorPLx
/- The reference's letters, gaps and symbols. -/
namespace Go.Proofs.YtfipkdnddghjpaaGreatDoor
open Go.RowKit

open L7 (Lt Dg In gapC gap symN syms)

theorem lt_yes {c : UInt8} (h : ((97 : Int) ≤ (c.toNat : Int) ∧ (c.toNat : Int) ≤ 122) ∨ ((65 : Int) ≤ (c.toNat : Int) ∧ (c.toNat : Int) ≤ 90)) : Lt c = true := by
  unfold Lt
  simp only [Bool.or_eq_true, Bool.and_eq_true, decide_eq_true_eq]
  omega
theorem lt_no {c : UInt8} (h : ¬ (((97 : Int) ≤ (c.toNat : Int) ∧ (c.toNat : Int) ≤ 122) ∨ ((65 : Int) ≤ (c.toNat : Int) ∧ (c.toNat : Int) ≤ 90))) : Lt c = false := by
  cases hl : Lt c with
  | false => rfl
  | true =>
    unfold Lt at hl
    simp only [Bool.or_eq_true, Bool.and_eq_true, decide_eq_true_eq] at hl
    omega
theorem dg_yes {c : UInt8} (h1 : (48 : Int) ≤ (c.toNat : Int)) (h2 : (c.toNat : Int) ≤ 57) : Dg c = true := by
  unfold Dg
  simp only [Bool.and_eq_true, decide_eq_true_eq]
  omega
theorem dg_no {c : UInt8} (h : ¬ ((48 : Int) ≤ (c.toNat : Int) ∧ (c.toNat : Int) ≤ 57)) : Dg c = false := by
  cases hl : Dg c with
  | false => rfl
  | true =>
    unfold Dg at hl
    simp only [Bool.and_eq_true, decide_eq_true_eq] at hl
    omega
theorem eq_of_int {c d : UInt8} (h : (c.toNat : Int) = (d.toNat : Int)) : c = d := UInt8.toNat_inj.1 (by omega)
theorem ne_of_int {c d : UInt8} (h : ¬ (c.toNat : Int) = (d.toNat : Int)) : c ≠ d := fun e => h (by rw [e])
set_option maxRecDepth 100000 in
set_option maxHeartbeats 2000000 in
theorem letter_rf (c : UInt8) (w : World) : Calls Tryz.prog 70 #[.int .u8 (c.toNat : Int)] w (fun e w' => e = .returned (.bool (Lt c)) ∧ w = w') := by
  by_cases h1 : (97 : Int) ≤ (c.toNat : Int)
  · by_cases h2 : (c.toNat : Int) ≤ 122
    · have HF := Lib.hid (show Lt c = true from lt_yes (by omega))
      rw [HF.out]
      go_enter Tryz.func70, Tryz.ntmps70
      go_wp2_with fail
      go_ret
      exact ⟨rfl, rfl⟩
    · by_cases h3 : (c.toNat : Int) ≤ 90
      · omega
      · have HF := Lib.hid (show Lt c = false from lt_no (by omega))
        rw [HF.out]
        go_enter Tryz.func70, Tryz.ntmps70
        go_wp2_with fail
        go_ret
        exact ⟨rfl, rfl⟩
  · by_cases h2 : (65 : Int) ≤ (c.toNat : Int)
    · by_cases h3 : (c.toNat : Int) ≤ 90
      · have HF := Lib.hid (show Lt c = true from lt_yes (by omega))
        rw [HF.out]
        go_enter Tryz.func70, Tryz.ntmps70
        go_wp2_with fail
        go_ret
        exact ⟨rfl, rfl⟩
      · have HF := Lib.hid (show Lt c = false from lt_no (by omega))
        rw [HF.out]
        go_enter Tryz.func70, Tryz.ntmps70
        go_wp2_with fail
        go_ret
        exact ⟨rfl, rfl⟩
    · have HF := Lib.hid (show Lt c = false from lt_no (by omega))
      rw [HF.out]
      go_enter Tryz.func70, Tryz.ntmps70
      go_wp2_with fail
      go_ret
      exact ⟨rfl, rfl⟩
set_option maxRecDepth 100000 in
set_option maxHeartbeats 2000000 in
theorem digit_rf (c : UInt8) (w : World) : Calls Tryz.prog 72 #[.int .u8 (c.toNat : Int)] w (fun e w' => e = .returned (.bool (Dg c)) ∧ w = w') := by
  by_cases h1 : (48 : Int) ≤ (c.toNat : Int)
  · by_cases h2 : (c.toNat : Int) ≤ 57
    · have HF := Lib.hid (show Dg c = true from dg_yes h1 h2)
      rw [HF.out]
      go_enter Tryz.func72, Tryz.ntmps72
      go_wp2_with fail
      go_ret
      exact ⟨rfl, rfl⟩
    · have HF := Lib.hid (show Dg c = false from dg_no (by omega))
      rw [HF.out]
      go_enter Tryz.func72, Tryz.ntmps72
      go_wp2_with fail
      go_ret
      exact ⟨rfl, rfl⟩
  · have HF := Lib.hid (show Dg c = false from dg_no (by omega))
    rw [HF.out]
    go_enter Tryz.func72, Tryz.ntmps72
    go_wp2_with fail
    go_ret
    exact ⟨rfl, rfl⟩
set_option maxRecDepth 100000 in
set_option maxHeartbeats 2000000 in
theorem inner_rf (c : UInt8) (w : World) : Calls Tryz.prog 71 #[.int .u8 (c.toNat : Int)] w (fun e w' => e = .returned (.bool (In c)) ∧ w = w') := by
  obtain ⟨r1, e1⟩ : ∃ r, Lt c = r := ⟨_, rfl⟩
  obtain ⟨r2, e2⟩ : ∃ r, Dg c = r := ⟨_, rfl⟩
  have C1 := Lib.hid (fun W => (show Calls Tryz.prog 70 #[.int .u8 (c.toNat : Int)] W (fun e w' => e = .returned (.bool r1) ∧ W = w') by rw [← e1]; exact letter_rf c W))
  have C2 := Lib.hid (fun W => (show Calls Tryz.prog 72 #[.int .u8 (c.toNat : Int)] W (fun e w' => e = .returned (.bool r2) ∧ W = w') by rw [← e2]; exact digit_rf c W))
  have HF := Lib.hid (show In c = (r1 || r2 || c == 95) by unfold In; rw [e1, e2])
  rw [HF.out]
  clear e1 e2
  go_enter Tryz.func71, Tryz.ntmps71
  cases r1
  · cases r2
    · by_cases h : (c.toNat : Int) = 95
      · have HG := Lib.hid (show (c == 95) = true by rw [beq_iff_eq]; exact eq_of_int h)
        have d1 : ((c.toNat : Int) == 95) = true := by simpa using h
        clear h
        rw [HG.out]
        go_wp2_with (first | (go_at_call 70; refine (C1.out _).mono ?_; rintro e w1 ⟨rfl, rfl⟩) | (go_at_call 72; refine (C2.out _).mono ?_; rintro e w1 ⟨rfl, rfl⟩))
        go_ret
        exact ⟨rfl, rfl⟩
      · have HG := Lib.hid (show (c == 95) = false by rw [beq_eq_false_iff_ne]; exact ne_of_int h)
        have d1 : ((c.toNat : Int) == 95) = false := by simpa using h
        clear h
        rw [HG.out]
        go_wp2_with (first | (go_at_call 70; refine (C1.out _).mono ?_; rintro e w1 ⟨rfl, rfl⟩) | (go_at_call 72; refine (C2.out _).mono ?_; rintro e w1 ⟨rfl, rfl⟩))
        go_ret
        exact ⟨rfl, rfl⟩
    · go_wp2_with (first | (go_at_call 70; refine (C1.out _).mono ?_; rintro e w1 ⟨rfl, rfl⟩) | (go_at_call 72; refine (C2.out _).mono ?_; rintro e w1 ⟨rfl, rfl⟩))
      go_ret
      exact ⟨rfl, rfl⟩
  · go_wp2_with (go_at_call 70; refine (C1.out _).mono ?_; rintro e w1 ⟨rfl, rfl⟩)
    go_ret
    exact ⟨rfl, rfl⟩

/-! ### Gap. -/
theorem gap_go {cm : Bool} {c : UInt8} {r : List UInt8} : (c = 10 → gapC cm (c :: r) = gapC false r + 1) ∧ (c ≠ 10 → c = 35 → gapC cm (c :: r) = gapC true r + 1) :=
  ⟨fun h => L7.gapC_nl h, fun h h2 => L7.gapC_hash h h2⟩
set_option maxRecDepth 100000 in
set_option maxHeartbeats 2000000 in
theorem gap_rf (t : Txt) (p : Nat) (hp : p ≤ t.length) (htl : t.length ≤ 100000) (w : World) :
    Calls Tryz.prog 35 #[str t, .int .i64 (p : Int)] w fun e w' => e = .returned (.int .i64 (gap (t.drop p) : Int)) ∧ w = w' := by
  obtain ⟨G, hG⟩ : ∃ G, gap (t.drop p) = G := ⟨_, rfl⟩
  rw [hG]
  have HG := Lib.hid hG
  have hsz := sz t
  clear hG
  go_enter Tryz.func35, Tryz.ntmps35
  go_wp2_with fail
  go_loopw [5, 6] (fun i c wr => ∃ (k : Nat) (cm : Bool), p + k ≤ t.length ∧ i = .int .i64 (k : Int) ∧ c = .bool cm ∧ G = k + gapC cm (t.drop (p + k)) ∧ wr = w) (fun i _ _ => t.length - (intOf i).toNat)
  case atStart => exact ⟨0, false, by omega, by simp, rfl, by have := HG.out; simpa using this.symm, rfl⟩
  case round =>
    obtain ⟨k, cm, hk, rfl, rfl, hg, rfl⟩ := hrel
    by_cases hlt : p + k < t.length
    · have hd : t.drop (p + k) = t[p + k] :: t.drop (p + k + 1) := List.drop_eq_getElem_cons hlt
      obtain ⟨c, hc⟩ : ∃ c, t[p + k] = c := ⟨_, rfl⟩
      rw [hd, hc] at hg
      have HGG := Lib.hid hg
      have ex : ∀ h, (⟨t.toArray⟩ : ByteArray)[p + k]'h = c := fun _ => hc
      have i1 : (0 : Int) ≤ (p : Int) + (k : Int) := by omega
      have i2 : (p : Int) + (k : Int) < (t.length : Int) := by omega
      have i3 : IntKind.i64.wrap ((p : Int) + (k : Int)) = (p : Int) + (k : Int) := IntWalk.i64_in _ (by omega)
      clear hg hd hc
      by_cases h1 : (c.toNat : Int) = 10
      · have HN := Lib.hid (show G = k + 1 + gapC false (t.drop (p + (k + 1))) from by have := HGG.out; rw [L7.gapC_nl (eq_of_int (d := 10) h1)] at this; rw [← Nat.add_assoc]; omega)
        go_wp2_with fail
        go_roundw
        case rel => exact ⟨k + 1, false, by omega, by simp, rfl, HN.out, trivial⟩
        case measure => simp [intOf]; omega
      · by_cases h2 : (c.toNat : Int) = 35
        · have HN := Lib.hid (show G = k + 1 + gapC true (t.drop (p + (k + 1))) from by have := HGG.out; rw [L7.gapC_hash (ne_of_int (d := 10) h1) (eq_of_int (d := 35) h2)] at this; rw [← Nat.add_assoc]; omega)
          go_wp2_with fail
          go_roundw
          case rel => exact ⟨k + 1, true, by omega, by simp, rfl, HN.out, trivial⟩
          case measure => simp [intOf]; omega
        · cases cm
          · by_cases h3 : (c.toNat : Int) = 32
            · have HN := Lib.hid (show G = k + 1 + gapC false (t.drop (p + (k + 1))) from by have := HGG.out; rw [L7.gapC_in (ne_of_int (d := 10) h1) (ne_of_int (d := 35) h2) (fun q => q.2.1 (eq_of_int (d := 32) h3))] at this; rw [← Nat.add_assoc]; omega)
              have d1 : ((c.toNat : Int) != 32) = false := by simp [h3]
              go_wp2_with fail
              go_roundw
              case rel => exact ⟨k + 1, false, by omega, by simp, rfl, HN.out, trivial⟩
              case measure => simp [intOf]; omega
            · by_cases h4 : (c.toNat : Int) = 9
              · have HN := Lib.hid (show G = k + 1 + gapC false (t.drop (p + (k + 1))) from by have := HGG.out; rw [L7.gapC_in (ne_of_int (d := 10) h1) (ne_of_int (d := 35) h2) (fun q => q.2.2 (eq_of_int (d := 9) h4))] at this; rw [← Nat.add_assoc]; omega)
                have d1 : ((c.toNat : Int) != 32) = true := by simpa using h3
                have d2 : ((c.toNat : Int) != 9) = false := by simp [h4]
                go_wp2_with fail
                go_roundw
                case rel => exact ⟨k + 1, false, by omega, by simp, rfl, HN.out, trivial⟩
                case measure => simp [intOf]; omega
              · have HN := Lib.hid (show G = k from by have := HGG.out; rw [L7.gapC_tok (ne_of_int (d := 10) h1) (ne_of_int (d := 35) h2) ⟨rfl, ne_of_int (d := 32) h3, ne_of_int (d := 9) h4⟩] at this; omega)
                have d1 : ((c.toNat : Int) != 32) = true := by simpa using h3
                have d2 : ((c.toNat : Int) != 9) = true := by simpa using h4
                go_wp2_with fail
                go_ret
                exact ⟨ret_int (by rw [HN.out]), rfl⟩
          · have HN := Lib.hid (show G = k + 1 + gapC true (t.drop (p + (k + 1))) from by have := HGG.out; rw [L7.gapC_in (ne_of_int (d := 10) h1) (ne_of_int (d := 35) h2) (fun q => by simp at q)] at this; rw [← Nat.add_assoc]; omega)
            go_wp2_with fail
            go_roundw
            case rel => exact ⟨k + 1, true, by omega, by simp, rfl, HN.out, trivial⟩
            case measure => simp [intOf]; omega
    · have hd : t.drop (p + k) = [] := List.drop_eq_nil_of_le (by omega)
      have i3 : IntKind.i64.wrap ((p : Int) + (k : Int)) = (p : Int) + (k : Int) := IntWalk.i64_in _ (by omega)
      rw [hd] at hg
      have HN := Lib.hid (show G = k by simpa [gapC] using hg)
      clear hg hd
      go_wp2_with fail
      go_ret
      exact ⟨ret_int (by rw [HN.out]), rfl⟩
end Go.Proofs.YtfipkdnddghjpaaGreatDoor

/- The reference's symbol. -/
namespace Go.Proofs.YtfipkdnddghjpaaGreatDoor
open Go.RowKit

open L7 (Lt Dg In gapC gap symN syms)

set_option maxRecDepth 100000 in
set_option maxHeartbeats 2000000 in
theorem symbol_two_a (t : Txt) (p : Nat) (hp : p < t.length) (htl : t.length ≤ 100000) (c : UInt8) (hc : t[p] = c) (hp1 : p + 1 < t.length) (hd0 : t[p + 1] = 61) (h2 : c = 33) (w : World) : Calls Tryz.prog 74 #[str t, .int .i64 (p : Int)] w fun e w' => e = .returned (.int .i64 2) ∧ Below w.heap.size w w' := by
  subst h2
  have hsz := sz t
  have ex : ∀ h, (⟨t.toArray⟩ : ByteArray)[p]'h = 33 := fun _ => hc
  have i1 : (0 : Int) ≤ (p : Int) := by omega
  have i2 : (p : Int) < (t.length : Int) := by omega
  have i3 : IntKind.i64.wrap ((p : Int) + 1) = (p : Int) + 1 := IntWalk.i64_in _ (by omega)
  have hd : t[p + 1] = 61 := hd0
  have ex1 : ∀ h, (⟨t.toArray⟩ : ByteArray)[p + 1]'h = 61 := fun _ => hd
  clear hc hd hd0
  go_enter Tryz.func74, Tryz.ntmps74
  go_wp2_with fail
  go_ret
  exact ⟨rfl, Below.refl _ _⟩
set_option maxRecDepth 100000 in
set_option maxHeartbeats 2000000 in
theorem symbol_two_b (t : Txt) (p : Nat) (hp : p < t.length) (htl : t.length ≤ 100000) (c : UInt8) (hc : t[p] = c) (hp1 : p + 1 < t.length) (hd0 : t[p + 1] = 61) (h2 : c = 60) (w : World) : Calls Tryz.prog 74 #[str t, .int .i64 (p : Int)] w fun e w' => e = .returned (.int .i64 2) ∧ Below w.heap.size w w' := by
  subst h2
  have hsz := sz t
  have ex : ∀ h, (⟨t.toArray⟩ : ByteArray)[p]'h = 60 := fun _ => hc
  have i1 : (0 : Int) ≤ (p : Int) := by omega
  have i2 : (p : Int) < (t.length : Int) := by omega
  have i3 : IntKind.i64.wrap ((p : Int) + 1) = (p : Int) + 1 := IntWalk.i64_in _ (by omega)
  have hd : t[p + 1] = 61 := hd0
  have ex1 : ∀ h, (⟨t.toArray⟩ : ByteArray)[p + 1]'h = 61 := fun _ => hd
  clear hc hd hd0
  go_enter Tryz.func74, Tryz.ntmps74
  go_wp2_with fail
  go_ret
  exact ⟨rfl, Below.refl _ _⟩
set_option maxRecDepth 100000 in
set_option maxHeartbeats 2000000 in
theorem symbol_one_none (t : Txt) (p : Nat) (hp : p < t.length) (htl : t.length ≤ 100000) (c : UInt8) (hc : t[p] = c) (hp1 : ¬ p + 1 < t.length) (r : Int) (hs : (c ∈ syms → r = 1) ∧ (c ∉ syms → r = 0)) (w : World) : Calls Tryz.prog 74 #[str t, .int .i64 (p : Int)] w fun e w' => e = .returned (.int .i64 r) ∧ Below w.heap.size w w' := by
  have HS := Lib.hid hs
  have hsz := sz t
  have ex : ∀ h, (⟨t.toArray⟩ : ByteArray)[p]'h = c := fun _ => hc
  have i1 : (0 : Int) ≤ (p : Int) := by omega
  have i2 : (p : Int) < (t.length : Int) := by omega
  have i3 : IntKind.i64.wrap ((p : Int) + 1) = (p : Int) + 1 := IntWalk.i64_in _ (by omega)
  clear hs hc
  go_enter Tryz.func74, Tryz.ntmps74
  go_wp2_with fail
  go_loopw [5] (fun i wr => ∃ k : Nat, k ≤ 14 ∧ i = .int .i64 (k : Int) ∧ (∀ j (hj : j < 14), j < k → syms[j]'hj ≠ c) ∧ Below w.heap.size w wr) (fun i _ => 14 - (intOf i).toNat)
  case atStart => exact ⟨0, by omega, by simp, fun j _ hj => by omega, Below.refl _ _⟩
  case round =>
    obtain ⟨k, hk, rfl, hn, hb⟩ := hrel
    have HN := Lib.hid hn
    have HB := Lib.hid hb
    clear hn hb
    by_cases hlt : k < 14
    · obtain ⟨s, hs⟩ : ∃ s, syms[k]'hlt = s := ⟨_, rfl⟩
      have ey : ∀ h, (⟨#[59, 58, 44, 46, 40, 41, 123, 125, 61, 60, 43, 45, 47, 64]⟩ : ByteArray)[k]'h = s := fun _ => hs
      have k1 : (0 : Int) ≤ (k : Int) := by omega
      have k2 : (k : Int) < 14 := by omega
      by_cases hsc : s = c
      · have HF := Lib.hid (HS.out.1 (by rw [← hsc, ← hs]; exact List.getElem_mem _))
        have d9 : ((s.toNat : Int) == (c.toNat : Int)) = true := by simp [hsc]
        clear hs hsc
        go_wp2_with fail
        go_quiet (fail)
        go_wp2_with fail
        go_ret
        exact ⟨ret_int HF.out.symm, HB.out.trans (below_drewN _ _ _)⟩
      · have HX := Lib.hid (show ∀ j (hj : j < 14), j < k + 1 → syms[j]'hj ≠ c from fun j hj hjk => by
          by_cases e : j = k
          · subst e
            rw [hs]
            exact hsc
          · exact HN.out j hj (by omega))
        have d9 : ((s.toNat : Int) == (c.toNat : Int)) = false := by rw [beq_eq_false_iff_ne]; exact fun e => hsc (eq_of_int e)
        clear hs hsc
        go_wp2_with fail
        go_quiet (fail)
        go_wp2_with fail
        go_roundw
        case rel => exact ⟨k + 1, by omega, by simp, HX.out, HB.out.trans (below_drewN _ _ _)⟩
        case measure => simp [intOf]; omega
    · have HF := Lib.hid (HS.out.2 (fun hm => by
        obtain ⟨j, hj, e⟩ := List.mem_iff_getElem.1 hm
        exact HN.out j hj (by have : syms.length = 14 := rfl; omega) e))
      go_wp2_with fail
      go_ret
      exact ⟨ret_int HF.out.symm, HB.out⟩
set_option maxRecDepth 100000 in
set_option maxHeartbeats 2000000 in
theorem symbol_one_other (t : Txt) (p : Nat) (hp : p < t.length) (htl : t.length ≤ 100000) (c : UInt8) (hc : t[p] = c) (hp1 : p + 1 < t.length) (d : UInt8) (hd : t[p + 1] = d) (hd2 : d ≠ 61) (r : Int) (hs : (c ∈ syms → r = 1) ∧ (c ∉ syms → r = 0)) (w : World) : Calls Tryz.prog 74 #[str t, .int .i64 (p : Int)] w fun e w' => e = .returned (.int .i64 r) ∧ Below w.heap.size w w' := by
  have HS := Lib.hid hs
  have hsz := sz t
  have ex : ∀ h, (⟨t.toArray⟩ : ByteArray)[p]'h = c := fun _ => hc
  have i1 : (0 : Int) ≤ (p : Int) := by omega
  have i2 : (p : Int) < (t.length : Int) := by omega
  have i3 : IntKind.i64.wrap ((p : Int) + 1) = (p : Int) + 1 := IntWalk.i64_in _ (by omega)
  have ex1 : ∀ h, (⟨t.toArray⟩ : ByteArray)[p + 1]'h = d := fun _ => hd
  have d1 : ((d.toNat : Int) == 61) = false := by rw [beq_eq_false_iff_ne]; exact fun e => hd2 (eq_of_int (d := 61) e)
  clear hs hc hd hd2
  go_enter Tryz.func74, Tryz.ntmps74
  go_wp2_with fail
  go_loopw [5] (fun i wr => ∃ k : Nat, k ≤ 14 ∧ i = .int .i64 (k : Int) ∧ (∀ j (hj : j < 14), j < k → syms[j]'hj ≠ c) ∧ Below w.heap.size w wr) (fun i _ => 14 - (intOf i).toNat)
  case atStart => exact ⟨0, by omega, by simp, fun j _ hj => by omega, Below.refl _ _⟩
  case round =>
    obtain ⟨k, hk, rfl, hn, hb⟩ := hrel
    have HN := Lib.hid hn
    have HB := Lib.hid hb
    clear hn hb
    by_cases hlt : k < 14
    · obtain ⟨s, hs⟩ : ∃ s, syms[k]'hlt = s := ⟨_, rfl⟩
      have ey : ∀ h, (⟨#[59, 58, 44, 46, 40, 41, 123, 125, 61, 60, 43, 45, 47, 64]⟩ : ByteArray)[k]'h = s := fun _ => hs
      have k1 : (0 : Int) ≤ (k : Int) := by omega
      have k2 : (k : Int) < 14 := by omega
      by_cases hsc : s = c
      · have HF := Lib.hid (HS.out.1 (by rw [← hsc, ← hs]; exact List.getElem_mem _))
        have d9 : ((s.toNat : Int) == (c.toNat : Int)) = true := by simp [hsc]
        clear hs hsc
        go_wp2_with fail
        go_quiet (fail)
        go_wp2_with fail
        go_ret
        exact ⟨ret_int HF.out.symm, HB.out.trans (below_drewN _ _ _)⟩
      · have HX := Lib.hid (show ∀ j (hj : j < 14), j < k + 1 → syms[j]'hj ≠ c from fun j hj hjk => by
          by_cases e : j = k
          · subst e
            rw [hs]
            exact hsc
          · exact HN.out j hj (by omega))
        have d9 : ((s.toNat : Int) == (c.toNat : Int)) = false := by rw [beq_eq_false_iff_ne]; exact fun e => hsc (eq_of_int e)
        clear hs hsc
        go_wp2_with fail
        go_quiet (fail)
        go_wp2_with fail
        go_roundw
        case rel => exact ⟨k + 1, by omega, by simp, HX.out, HB.out.trans (below_drewN _ _ _)⟩
        case measure => simp [intOf]; omega
    · have HF := Lib.hid (HS.out.2 (fun hm => by
        obtain ⟨j, hj, e⟩ := List.mem_iff_getElem.1 hm
        exact HN.out j hj (by have : syms.length = 14 := rfl; omega) e))
      go_wp2_with fail
      go_ret
      exact ⟨ret_int HF.out.symm, HB.out⟩
set_option maxRecDepth 100000 in
set_option maxHeartbeats 2000000 in
theorem symbol_one_eq (t : Txt) (p : Nat) (hp : p < t.length) (htl : t.length ≤ 100000) (c : UInt8) (hc : t[p] = c) (hp1 : p + 1 < t.length) (hd0 : t[p + 1] = 61) (h1 : c ≠ 33) (h2 : c ≠ 60) (r : Int) (hs : (c ∈ syms → r = 1) ∧ (c ∉ syms → r = 0)) (w : World) : Calls Tryz.prog 74 #[str t, .int .i64 (p : Int)] w fun e w' => e = .returned (.int .i64 r) ∧ Below w.heap.size w w' := by
  have HS := Lib.hid hs
  have hsz := sz t
  have ex : ∀ h, (⟨t.toArray⟩ : ByteArray)[p]'h = c := fun _ => hc
  have i1 : (0 : Int) ≤ (p : Int) := by omega
  have i2 : (p : Int) < (t.length : Int) := by omega
  have i3 : IntKind.i64.wrap ((p : Int) + 1) = (p : Int) + 1 := IntWalk.i64_in _ (by omega)
  have hd : t[p + 1] = 61 := hd0
  have ex1 : ∀ h, (⟨t.toArray⟩ : ByteArray)[p + 1]'h = 61 := fun _ => hd
  have d1 : ((c.toNat : Int) == 33) = false := by rw [beq_eq_false_iff_ne]; exact fun e => h1 (eq_of_int (d := 33) e)
  have d2 : ((c.toNat : Int) == 60) = false := by rw [beq_eq_false_iff_ne]; exact fun e => h2 (eq_of_int (d := 60) e)
  clear hs hc hd hd0 h1 h2
  go_enter Tryz.func74, Tryz.ntmps74
  go_wp2_with fail
  go_loopw [5] (fun i wr => ∃ k : Nat, k ≤ 14 ∧ i = .int .i64 (k : Int) ∧ (∀ j (hj : j < 14), j < k → syms[j]'hj ≠ c) ∧ Below w.heap.size w wr) (fun i _ => 14 - (intOf i).toNat)
  case atStart => exact ⟨0, by omega, by simp, fun j _ hj => by omega, Below.refl _ _⟩
  case round =>
    obtain ⟨k, hk, rfl, hn, hb⟩ := hrel
    have HN := Lib.hid hn
    have HB := Lib.hid hb
    clear hn hb
    by_cases hlt : k < 14
    · obtain ⟨s, hs⟩ : ∃ s, syms[k]'hlt = s := ⟨_, rfl⟩
      have ey : ∀ h, (⟨#[59, 58, 44, 46, 40, 41, 123, 125, 61, 60, 43, 45, 47, 64]⟩ : ByteArray)[k]'h = s := fun _ => hs
      have k1 : (0 : Int) ≤ (k : Int) := by omega
      have k2 : (k : Int) < 14 := by omega
      by_cases hsc : s = c
      · have HF := Lib.hid (HS.out.1 (by rw [← hsc, ← hs]; exact List.getElem_mem _))
        have d9 : ((s.toNat : Int) == (c.toNat : Int)) = true := by simp [hsc]
        clear hs hsc
        go_wp2_with fail
        go_quiet (fail)
        go_wp2_with fail
        go_ret
        exact ⟨ret_int HF.out.symm, HB.out.trans (below_drewN _ _ _)⟩
      · have HX := Lib.hid (show ∀ j (hj : j < 14), j < k + 1 → syms[j]'hj ≠ c from fun j hj hjk => by
          by_cases e : j = k
          · subst e
            rw [hs]
            exact hsc
          · exact HN.out j hj (by omega))
        have d9 : ((s.toNat : Int) == (c.toNat : Int)) = false := by rw [beq_eq_false_iff_ne]; exact fun e => hsc (eq_of_int e)
        clear hs hsc
        go_wp2_with fail
        go_quiet (fail)
        go_wp2_with fail
        go_roundw
        case rel => exact ⟨k + 1, by omega, by simp, HX.out, HB.out.trans (below_drewN _ _ _)⟩
        case measure => simp [intOf]; omega
    · have HF := Lib.hid (HS.out.2 (fun hm => by
        obtain ⟨j, hj, e⟩ := List.mem_iff_getElem.1 hm
        exact HN.out j hj (by have : syms.length = 14 := rfl; omega) e))
      go_wp2_with fail
      go_ret
      exact ⟨ret_int HF.out.symm, HB.out⟩
theorem symbol_rf (t : Txt) (p : Nat) (hp : p < t.length) (htl : t.length ≤ 100000) (w : World) : Calls Tryz.prog 74 #[str t, .int .i64 (p : Int)] w fun e w' => e = .returned (.int .i64 ((symN (t.drop p) : Nat) : Int)) ∧ Below w.heap.size w w' := by
  have hdr : t.drop p = t[p] :: t.drop (p + 1) := List.drop_eq_getElem_cons hp
  rw [hdr]
  have one : ¬ ((t.drop (p + 1)).head? = some 61 ∧ (t[p] = 33 ∨ t[p] = 60)) → (t[p] ∈ syms → ((symN (t[p] :: t.drop (p + 1)) : Nat) : Int) = 1) ∧ (t[p] ∉ syms → ((symN (t[p] :: t.drop (p + 1)) : Nat) : Int) = 0) := fun hn => by
    constructor <;> intro h <;> rw [L7.symN_cons, if_neg hn]
    · rw [if_pos h]; rfl
    · rw [if_neg h]; rfl
  by_cases h1 : p + 1 < t.length
  · have hh : (t.drop (p + 1)).head? = some t[p + 1] := by rw [List.drop_eq_getElem_cons h1]; rfl
    by_cases h2 : t[p + 1] = 61
    · by_cases h3 : t[p] = 33
      · have e : symN (t[p] :: t.drop (p + 1)) = 2 := by rw [L7.symN_cons, if_pos ⟨by rw [hh, h2], .inl h3⟩]
        rw [e]
        exact symbol_two_a t p hp htl _ rfl h1 h2 h3 w
      · by_cases h4 : t[p] = 60
        · have e : symN (t[p] :: t.drop (p + 1)) = 2 := by rw [L7.symN_cons, if_pos ⟨by rw [hh, h2], .inr h4⟩]
          rw [e]
          exact symbol_two_b t p hp htl _ rfl h1 h2 h4 w
        · exact symbol_one_eq t p hp htl _ rfl h1 h2 h3 h4 _ (one (fun q => q.2.elim h3 h4)) w
    · exact symbol_one_other t p hp htl _ rfl h1 _ rfl h2 _ (one (fun q => h2 (by rw [hh] at q; exact Option.some.inj q.1))) w
  · exact symbol_one_none t p hp htl _ rfl h1 _ (one (fun q => by rw [List.drop_eq_nil_of_le (by omega)] at q; simp at q)) w
end Go.Proofs.YtfipkdnddghjpaaGreatDoor

/- The reference's content. -/
namespace Go.Proofs.YtfipkdnddghjpaaGreatDoor
open Go.RowKit

open L7 (con con_esc con_plain)

/-- What has been read of a content: acc, out of m bytes; rest is still to be read. -/
def CI (r0 acc : List UInt8) (m : Nat) (rest : List UInt8) : Prop := (con r0).2.2 = (con rest).2.2 ∧ ((con rest).2.2 = 0 → (con r0).1 = acc ++ (con rest).1 ∧ (con r0).2.1 = m + (con rest).2.1)
theorem ci_start (r : List UInt8) : CI r [] 0 r := ⟨rfl, fun _ => ⟨rfl, by omega⟩⟩
theorem ci_plain {r0 acc rest : List UInt8} {m : Nat} {c : UInt8} (h1 : c ≠ 34) (h2 : c ≠ 10) (h3 : c ≠ 92) (h : CI r0 acc m (c :: rest)) : CI r0 (acc ++ [c]) (m + 1) rest := by
  by_cases hr : rest = []
  · subst hr
    have e1 : (con [c]).2.2 = 7 := by rw [con, if_neg h1, if_neg h2]
    have e2 : (con []).2.2 = 7 := by rw [con]
    refine ⟨by rw [h.1, e1, e2], fun q => ?_⟩
    rw [e2] at q
    simp at q
  · obtain ⟨a, b⟩ := h
    rw [con_plain h1 h2 h3 hr] at a b
    refine ⟨a, fun q => ?_⟩
    obtain ⟨x, y⟩ := b q
    refine ⟨?_, ?_⟩
    · rw [x, List.append_assoc]; rfl
    · rw [y]
      show m + ((con rest).2.1 + 1) = _
      omega
theorem ci_esc {r0 acc rest : List UInt8} {m : Nat} {d : UInt8} (hd : d = 34 ∨ d = 92 ∨ d = 110) (h : CI r0 acc m (92 :: d :: rest)) : CI r0 (acc ++ [if d = 110 then 10 else d]) (m + 2) rest := by
  obtain ⟨a, b⟩ := h
  rw [con_esc hd] at a b
  refine ⟨a, fun q => ?_⟩
  obtain ⟨x, y⟩ := b q
  refine ⟨?_, ?_⟩
  · rw [x, List.append_assoc]; rfl
  · rw [y]
    show m + ((con rest).2.1 + 2) = _
    omega
theorem ci_end {r0 acc rest : List UInt8} {m : Nat} (h : CI r0 acc m (34 :: rest)) : con r0 = (acc, m + 1, 0) := by
  obtain ⟨a, b⟩ := h
  rw [L7.con_end] at a b
  obtain ⟨x, y⟩ := b rfl
  exact Prod.ext (by rw [x]; simp) (Prod.ext y a)
theorem ci_err {r0 acc rest : List UInt8} {m : Nat} {e : Int} (h : CI r0 acc m rest) (he : (con rest).2.2 = e) : (con r0).2.2 = e := h.1.trans he
theorem con_nl (rest : List UInt8) : (con (10 :: rest)).2.2 = 5 := by
  cases rest with
  | nil => rw [con, if_neg (by decide), if_pos rfl]
  | cons d r => rw [con, if_neg (by decide), if_pos rfl]
theorem con_bad {d : UInt8} {r : List UInt8} (h : ¬ (d = 34 ∨ d = 92 ∨ d = 110)) : (con (92 :: d :: r)).2.2 = 5 := by rw [con, if_neg (by decide), if_neg (by decide), if_pos rfl, if_neg h]
theorem con_bs : (con [92]).2.2 = 7 := by rw [con, if_neg (by decide), if_neg (by decide)]
/-- What content returns. -/
def ctT (r : List UInt8) : List UInt8 × Nat × Int := if (con r).2.2 ≠ 0 then ([], 0, (con r).2.2) else if 200 < (con r).1.length then ([], 0, 3) else ((con r).1, (con r).2.1 + 1, 0)
theorem ct_err {r : List UInt8} {e : Int} (h : (con r).2.2 = e) (he : e ≠ 0) : ctT r = ([], 0, e) := by unfold ctT; rw [h, if_pos he]
theorem ct_long {r acc : List UInt8} {m : Nat} (h : con r = (acc, m, 0)) (hl : 200 < acc.length) : ctT r = ([], 0, 3) := by unfold ctT; rw [h, if_neg (by simp), if_pos hl]
theorem ct_ok {r acc : List UInt8} {m : Nat} (h : con r = (acc, m, 0)) (hl : ¬ 200 < acc.length) : ctT r = (acc, m + 1, 0) := by unfold ctT; rw [h, if_neg (by simp), if_neg hl]
/-- The bytes of a row of the call's own, as a string. -/
theorem conv_own7 {w : World} {B : Nat} {v : Value} {n : Nat} {l : List UInt8} (h : w.ownsRow B 5 1 v n (bys l)) :
    (convert 129 9 v).run Tryz.prog w = .ok (.string ⟨l.toArray⟩) w := by
  have hn : n = l.length := by have := h.1; rw [bys_len] at this; omega
  subst hn
  rcases Joins.ownsRow_forms h with ⟨rfl, h0⟩ | ⟨g, cap, rfl⟩
  · obtain rfl : l = [] := List.length_eq_zero_iff.1 h0
    rw [run_convert_bytes_string w 129 9 5 none 0 0 (by kernel_rfl) (by kernel_rfl) (by kernel_rfl)]
    simp [Conv.bytesToString]
    rfl
  · refine run_convert_bytes_back w 129 9 5 ⟨g, 0, none⟩ cap l (by kernel_rfl) (by kernel_rfl) (by kernel_rfl) (fun j hj => ?_)
    have h1 := h.cells (g := g) rfl j (.int .u8 (l[j].toNat : Int)) (by unfold bys; rw [List.getElem?_map, List.getElem?_eq_getElem hj]; rfl)
    exact h1
set_option maxRecDepth 100000 in
set_option maxHeartbeats 4000000 in
theorem content_rf (t : Txt) (p : Nat) (hp : p < t.length) (htl : t.length ≤ 90000) (w : World) :
    Calls Tryz.prog 73 #[str t, .int .i64 (p : Int)] w fun e w' => e = .returned (.tuple #[str (ctT (t.drop (p + 1))).1, .int .i64 ((ctT (t.drop (p + 1))).2.1 : Int), .int .i64 (ctT (t.drop (p + 1))).2.2]) ∧ Below w.heap.size w w' := by
  have hsz := sz t
  have HTL := Lib.hid htl
  clear htl
  obtain ⟨R, hR⟩ : ∃ R, ctT (t.drop (p + 1)) = R := ⟨_, rfl⟩
  rw [hR]
  have HRR := Lib.hid hR
  clear hR
  go_enter Tryz.func73, Tryz.ntmps73
  have htl := HTL.out
  go_wp2_with fail
  go_loopw [7, 8] (fun v i wr => ∃ (k : Nat) (acc : List UInt8), p + 1 ≤ k ∧ k ≤ t.length ∧ i = .int .i64 (k : Int) ∧ acc.length ≤ k ∧ wr.ownsRow w.heap.size 5 1 v acc.length (bys acc) ∧ CI (t.drop (p + 1)) acc (k - (p + 1)) (t.drop k) ∧ Below w.heap.size w wr) (fun _ i _ => t.length + 1 - (intOf i).toNat)
  case atStart => exact ⟨p + 1, [], by omega, by omega, by simp, by simp, World.ownsRow_nil _ _ _ _, by rw [Nat.sub_self]; exact ci_start _, Below.refl _ _⟩
  case round =>
    obtain ⟨v, rfl⟩ : ∃ v, v = u7 := ⟨_, rfl⟩
    obtain ⟨k, acc, hk0, hk, rfl, hal, hown, hci, hb⟩ := hrel
    have HO := Lib.hid hown
    have HB := Lib.hid hb
    obtain ⟨Av, cv, rfl⟩ := own_isSl hown
    have cvt := conv_own7 hown
    clear hown hb
    by_cases hlt : k < t.length
    · have hd : t.drop k = t[k] :: t.drop (k + 1) := List.drop_eq_getElem_cons hlt
      obtain ⟨c, hc⟩ : ∃ c, t[k] = c := ⟨_, rfl⟩
      rw [hd, hc] at hci
      have HC := Lib.hid hci
      have ex : ∀ h, (⟨t.toArray⟩ : ByteArray)[k]'h = c := fun _ => hc
      have i1 : (0 : Int) ≤ (k : Int) := by omega
      have i2 : (k : Int) < (t.length : Int) := by omega
      have i4 : IntKind.i64.wrap ((k : Int) + 1) = (k : Int) + 1 := IntWalk.i64_in _ (by omega)
      have i5 : IntKind.i64.wrap ((k : Int) + 1 - (p : Int)) = (k : Int) + 1 - (p : Int) := IntWalk.i64_in _ (by omega)
      clear hd hc hci
      by_cases h1 : c = 34
      · have hce := ci_end (by have := HC.out; rw [h1] at this; exact this)
        have d1 : ((c.toNat : Int) == 34) = true := by rw [h1]; rfl
        have HCE := Lib.hid hce
        clear h1 hce
        by_cases hl2 : 200 < acc.length
        · have d2 : (200 : Int) < (acc.length : Int) := by omega
          have HF := Lib.hid (show R = ([], 0, 3) from HRR.out.symm.trans (ct_long HCE.out hl2))
          clear HC
          go_wp2_with fail
          go_ret3
          exact ⟨by rw [HF.out] <;> rfl, HB.out⟩
        · have d2 : ¬ (200 : Int) < (acc.length : Int) := by omega
          have HF := Lib.hid (show R = (acc, k - (p + 1) + 1 + 1, 0) from HRR.out.symm.trans (ct_ok HCE.out hl2))
          clear HC
          go_wp2_with fail
          go_ret3
          exact ⟨by rw [HF.out]; show Ending.returned (.tuple #[str acc, .int .i64 ((k : Int) + 1 - (p : Int)), .int .i64 0]) = Ending.returned (.tuple #[str acc, .int .i64 ((k - (p + 1) + 1 + 1 : Nat) : Int), .int .i64 0]); rw [show ((k - (p + 1) + 1 + 1 : Nat) : Int) = (k : Int) + 1 - (p : Int) by omega], HB.out⟩
      · have d1 : ((c.toNat : Int) == 34) = false := by rw [beq_eq_false_iff_ne]; exact fun e => h1 (eq_of_int (d := 34) e)
        by_cases h2 : c = 10
        · have d2 : ((c.toNat : Int) == 10) = true := by rw [h2]; rfl
          have he := ci_err (e := 5) HC.out (by rw [h2]; exact con_nl _)
          clear h1 h2
          have HF := Lib.hid (show R = ([], 0, 5) from HRR.out.symm.trans (ct_err he (by decide)))
          clear he
          clear HC
          go_wp2_with fail
          go_ret3
          exact ⟨by rw [HF.out] <;> rfl, HB.out⟩
        · have d2 : ((c.toNat : Int) == 10) = false := by rw [beq_eq_false_iff_ne]; exact fun e => h2 (eq_of_int (d := 10) e)
          by_cases h3 : c = 92
          · have d3 : ((c.toNat : Int) == 92) = true := by rw [h3]; rfl
            by_cases hk1 : k + 1 < t.length
            · have hd : t.drop (k + 1) = t[k + 1] :: t.drop (k + 1 + 1) := List.drop_eq_getElem_cons hk1
              obtain ⟨d, hdd⟩ : ∃ d, t[k + 1] = d := ⟨_, rfl⟩
              have hci := HC.out
              rw [h3, hd, hdd] at hci
              have HD := Lib.hid hci
              have ex1 : ∀ h, (⟨t.toArray⟩ : ByteArray)[k + 1]'h = d := fun _ => hdd
              have i6 : ((k : Int) + 1 == (t.length : Int)) = false := by rw [beq_eq_false_iff_ne]; omega
              have i7 : (k : Int) + 1 < (t.length : Int) := by omega
              have i9 : IntKind.i64.wrap ((k : Int) + 1 + 1) = (k : Int) + 1 + 1 := IntWalk.i64_in _ (by omega)
              clear hd hdd hci h1 h2 h3 HC
              by_cases h5 : d = 34
              · have f34 : ((d.toNat : Int) != 34) = false := by simp [h5]
                have g110 : ((d.toNat : Int) == 110) = false := by rw [h5]; rfl
                have HC2 := Lib.hid (show CI (t.drop (p + 1)) (acc ++ [d]) (k - (p + 1) + 2) (t.drop (k + 1 + 1)) from by have := ci_esc (.inl h5) HD.out; rwa [if_neg (by rw [h5]; decide)] at this)
                clear h5
                go_wp2_with (at_builtin; (refine wpList_app elemByte rfl (.tmp 57) (.tmp 59) rfl (base := w.heap.size) (by rfl) (World.ownsRow.alloc HO.out _) (by rfl) (src_one (cell_new1 wr (.int .u8 (d.toNat : Int)) 5) rfl) (by omega) (by have := HB.out.size; simp; omega) ?_; intro v2 w2 hown2 hg2 hat2))
                have HO2 := Lib.hid (show w2.ownsRow w.heap.size 5 1 v2 (acc ++ [d]).length (bys (acc ++ [d])) from by rw [bys_app, List.length_append]; exact hown2)
                have HB2 := Lib.hid (below_app HB.out HB.out.size HO.out hg2)
                clear hown2 hg2 hat2 HD
                go_wp2_with fail
                go_roundw
                case rel => exact ⟨k + 1 + 1, _, by omega, by omega, by simp, by simp; omega, HO2.out, by have := HC2.out; rwa [show k - (p + 1) + 2 = k + 1 + 1 - (p + 1) by omega] at this, HB2.out⟩
                case measure => simp [intOf]; omega
              · have f34 : ((d.toNat : Int) != 34) = true := by simpa using fun e => h5 (eq_of_int (d := 34) e)
                by_cases h6 : d = 92
                · have f92 : ((d.toNat : Int) != 92) = false := by simp [h6]
                  have g110 : ((d.toNat : Int) == 110) = false := by rw [h6]; rfl
                  have HC2 := Lib.hid (show CI (t.drop (p + 1)) (acc ++ [d]) (k - (p + 1) + 2) (t.drop (k + 1 + 1)) from by have := ci_esc (.inr (.inl h6)) HD.out; rwa [if_neg (by rw [h6]; decide)] at this)
                  clear h5 h6
                  go_wp2_with (at_builtin; (refine wpList_app elemByte rfl (.tmp 57) (.tmp 59) rfl (base := w.heap.size) (by rfl) (World.ownsRow.alloc HO.out _) (by rfl) (src_one (cell_new1 wr (.int .u8 (d.toNat : Int)) 5) rfl) (by omega) (by have := HB.out.size; simp; omega) ?_; intro v2 w2 hown2 hg2 hat2))
                  have HO2 := Lib.hid (show w2.ownsRow w.heap.size 5 1 v2 (acc ++ [d]).length (bys (acc ++ [d])) from by rw [bys_app, List.length_append]; exact hown2)
                  have HB2 := Lib.hid (below_app HB.out HB.out.size HO.out hg2)
                  clear hown2 hg2 hat2 HD
                  go_wp2_with fail
                  go_roundw
                  case rel => exact ⟨k + 1 + 1, _, by omega, by omega, by simp, by simp; omega, HO2.out, by have := HC2.out; rwa [show k - (p + 1) + 2 = k + 1 + 1 - (p + 1) by omega] at this, HB2.out⟩
                  case measure => simp [intOf]; omega
                · have f92 : ((d.toNat : Int) != 92) = true := by simpa using fun e => h6 (eq_of_int (d := 92) e)
                  by_cases h7 : d = 110
                  · have f110 : ((d.toNat : Int) != 110) = false := by simp [h7]
                    have g110 : ((d.toNat : Int) == 110) = true := by rw [h7]; rfl
                    have HC2 := Lib.hid (show CI (t.drop (p + 1)) (acc ++ [10]) (k - (p + 1) + 2) (t.drop (k + 1 + 1)) from by have := ci_esc (.inr (.inr h7)) HD.out; rwa [if_pos h7] at this)
                    clear h5 h6 h7
                    go_wp2_with (at_builtin; (refine wpList_app elemByte rfl (.tmp 57) (.tmp 59) rfl (base := w.heap.size) (by rfl) (World.ownsRow.alloc HO.out _) (by rfl) (src_one (cell_new1 wr (.int .u8 10) 5) rfl) (by omega) (by have := HB.out.size; simp; omega) ?_; intro v2 w2 hown2 hg2 hat2))
                    have HO2 := Lib.hid (show w2.ownsRow w.heap.size 5 1 v2 (acc ++ [10]).length (bys (acc ++ [10])) from by rw [bys_app, List.length_append]; exact hown2)
                    have HB2 := Lib.hid (below_app HB.out HB.out.size HO.out hg2)
                    clear hown2 hg2 hat2 HD
                    go_wp2_with fail
                    go_roundw
                    case rel => exact ⟨k + 1 + 1, _, by omega, by omega, by simp, by simp; omega, HO2.out, by have := HC2.out; rwa [show k - (p + 1) + 2 = k + 1 + 1 - (p + 1) by omega] at this, HB2.out⟩
                    case measure => simp [intOf]; omega
                  · have f110 : ((d.toNat : Int) != 110) = true := by simpa using fun e => h7 (eq_of_int (d := 110) e)
                    have he := ci_err (e := 5) HD.out (con_bad (fun q => q.elim h5 (fun q => q.elim h6 h7)))
                    clear h5 h6 h7 HD
                    have HF := Lib.hid (show R = ([], 0, 5) from HRR.out.symm.trans (ct_err he (by decide)))
                    clear he
                    go_wp2_with fail
                    go_ret3
                    exact ⟨by rw [HF.out] <;> rfl, HB.out⟩
            · have hd : t.drop (k + 1) = [] := List.drop_eq_nil_of_le (by omega)
              have he := ci_err (e := 7) HC.out (by rw [h3, hd]; exact con_bs)
              have i6 : ((k : Int) + 1 == (t.length : Int)) = true := by rw [beq_iff_eq]; omega
              clear hd h1 h2 h3
              have HF := Lib.hid (show R = ([], 0, 7) from HRR.out.symm.trans (ct_err he (by decide)))
              clear he
              clear HC
              go_wp2_with fail
              go_ret3
              exact ⟨by rw [HF.out] <;> rfl, HB.out⟩
          · have d3 : ((c.toNat : Int) == 92) = false := by rw [beq_eq_false_iff_ne]; exact fun e => h3 (eq_of_int (d := 92) e)
            have HC2 := Lib.hid (ci_plain h1 h2 h3 HC.out)
            clear h1 h2 h3
            go_wp2_with (at_builtin; (refine wpList_app elemByte rfl (.tmp 57) (.tmp 59) rfl (base := w.heap.size) (by rfl) (World.ownsRow.alloc HO.out _) (by rfl) (src_one (cell_new1 wr (.int .u8 (c.toNat : Int)) 5) rfl) (by omega) (by have := HB.out.size; simp; omega) ?_; intro v2 w2 hown2 hg2 hat2))
            have HO2 := Lib.hid (show w2.ownsRow w.heap.size 5 1 v2 (acc ++ [c]).length (bys (acc ++ [c])) from by rw [bys_app, List.length_append]; exact hown2)
            have HB2 := Lib.hid (below_app HB.out HB.out.size HO.out hg2)
            clear hown2 hg2 hat2 HC
            go_wp2_with fail
            go_roundw
            case rel => exact ⟨k + 1, _, by omega, by omega, by simp, by simp; omega, HO2.out, by have := HC2.out; rwa [show k - (p + 1) + 1 = k + 1 - (p + 1) by omega] at this, HB2.out⟩
            case measure => simp [intOf]; omega
    · have hd : t.drop k = [] := List.drop_eq_nil_of_le (by omega)
      rw [hd] at hci
      have he := ci_err (e := 7) hci (show (con []).2.2 = 7 by rw [con])
      clear hd hci
      have HF := Lib.hid (show R = ([], 0, 7) from HRR.out.symm.trans (ct_err he (by decide)))
      clear he
      go_wp2_with fail
      go_ret3
      exact ⟨by rw [HF.out] <;> rfl, HB.out⟩
end Go.Proofs.YtfipkdnddghjpaaGreatDoor

