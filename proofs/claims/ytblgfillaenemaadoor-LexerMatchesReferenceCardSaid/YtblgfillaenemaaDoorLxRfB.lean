/- The reference's symbol. -/
import Derived.Test.YtblgfillaenemaaDoorLxRfA
namespace Go.Proofs.YtblgfillaenemaaDoor
open Go.RowKit

open L7 (Lt Dg In gapC gap symN syms)

set_option maxRecDepth 100000 in
set_option maxHeartbeats 2000000 in
theorem symbol_two_a (t : Txt) (p : Nat) (hp : p < t.length) (htl : t.length ≤ 100000) (c : UInt8) (hc : t[p] = c) (hp1 : p + 1 < t.length) (hd0 : t[p + 1] = 61) (h2 : c = 33) (w : World) : Calls Tryd.prog 36 #[str t, .int .i64 (p : Int)] w fun e w' => e = .returned (.int .i64 2) ∧ Below w.heap.size w w' := by
  subst h2
  have hsz := sz t
  have ex : ∀ h, (⟨t.toArray⟩ : ByteArray)[p]'h = 33 := fun _ => hc
  have i1 : (0 : Int) ≤ (p : Int) := by omega
  have i2 : (p : Int) < (t.length : Int) := by omega
  have i3 : IntKind.i64.wrap ((p : Int) + 1) = (p : Int) + 1 := IntWalk.i64_in _ (by omega)
  have hd : t[p + 1] = 61 := hd0
  have ex1 : ∀ h, (⟨t.toArray⟩ : ByteArray)[p + 1]'h = 61 := fun _ => hd
  clear hc hd hd0
  go_enter Tryd.func36, Tryd.ntmps36
  go_wp2_with fail
  go_ret
  exact ⟨rfl, Below.refl _ _⟩
set_option maxRecDepth 100000 in
set_option maxHeartbeats 2000000 in
theorem symbol_two_b (t : Txt) (p : Nat) (hp : p < t.length) (htl : t.length ≤ 100000) (c : UInt8) (hc : t[p] = c) (hp1 : p + 1 < t.length) (hd0 : t[p + 1] = 61) (h2 : c = 60) (w : World) : Calls Tryd.prog 36 #[str t, .int .i64 (p : Int)] w fun e w' => e = .returned (.int .i64 2) ∧ Below w.heap.size w w' := by
  subst h2
  have hsz := sz t
  have ex : ∀ h, (⟨t.toArray⟩ : ByteArray)[p]'h = 60 := fun _ => hc
  have i1 : (0 : Int) ≤ (p : Int) := by omega
  have i2 : (p : Int) < (t.length : Int) := by omega
  have i3 : IntKind.i64.wrap ((p : Int) + 1) = (p : Int) + 1 := IntWalk.i64_in _ (by omega)
  have hd : t[p + 1] = 61 := hd0
  have ex1 : ∀ h, (⟨t.toArray⟩ : ByteArray)[p + 1]'h = 61 := fun _ => hd
  clear hc hd hd0
  go_enter Tryd.func36, Tryd.ntmps36
  go_wp2_with fail
  go_ret
  exact ⟨rfl, Below.refl _ _⟩
set_option maxRecDepth 100000 in
set_option maxHeartbeats 2000000 in
theorem symbol_one_none (t : Txt) (p : Nat) (hp : p < t.length) (htl : t.length ≤ 100000) (c : UInt8) (hc : t[p] = c) (hp1 : ¬ p + 1 < t.length) (r : Int) (hs : (c ∈ syms → r = 1) ∧ (c ∉ syms → r = 0)) (w : World) : Calls Tryd.prog 36 #[str t, .int .i64 (p : Int)] w fun e w' => e = .returned (.int .i64 r) ∧ Below w.heap.size w w' := by
  have HS := Lib.hid hs
  have hsz := sz t
  have ex : ∀ h, (⟨t.toArray⟩ : ByteArray)[p]'h = c := fun _ => hc
  have i1 : (0 : Int) ≤ (p : Int) := by omega
  have i2 : (p : Int) < (t.length : Int) := by omega
  have i3 : IntKind.i64.wrap ((p : Int) + 1) = (p : Int) + 1 := IntWalk.i64_in _ (by omega)
  clear hs hc
  go_enter Tryd.func36, Tryd.ntmps36
  go_wp2_with fail
  go_loopw [5] (fun i wr => ∃ k : Nat, k ≤ 14 ∧ i = .int .i64 (k : Int) ∧ (∀ j (hj : j < 14), j < k → syms[j]'hj ≠ c) ∧ Below w.heap.size w wr) (fun i _ => 14 - (intOf i).toNat)
  case atStart => exact ⟨0, by omega, by simp, fun j _ hj => by omega, Below.refl _ _⟩
  case round =>
    obtain ⟨k, hk, rfl, hn, hb⟩ := hrel
    have HN := Lib.hid hn
    have HB := Lib.hid hb
    clear hn hb
    by_cases hlt : k < 14
    · obtain ⟨s, hs⟩ : ∃ s, syms[k]'hlt = s := ⟨_, rfl⟩
      have ey : ∀ h, (⟨#[59, 58, 44, 46, 40, 41, 123, 125, 61, 60, 43, 45, 47, 64]⟩ : ByteArray)[k]'h = s := fun _ => hs
      have k1 : (0 : Int) ≤ (k : Int) := by omega
      have k2 : (k : Int) < 14 := by omega
      by_cases hsc : s = c
      · have HF := Lib.hid (HS.out.1 (by rw [← hsc, ← hs]; exact List.getElem_mem _))
        have d9 : ((s.toNat : Int) == (c.toNat : Int)) = true := by simp [hsc]
        clear hs hsc
        go_wp2_with fail
        go_quiet (fail)
        go_wp2_with fail
        go_ret
        exact ⟨ret_int HF.out.symm, HB.out.trans (below_drewN _ _ _)⟩
      · have HX := Lib.hid (show ∀ j (hj : j < 14), j < k + 1 → syms[j]'hj ≠ c from fun j hj hjk => by
          by_cases e : j = k
          · subst e
            rw [hs]
            exact hsc
          · exact HN.out j hj (by omega))
        have d9 : ((s.toNat : Int) == (c.toNat : Int)) = false := by rw [beq_eq_false_iff_ne]; exact fun e => hsc (eq_of_int e)
        clear hs hsc
        go_wp2_with fail
        go_quiet (fail)
        go_wp2_with fail
        go_roundw
        case rel => exact ⟨k + 1, by omega, by simp, HX.out, HB.out.trans (below_drewN _ _ _)⟩
        case measure => simp [intOf]; omega
    · have HF := Lib.hid (HS.out.2 (fun hm => by
        obtain ⟨j, hj, e⟩ := List.mem_iff_getElem.1 hm
        exact HN.out j hj (by have : syms.length = 14 := rfl; omega) e))
      go_wp2_with fail
      go_ret
      exact ⟨ret_int HF.out.symm, HB.out⟩
set_option maxRecDepth 100000 in
set_option maxHeartbeats 2000000 in
theorem symbol_one_other (t : Txt) (p : Nat) (hp : p < t.length) (htl : t.length ≤ 100000) (c : UInt8) (hc : t[p] = c) (hp1 : p + 1 < t.length) (d : UInt8) (hd : t[p + 1] = d) (hd2 : d ≠ 61) (r : Int) (hs : (c ∈ syms → r = 1) ∧ (c ∉ syms → r = 0)) (w : World) : Calls Tryd.prog 36 #[str t, .int .i64 (p : Int)] w fun e w' => e = .returned (.int .i64 r) ∧ Below w.heap.size w w' := by
  have HS := Lib.hid hs
  have hsz := sz t
  have ex : ∀ h, (⟨t.toArray⟩ : ByteArray)[p]'h = c := fun _ => hc
  have i1 : (0 : Int) ≤ (p : Int) := by omega
  have i2 : (p : Int) < (t.length : Int) := by omega
  have i3 : IntKind.i64.wrap ((p : Int) + 1) = (p : Int) + 1 := IntWalk.i64_in _ (by omega)
  have ex1 : ∀ h, (⟨t.toArray⟩ : ByteArray)[p + 1]'h = d := fun _ => hd
  have d1 : ((d.toNat : Int) == 61) = false := by rw [beq_eq_false_iff_ne]; exact fun e => hd2 (eq_of_int (d := 61) e)
  clear hs hc hd hd2
  go_enter Tryd.func36, Tryd.ntmps36
  go_wp2_with fail
  go_loopw [5] (fun i wr => ∃ k : Nat, k ≤ 14 ∧ i = .int .i64 (k : Int) ∧ (∀ j (hj : j < 14), j < k → syms[j]'hj ≠ c) ∧ Below w.heap.size w wr) (fun i _ => 14 - (intOf i).toNat)
  case atStart => exact ⟨0, by omega, by simp, fun j _ hj => by omega, Below.refl _ _⟩
  case round =>
    obtain ⟨k, hk, rfl, hn, hb⟩ := hrel
    have HN := Lib.hid hn
    have HB := Lib.hid hb
    clear hn hb
    by_cases hlt : k < 14
    · obtain ⟨s, hs⟩ : ∃ s, syms[k]'hlt = s := ⟨_, rfl⟩
      have ey : ∀ h, (⟨#[59, 58, 44, 46, 40, 41, 123, 125, 61, 60, 43, 45, 47, 64]⟩ : ByteArray)[k]'h = s := fun _ => hs
      have k1 : (0 : Int) ≤ (k : Int) := by omega
      have k2 : (k : Int) < 14 := by omega
      by_cases hsc : s = c
      · have HF := Lib.hid (HS.out.1 (by rw [← hsc, ← hs]; exact List.getElem_mem _))
        have d9 : ((s.toNat : Int) == (c.toNat : Int)) = true := by simp [hsc]
        clear hs hsc
        go_wp2_with fail
        go_quiet (fail)
        go_wp2_with fail
        go_ret
        exact ⟨ret_int HF.out.symm, HB.out.trans (below_drewN _ _ _)⟩
      · have HX := Lib.hid (show ∀ j (hj : j < 14), j < k + 1 → syms[j]'hj ≠ c from fun j hj hjk => by
          by_cases e : j = k
          · subst e
            rw [hs]
            exact hsc
          · exact HN.out j hj (by omega))
        have d9 : ((s.toNat : Int) == (c.toNat : Int)) = false := by rw [beq_eq_false_iff_ne]; exact fun e => hsc (eq_of_int e)
        clear hs hsc
        go_wp2_with fail
        go_quiet (fail)
        go_wp2_with fail
        go_roundw
        case rel => exact ⟨k + 1, by omega, by simp, HX.out, HB.out.trans (below_drewN _ _ _)⟩
        case measure => simp [intOf]; omega
    · have HF := Lib.hid (HS.out.2 (fun hm => by
        obtain ⟨j, hj, e⟩ := List.mem_iff_getElem.1 hm
        exact HN.out j hj (by have : syms.length = 14 := rfl; omega) e))
      go_wp2_with fail
      go_ret
      exact ⟨ret_int HF.out.symm, HB.out⟩
set_option maxRecDepth 100000 in
set_option maxHeartbeats 2000000 in
theorem symbol_one_eq (t : Txt) (p : Nat) (hp : p < t.length) (htl : t.length ≤ 100000) (c : UInt8) (hc : t[p] = c) (hp1 : p + 1 < t.length) (hd0 : t[p + 1] = 61) (h1 : c ≠ 33) (h2 : c ≠ 60) (r : Int) (hs : (c ∈ syms → r = 1) ∧ (c ∉ syms → r = 0)) (w : World) : Calls Tryd.prog 36 #[str t, .int .i64 (p : Int)] w fun e w' => e = .returned (.int .i64 r) ∧ Below w.heap.size w w' := by
  have HS := Lib.hid hs
  have hsz := sz t
  have ex : ∀ h, (⟨t.toArray⟩ : ByteArray)[p]'h = c := fun _ => hc
  have i1 : (0 : Int) ≤ (p : Int) := by omega
  have i2 : (p : Int) < (t.length : Int) := by omega
  have i3 : IntKind.i64.wrap ((p : Int) + 1) = (p : Int) + 1 := IntWalk.i64_in _ (by omega)
  have hd : t[p + 1] = 61 := hd0
  have ex1 : ∀ h, (⟨t.toArray⟩ : ByteArray)[p + 1]'h = 61 := fun _ => hd
  have d1 : ((c.toNat : Int) == 33) = false := by rw [beq_eq_false_iff_ne]; exact fun e => h1 (eq_of_int (d := 33) e)
  have d2 : ((c.toNat : Int) == 60) = false := by rw [beq_eq_false_iff_ne]; exact fun e => h2 (eq_of_int (d := 60) e)
  clear hs hc hd hd0 h1 h2
  go_enter Tryd.func36, Tryd.ntmps36
  go_wp2_with fail
  go_loopw [5] (fun i wr => ∃ k : Nat, k ≤ 14 ∧ i = .int .i64 (k : Int) ∧ (∀ j (hj : j < 14), j < k → syms[j]'hj ≠ c) ∧ Below w.heap.size w wr) (fun i _ => 14 - (intOf i).toNat)
  case atStart => exact ⟨0, by omega, by simp, fun j _ hj => by omega, Below.refl _ _⟩
  case round =>
    obtain ⟨k, hk, rfl, hn, hb⟩ := hrel
    have HN := Lib.hid hn
    have HB := Lib.hid hb
    clear hn hb
    by_cases hlt : k < 14
    · obtain ⟨s, hs⟩ : ∃ s, syms[k]'hlt = s := ⟨_, rfl⟩
      have ey : ∀ h, (⟨#[59, 58, 44, 46, 40, 41, 123, 125, 61, 60, 43, 45, 47, 64]⟩ : ByteArray)[k]'h = s := fun _ => hs
      have k1 : (0 : Int) ≤ (k : Int) := by omega
      have k2 : (k : Int) < 14 := by omega
      by_cases hsc : s = c
      · have HF := Lib.hid (HS.out.1 (by rw [← hsc, ← hs]; exact List.getElem_mem _))
        have d9 : ((s.toNat : Int) == (c.toNat : Int)) = true := by simp [hsc]
        clear hs hsc
        go_wp2_with fail
        go_quiet (fail)
        go_wp2_with fail
        go_ret
        exact ⟨ret_int HF.out.symm, HB.out.trans (below_drewN _ _ _)⟩
      · have HX := Lib.hid (show ∀ j (hj : j < 14), j < k + 1 → syms[j]'hj ≠ c from fun j hj hjk => by
          by_cases e : j = k
          · subst e
            rw [hs]
            exact hsc
          · exact HN.out j hj (by omega))
        have d9 : ((s.toNat : Int) == (c.toNat : Int)) = false := by rw [beq_eq_false_iff_ne]; exact fun e => hsc (eq_of_int e)
        clear hs hsc
        go_wp2_with fail
        go_quiet (fail)
        go_wp2_with fail
        go_roundw
        case rel => exact ⟨k + 1, by omega, by simp, HX.out, HB.out.trans (below_drewN _ _ _)⟩
        case measure => simp [intOf]; omega
    · have HF := Lib.hid (HS.out.2 (fun hm => by
        obtain ⟨j, hj, e⟩ := List.mem_iff_getElem.1 hm
        exact HN.out j hj (by have : syms.length = 14 := rfl; omega) e))
      go_wp2_with fail
      go_ret
      exact ⟨ret_int HF.out.symm, HB.out⟩
theorem symbol_rf (t : Txt) (p : Nat) (hp : p < t.length) (htl : t.length ≤ 100000) (w : World) : Calls Tryd.prog 36 #[str t, .int .i64 (p : Int)] w fun e w' => e = .returned (.int .i64 ((symN (t.drop p) : Nat) : Int)) ∧ Below w.heap.size w w' := by
  have hdr : t.drop p = t[p] :: t.drop (p + 1) := List.drop_eq_getElem_cons hp
  rw [hdr]
  have one : ¬ ((t.drop (p + 1)).head? = some 61 ∧ (t[p] = 33 ∨ t[p] = 60)) → (t[p] ∈ syms → ((symN (t[p] :: t.drop (p + 1)) : Nat) : Int) = 1) ∧ (t[p] ∉ syms → ((symN (t[p] :: t.drop (p + 1)) : Nat) : Int) = 0) := fun hn => by
    constructor <;> intro h <;> rw [L7.symN_cons, if_neg hn]
    · rw [if_pos h]; rfl
    · rw [if_neg h]; rfl
  by_cases h1 : p + 1 < t.length
  · have hh : (t.drop (p + 1)).head? = some t[p + 1] := by rw [List.drop_eq_getElem_cons h1]; rfl
    by_cases h2 : t[p + 1] = 61
    · by_cases h3 : t[p] = 33
      · have e : symN (t[p] :: t.drop (p + 1)) = 2 := by rw [L7.symN_cons, if_pos ⟨by rw [hh, h2], .inl h3⟩]
        rw [e]
        exact symbol_two_a t p hp htl _ rfl h1 h2 h3 w
      · by_cases h4 : t[p] = 60
        · have e : symN (t[p] :: t.drop (p + 1)) = 2 := by rw [L7.symN_cons, if_pos ⟨by rw [hh, h2], .inr h4⟩]
          rw [e]
          exact symbol_two_b t p hp htl _ rfl h1 h2 h4 w
        · exact symbol_one_eq t p hp htl _ rfl h1 h2 h3 h4 _ (one (fun q => q.2.elim h3 h4)) w
    · exact symbol_one_other t p hp htl _ rfl h1 _ rfl h2 _ (one (fun q => h2 (by rw [hh] at q; exact Option.some.inj q.1))) w
  · exact symbol_one_none t p hp htl _ rfl h1 _ (one (fun q => by rw [List.drop_eq_nil_of_le (by omega)] at q; simp at q)) w
end Go.Proofs.YtblgfillaenemaaDoor
