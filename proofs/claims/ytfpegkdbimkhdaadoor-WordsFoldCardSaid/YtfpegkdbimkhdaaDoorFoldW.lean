/- WordsFold in plain words: the shape of a folded text, which is its own folded text. -/
import Derived.Test.YtfpegkdbimkhdaaDoorHead
namespace Go.Proofs.YtfpegkdbimkhdaaDoor
open Go.RowKit

theorem good_nat {c : UInt8} (h : good c = true) : (97 ≤ c.toNat ∧ c.toNat ≤ 122) ∨ (48 ≤ c.toNat ∧ c.toNat ≤ 57) := by
  simpa [good] using h
theorem shape_at {s : List UInt8} (h : Shape s) {k : Nat} (hk : k < s.length) :
    (97 ≤ s[k].toNat ∧ s[k].toNat ≤ 122) ∨ (48 ≤ s[k].toNat ∧ s[k].toNat ≤ 57) ∨ (s[k].toNat = 32 ∧ 0 < k ∧ ∃ h2 : k + 1 < s.length, s[k + 1].toNat ≠ 32) := by
  rcases h k s[k] (List.getElem?_eq_getElem hk) with g | ⟨e, h0, d, hd, g⟩
  · rcases good_nat g with g | g
    · exact .inl g
    · exact .inr (.inl g)
  · obtain ⟨h2, e2⟩ := List.getElem?_eq_some_iff.1 hd
    refine .inr (.inr ⟨by rw [e]; rfl, h0, h2, fun x => ?_⟩)
    rw [e2] at x
    rcases good_nat g with g | g <;> omega

set_option maxRecDepth 100000 in
theorem foldlaw_l1 (t : List UInt8) (w : World) (h : 1000 < t.length) : Calls Tryd.prog 4 #[str t] w fun e w' => e = .returned (.bool true) ∧ Below w.heap.size w w' := by
  go_enter Tryd.func4, Tryd.ntmps4
  go_wp2_with fail
  refine (head_any _).mono ?_
  rintro e1 w1 ⟨rfl, hb⟩
  have HB1 := Lib.hid hb
  clear hb
  go_wp2_with fail
  go_ret
  exact ⟨rfl, HB1.out⟩

set_option maxRecDepth 100000 in
set_option maxHeartbeats 4000000 in
theorem foldlaw_main (t : List UInt8) (w : World) (ht : t.length ≤ 1000) : Calls Tryd.prog 4 #[str t] w fun e w' => e = .returned (.bool true) ∧ Below w.heap.size w w' := by
  have HT := Lib.hid (show t.length ≤ 1100 by omega)
  have C := Lib.hid (fold_any t (show t.length ≤ 1100 by omega))
  have HL := foldT_len t
  have HS := Lib.hid (shape_foldT t)
  have HI := Lib.hid (foldT_idem t)
  obtain ⟨s, hs⟩ : ∃ s, foldT t = s := ⟨_, rfl⟩
  rw [hs] at C HL HS HI
  clear hs
  go_enter Tryd.func4, Tryd.ntmps4
  go_wp2_with fail
  refine (head_any _).mono ?_
  rintro e1 w1 ⟨rfl, hb⟩
  have HB1 := Lib.hid hb
  clear hb
  go_wp2_with fail
  refine (C.out _).mono ?_
  rintro e2 w2 ⟨rfl, hb⟩
  have HB2 := Lib.hid (below_up HB1.out hb HB1.out.size)
  clear hb
  go_wp2_with fail
  go_loopw [5] (fun i wr => ∃ (k : Nat), i = .int .i64 (k : Int) ∧ k ≤ s.length ∧ wr = w2) (fun i _ => s.length + 1 - (intOf i).toNat)
  case atStart => exact ⟨0, by simp, by omega, rfl⟩
  case round =>
    obtain ⟨k, rfl, hk, rfl⟩ := hrel
    by_cases hlt : k < s.length
    · have hix : ∀ (h : k < (ByteArray.mk s.toArray).size), (⟨s.toArray⟩ : ByteArray)[k]'h = s[k] := fun _ => rfl
      rcases shape_at HS.out hlt with h | h | h
      · obtain ⟨h1, h2⟩ := h
        go_wp2_with fail
        go_roundw
        case rel => exact ⟨k + 1, by simp, by omega, trivial⟩
        case measure => simp [intOf]; omega
      · obtain ⟨h1, h2⟩ := h
        go_wp2_with fail
        go_roundw
        case rel => exact ⟨k + 1, by simp, by omega, trivial⟩
        case measure => simp [intOf]; omega
      · obtain ⟨h1, h0, h2, h3⟩ := h
        have hix2 : ∀ (h : k + 1 < (ByteArray.mk s.toArray).size), (⟨s.toArray⟩ : ByteArray)[k + 1]'h = s[k + 1] := fun _ => rfl
        have hne : ((s[k + 1].toNat : Int) != 32) = true := by simp; omega
        go_wp2_with fail
        go_roundw
        case rel => exact ⟨k + 1, by simp, by omega, trivial⟩
        case measure => simp [intOf]; omega
    · have D := Lib.hid (fold_any s (Nat.le_trans HL HT.out))
      rw [HI.out] at D
      go_wp2_with fail
      refine (D.out _).mono ?_
      rintro e3 w3 ⟨rfl, hb⟩
      have HB3 := Lib.hid (below_up HB2.out hb HB2.out.size)
      clear hb
      go_wp2_with fail
      go_ret
      exact ⟨rfl, HB3.out⟩

theorem foldlaw_any (t : List UInt8) (w : World) : Calls Tryd.prog 4 #[str t] w fun e w' => e = .returned (.bool true) ∧ Below w.heap.size w w' := by
  by_cases h1 : 1000 < t.length
  · exact foldlaw_l1 t w h1
  exact foldlaw_main t w (by omega)
end Go.Proofs.YtfpegkdbimkhdaaDoor
