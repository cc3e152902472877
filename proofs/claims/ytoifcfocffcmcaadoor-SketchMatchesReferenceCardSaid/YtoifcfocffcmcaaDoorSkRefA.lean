/- The reference's Decimal, Hash and Valid. -/
import Derived.Test.YtoifcfocffcmcaaDoorSkHash
import Derived.Lib.ItoaLen
import Derived.BigQuiet
import Derived.Deep.QuietTactic
namespace Go.Proofs.YtoifcfocffcmcaaDoor
open Go.RowKit

theorem str_ret {a b : List UInt8} (h : a = b) : Ending.returned (str a) = .returned (str b) := by rw [h]
theorem itoa_nonneg (u : Nat) : Lib.itoa (u : Int) = Lib.decDigits u := by unfold Lib.itoa; rw [if_neg (by omega)]; simp
/-- One digit. -/
def dig1 (m : Nat) : UInt8 := UInt8.ofNat (48 + m)
theorem dig_cut (m : Nat) (h : m < 10) : (⟨#[48, 49, 50, 51, 52, 53, 54, 55, 56, 57]⟩ : ByteArray).extract m (m + 1) = ⟨#[dig1 m]⟩ := by
  rcases (by omega : m = 0 ∨ m = 1 ∨ m = 2 ∨ m = 3 ∨ m = 4 ∨ m = 5 ∨ m = 6 ∨ m = 7 ∨ m = 8 ∨ m = 9) with rfl | rfl | rfl | rfl | rfl | rfl | rfl | rfl | rfl | rfl <;> rfl

theorem digits_small (n : Nat) (h : n < 10) (w : World) :
    Calls Tryd.prog 42 #[.int .u64 (n : Int)] w fun e w' => e = .returned (.string ⟨(Lib.decDigits n).toArray⟩) ∧ ∃ k, w' = w.drewN k := by
  have hx := dig_cut n h
  go_enter Tryd.func42, Tryd.ntmps42
  go_wp2_with fail
  go_ret
  exact ⟨str_ret (show [dig1 n] = _ by rw [Lib.decDigits, dif_pos h]; rfl), 0, rfl⟩

set_option maxRecDepth 100000 in
theorem digits_any (n : Nat) : n ≤ 10000000000 → ∀ w : World,
    Calls Tryd.prog 42 #[.int .u64 (n : Int)] w fun e w' => e = .returned (.string ⟨(Lib.decDigits n).toArray⟩) ∧ ∃ k, w' = w.drewN k := by
  induction n using Nat.strongRecOn with
  | _ n ih =>
    intro hn w
    by_cases h : n < 10
    · exact digits_small n h w
    · obtain ⟨q, hq⟩ : ∃ q, n / 10 = q := ⟨_, rfl⟩
      obtain ⟨r, hr⟩ : ∃ r, n % 10 = r := ⟨_, rfl⟩
      have IH := Lib.hid (ih q (by omega) (by omega))
      have hr9 : r < 10 := by omega
      have hx := dig_cut r hr9
      have HD := Lib.hid (show Lib.decDigits n = Lib.decDigits q ++ [dig1 r] by rw [Lib.decDigits, dif_neg h, hq, hr]; rfl)
      have hl := Lib.itoa_length_le (q : Int) (by omega) (by omega)
      rw [itoa_nonneg] at hl
      have qq : (9223372036854775807 < (Lib.decDigits q).length + 1) = False := eq_false (by omega)
      have w1 : IntKind.u64.wrap ((n : Int) / 10) = (q : Int) := by simp only [IntKind.wrap_u64]; omega
      have w2 : (n : Int).tmod 10 = (r : Int) := by rw [Int.tmod_eq_emod_of_nonneg (by omega)]; omega
      have w3 : IntKind.u64.wrap ((r : Int) + 1) = (r : Int) + 1 := by simp only [IntKind.wrap_u64]; omega
      have hsl : ∀ W, (Instr.slice 9 (.string ⟨#[48, 49, 50, 51, 52, 53, 54, 55, 56, 57]⟩) (some (.int .u64 (r : Int))) (some (.int .u64 ((r : Int) + 1))) none).run Tryd.prog W = .ok (.string ⟨#[dig1 r]⟩) W := fun W => by
        rw [run_slice_string W 9 _ .u64 .u64 (r : Int) ((r : Int) + 1) (by kernel_rfl) (by omega) (by omega) (by show (r : Int) + 1 ≤ 10; omega), show ((r : Int) + 1).toNat = r + 1 by omega, Int.toNat_natCast, hx]
      clear ih hl hn hq hr
      go_enter Tryd.func42, Tryd.ntmps42
      go_wp2_with fail
      go_quiet ((go_at_call 42; exact Calls.quiet_of (IH.out _)))
      go_wp2_with fail
      go_ret
      exact ⟨str_ret HD.out.symm, _, rfl⟩

/-- Decimal, of numbers that are not negative. -/
theorem decimal_ref (n : Nat) (h1 : n ≤ 10000000000) (w : World) :
    Calls Tryd.prog 33 #[.int .i64 (n : Int)] w fun e w' => e = .returned (str (Lib.itoa (n : Int))) ∧ Below w.heap.size w w' := by
  have HI := Lib.hid (itoa_nonneg n)
  have w1 : IntKind.u64.wrap (n : Int) = (n : Int) := by simp only [IntKind.wrap_u64]; omega
  go_enter Tryd.func33, Tryd.ntmps33
  go_wp2_with fail
  refine (digits_any n h1 _).mono ?_
  rintro e w1 ⟨rfl, k, rfl⟩
  go_wp2_with fail
  go_ret
  exact ⟨str_ret HI.out.symm, below_drewN _ _ _⟩

theorem hash_ref (t : List UInt8) (seed : Int) (hl : t.length ≤ 1000) (w : World) :
    Calls Tryd.prog 21 #[str t, .int .i64 seed] w fun e w' => e = .returned (.int .i64 (hashT t seed)) ∧ Below w.heap.size w w' := by
  have hs0 : 0 ≤ seed % 2147483647 := by omega
  have hs1 : seed % 2147483647 < 2147483647 := by omega
  have HD : hashT t seed = (t.foldl (stepH (factH (seed % 2147483647))) (seed % 2147483647) * 48271 + 11) % 2147483647 := rfl
  obtain ⟨r, hr⟩ : ∃ r, hashT t seed = r := ⟨_, rfl⟩
  have hres := residue_eq seed
  obtain ⟨t1, t2⟩ := tmod_range seed
  obtain ⟨z, hz⟩ : ∃ z, seed.tmod 2147483647 = z := ⟨_, rfl⟩
  obtain ⟨s, hs⟩ : ∃ s, seed % 2147483647 = s := ⟨_, rfl⟩
  rw [hz] at hres t1 t2
  rw [hs] at hs0 hs1 HD hres
  rw [Int.tmod_eq_emod_of_nonneg (by omega)] at hres
  have hM : (16807 : Int) + s % 1000003 = factH s := rfl
  have M0 : 0 ≤ factH s := by unfold factH; omega
  have M1 : factH s ≤ 1048576 := by unfold factH; omega
  rw [hr] at HD
  rw [hr]
  obtain ⟨M, hMM⟩ : ∃ M, factH s = M := ⟨_, rfl⟩
  rw [hMM] at hM M0 M1 HD
  have HD' := Lib.hid HD
  have HL := Lib.hid hl
  clear hr hs HD hl hMM
  by_cases hneg : z < 0
  · have hq : z + 2147483647 = s := by omega
    go_enter Tryd.func21, Tryd.ntmps21
    go_wp2_with fail
    go_loopw [7, 8] (fun a x wr => ∃ (j : Nat) (h : Int), x = .int .i64 (j : Int) ∧ a = .int .i64 h ∧ j ≤ t.length ∧ 0 ≤ h ∧ h < 2147483647 ∧ (t.drop j).foldl (stepH M) h = t.foldl (stepH M) s ∧ Below w.heap.size w wr) (fun _ x _ => t.length + 1 - (intOf x).toNat)
    case atStart => exact ⟨0, s, by simp, by simp, by omega, hs0, hs1, rfl, Below.refl _ _⟩
    case round =>
      obtain ⟨j, h, rfl, rfl, hj, h0, h1, hf, hbw⟩ := hrel
      have HW := Lib.hid hbw
      have HF := Lib.hid hf
      have hl := HL.out
      clear hbw hf
      by_cases hlt : j < t.length
      · have hx : ∀ (g : j < (ByteArray.mk t.toArray).size), (⟨t.toArray⟩ : ByteArray)[j]'g = t[j] := fun _ => rfl
        have hc : t[j].toNat < 256 := t[j].toNat_lt
        have HS := Lib.hid (show (t.drop (j + 1)).foldl (stepH M) ((h * M + (t[j].toNat : Int) + 1) % 2147483647) = t.foldl (stepH M) s by rw [← HF.out, List.drop_eq_getElem_cons hlt, Int.add_assoc]; rfl)
        have m0 : 0 ≤ h * M := Int.mul_nonneg h0 M0
        have m1 : h * M ≤ 2147483647 * 1048576 := Int.le_trans (Int.mul_le_mul_of_nonneg_right (by omega) M0) (Int.mul_le_mul_of_nonneg_left M1 (by omega))
        go_wp2_with fail
        go_roundw
        case rel => exact ⟨j + 1, _, by simp, rfl, by omega, by omega, by omega, HS.out, HW.out⟩
        case measure => simp [intOf]; omega
      · have HT := Lib.hid (show h = t.foldl (stepH M) s by rw [← HF.out, List.drop_eq_nil_of_le (by omega)]; rfl)
        go_wp2_with fail
        go_ret
        exact ⟨ret_int (by rw [HD'.out, HT.out]), HW.out⟩
  · have hq : z = s := by omega
    subst hq
    go_enter Tryd.func21, Tryd.ntmps21
    go_wp2_with fail
    go_loopw [7, 8] (fun a x wr => ∃ (j : Nat) (h : Int), x = .int .i64 (j : Int) ∧ a = .int .i64 h ∧ j ≤ t.length ∧ 0 ≤ h ∧ h < 2147483647 ∧ (t.drop j).foldl (stepH M) h = t.foldl (stepH M) z ∧ Below w.heap.size w wr) (fun _ x _ => t.length + 1 - (intOf x).toNat)
    case atStart => exact ⟨0, z, by simp, by simp, by omega, hs0, hs1, rfl, Below.refl _ _⟩
    case round =>
      obtain ⟨j, h, rfl, rfl, hj, h0, h1, hf, hbw⟩ := hrel
      have HW := Lib.hid hbw
      have HF := Lib.hid hf
      have hl := HL.out
      clear hbw hf
      by_cases hlt : j < t.length
      · have hx : ∀ (g : j < (ByteArray.mk t.toArray).size), (⟨t.toArray⟩ : ByteArray)[j]'g = t[j] := fun _ => rfl
        have hc : t[j].toNat < 256 := t[j].toNat_lt
        have HS := Lib.hid (show (t.drop (j + 1)).foldl (stepH M) ((h * M + (t[j].toNat : Int) + 1) % 2147483647) = t.foldl (stepH M) z by rw [← HF.out, List.drop_eq_getElem_cons hlt, Int.add_assoc]; rfl)
        have m0 : 0 ≤ h * M := Int.mul_nonneg h0 M0
        have m1 : h * M ≤ 2147483647 * 1048576 := Int.le_trans (Int.mul_le_mul_of_nonneg_right (by omega) M0) (Int.mul_le_mul_of_nonneg_left M1 (by omega))
        go_wp2_with fail
        go_roundw
        case rel => exact ⟨j + 1, _, by simp, rfl, by omega, by omega, by omega, HS.out, HW.out⟩
        case measure => simp [intOf]; omega
      · have HT := Lib.hid (show h = t.foldl (stepH M) z by rw [← HF.out, List.drop_eq_nil_of_le (by omega)]; rfl)
        go_wp2_with fail
        go_ret
        exact ⟨ret_int (by rw [HD'.out, HT.out]), HW.out⟩
end Go.Proofs.YtoifcfocffcmcaaDoor
