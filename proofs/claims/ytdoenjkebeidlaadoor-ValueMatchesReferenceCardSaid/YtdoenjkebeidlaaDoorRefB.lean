/- The contracts of the reference's digits and Decimal. -/
import Derived.Test.YtdoenjkebeidlaaDoorBase
import Derived.Test.YtdoenjkebeidlaaDoorMathT
namespace Go.Proofs.YtdoenjkebeidlaaDoor
open Go.RowKit

/-- One digit. -/
def dig1 (m : Nat) : UInt8 := UInt8.ofNat (48 + m)
theorem dig_cut (m : Nat) (h : m < 10) : (⟨#[48, 49, 50, 51, 52, 53, 54, 55, 56, 57]⟩ : ByteArray).extract m (m + 1) = ⟨#[dig1 m]⟩ := by
  rcases (by omega : m = 0 ∨ m = 1 ∨ m = 2 ∨ m = 3 ∨ m = 4 ∨ m = 5 ∨ m = 6 ∨ m = 7 ∨ m = 8 ∨ m = 9) with rfl | rfl | rfl | rfl | rfl | rfl | rfl | rfl | rfl | rfl <;> rfl

theorem digits_small (n : Nat) (h : n < 10) (w : World) :
    Calls Tryd.prog 52 #[.int .u64 (n : Int)] w fun e w' => e = .returned (.string ⟨(Lib.decDigits n).toArray⟩) ∧ ∃ k, w' = w.drewN k := by
  have hx := dig_cut n h
  go_enter Tryd.func52, Tryd.ntmps52
  go_wp2_with fail
  go_ret
  exact ⟨str_ret (show [dig1 n] = _ by rw [Lib.decDigits, dif_pos h]; rfl), 0, rfl⟩

set_option maxRecDepth 100000 in
theorem digits_any (n : Nat) : n ≤ 10000000000 → ∀ w : World,
    Calls Tryd.prog 52 #[.int .u64 (n : Int)] w fun e w' => e = .returned (.string ⟨(Lib.decDigits n).toArray⟩) ∧ ∃ k, w' = w.drewN k := by
  induction n using Nat.strongRecOn with
  | _ n ih =>
    intro hn w
    by_cases h : n < 10
    · exact digits_small n h w
    · obtain ⟨q, hq⟩ : ∃ q, n / 10 = q := ⟨_, rfl⟩
      obtain ⟨r, hr⟩ : ∃ r, n % 10 = r := ⟨_, rfl⟩
      have IH := Lib.hid (ih q (by omega) (by omega))
      have hr9 : r < 10 := by omega
      have hx := dig_cut r hr9
      have HD := Lib.hid (show Lib.decDigits n = Lib.decDigits q ++ [dig1 r] by rw [Lib.decDigits, dif_neg h, hq, hr]; rfl)
      have hl := Lib.itoa_length_le (q : Int) (by omega) (by omega)
      rw [Lib.itoa_nonneg] at hl
      have qq : (9223372036854775807 < (Lib.decDigits q).length + 1) = False := eq_false (by omega)
      have w1 : IntKind.u64.wrap ((n : Int) / 10) = (q : Int) := by simp only [IntKind.wrap_u64]; omega
      have w2 : (n : Int).tmod 10 = (r : Int) := by rw [Int.tmod_eq_emod_of_nonneg (by omega)]; omega
      have w3 : IntKind.u64.wrap ((r : Int) + 1) = (r : Int) + 1 := by simp only [IntKind.wrap_u64]; omega
      have hsl : ∀ W, (Instr.slice 9 (.string ⟨#[48, 49, 50, 51, 52, 53, 54, 55, 56, 57]⟩) (some (.int .u64 (r : Int))) (some (.int .u64 ((r : Int) + 1))) none).run Tryd.prog W = .ok (.string ⟨#[dig1 r]⟩) W := fun W => by
        rw [run_slice_string W 9 _ .u64 .u64 (r : Int) ((r : Int) + 1) (by kernel_rfl) (by omega) (by omega) (by show (r : Int) + 1 ≤ 10; omega), show ((r : Int) + 1).toNat = r + 1 by omega, Int.toNat_natCast, hx]
      clear ih hl hn hq hr
      go_enter Tryd.func52, Tryd.ntmps52
      go_wp2_with fail
      go_quiet ((go_at_call 52; exact Calls.quiet_of (IH.out _)))
      go_wp2_with fail
      go_ret
      exact ⟨str_ret HD.out.symm, _, rfl⟩

theorem decimal_any (n : Int) (h0 : -1000000000 ≤ n) (h1 : n ≤ 1000000000) (w : World) :
    Calls Tryd.prog 43 #[.int .i64 n] w fun e w' => e = .returned (.string ⟨(Lib.itoa n).toArray⟩) ∧ Below w.heap.size w w' := by
  obtain ⟨q, hq⟩ : ∃ q, n.natAbs = q := ⟨_, rfl⟩
  have HL := Lib.hid (Lib.itoa_length_le n (by omega) (by omega))
  have hq2 : q ≤ 10000000000 := by omega
  by_cases hn : n < 0
  · have w1 : IntKind.u64.wrap (-IntKind.u64.wrap n) = (q : Int) := by simp only [IntKind.wrap_u64]; omega
    have HI := Lib.hid (show Lib.itoa n = 45 :: Lib.decDigits q by rw [itoa_neg hn, hq])
    have qq : (9223372036854775807 < 1 + (Lib.decDigits q).length) = False := eq_false (by have := HL.out; rw [HI.out, List.length_cons] at this; omega)
    clear hq h0 h1
    go_enter Tryd.func43, Tryd.ntmps43
    go_wp2_with fail
    refine (digits_any q hq2 _).mono ?_
    rintro e w1 ⟨rfl, k, rfl⟩
    go_wp2_with fail
    go_ret
    exact ⟨str_ret HI.out.symm, below_drewN _ _ _⟩
  · have w1 : IntKind.u64.wrap n = (q : Int) := by simp only [IntKind.wrap_u64]; omega
    have HI := Lib.hid (show Lib.itoa n = Lib.decDigits q by rw [itoa_pos (by omega), hq])
    clear hq h0 h1
    go_enter Tryd.func43, Tryd.ntmps43
    go_wp2_with fail
    refine (digits_any q hq2 _).mono ?_
    rintro e w1 ⟨rfl, k, rfl⟩
    go_wp2_with fail
    go_ret
    exact ⟨str_ret HI.out.symm, below_drewN _ _ _⟩
end Go.Proofs.YtdoenjkebeidlaaDoor
