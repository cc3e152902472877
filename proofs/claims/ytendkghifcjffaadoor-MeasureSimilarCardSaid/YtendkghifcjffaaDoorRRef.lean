/- The contracts of the reference's size, Valid, of, Make. -/
import Derived.Test.YtendkghifcjffaaDoorROps
import Derived.Test.YtendkghifcjffaaDoorRRefGcd
namespace Go.Proofs.YtendkghifcjffaaDoor.L1
open Go.RowKit

theorem size_neg (n : Int) (h0 : -9223372036854775808 ≤ n) (h1 : n < 0) : IntKind.u64.wrap (0 - IntKind.u64.wrap n) = (n.natAbs : Int) := by
  simp only [IntKind.wrap_u64]; omega

theorem size_any (n : Int) (h0 : -9223372036854775808 ≤ n) (h1 : n ≤ 9223372036854775807) (w : World) :
    Calls Tryd.prog 38 #[.int .i64 n] w fun e w' => e = .returned (.int .u64 (n.natAbs : Int)) ∧ w = w' := by
  have H0 := Lib.hid h0
  have H1 := Lib.hid h1
  clear h0 h1
  by_cases hn : n < 0
  · go_enter Tryd.func38, Tryd.ntmps38
    go_wp2
    go_ret
    exact ⟨ret_int (by first | exact size_neg n H0.out hn | exact mag_neg n H0.out hn), rfl⟩
  · go_enter Tryd.func38, Tryd.ntmps38
    go_wp2
    go_ret
    exact ⟨ret_int (mag_pos n (by omega) H1.out), rfl⟩

theorem size_same (n : Int) (h0 : -9223372036854775808 ≤ n) (h1 : n ≤ 9223372036854775807) (w : World) :
    Calls Tryd.prog 38 #[.int .i64 n] w fun e w' => e = .returned (.int .u64 (n.natAbs : Int)) ∧ w' = w :=
  (size_any n h0 h1 w).mono fun _ _ h => ⟨h.1, h.2.symm⟩

/-- What the reference's 'of' returns. -/
def rof (neg : Bool) (n d : Nat) : Int × Int × Int :=
  if d = 0 then (0, 0, 1)
  else if n / Nat.gcd n d ≤ 1000000000 ∧ d / Nat.gcd n d ≤ 1000000000 then (if neg then -((n / Nat.gcd n d : Nat) : Int) else ((n / Nat.gcd n d : Nat) : Int), ((d / Nat.gcd n d : Nat) : Int), 0)
  else (0, 0, 2)

theorem rof_mk (n d : Int) : rof (decide (n < 0) != decide (d < 0)) n.natAbs d.natAbs = mk n d := by
  unfold rof mk
  by_cases hd : d = 0
  · subst hd; simp
  · rw [if_neg (by omega), if_neg hd]
    split
    · congr 1
      by_cases h1 : n < 0 <;> by_cases h2 : d < 0 <;> simp [h1, h2]
    · rfl

theorem below_box (w : World) (A : Obj) : Below w.heap.size w (w.alloc A) := (Below.refl _ _).alloc (Nat.le_refl _) _

theorem refvalid_out (n d : Int) (w : World) (h : d < 1 ∨ 1000000000 < d ∨ n < -1000000000 ∨ 1000000000 < n) :
    Calls Tryd.prog 31 #[.agg #[.int .i64 n, .int .i64 d]] w fun e w' => e = .returned (.bool false) ∧ Below w.heap.size w w' := by
  by_cases h1 : d < 1
  · have g1 : decide ((1 : Int) ≤ d) = false := by simp; omega
    clear h h1
    go_enter Tryd.func31, Tryd.ntmps31
    go_wp2_with fail
    go_quiet (fail)
    go_wp2_with fail
    go_ret
    exact ⟨rfl, dN (below_box _ _) _⟩
  have g1 : decide ((1 : Int) ≤ d) = true := by simp; omega
  by_cases h2 : 1000000000 < d
  · have g2 : decide (d ≤ (1000000000 : Int)) = false := by simp; omega
    clear h h1 h2
    go_enter Tryd.func31, Tryd.ntmps31
    go_wp2_with fail
    go_quiet (fail)
    go_wp2_with fail
    go_ret
    exact ⟨rfl, dN (below_box _ _) _⟩
  have g2 : decide (d ≤ (1000000000 : Int)) = true := by simp; omega
  by_cases h3 : n < -1000000000
  · have g3 : decide ((-1000000000 : Int) ≤ n) = false := by simp; omega
    clear h h1 h2 h3
    go_enter Tryd.func31, Tryd.ntmps31
    go_wp2_with fail
    go_quiet (fail)
    go_wp2_with fail
    go_ret
    exact ⟨rfl, dN (below_box _ _) _⟩
  have g3 : decide ((-1000000000 : Int) ≤ n) = true := by simp; omega
  have g4 : decide (n ≤ (1000000000 : Int)) = false := by simp; omega
  clear h h1 h2 h3
  go_enter Tryd.func31, Tryd.ntmps31
  go_wp2_with fail
  go_quiet (fail)
  go_wp2_with fail
  go_ret
  exact ⟨rfl, dN (below_box _ _) _⟩

theorem refvalid_in (n d : Int) (w : World) (h1 : 1 ≤ d) (h2 : d ≤ 1000000000) (h3 : -1000000000 ≤ n) (h4 : n ≤ 1000000000) :
    Calls Tryd.prog 31 #[.agg #[.int .i64 n, .int .i64 d]] w fun e w' => e = .returned (.bool (vldB n d)) ∧ Below w.heap.size w w' := by
  have HX := Lib.hid (show n.natAbs < 18446744073709551616 by omega)
  have HY := Lib.hid (show d.natAbs < 18446744073709551616 by omega)
  have HV := Lib.hid (show ((Nat.gcd n.natAbs d.natAbs : Int) == 1) = vldB n d from one_beq (by simp [vldB, Vld, h1, h2, h3, h4]))
  have g1 : decide ((1 : Int) ≤ d) = true := by simpa using h1
  have g2 : decide (d ≤ (1000000000 : Int)) = true := by simpa using h2
  have g3 : decide ((-1000000000 : Int) ≤ n) = true := by simpa using h3
  have g4 : decide (n ≤ (1000000000 : Int)) = true := by simpa using h4
  go_enter Tryd.func31, Tryd.ntmps31
  go_wp2_with fail
  go_quiet ((first | (go_at_call 38; refine Calls.quiet_of_same (size_same _ ?_ ?_ _) <;> omega) | (go_at_call 37; exact Calls.quiet_of (refgcd_any _ _ HX.out HY.out _))))
  go_wp2_with fail
  go_ret
  exact ⟨bool_ret HV.out, dN (below_box _ _) _⟩

theorem refvalid_any (n d : Int) (w : World) :
    Calls Tryd.prog 31 #[.agg #[.int .i64 n, .int .i64 d]] w fun e w' => e = .returned (.bool (vldB n d)) ∧ Below w.heap.size w w' := by
  by_cases h : d < 1 ∨ 1000000000 < d ∨ n < -1000000000 ∨ 1000000000 < n
  · rw [vldB_false (by unfold Vld; omega)]
    exact refvalid_out n d w h
  · exact refvalid_in n d w (by omega) (by omega) (by omega) (by omega)
end Go.Proofs.YtendkghifcjffaaDoor.L1
