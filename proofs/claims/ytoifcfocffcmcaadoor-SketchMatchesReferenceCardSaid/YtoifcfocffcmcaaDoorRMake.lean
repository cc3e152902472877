/- The contract of Make. -/
import Derived.Test.YtoifcfocffcmcaaDoorRValid
namespace Go.Proofs.YtoifcfocffcmcaaDoor.L1
open Go.RowKit

theorem gcd_new0 (w : World) (A : Obj) (x y : Nat) (hx : x < 18446744073709551616) (hy : y < 18446744073709551616) :
    Calls Tryd.prog 38 #[.slice (some ⟨w.heap.size + 1, 0, none⟩) 2 2] ((w.alloc A).alloc (Obj.cells #[Value.int IntKind.u64 (x : Int), Value.int IntKind.u64 (y : Int)] 55)) fun e w' => e = .returned (.int .u64 (Nat.gcd x y : Int)) ∧ ∃ k, w' = (((w.alloc A).alloc (Obj.cells #[Value.int IntKind.u64 (x : Int), Value.int IntKind.u64 (y : Int)] 55))).drewN k :=
  gcd_any x y hx hy (w.heap.size + 1) _ (by simp [go_sem]) (by simp [go_sem])

/-- The post of a call that returns a ratio and an error. -/
def RatioPost (w : World) (r : Int × Int × Int) (e : Ending) (w' : World) : Prop :=
  e = .returned (.tuple #[.agg #[.int .i64 r.1, .int .i64 r.2.1], .int .i64 r.2.2]) ∧ Below w.heap.size w w'

theorem make_zero (n : Int) (w : World) : Calls Tryd.prog 29 #[.int .i64 n, .int .i64 0] w (RatioPost w (0, 0, 1)) := by
  go_enter Tryd.func29, Tryd.ntmps29
  go_wp2_with fail
  go_returns
  exact ⟨rfl, by go_grown⟩

theorem make_some (n d : Int) (w : World) (hd : d ≠ 0) (hn0 : -9223372036854775808 ≤ n) (hn1 : n ≤ 9223372036854775807) (hd0 : -9223372036854775808 ≤ d) (hd1 : d ≤ 9223372036854775807)
    (g : Nat) (hg : Nat.gcd n.natAbs d.natAbs = g) (r : Int) (hr : r = if (n < 0) ↔ (d < 0) then (n.natAbs : Int) / g else -((n.natAbs : Int) / g)) (hb : (n.natAbs : Int) / g ≤ 1000000000 ∧ (d.natAbs : Int) / g ≤ 1000000000) :
    Calls Tryd.prog 29 #[.int .i64 n, .int .i64 d] w (RatioPost w (r, (d.natAbs : Int) / g, 0)) := by
  have HR := Lib.hid hr
  clear hr
  have HX := Lib.hid (show n.natAbs < 18446744073709551616 by omega)
  have HY := Lib.hid (show d.natAbs < 18446744073709551616 by omega)
  have HN := Lib.hid (And.intro hn0 hn1)
  have HD := Lib.hid (And.intro hd0 hd1)
  have hp : 0 < g := by rw [← hg]; exact Nat.gcd_pos_of_pos_right _ (by omega)
  have HG := Lib.hid hg
  obtain ⟨b1, b2⟩ := hb
  have b3 : 0 ≤ (n.natAbs : Int) / g := Int.ediv_nonneg (by omega) (by omega)
  have b4 : 0 ≤ (d.natAbs : Int) / g := Int.ediv_nonneg (by omega) (by omega)
  have hz : ((d : Int) == 0) = false := by simpa using hd
  clear hn0 hn1 hd0 hd1 hg hd
  go_enter Tryd.func29, Tryd.ntmps29
  go_wp2_with fail
  refine (mag_any n HN.out.1 HN.out.2 _).mono ?_
  rintro e w' ⟨rfl, rfl⟩
  go_wp2_with fail
  refine (mag_any d HD.out.1 HD.out.2 _).mono ?_
  rintro e w' ⟨rfl, rfl⟩
  go_wp2_with fail
  refine (gcd_new0 w _ n.natAbs d.natAbs HX.out HY.out).mono ?_
  rintro e w1 ⟨rfl, k, rfl⟩
  rw [HG.out]
  go_wp2_with fail
  go_quiet (fail)
  by_cases sn : n < 0 <;> by_cases sd : d < 0
  all_goals go_wp2_with fail
  all_goals go_returns
  all_goals refine ⟨?_, ((dN (((Below.refl _ _).alloc (Nat.le_refl _) _).alloc (by simp) _) _).setCell (Nat.le_refl _) _).setCell (Nat.le_refl _) _⟩
  all_goals (rw [HR.out]; first | rw [if_pos (by omega)] | rw [if_neg (by omega)])

theorem make_big (n d : Int) (w : World) (hd : d ≠ 0) (hn0 : -9223372036854775808 ≤ n) (hn1 : n ≤ 9223372036854775807) (hd0 : -9223372036854775808 ≤ d) (hd1 : d ≤ 9223372036854775807)
    (g : Nat) (hg : Nat.gcd n.natAbs d.natAbs = g) (hb : 1000000000 < (n.natAbs : Int) / g ∨ 1000000000 < (d.natAbs : Int) / g) :
    Calls Tryd.prog 29 #[.int .i64 n, .int .i64 d] w (RatioPost w (0, 0, 2)) := by
  have HX := Lib.hid (show n.natAbs < 18446744073709551616 by omega)
  have HY := Lib.hid (show d.natAbs < 18446744073709551616 by omega)
  have HN := Lib.hid (And.intro hn0 hn1)
  have HD := Lib.hid (And.intro hd0 hd1)
  have hp : 0 < g := by rw [← hg]; exact Nat.gcd_pos_of_pos_right _ (by omega)
  have HG := Lib.hid hg
  have b1 : (n.natAbs : Int) / g ≤ 9223372036854775808 := Int.le_trans (Int.ediv_le_self _ (by omega)) (by omega)
  have b2 : (d.natAbs : Int) / g ≤ 9223372036854775808 := Int.le_trans (Int.ediv_le_self _ (by omega)) (by omega)
  have b3 : 0 ≤ (n.natAbs : Int) / g := Int.ediv_nonneg (by omega) (by omega)
  have b4 : 0 ≤ (d.natAbs : Int) / g := Int.ediv_nonneg (by omega) (by omega)
  have hz : ((d : Int) == 0) = false := by simpa using hd
  clear hn0 hn1 hd0 hd1 hg hd
  go_enter Tryd.func29, Tryd.ntmps29
  go_wp2_with fail
  refine (mag_any n HN.out.1 HN.out.2 _).mono ?_
  rintro e w' ⟨rfl, rfl⟩
  go_wp2_with fail
  refine (mag_any d HD.out.1 HD.out.2 _).mono ?_
  rintro e w' ⟨rfl, rfl⟩
  go_wp2_with fail
  refine (gcd_new0 w _ n.natAbs d.natAbs HX.out HY.out).mono ?_
  rintro e w1 ⟨rfl, k, rfl⟩
  rw [HG.out]
  go_wp2_with fail
  go_quiet (fail)
  rcases hb with hb | hb
  · go_wp2_with fail
    all_goals go_returns
    all_goals exact ⟨rfl, ((dN (((Below.refl _ _).alloc (Nat.le_refl _) _).alloc (by simp) _) _).setCell (Nat.le_refl _) _).setCell (Nat.le_refl _) _⟩
  · go_wp2_with fail
    all_goals go_returns
    all_goals exact ⟨rfl, ((dN (((Below.refl _ _).alloc (Nat.le_refl _) _).alloc (by simp) _) _).setCell (Nat.le_refl _) _).setCell (Nat.le_refl _) _⟩

/-- Make, for every two ints. -/
theorem make_any (n d : Int) (w : World) (hn0 : -9223372036854775808 ≤ n) (hn1 : n ≤ 9223372036854775807) (hd0 : -9223372036854775808 ≤ d) (hd1 : d ≤ 9223372036854775807) :
    Calls Tryd.prog 29 #[.int .i64 n, .int .i64 d] w (RatioPost w (mk n d)) := by
  by_cases hd : d = 0
  · subst hd
    rw [show mk n 0 = (0, 0, 1) by simp [mk]]
    exact make_zero n w
  · by_cases hb : n.natAbs / Nat.gcd n.natAbs d.natAbs ≤ 1000000000 ∧ d.natAbs / Nat.gcd n.natAbs d.natAbs ≤ 1000000000
    · have e : mk n d = (if (n < 0) ↔ (d < 0) then ((n.natAbs / Nat.gcd n.natAbs d.natAbs : Nat) : Int) else -((n.natAbs / Nat.gcd n.natAbs d.natAbs : Nat) : Int), ((d.natAbs / Nat.gcd n.natAbs d.natAbs : Nat) : Int), 0) := by
        unfold mk; rw [if_neg hd, if_pos hb]
      rw [e]
      simp only [Int.natCast_ediv]
      exact make_some n d w hd hn0 hn1 hd0 hd1 _ rfl _ rfl (by rw [← Int.natCast_ediv, ← Int.natCast_ediv]; omega)
    · have e : mk n d = (0, 0, 2) := by
        unfold mk; rw [if_neg hd, if_neg hb]
      rw [e]
      exact make_big n d w hd hn0 hn1 hd0 hd1 _ rfl (by rw [← Int.natCast_ediv, ← Int.natCast_ediv]; omega)
end Go.Proofs.YtoifcfocffcmcaaDoor.L1
