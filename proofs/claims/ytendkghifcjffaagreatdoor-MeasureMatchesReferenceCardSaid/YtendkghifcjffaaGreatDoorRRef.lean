/- The contracts of the reference's size, Valid, of, Make. -/
import Derived.Test.YtendkghifcjffaaGreatDoorROps
import Derived.Test.YtendkghifcjffaaGreatDoorRRefGcd
namespace Go.Proofs.YtendkghifcjffaaGreatDoor.L1
open Go.RowKit

theorem size_neg (n : Int) (h0 : -9223372036854775808 ≤ n) (h1 : n < 0) : IntKind.u64.wrap (0 - IntKind.u64.wrap n) = (n.natAbs : Int) := by
  simp only [IntKind.wrap_u64]; omega

theorem size_any (n : Int) (h0 : -9223372036854775808 ≤ n) (h1 : n ≤ 9223372036854775807) (w : World) :
    Calls Tryz.prog 65 #[.int .i64 n] w fun e w' => e = .returned (.int .u64 (n.natAbs : Int)) ∧ w = w' := by
  have H0 := Lib.hid h0
  have H1 := Lib.hid h1
  clear h0 h1
  by_cases hn : n < 0
  · go_enter Tryz.func65, Tryz.ntmps65
    go_wp2
    go_ret
    exact ⟨ret_int (by first | exact size_neg n H0.out hn | exact mag_neg n H0.out hn), rfl⟩
  · go_enter Tryz.func65, Tryz.ntmps65
    go_wp2
    go_ret
    exact ⟨ret_int (mag_pos n (by omega) H1.out), rfl⟩

theorem size_same (n : Int) (h0 : -9223372036854775808 ≤ n) (h1 : n ≤ 9223372036854775807) (w : World) :
    Calls Tryz.prog 65 #[.int .i64 n] w fun e w' => e = .returned (.int .u64 (n.natAbs : Int)) ∧ w' = w :=
  (size_any n h0 h1 w).mono fun _ _ h => ⟨h.1, h.2.symm⟩

/-- What the reference's 'of' returns. -/
def rof (neg : Bool) (n d : Nat) : Int × Int × Int :=
  if d = 0 then (0, 0, 1)
  else if n / Nat.gcd n d ≤ 1000000000 ∧ d / Nat.gcd n d ≤ 1000000000 then (if neg then -((n / Nat.gcd n d : Nat) : Int) else ((n / Nat.gcd n d : Nat) : Int), ((d / Nat.gcd n d : Nat) : Int), 0)
  else (0, 0, 2)

theorem refof_zero (neg : Bool) (n : Int) (w : World) : Calls Tryz.prog 64 #[.bool neg, .int .u64 n, .int .u64 0] w (RatioPost w (0, 0, 1)) := by
  go_enter Tryz.func64, Tryz.ntmps64
  go_wp2_with fail
  go_returns
  exact ⟨rfl, by go_grown⟩

theorem refof_big (neg : Bool) (x y : Nat) (hx : x < 18446744073709551616) (hy : y < 18446744073709551616) (hd : y ≠ 0) (g : Nat) (hg : Nat.gcd x y = g) (hb : 1000000000 < (x : Int) / g ∨ 1000000000 < (y : Int) / g) (w : World) :
    Calls Tryz.prog 64 #[.bool neg, .int .u64 (x : Int), .int .u64 (y : Int)] w (RatioPost w (0, 0, 2)) := by
  have HX := Lib.hid hx
  have HY := Lib.hid hy
  have hp : 0 < g := by rw [← hg]; exact Nat.gcd_pos_of_pos_right _ (by omega)
  have HG := Lib.hid hg
  have b1 : (x : Int) / g ≤ 18446744073709551615 := Int.le_trans (Int.ediv_le_self _ (by omega)) (by omega)
  have b2 : (y : Int) / g ≤ 18446744073709551615 := Int.le_trans (Int.ediv_le_self _ (by omega)) (by omega)
  have b3 : 0 ≤ (x : Int) / g := Int.ediv_nonneg (by omega) (by omega)
  have b4 : 0 ≤ (y : Int) / g := Int.ediv_nonneg (by omega) (by omega)
  have hz : ((y : Int) == 0) = false := by rw [beq_eq_false_iff_ne]; omega
  clear hx hy hg hd
  go_enter Tryz.func64, Tryz.ntmps64
  go_wp2_with fail
  refine (refgcd_any x y HX.out HY.out _).mono ?_
  rintro e w1 ⟨rfl, k, rfl⟩
  rw [HG.out]
  rcases hb with hb | hb
  · go_wp2_with fail
    all_goals go_returns
    all_goals exact ⟨rfl, ((dN ((Below.refl _ _).alloc (Nat.le_refl _) _) _).setCell (Nat.le_refl _) _).setCell (Nat.le_refl _) _⟩
  · go_wp2_with fail
    all_goals go_returns
    all_goals exact ⟨rfl, ((dN ((Below.refl _ _).alloc (Nat.le_refl _) _) _).setCell (Nat.le_refl _) _).setCell (Nat.le_refl _) _⟩

theorem refof_some (neg : Bool) (x y : Nat) (hx : x < 18446744073709551616) (hy : y < 18446744073709551616) (hd : y ≠ 0) (g : Nat) (hg : Nat.gcd x y = g) (r : Int) (hr : r = if neg then -((x : Int) / g) else (x : Int) / g) (hb : (x : Int) / g ≤ 1000000000 ∧ (y : Int) / g ≤ 1000000000) (w : World) :
    Calls Tryz.prog 64 #[.bool neg, .int .u64 (x : Int), .int .u64 (y : Int)] w (RatioPost w (r, (y : Int) / g, 0)) := by
  have HR := Lib.hid hr
  have HX := Lib.hid hx
  have HY := Lib.hid hy
  have hp : 0 < g := by rw [← hg]; exact Nat.gcd_pos_of_pos_right _ (by omega)
  have HG := Lib.hid hg
  obtain ⟨b1, b2⟩ := hb
  have b3 : 0 ≤ (x : Int) / g := Int.ediv_nonneg (by omega) (by omega)
  have b4 : 0 ≤ (y : Int) / g := Int.ediv_nonneg (by omega) (by omega)
  have hz : ((y : Int) == 0) = false := by rw [beq_eq_false_iff_ne]; omega
  clear hx hy hg hd hr
  cases neg
  all_goals
    go_enter Tryz.func64, Tryz.ntmps64
    go_wp2_with fail
    refine (refgcd_any x y HX.out HY.out _).mono ?_
    rintro e w1 ⟨rfl, k, rfl⟩
    rw [HG.out]
    go_wp2_with fail
    go_returns
    refine ⟨?_, ((dN ((Below.refl _ _).alloc (Nat.le_refl _) _) _).setCell (Nat.le_refl _) _).setCell (Nat.le_refl _) _⟩
    rw [HR.out]
    simp

theorem refof_any (neg : Bool) (x y : Nat) (hx : x < 18446744073709551616) (hy : y < 18446744073709551616) (w : World) :
    Calls Tryz.prog 64 #[.bool neg, .int .u64 (x : Int), .int .u64 (y : Int)] w (RatioPost w (rof neg x y)) := by
  by_cases hd : y = 0
  · subst hd
    rw [show rof neg x 0 = (0, 0, 1) by unfold rof; rw [if_pos rfl]]
    exact refof_zero neg x w
  · by_cases hb : x / Nat.gcd x y ≤ 1000000000 ∧ y / Nat.gcd x y ≤ 1000000000
    · have e : rof neg x y = (if neg then -((x / Nat.gcd x y : Nat) : Int) else ((x / Nat.gcd x y : Nat) : Int), ((y / Nat.gcd x y : Nat) : Int), 0) := by
        unfold rof; rw [if_neg hd, if_pos hb]
      rw [e]
      simp only [Int.natCast_ediv]
      exact refof_some neg x y hx hy hd _ rfl _ rfl (by rw [← Int.natCast_ediv, ← Int.natCast_ediv]; omega) w
    · have e : rof neg x y = (0, 0, 2) := by unfold rof; rw [if_neg hd, if_neg hb]
      rw [e]
      exact refof_big neg x y hx hy hd _ rfl (by rw [← Int.natCast_ediv, ← Int.natCast_ediv]; omega) w

theorem rof_mk (n d : Int) : rof (decide (n < 0) != decide (d < 0)) n.natAbs d.natAbs = mk n d := by
  unfold rof mk
  by_cases hd : d = 0
  · subst hd; simp
  · rw [if_neg (by omega), if_neg hd]
    split
    · congr 1
      by_cases h1 : n < 0 <;> by_cases h2 : d < 0 <;> simp [h1, h2]
    · rfl

theorem refmake_any (n d : Int) (w : World) (hn0 : -9223372036854775808 ≤ n) (hn1 : n ≤ 9223372036854775807) (hd0 : -9223372036854775808 ≤ d) (hd1 : d ≤ 9223372036854775807) :
    Calls Tryz.prog 48 #[.int .i64 n, .int .i64 d] w (RatioPost w (mk n d)) := by
  have HN := Lib.hid (And.intro hn0 hn1)
  have HD := Lib.hid (And.intro hd0 hd1)
  have HX := Lib.hid (show n.natAbs < 18446744073709551616 by omega)
  have HY := Lib.hid (show d.natAbs < 18446744073709551616 by omega)
  clear hn0 hn1 hd0 hd1
  go_enter Tryz.func48, Tryz.ntmps48
  go_wp2_with fail
  refine (size_any n HN.out.1 HN.out.2 _).mono ?_
  rintro e w' ⟨rfl, rfl⟩
  go_wp2_with fail
  refine (size_any d HD.out.1 HD.out.2 _).mono ?_
  rintro e w' ⟨rfl, rfl⟩
  go_wp2_with fail
  have K := fun W => refof_any (decide (n < 0) != decide (d < 0)) n.natAbs d.natAbs HX.out HY.out W
  rw [rof_mk] at K
  refine (K _).mono ?_
  clear K
  rintro e w1 ⟨rfl, hb1⟩
  have R1 : Own2 w1 w.heap.size 0 0 := Own2.below ⟨⟨by simp [go_sem], by simp [go_sem]⟩, by simp [go_sem], by simp [go_sem]⟩ hb1
  have HB := below_up ((Below.refl _ _).alloc (Nat.le_refl _) _) hb1 (by simp)
  have r0 := R1.c0; have r1 := R1.c1; have f0 := R1.f0; have f1 := R1.f1
  clear hb1
  go_wp2_with fail
  refine bodyPost_ret (v := .tuple #[.agg #[.int .i64 (mk n d).1, .int .i64 (mk n d).2.1], .int .i64 (mk n d).2.2]) (by simp [results, Tryz.results48, go_sem, r0, r1]) rfl ?_
  exact ⟨rfl, (HB.setCell (Nat.le_refl _) _).setCell (Nat.le_refl _) _⟩

theorem below_box (w : World) (A : Obj) : Below w.heap.size w (w.alloc A) := (Below.refl _ _).alloc (Nat.le_refl _) _

end Go.Proofs.YtendkghifcjffaaGreatDoor.L1
