/- The contracts of Add, Sub, Mul, Div, Cmp. -/
import Derived.Test.YtendkghifcjffaaDoorRMake
import Derived.IntWalk
namespace Go.Proofs.YtendkghifcjffaaDoor.L1
open Go.RowKit

theorem mul_bound {a b : Int} {A B : Int} (h1 : -A ≤ a) (h2 : a ≤ A) (h3 : -B ≤ b) (h4 : b ≤ B) : -(A * B) ≤ a * b ∧ a * b ≤ A * B := by
  have : (a * b).natAbs ≤ (A * B).natAbs := by
    rw [Int.natAbs_mul, Int.natAbs_mul]
    exact Nat.mul_le_mul (by omega) (by omega)
  have hA : 0 ≤ A * B := Int.mul_nonneg (by omega) (by omega)
  omega

theorem i64_in {x : Int} (h : -9223372036854775808 ≤ x ∧ x ≤ 9223372036854775807) : IntKind.i64.wrap x = x := IntWalk.i64_in x h

theorem two_ret {a b c d : Int} (h : a = c) (k : b = d) : Ending.returned (.tuple #[.int .i64 a, .int .i64 b]) = .returned (.tuple #[.int .i64 c, .int .i64 d]) := by rw [h, k]

/-- The products of the numbers of two valid ratios. -/
structure Prods (an ad bn bd : Int) : Prop where
  p1 : -1000000000000000000 ≤ an * bd ∧ an * bd ≤ 1000000000000000000
  p2 : -1000000000000000000 ≤ bn * ad ∧ bn * ad ≤ 1000000000000000000
  p3 : -1000000000000000000 ≤ ad * bd ∧ ad * bd ≤ 1000000000000000000
  p4 : -1000000000000000000 ≤ an * bn ∧ an * bn ≤ 1000000000000000000
  p5 : -1000000000000000000 ≤ ad * bn ∧ ad * bn ≤ 1000000000000000000

theorem prods {an ad bn bd : Int} (ha : Vld an ad) (hb : Vld bn bd) : Prods an ad bn bd := by
  obtain ⟨h1, h2, h3, h4, _⟩ := ha
  obtain ⟨k1, k2, k3, k4, _⟩ := hb
  have g := fun {a b : Int} (h1 : -1000000000 ≤ a) (h2 : a ≤ 1000000000) (h3 : -1000000000 ≤ b) (h4 : b ≤ 1000000000) => mul_bound h1 h2 h3 h4
  exact ⟨g h3 h4 (by omega) k2, g k3 k4 (by omega) h2, g (by omega) h2 (by omega) k2, g h3 h4 k3 k4, g (by omega) h2 k3 k4⟩

/-- A cell that holds something lies in a block that exists. -/
theorem cellLt {w : World} {b o : Nat} {v : Value} (hc : w.cell? ⟨b, o, none⟩ = some v) : b < w.heap.size := by
  rcases Nat.lt_or_ge b w.heap.size with h | h
  · exact h
  · simp [World.cell?, Array.getElem?_eq_none h] at hc

theorem cellB {w w1 : World} {b o : Nat} {v : Value} (hb : Below w.heap.size w w1) (hc : w.cell? ⟨b, o, none⟩ = some v) : w1.cell? ⟨b, o, none⟩ = some v :=
  (hb.cell (p := ⟨b, o, none⟩) (cellLt hc)).trans hc

theorem frozenB {w w1 : World} {b o : Nat} {v : Value} (hb : Below w.heap.size w w1) (hc : w.cell? ⟨b, o, none⟩ = some v) (hf : w.frozen? ⟨b, o, none⟩ = false) : w1.frozen? ⟨b, o, none⟩ = false :=
  (hb.frozen (p := ⟨b, o, none⟩) (cellLt hc)).trans hf

/-- Block b holds a ratio. -/
structure Rat2 (w : World) (b : Nat) (n d : Int) : Prop where
  c0 : w.cell? ⟨b, 0, none⟩ = some (.int .i64 n)
  c1 : w.cell? ⟨b, 1, none⟩ = some (.int .i64 d)
theorem Rat2.below {w w1 : World} {b : Nat} {n d : Int} (h : Rat2 w b n d) (hb : Below w.heap.size w w1) : Rat2 w1 b n d := ⟨cellB hb h.c0, cellB hb h.c1⟩
theorem Rat2.lt {w : World} {b : Nat} {n d : Int} (h : Rat2 w b n d) : b < w.heap.size := cellLt h.c0
theorem Rat2.ne {w : World} {b : Nat} {n d : Int} (h : Rat2 w b n d) : b ≠ w.heap.size := Nat.ne_of_lt h.lt
theorem Rat2.alloc {w : World} {b : Nat} {n d : Int} (h : Rat2 w b n d) (o : Obj) : Rat2 (w.alloc o) b n d := h.below ((Below.refl _ _).alloc (Nat.le_refl _) _)

/-- Block b is a ratio's, and may be written. -/
structure Own2 (w : World) (b : Nat) (n d : Int) : Prop extends Rat2 w b n d where
  f0 : w.frozen? ⟨b, 0, none⟩ = false
  f1 : w.frozen? ⟨b, 1, none⟩ = false
theorem Own2.below {w w1 : World} {b : Nat} {n d : Int} (h : Own2 w b n d) (hb : Below w.heap.size w w1) : Own2 w1 b n d :=
  { h.toRat2.below hb with f0 := frozenB hb h.c0 h.f0, f1 := frozenB hb h.c1 h.f1 }

theorem boxes3 (w : World) (A B C : Obj) : Below w.heap.size w (((w.alloc A).alloc B).alloc C) :=
  (((Below.refl _ _).alloc (Nat.le_refl _) _).alloc (by simp) _).alloc (by simp; omega) _

theorem below_up {B C : Nat} {a b c : World} (h : Below B a b) (k : Below C b c) (hC : B ≤ C) : Below B a c := h.trans (k.mono hC)

end Go.Proofs.YtendkghifcjffaaDoor.L1
