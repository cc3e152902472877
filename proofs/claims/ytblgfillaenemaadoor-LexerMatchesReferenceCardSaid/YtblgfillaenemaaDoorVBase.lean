/- Words on worlds: what a block holds, and what stands when a world has grown. -/
import Derived.Test.YtblgfillaenemaaDoorChecked
import Derived.Test.YtblgfillaenemaaDoorVMath
import Derived.WalkKit
import Derived.ProofKit
import Derived.OpenShut
import Derived.LoopTactic
import Derived.RegionTactic
import Derived.ChangeAlike
import Derived.Below
import Derived.Lib.Hide
import Derived.WalkSpells
import Derived.WalkLawsBesides
import Derived.IntWalk
import Derived.Handy
import Derived.Outline
import Derived.Deep.QuietTactic
import Derived.BigQuiet
import Derived.Deep.RegionWith
import Derived.Deep.RegionHeld3
import Derived.Deep.DeepFit
namespace Go.Proofs.YtblgfillaenemaaDoor.L2
open Go.RowKit

theorem ret_int {k : IntKind} {a b : Int} (h : a = b) : Ending.returned (.int k a) = .returned (.int k b) := by rw [h]
theorem bool_ret {a b : Bool} (h : a = b) : Ending.returned (.bool a) = .returned (.bool b) := by rw [h]
theorem str_ret {a b : List UInt8} (h : a = b) : Ending.returned (.string ⟨a.toArray⟩) = .returned (.string ⟨b.toArray⟩) := by rw [h]

/-- A value of the program. -/
abbrev V (k n : Int) (t : List UInt8) : Value := .agg #[.int .i64 k, .int .i64 n, .string ⟨t.toArray⟩]

/-- A cell that holds something lies in a block that exists. -/
theorem cellLt {w : World} {b o : Nat} {v : Value} (hc : w.cell? ⟨b, o, none⟩ = some v) : b < w.heap.size := by
  rcases Nat.lt_or_ge b w.heap.size with h | h
  · exact h
  · simp [World.cell?, Array.getElem?_eq_none h] at hc
theorem cellB {w w1 : World} {b o : Nat} {v : Value} (hb : Below w.heap.size w w1) (hc : w.cell? ⟨b, o, none⟩ = some v) : w1.cell? ⟨b, o, none⟩ = some v :=
  (hb.cell (p := ⟨b, o, none⟩) (cellLt hc)).trans hc
theorem frozenB {w w1 : World} {b o : Nat} {v : Value} (hb : Below w.heap.size w w1) (hc : w.cell? ⟨b, o, none⟩ = some v) (hf : w.frozen? ⟨b, o, none⟩ = false) : w1.frozen? ⟨b, o, none⟩ = false :=
  (hb.frozen (p := ⟨b, o, none⟩) (cellLt hc)).trans hf

/-- Block b holds a value. -/
structure Val3 (w : World) (b : Nat) (k n : Int) (t : List UInt8) : Prop where
  c0 : w.cell? ⟨b, 0, none⟩ = some (.int .i64 k)
  c1 : w.cell? ⟨b, 1, none⟩ = some (.int .i64 n)
  c2 : w.cell? ⟨b, 2, none⟩ = some (.string ⟨t.toArray⟩)
theorem Val3.below {w w1 : World} {b : Nat} {k n : Int} {t : List UInt8} (h : Val3 w b k n t) (hb : Below w.heap.size w w1) : Val3 w1 b k n t := ⟨cellB hb h.c0, cellB hb h.c1, cellB hb h.c2⟩
theorem Val3.lt {w : World} {b : Nat} {k n : Int} {t : List UInt8} (h : Val3 w b k n t) : b < w.heap.size := cellLt h.c0
theorem Val3.ne {w : World} {b : Nat} {k n : Int} {t : List UInt8} (h : Val3 w b k n t) : b ≠ w.heap.size := Nat.ne_of_lt h.lt
theorem Val3.alloc {w : World} {b : Nat} {k n : Int} {t : List UInt8} (h : Val3 w b k n t) (o : Obj) : Val3 (w.alloc o) b k n t := h.below ((Below.refl _ _).alloc (Nat.le_refl _) _)

/-- Block b is a value's, and may be written. -/
structure Own3 (w : World) (b : Nat) (k n : Int) (t : List UInt8) : Prop extends Val3 w b k n t where
  f0 : w.frozen? ⟨b, 0, none⟩ = false
  f1 : w.frozen? ⟨b, 1, none⟩ = false
  f2 : w.frozen? ⟨b, 2, none⟩ = false
theorem Own3.below {w w1 : World} {b : Nat} {k n : Int} {t : List UInt8} (h : Own3 w b k n t) (hb : Below w.heap.size w w1) : Own3 w1 b k n t :=
  { h.toVal3.below hb with f0 := frozenB hb h.c0 h.f0, f1 := frozenB hb h.c1 h.f1, f2 := frozenB hb h.c2 h.f2 }

theorem below_up {B C : Nat} {a b c : World} (h : Below B a b) (k : Below C b c) (hC : B ≤ C) : Below B a c := h.trans (k.mono hC)
theorem boxes2 (w : World) (A B : Obj) : Below w.heap.size w ((w.alloc A).alloc B) :=
  ((Below.refl _ _).alloc (Nat.le_refl _) _).alloc (by simp) _
theorem boxes3 (w : World) (A B C : Obj) : Below w.heap.size w (((w.alloc A).alloc B).alloc C) :=
  (((Below.refl _ _).alloc (Nat.le_refl _) _).alloc (by simp) _).alloc (by simp; omega) _
theorem below_drewN (B : Nat) (w : World) (k : Nat) : Below B w (w.drewN k) := ⟨rfl, rfl, rfl, Nat.le_refl _, fun _ _ => rfl⟩
theorem dN {B : Nat} {a w : World} (h : Below B a w) (k : Nat) : Below B a (w.drewN k) := h.trans (below_drewN B w k)
theorem below_next {B : Nat} {a w w1 : World} (h : Below B a w) (hB : B ≤ w.heap.size) {o : Obj} (hb : Below (w.alloc o).heap.size (w.alloc o) w1) : Below B a w1 :=
  below_up (h.alloc hB o) hb (by simp; omega)

/-- What a function returns that has a value and an error. -/
def ValPost (w : World) (r : Int × Int × List UInt8 × Int) (e : Ending) (w' : World) : Prop :=
  e = .returned (.tuple #[V r.1 r.2.1 r.2.2.1, .int .i64 r.2.2.2]) ∧ Below w.heap.size w w'
end Go.Proofs.YtblgfillaenemaaDoor.L2
