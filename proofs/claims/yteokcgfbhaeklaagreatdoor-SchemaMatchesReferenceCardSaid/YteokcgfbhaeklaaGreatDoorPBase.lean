/- Words on worlds: what a block holds, and what stands when a world has grown. -/
import Derived.Test.YteokcgfbhaeklaaGreatDoorChecked
import Derived.Test.YteokcgfbhaeklaaGreatDoorPMath
import Derived.WalkKit
import Derived.ProofKit
import Derived.OpenShut
import Derived.LoopTactic
import Derived.RegionTactic
import Derived.ChangeAlike
import Derived.Below
import Derived.Lib.Hide
import Derived.WalkSpells
import Derived.WalkLawsBesides
import Derived.IntWalk
import Derived.Handy
import Derived.Outline
import Derived.Deep.QuietTactic
import Derived.BigQuiet
import Derived.Deep.RegionWith
import Derived.Deep.RegionHeld3
import Derived.Deep.DeepFit
import Derived.Test.YteokcgfbhaeklaaGreatDoorKBase
import Derived.Test.YteokcgfbhaeklaaGreatDoorShelf
import Derived.Laws.AppendOwnNone
import Derived.Lib.SmallJoins
namespace Go.Proofs.YteokcgfbhaeklaaGreatDoor.L2
open Go.RowKit

theorem ret_int {k : IntKind} {a b : Int} (h : a = b) : Ending.returned (.int k a) = .returned (.int k b) := by rw [h]
theorem bool_ret {a b : Bool} (h : a = b) : Ending.returned (.bool a) = .returned (.bool b) := by rw [h]
theorem str_ret {a b : List UInt8} (h : a = b) : Ending.returned (.string ⟨a.toArray⟩) = .returned (.string ⟨b.toArray⟩) := by rw [h]

/-- A value of the program. -/
abbrev V (k n : Int) (t : List UInt8) : Value := .agg #[.int .i64 k, .int .i64 n, .string ⟨t.toArray⟩]

/-- A cell that holds something lies in a block that exists. -/
theorem cellLt {w : World} {b o : Nat} {v : Value} (hc : w.cell? ⟨b, o, none⟩ = some v) : b < w.heap.size := by
  rcases Nat.lt_or_ge b w.heap.size with h | h
  · exact h
  · simp [World.cell?, Array.getElem?_eq_none h] at hc
theorem cellB {w w1 : World} {b o : Nat} {v : Value} (hb : Below w.heap.size w w1) (hc : w.cell? ⟨b, o, none⟩ = some v) : w1.cell? ⟨b, o, none⟩ = some v :=
  (hb.cell (p := ⟨b, o, none⟩) (cellLt hc)).trans hc
theorem frozenB {w w1 : World} {b o : Nat} {v : Value} (hb : Below w.heap.size w w1) (hc : w.cell? ⟨b, o, none⟩ = some v) (hf : w.frozen? ⟨b, o, none⟩ = false) : w1.frozen? ⟨b, o, none⟩ = false :=
  (hb.frozen (p := ⟨b, o, none⟩) (cellLt hc)).trans hf

/-- Block b holds a value. -/
structure Val3 (w : World) (b : Nat) (k n : Int) (t : List UInt8) : Prop where
  c0 : w.cell? ⟨b, 0, none⟩ = some (.int .i64 k)
  c1 : w.cell? ⟨b, 1, none⟩ = some (.int .i64 n)
  c2 : w.cell? ⟨b, 2, none⟩ = some (.string ⟨t.toArray⟩)
theorem Val3.below {w w1 : World} {b : Nat} {k n : Int} {t : List UInt8} (h : Val3 w b k n t) (hb : Below w.heap.size w w1) : Val3 w1 b k n t := ⟨cellB hb h.c0, cellB hb h.c1, cellB hb h.c2⟩
theorem Val3.lt {w : World} {b : Nat} {k n : Int} {t : List UInt8} (h : Val3 w b k n t) : b < w.heap.size := cellLt h.c0
theorem Val3.ne {w : World} {b : Nat} {k n : Int} {t : List UInt8} (h : Val3 w b k n t) : b ≠ w.heap.size := Nat.ne_of_lt h.lt
theorem Val3.alloc {w : World} {b : Nat} {k n : Int} {t : List UInt8} (h : Val3 w b k n t) (o : Obj) : Val3 (w.alloc o) b k n t := h.below ((Below.refl _ _).alloc (Nat.le_refl _) _)

/-- Block b is a value's, and may be written. -/
structure Own3 (w : World) (b : Nat) (k n : Int) (t : List UInt8) : Prop extends Val3 w b k n t where
  f0 : w.frozen? ⟨b, 0, none⟩ = false
  f1 : w.frozen? ⟨b, 1, none⟩ = false
  f2 : w.frozen? ⟨b, 2, none⟩ = false
theorem Own3.below {w w1 : World} {b : Nat} {k n : Int} {t : List UInt8} (h : Own3 w b k n t) (hb : Below w.heap.size w w1) : Own3 w1 b k n t :=
  { h.toVal3.below hb with f0 := frozenB hb h.c0 h.f0, f1 := frozenB hb h.c1 h.f1, f2 := frozenB hb h.c2 h.f2 }

theorem below_up {B C : Nat} {a b c : World} (h : Below B a b) (k : Below C b c) (hC : B ≤ C) : Below B a c := h.trans (k.mono hC)
theorem boxes2 (w : World) (A B : Obj) : Below w.heap.size w ((w.alloc A).alloc B) :=
  ((Below.refl _ _).alloc (Nat.le_refl _) _).alloc (by simp) _
theorem boxes3 (w : World) (A B C : Obj) : Below w.heap.size w (((w.alloc A).alloc B).alloc C) :=
  (((Below.refl _ _).alloc (Nat.le_refl _) _).alloc (by simp) _).alloc (by simp; omega) _
theorem below_drewN (B : Nat) (w : World) (k : Nat) : Below B w (w.drewN k) := ⟨rfl, rfl, rfl, Nat.le_refl _, fun _ _ => rfl⟩
theorem dN {B : Nat} {a w : World} (h : Below B a w) (k : Nat) : Below B a (w.drewN k) := h.trans (below_drewN B w k)
theorem below_next {B : Nat} {a w w1 : World} (h : Below B a w) (hB : B ≤ w.heap.size) {o : Obj} (hb : Below (w.alloc o).heap.size (w.alloc o) w1) : Below B a w1 :=
  below_up (h.alloc hB o) hb (by simp; omega)

/-- What a function returns that has a value and an error. -/
def ValPost (w : World) (r : Int × Int × List UInt8 × Int) (e : Ending) (w' : World) : Prop :=
  e = .returned (.tuple #[V r.1 r.2.1 r.2.2.1, .int .i64 r.2.2.2]) ∧ Below w.heap.size w w'
end Go.Proofs.YteokcgfbhaeklaaGreatDoor.L2

/- The contract of Valid. -/
namespace Go.Proofs.YteokcgfbhaeklaaGreatDoor.L2
open Go.RowKit

theorem valid_any (k n : Int) (t : List UInt8) (w : World) :
    Calls Tryz.prog 49 #[V k n t] w fun e w' => e = .returned (.bool (vldB k n t)) ∧ Below w.heap.size w w' := by
  go_enter Tryz.func49, Tryz.ntmps49
  go_wp2_with fail
  all_goals
    go_ret
    refine ⟨bool_ret (vldB_iff ?_), by go_grown⟩
    simp only [beq_iff_eq, beq_eq_false_iff_ne, ne_eq] at *
    unfold Vld
    by_cases ht : t = [] <;> simp [ht] <;> omega
end Go.Proofs.YteokcgfbhaeklaaGreatDoor.L2

/- Words of layer 6 on worlds: values, attributes, tables and schemas in memory. -/
namespace Go.Proofs.YteokcgfbhaeklaaGreatDoor
open Go.RowKit

/-- A value. -/
abbrev Vv (v : T3) : Value := .agg #[.int .i64 v.1, .int .i64 v.2.1, str v.2.2]
/-- A slice whose elements, of sz cells each, are the list l, each as R says. -/
def Slc {α : Type} (sz : Nat) (R : World → Nat → Nat → α → Prop) (w : World) (v : Value) (l : List α) : Prop :=
  ∃ (A : Option Addr) (cap : Nat), v = .slice A l.length cap ∧ l.length ≤ cap ∧ (A = none → cap = 0) ∧ ∀ i (h : i < l.length), ∃ b off, A = some ⟨b, off, none⟩ ∧ R w b (off + i * sz) l[i]
theorem Slc.nil {α : Type} {sz : Nat} {R : World → Nat → Nat → α → Prop} (w : World) : Slc sz R w (.slice none 0 0) [] :=
  ⟨none, 0, rfl, Nat.le_refl _, fun _ => rfl, fun i h => absurd h (by simp)⟩
theorem Slc.mono {α : Type} {sz : Nat} {R : World → Nat → Nat → α → Prop} {w w1 : World} {v : Value} {l : List α} (h : Slc sz R w v l) (hR : ∀ b o x, x ∈ l → R w b o x → R w1 b o x) : Slc sz R w1 v l := by
  obtain ⟨A, cap, e, hc, hn, f⟩ := h
  refine ⟨A, cap, e, hc, hn, fun i hi => ?_⟩
  obtain ⟨b, off, h1, h2⟩ := f i hi
  exact ⟨b, off, h1, hR _ _ _ (List.getElem_mem hi) h2⟩
theorem Slc.size {α : Type} {sz : Nat} {R : World → Nat → Nat → α → Prop} {w : World} {A : Option Addr} {n cap : Nat} {l : List α} (h : Slc sz R w (.slice A n cap) l) : n = l.length ∧ n ≤ cap ∧ (A = none → cap = 0) := by
  obtain ⟨A', cap', e, hc, hn, _⟩ := h
  injection e with e1 e2 e3
  subst e1 e3
  exact ⟨e2, by omega, hn⟩
/-- A list that is not empty: its block. -/
theorem Slc.spot {α : Type} {sz : Nat} {R : World → Nat → Nat → α → Prop} {w : World} {A : Option Addr} {n cap : Nat} {l : List α} (h : Slc sz R w (.slice A n cap) l) (hl : 0 < l.length) :
    n = l.length ∧ n ≤ cap ∧ ∃ b off, A = some ⟨b, off, none⟩ ∧ ∀ i (h : i < l.length), R w b (off + i * sz) l[i] := by
  obtain ⟨A', cap', e, hc, hn, f⟩ := h
  injection e with e1 e2 e3
  subst e1 e3
  obtain ⟨b, off, rfl, _⟩ := f 0 hl
  refine ⟨e2, by omega, b, off, rfl, fun i hi => ?_⟩
  obtain ⟨b', off', e', h2⟩ := f i hi
  cases e'
  exact h2
theorem Slc.form {α : Type} {sz : Nat} {R : World → Nat → Nat → α → Prop} {w : World} {v : Value} {l : List α} (h : Slc sz R w v l) : ∃ A cap, v = .slice A l.length cap ∧ l.length ≤ cap := by
  obtain ⟨A, cap, e, hc, _⟩ := h
  exact ⟨A, cap, e, hc⟩

/-! ### What lies at an address. -/
structure ValAt (w : World) (b o : Nat) (v : T3) : Prop where
  c0 : w.cell? ⟨b, o, none⟩ = some (.int .i64 v.1)
  c1 : w.cell? ⟨b, o + 1, none⟩ = some (.int .i64 v.2.1)
  c2 : w.cell? ⟨b, o + 2, none⟩ = some (str v.2.2)
structure AttrAt (w : World) (b o : Nat) (wv : Value) (a : AttrT) : Prop where
  c0 : w.cell? ⟨b, o, none⟩ = some (str a.name)
  c1 : w.cell? ⟨b, o + 1, none⟩ = some (.int .i64 a.kind)
  c2 : w.cell? ⟨b, o + 2, none⟩ = some wv
  c3 : w.cell? ⟨b, o + 3, none⟩ = some (.int .i64 a.dft.1)
  c4 : w.cell? ⟨b, o + 4, none⟩ = some (.int .i64 a.dft.2.1)
  c5 : w.cell? ⟨b, o + 5, none⟩ = some (str a.dft.2.2)
structure TabAt (w : World) (b o : Nat) (va vk : Value) (n : Txt) : Prop where
  c0 : w.cell? ⟨b, o, none⟩ = some (str n)
  c1 : w.cell? ⟨b, o + 1, none⟩ = some va
  c2 : w.cell? ⟨b, o + 2, none⟩ = some vk
theorem ValAt.below {w w1 : World} {b o : Nat} {v : T3} (h : ValAt w b o v) (hb : Below w.heap.size w w1) : ValAt w1 b o v := ⟨cellB hb h.c0, cellB hb h.c1, cellB hb h.c2⟩
theorem AttrAt.below {w w1 : World} {b o : Nat} {wv : Value} {a : AttrT} (h : AttrAt w b o wv a) (hb : Below w.heap.size w w1) : AttrAt w1 b o wv a :=
  ⟨cellB hb h.c0, cellB hb h.c1, cellB hb h.c2, cellB hb h.c3, cellB hb h.c4, cellB hb h.c5⟩
theorem TabAt.below {w w1 : World} {b o : Nat} {va vk : Value} {n : Txt} (h : TabAt w b o va vk n) (hb : Below w.heap.size w w1) : TabAt w1 b o va vk n := ⟨cellB hb h.c0, cellB hb h.c1, cellB hb h.c2⟩

/-- A slice of numbers. -/
def Ints (w : World) (v : Value) (l : List Int) : Prop := Slc 1 (fun w b o x => w.cell? ⟨b, o, none⟩ = some (.int .i64 x)) w v l
theorem Ints.below {w w1 : World} {v : Value} {l : List Int} (h : Ints w v l) (hb : Below w.heap.size w w1) : Ints w1 v l := Slc.mono h fun _ _ _ _ hx => cellB hb hx
/-- A slice of values, of attributes, of tables; a schema. -/
def Vals (w : World) (v : Value) (l : List T3) : Prop := Slc 3 ValAt w v l
theorem Vals.below {w w1 : World} {v : Value} {l : List T3} (h : Vals w v l) (hb : Below w.heap.size w w1) : Vals w1 v l := Slc.mono h fun _ _ _ _ hx => hx.below hb
def AttrR (w : World) (b o : Nat) (a : AttrT) : Prop := ∃ wv, AttrAt w b o wv a ∧ Strs w wv a.was
theorem AttrR.below {w w1 : World} {b o : Nat} {a : AttrT} (h : AttrR w b o a) (hb : Below w.heap.size w w1) : AttrR w1 b o a := by
  obtain ⟨wv, h1, h2⟩ := h
  exact ⟨wv, h1.below hb, h2.below hb⟩
def Attrs (w : World) (v : Value) (l : List AttrT) : Prop := Slc 6 AttrR w v l
theorem Attrs.below {w w1 : World} {v : Value} {l : List AttrT} (h : Attrs w v l) (hb : Below w.heap.size w w1) : Attrs w1 v l := Slc.mono h fun _ _ _ _ hx => hx.below hb
def TabR (w : World) (b o : Nat) (t : TabT) : Prop := ∃ va vk, TabAt w b o va vk t.name ∧ Attrs w va t.attrs ∧ Ints w vk t.key
theorem TabR.below {w w1 : World} {b o : Nat} {t : TabT} (h : TabR w b o t) (hb : Below w.heap.size w w1) : TabR w1 b o t := by
  obtain ⟨va, vk, h1, h2, h3⟩ := h
  exact ⟨va, vk, h1.below hb, h2.below hb, h3.below hb⟩
def Tabs (w : World) (v : Value) (l : List TabT) : Prop := Slc 3 TabR w v l
theorem Tabs.below {w w1 : World} {v : Value} {l : List TabT} (h : Tabs w v l) (hb : Below w.heap.size w w1) : Tabs w1 v l := Slc.mono h fun _ _ _ _ hx => hx.below hb

/-- A change, as a value. -/
abbrev Cv (c : ChgT) : Value := .agg #[.int .i64 c.kind, str c.table, str c.attr, str c.name, .int .i64 c.to, .int .i64 c.dft.1, .int .i64 c.dft.2.1, str c.dft.2.2]
/-- A block holds a change. -/
structure ChgAt (w : World) (b : Nat) (c : ChgT) : Prop where
  c0 : w.cell? ⟨b, 0, none⟩ = some (.int .i64 c.kind)
  c1 : w.cell? ⟨b, 1, none⟩ = some (str c.table)
  c2 : w.cell? ⟨b, 2, none⟩ = some (str c.attr)
  c3 : w.cell? ⟨b, 3, none⟩ = some (str c.name)
  c4 : w.cell? ⟨b, 4, none⟩ = some (.int .i64 c.to)
  c5 : w.cell? ⟨b, 5, none⟩ = some (.int .i64 c.dft.1)
  c6 : w.cell? ⟨b, 6, none⟩ = some (.int .i64 c.dft.2.1)
  c7 : w.cell? ⟨b, 7, none⟩ = some (str c.dft.2.2)
theorem ChgAt.below {w w1 : World} {b : Nat} {c : ChgT} (h : ChgAt w b c) (hb : Below w.heap.size w w1) : ChgAt w1 b c :=
  ⟨cellB hb h.c0, cellB hb h.c1, cellB hb h.c2, cellB hb h.c3, cellB hb h.c4, cellB hb h.c5, cellB hb h.c6, cellB hb h.c7⟩

/-- What a function returns that has a bool, or a number, and makes memory of its own at most. -/
def BoolPost (w : World) (r : Bool) (e : Ending) (w' : World) : Prop := e = .returned (.bool r) ∧ Below w.heap.size w w'
def IntPost (w : World) (r : Int) (e : Ending) (w' : World) : Prop := e = .returned (.int .i64 r) ∧ Below w.heap.size w w'
theorem Cell.alloc {w : World} {b o : Nat} {v : Value} (h : w.cell? ⟨b, o, none⟩ = some v) (ob : Obj) : (w.alloc ob).cell? ⟨b, o, none⟩ = some v :=
  cellB ((Below.refl _ _).alloc (Nat.le_refl _) _) h

end Go.Proofs.YteokcgfbhaeklaaGreatDoor

/- '==' and '!=' on values. -/
namespace Go.Proofs.YteokcgfbhaeklaaGreatDoor.L2
open Go.RowKit

theorem eql_yes (k n : Int) (t : List UInt8) (W : World) :
    (binOp .eql 26 (V k n t) (V k n t)).run Tryz.prog W = .ok (.bool true) W := by
  simp [go_sem]
theorem eql_no {k n : Int} {t : List UInt8} {k2 n2 : Int} {t2 : List UInt8} (h : ¬ (k = k2 ∧ n = n2 ∧ t = t2)) (W : World) :
    (binOp .eql 26 (V k n t) (V k2 n2 t2)).run Tryz.prog W = .ok (.bool false) W := by
  by_cases h1 : k = k2
  · by_cases h2 : n = n2
    · have h3 : ¬ t = t2 := fun e => h ⟨h1, h2, e⟩
      subst h1 h2
      simp [go_sem, h3]
    · have e2 : (n == n2) = false := by simpa using h2
      subst h1
      simp [go_sem, e2]
  · have e1 : (k == k2) = false := by simpa using h1
    simp [go_sem, e1]
theorem neq_no (k n : Int) (t : List UInt8) (W : World) :
    (binOp .neq 26 (V k n t) (V k n t)).run Tryz.prog W = .ok (.bool false) W := by
  simp [go_sem]
theorem neq_yes {k n : Int} {t : List UInt8} {k2 n2 : Int} {t2 : List UInt8} (h : ¬ (k = k2 ∧ n = n2 ∧ t = t2)) (W : World) :
    (binOp .neq 26 (V k n t) (V k2 n2 t2)).run Tryz.prog W = .ok (.bool true) W := by
  by_cases h1 : k = k2
  · by_cases h2 : n = n2
    · have h3 : ¬ t = t2 := fun e => h ⟨h1, h2, e⟩
      subst h1 h2
      simp [go_sem, h3]
    · have e2 : (n == n2) = false := by simpa using h2
      subst h1
      simp [go_sem, e2]
  · have e1 : (k == k2) = false := by simpa using h1
    simp [go_sem, e1]
end Go.Proofs.YteokcgfbhaeklaaGreatDoor.L2

