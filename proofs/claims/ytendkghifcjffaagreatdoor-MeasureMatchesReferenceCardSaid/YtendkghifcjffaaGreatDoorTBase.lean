/- Words on worlds: what a block holds, what stands when a world has grown; the library's contracts on builders and on lower case. -/
import Derived.Test.YtendkghifcjffaaGreatDoorChecked
import Derived.Test.YtendkghifcjffaaGreatDoorTMath
import Derived.Test.YtendkghifcjffaaGreatDoorShelf
import Derived.Shelf.Strings.BuilderK
import Derived.Shelf.Strings.OnBuilder
import Derived.WalkKit
import Derived.ProofKit
import Derived.OpenShut
import Derived.LoopTactic
import Derived.RegionTactic
import Derived.ChangeAlike
import Derived.Below
import Derived.Lib.Hide
import Derived.WalkSpells
import Derived.WalkLawsBesides
import Derived.IntWalk
import Derived.Handy
import Derived.Outline
import Derived.Deep.QuietTactic
import Derived.BigQuiet
import Derived.Deep.RegionWith
import Derived.Deep.RegionHeld3
import Derived.Deep.DeepFit
namespace Go.Proofs.YtendkghifcjffaaGreatDoor.L3
open Go.RowKit

theorem ret_int {k : IntKind} {a b : Int} (h : a = b) : Ending.returned (.int k a) = .returned (.int k b) := by rw [h]
theorem bool_ret {a b : Bool} (h : a = b) : Ending.returned (.bool a) = .returned (.bool b) := by rw [h]
/-- A text as a value. -/
abbrev str (t : List UInt8) : Value := .string ⟨t.toArray⟩
theorem str_ret {a b : List UInt8} (h : a = b) : Ending.returned (str a) = .returned (str b) := by rw [h]

/-- A cell that holds something lies in a block that exists. -/
theorem cellLt {w : World} {b o : Nat} {v : Value} (hc : w.cell? ⟨b, o, none⟩ = some v) : b < w.heap.size := by
  rcases Nat.lt_or_ge b w.heap.size with h | h
  · exact h
  · simp [World.cell?, Array.getElem?_eq_none h] at hc
theorem cellB {w w1 : World} {b o : Nat} {v : Value} (hb : Below w.heap.size w w1) (hc : w.cell? ⟨b, o, none⟩ = some v) : w1.cell? ⟨b, o, none⟩ = some v :=
  (hb.cell (p := ⟨b, o, none⟩) (cellLt hc)).trans hc
theorem frozenB {w w1 : World} {b o : Nat} {v : Value} (hb : Below w.heap.size w w1) (hc : w.cell? ⟨b, o, none⟩ = some v) (hf : w.frozen? ⟨b, o, none⟩ = false) : w1.frozen? ⟨b, o, none⟩ = false :=
  (hb.frozen (p := ⟨b, o, none⟩) (cellLt hc)).trans hf
theorem cellA {w : World} {b o : Nat} {v : Value} (h : w.cell? ⟨b, o, none⟩ = some v) (ob : Obj) : (w.alloc ob).cell? ⟨b, o, none⟩ = some v :=
  cellB ((Below.refl _ _).alloc (Nat.le_refl _) _) h
theorem below_up {B C : Nat} {a b c : World} (h : Below B a b) (k : Below C b c) (hC : B ≤ C) : Below B a c := h.trans (k.mono hC)
theorem below_drewN (B : Nat) (w : World) (k : Nat) : Below B w (w.drewN k) := ⟨rfl, rfl, rfl, Nat.le_refl _, fun _ _ => rfl⟩
theorem dN {B : Nat} {a w : World} (h : Below B a w) (k : Nat) : Below B a (w.drewN k) := h.trans (below_drewN B w k)
theorem below_next {B : Nat} {a w w1 : World} (h : Below B a w) (hB : B ≤ w.heap.size) {o : Obj} (hb : Below (w.alloc o).heap.size (w.alloc o) w1) : Below B a w1 :=
  below_up (h.alloc hB o) hb (by simp; omega)
/-- What has grown has turned nothing. -/
theorem grown_of_below {w w' : World} (h : Below w.heap.size w w') (row : Option Nat) : w.grownBy w' row := ⟨h.os, h.tape, h.output, h.size, fun k hk _ => h.block k hk⟩
theorem heapB {w w1 : World} {b : Nat} {x : Obj} (hb : Below w.heap.size w w1) (h : w.heap[b]? = some x) : w1.heap[b]? = some x :=
  (hb.block b (Array.getElem?_eq_some_iff.1 h).1).trans h
theorem cell_box {w : World} {b : Nat} {v : Value} {t : TypeId} {f : Nat × Nat} (h : w.heap[b]? = some (.cells #[v] t f)) : w.cell? ⟨b, 0, none⟩ = some v := by simp [World.cell?, h]

/-! ### The library's contracts. -/
theorem lays166 : Lays.n166 Tryz.prog Tryz.lays159_ren := { Tryz.lays159 with }
theorem lays167 : Lays.n167 Tryz.prog Tryz.lays159_ren := { Tryz.lays159 with }
theorem extra159 : Builder.Extra Tryz.prog Tryz.lays159_ren where
  sizeBuilder := by kernel_rfl
  liesBuilder := by kernel_rfl
  t5 := Tryz.underlying5
  a5 := Tryz.isAgg5
  z5 := Tryz.sizeOf5
  v5 := Tryz.zeroValue5
  infoByte := by kernel_rfl
  cellsByte := by kernel_rfl
  sizeByte := by kernel_rfl
  neB5 := by decide
theorem extra169 : Builder.Extra Tryz.prog Tryz.lays169_ren where
  sizeBuilder := by kernel_rfl
  liesBuilder := by kernel_rfl
  t5 := Tryz.underlying5
  a5 := Tryz.isAgg5
  z5 := Tryz.sizeOf5
  v5 := Tryz.zeroValue5
  infoByte := by kernel_rfl
  cellsByte := by kernel_rfl
  sizeByte := by kernel_rfl
  neB5 := by decide
/-- Block b is a builder that holds the text l. -/
abbrev IsB (B b : Nat) (l : List UInt8) (w : World) : Prop := Lib.IsBuilderF 88 5 B b (Lib.byteCells l) w
abbrev Others (b : Nat) (w w' : World) : Prop := Lib.OthersKept 5 (some b) w w'
theorem sz (l : List UInt8) : (ByteArray.mk l.toArray).size = l.length := by simp [ByteArray.size]
theorem lower_any (l : List UInt8) (h : l.length ≤ 140737488355328) (ha : ∀ x ∈ l, x.toNat < 128) (w : World) :
    Calls Tryz.prog 80 #[str l] w fun e w' => e = .returned (str (l.map low)) ∧ Below w.heap.size w w' := by
  have C := Any.strings_ToLower_ascii Tryz.lays159 extra159 ⟨l.toArray⟩ w (by rw [sz]; exact h) (fun j b hb => ha b (by simp at hb; exact List.mem_of_getElem? hb))
  exact C
theorem len_any (B b : Nat) (l : List UInt8) (w : World) (h : IsB B b l w) :
    Calls Tryz.prog 68 #[.pointer (some ⟨b, 0, none⟩)] w fun e w' => e = .returned (.int .i64 (l.length : Int)) ∧ w' = w := by
  have C := Any.Builder_Len_f Tryz.lays170 B b _ w h
  rw [Lib.byteCells_length] at C
  exact C
theorem writeByte_any (B b : Nat) (l : List UInt8) (c : UInt8) (w : World) (h : IsB B b l w) (hl : l.length + 1 ≤ 140737488355328) (hB : B ≤ w.heap.size) :
    Calls Tryz.prog 69 #[.pointer (some ⟨b, 0, none⟩), .int .u8 c.toNat] w fun e w' => e = .returned .nilIface ∧ IsB B b (l ++ [c]) w' ∧ Below B w w' ∧ Others b w w' := by
  refine (Any.Builder_WriteByte_k lays167 extra159 B b _ c.toNat w h (by rw [Lib.byteCells_length]; exact hl) hB).mono ?_
  rintro e w' ⟨h1, h2, h3, h4⟩
  refine ⟨h1, ?_, h3, h4⟩
  unfold IsB
  rw [Lib.byteCells_append]
  exact Or.inr h2
theorem writeString_any (B b : Nat) (l s : List UInt8) (w : World) (h : IsB B b l w) (hl : l.length + s.length ≤ 140737488355328) (hB : B ≤ w.heap.size) :
    Calls Tryz.prog 70 #[.pointer (some ⟨b, 0, none⟩), str s] w fun e w' => e = .returned (.tuple #[.int .i64 (s.length : Int), .nilIface]) ∧ IsB B b (l ++ s) w' ∧ Below B w w' ∧ Others b w w' := by
  refine (Any.Builder_WriteString_k lays166 extra159 B b _ ⟨s.toArray⟩ w h (by rw [Lib.byteCells_length, sz]; exact hl) hB).mono ?_
  rintro e w' ⟨h1, h2, h3, h4⟩
  refine ⟨by rw [h1, sz], ?_, h3, h4⟩
  unfold IsB
  rw [Lib.byteCells_append]
  rw [Lib.strCells_eq] at h2
  exact Or.inr h2
theorem string_any (B b : Nat) (l : List UInt8) (w : World) (h : IsB B b l w) (hB : B ≤ w.heap.size) :
    Calls Tryz.prog 71 #[.pointer (some ⟨b, 0, none⟩)] w fun e w' => e = .returned (str l) ∧ IsB B b l w' ∧ Below B w w' ∧ Others b w w' :=
  Any.Builder_String_any_k Tryz.lays169 extra169 B b l w h hB
end Go.Proofs.YtendkghifcjffaaGreatDoor.L3
