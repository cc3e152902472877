/- Words of layer 4 on worlds: what a block holds; what stands when a world has grown; rows of numbers, bytes and bools of the call's own; lists of texts. -/
import Derived.Test.YtcgkaecaddpenaaGreatDoorChecked
import Derived.WalkKit
import Derived.ProofKit
import Derived.OpenShut
import Derived.LoopTactic
import Derived.RegionTactic
import Derived.ChangeAlike
import Derived.Below
import Derived.Lib.Hide
import Derived.WalkSpells
import Derived.WalkLawsBesides
import Derived.IntWalk
import Derived.Handy
import Derived.Outline
import Derived.Deep.QuietTactic
import Derived.BigQuiet
import Derived.Deep.RegionWith
import Derived.Deep.RegionHeld3
import Derived.Deep.DeepFit
namespace Go.Proofs.YtcgkaecaddpenaaGreatDoor
open Go.RowKit

theorem ret_int {k : IntKind} {a b : Int} (h : a = b) : Ending.returned (.int k a) = .returned (.int k b) := by rw [h]
theorem bool_ret {a b : Bool} (h : a = b) : Ending.returned (.bool a) = .returned (.bool b) := by rw [h]
/-- A text as a value. -/
abbrev str (t : List UInt8) : Value := .string ⟨t.toArray⟩
/-- A ratio as a value. -/
abbrev rat (r : Int × Int) : Value := .agg #[.int .i64 r.1, .int .i64 r.2]
theorem rat_ret {a b : Int × Int} (h : a = b) : Ending.returned (rat a) = .returned (rat b) := by rw [h]
theorem sz (l : List UInt8) : (ByteArray.mk l.toArray).size = l.length := by simp [ByteArray.size]
theorem ext_eq (l : List UInt8) (i j : Nat) : (⟨l.toArray⟩ : ByteArray).extract i j = ⟨((l.drop i).take (j - i)).toArray⟩ := by
  apply ByteArray.ext
  simp [ByteArray.data_extract]

/-- A cell that holds something lies in a block that exists. -/
theorem cellLt {w : World} {b o : Nat} {v : Value} (hc : w.cell? ⟨b, o, none⟩ = some v) : b < w.heap.size := by
  rcases Nat.lt_or_ge b w.heap.size with h | h
  · exact h
  · simp [World.cell?, Array.getElem?_eq_none h] at hc
theorem cellB {w w1 : World} {b o : Nat} {v : Value} (hb : Below w.heap.size w w1) (hc : w.cell? ⟨b, o, none⟩ = some v) : w1.cell? ⟨b, o, none⟩ = some v :=
  (hb.cell (p := ⟨b, o, none⟩) (cellLt hc)).trans hc
theorem frozenB {w w1 : World} {b o : Nat} {v : Value} (hb : Below w.heap.size w w1) (hc : w.cell? ⟨b, o, none⟩ = some v) (hf : w.frozen? ⟨b, o, none⟩ = false) : w1.frozen? ⟨b, o, none⟩ = false :=
  (hb.frozen (p := ⟨b, o, none⟩) (cellLt hc)).trans hf
theorem below_up {B C : Nat} {a b c : World} (h : Below B a b) (k : Below C b c) (hC : B ≤ C) : Below B a c := h.trans (k.mono hC)
theorem below_drewN (B : Nat) (w : World) (k : Nat) : Below B w (w.drewN k) := ⟨rfl, rfl, rfl, Nat.le_refl _, fun _ _ => rfl⟩
theorem dN {B : Nat} {a w : World} (h : Below B a w) (k : Nat) : Below B a (w.drewN k) := h.trans (below_drewN B w k)
theorem below_next {B : Nat} {a w w1 : World} (h : Below B a w) (hB : B ≤ w.heap.size) {o : Obj} (hb : Below (w.alloc o).heap.size (w.alloc o) w1) : Below B a w1 :=
  below_up (h.alloc hB o) hb (by simp; omega)
theorem grown_of_below {w w' : World} (h : Below w.heap.size w w') (row : Option Nat) : w.grownBy w' row := ⟨h.os, h.tape, h.output, h.size, fun k hk _ => h.block k hk⟩
theorem below_grownB {B T : Nat} {w wr w1 : World} {v : Value} {n : Nat} {xs : List Value} (hb : Below B w wr) (hB : B ≤ wr.heap.size) (hown : wr.ownsRow B T 1 v n xs) (hg : wr.grownBy w1 v.ownBlock) : Below B w w1 :=
  hb.grown hg hB (fun j hj => (hown.lt j hj).1)

/-- Block b holds a ratio; it may be written. -/
structure Own2 (w : World) (b : Nat) (n d : Int) : Prop where
  c0 : w.cell? ⟨b, 0, none⟩ = some (.int .i64 n)
  c1 : w.cell? ⟨b, 1, none⟩ = some (.int .i64 d)
  f0 : w.frozen? ⟨b, 0, none⟩ = false
  f1 : w.frozen? ⟨b, 1, none⟩ = false
theorem Own2.below {w w1 : World} {b : Nat} {n d : Int} (h : Own2 w b n d) (hb : Below w.heap.size w w1) : Own2 w1 b n d :=
  ⟨cellB hb h.c0, cellB hb h.c1, frozenB hb h.c0 h.f0, frozenB hb h.c1 h.f1⟩
theorem Own2.alloc {w : World} {b : Nat} {n d : Int} (h : Own2 w b n d) (o : Obj) : Own2 (w.alloc o) b n d := h.below ((Below.refl _ _).alloc (Nat.le_refl _) _)
theorem own2_new (w : World) (n d : Int) (T : TypeId) : Own2 (w.alloc (.cells #[.int .i64 n, .int .i64 d] T)) w.heap.size n d :=
  ⟨by simp [go_sem], by simp [go_sem], by simp [go_sem], by simp [go_sem]⟩
theorem below_box (w : World) (o : Obj) : Below w.heap.size w (w.alloc o) := (Below.refl _ _).alloc (Nat.le_refl _) _
theorem below_two {B : Nat} {w w1 : World} {b : Nat} {u v : Value} (h : Below B w w1) (hb : B ≤ b) : Below B w ((w1.setCell ⟨b, 0, none⟩ u).setCell ⟨b, 1, none⟩ v) := (h.setCell hb _).setCell hb _

/-! ### A slice whose cells hold the texts l. -/
def Strs (w : World) (v : Value) (l : List (List UInt8)) : Prop :=
  ∃ (A : Option Addr) (cap : Nat), v = .slice A l.length cap ∧ l.length ≤ cap ∧ (A = none → cap = 0) ∧ ∀ i (h : i < l.length), ∃ b off, A = some ⟨b, off, none⟩ ∧ w.cell? ⟨b, off + i, none⟩ = some (str l[i])
theorem Strs.below {w w1 : World} {v : Value} {l : List (List UInt8)} (h : Strs w v l) (hb : Below w.heap.size w w1) : Strs w1 v l := by
  obtain ⟨A, cap, e, hc, hn, f⟩ := h
  refine ⟨A, cap, e, hc, hn, fun i hi => ?_⟩
  obtain ⟨b, off, h1, h2⟩ := f i hi
  exact ⟨b, off, h1, cellB hb h2⟩
theorem strs_nil (w : World) : Strs w (.slice none 0 0) [] := ⟨none, 0, rfl, Nat.le_refl _, fun _ => rfl, fun i h => absurd h (by simp)⟩

/-! ### Block g holds the numbers that f gives from 0 to n - 1. -/
def Nums (w : World) (g n : Nat) (f : Nat → Int) : Prop := w.heap[g]? = some (.cells ((List.range n).map (fun k => Value.int .i64 (f k))).toArray 3)
theorem Nums.cell {w : World} {g n : Nat} {f : Nat → Int} (h : Nums w g n f) {k : Nat} (hk : k < n) : w.cell? ⟨g, k, none⟩ = some (.int .i64 (f k)) := by
  unfold Nums at h
  simp [World.cell?, h, hk]
theorem Nums.free {w : World} {g n : Nat} {f : Nat → Int} (h : Nums w g n f) (k : Nat) : w.frozen? ⟨g, k, none⟩ = false := by
  unfold Nums at h
  simp [World.frozen?, h]
theorem Nums.below {w w1 : World} {g n : Nat} {f : Nat → Int} (h : Nums w g n f) (hb : Below w.heap.size w w1) : Nums w1 g n f :=
  (hb.block g (Array.getElem?_eq_some_iff.1 h).1).trans h
theorem Nums.congr {w : World} {g n : Nat} {f f' : Nat → Int} (h : Nums w g n f) (e : ∀ k < n, f k = f' k) : Nums w g n f' := by
  have : (List.range n).map (fun k => Value.int .i64 (f k)) = (List.range n).map (fun k => Value.int .i64 (f' k)) := List.map_congr_left (fun k hk => by rw [e k (by simpa using hk)])
  unfold Nums at *
  rw [h, this]
theorem Nums.set {w : World} {g n : Nat} {f : Nat → Int} (h : Nums w g n f) (k : Nat) (v : Int) : Nums (w.setCell ⟨g, k, none⟩ (.int .i64 v)) g n (fun x => if x = k then v else f x) := by
  have e : ((List.range n).map (fun k => Value.int .i64 (f k))).set k (.int .i64 v) = (List.range n).map (fun x => Value.int .i64 (if x = k then v else f x)) := by
    apply List.ext_getElem
    · simp
    · intro i h1 h2
      rw [List.getElem_set]
      simp only [List.getElem_map, List.getElem_range]
      by_cases q : k = i
      · rw [if_pos q, if_pos q.symm]
      · rw [if_neg q, if_neg (fun z => q z.symm)]
  unfold Nums at *
  rw [← e]
  simp [World.setCell, Array.getElem?_modify, h]
theorem made_list {w : World} {base g n T : Nat} {v : Value} (h : w.ownsRow base T 1 (.slice (some ⟨g, 0, none⟩) n n) n (madeCells #[v] n).toList) : w.heap[g]? = some (.cells (List.replicate n v).toArray T) ∧ base ≤ g := by
  rcases h.2 with ⟨e, _⟩ | ⟨g', cap, cur, e, hb, hg, _, _, hsz, htk⟩
  · cases e
  · cases e
    refine ⟨?_, hb⟩
    rw [hg]
    have hc : cur = (List.replicate n v).toArray := by
      apply Array.toList_inj.1
      rw [List.take_of_length_le (by simp [hsz])] at htk
      rw [htk]
      apply List.ext_getElem
      · simp [madeCells]
      · intro i h1 h2
        simp [madeCells, Nat.mod_one]
    rw [hc]
theorem nums_made {w : World} {base g n : Nat} (h : w.ownsRow base 3 1 (.slice (some ⟨g, 0, none⟩) n n) n (madeCells #[Value.int .i64 0] n).toList) : Nums w g n (fun _ => 0) ∧ base ≤ g := by
  have h1 := made_list h
  refine ⟨?_, h1.2⟩
  have e : (List.range n).map (fun _ => Value.int .i64 0) = List.replicate n (Value.int .i64 0) := by
    apply List.ext_getElem <;> simp
  unfold Nums
  rw [h1.1, e]
theorem infoInt : (Tryz.prog.info? 3).map (fun i => (i.zero, i.size, i.bytes)) = some (some (.int .i64 0), 1, 8) := by kernel_rfl

/-! ### A row of bools. -/
def Bools (w : World) (g : Nat) (l : List Bool) : Prop := w.heap[g]? = some (.cells (l.map Value.bool).toArray 4)
theorem Bools.cell {w : World} {g : Nat} {l : List Bool} (h : Bools w g l) {k : Nat} (hk : k < l.length) : w.cell? ⟨g, k, none⟩ = some (.bool l[k]) := by
  unfold Bools at h
  simp [World.cell?, h, hk]
theorem Bools.free {w : World} {g : Nat} {l : List Bool} (h : Bools w g l) (k : Nat) : w.frozen? ⟨g, k, none⟩ = false := by
  unfold Bools at h
  simp [World.frozen?, h]
theorem Bools.set {w : World} {g : Nat} {l : List Bool} (h : Bools w g l) (k : Nat) : Bools (w.setCell ⟨g, k, none⟩ (.bool true)) g (l.set k true) := by
  unfold Bools at *
  simp [World.setCell, Array.getElem?_modify, h, List.map_set]
theorem Bools.below {w w1 : World} {g : Nat} {l : List Bool} (h : Bools w g l) (hb : Below w.heap.size w w1) : Bools w1 g l :=
  (hb.block g (Array.getElem?_eq_some_iff.1 h).1).trans h
theorem bools_made {w : World} {base g n : Nat} (h : w.ownsRow base 4 1 (.slice (some ⟨g, 0, none⟩) n n) n (madeCells #[Value.bool false] n).toList) : Bools w g (List.replicate n false) ∧ base ≤ g := by
  have h1 := made_list h
  refine ⟨?_, h1.2⟩
  unfold Bools
  rw [h1.1, List.map_replicate]
theorem infoBool : (Tryz.prog.info? 4).map (fun i => (i.zero, i.size, i.bytes)) = some (some (.bool false), 1, 1) := by kernel_rfl

/-! ### Bytes as cells. -/
def bys (l : List UInt8) : List Value := l.map fun c => .int .u8 (c.toNat : Int)
theorem bys_app (a b : List UInt8) : bys (a ++ b) = bys a ++ bys b := List.map_append
theorem bys_len (a : List UInt8) : (bys a).length = a.length := List.length_map _
theorem infoByte : (Tryz.prog.info? 5).map (fun i => (i.zero, i.size, i.bytes)) = some (some (.int .u8 0), 1, 1) := by kernel_rfl
end Go.Proofs.YtcgkaecaddpenaaGreatDoor
