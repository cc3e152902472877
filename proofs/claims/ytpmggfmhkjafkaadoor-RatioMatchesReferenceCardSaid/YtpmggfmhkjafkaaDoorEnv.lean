/- What the library's variables hold, and the contracts of the library's functions. -/
import Derived.Test.YtpmggfmhkjafkaaDoorOps
import Derived.Test.YtpmggfmhkjafkaaDoorShelf
import Derived.Deep.RegionHeld3
import Derived.ShutString
import Derived.Lib.SmallJoins
namespace Go.Proofs.YtpmggfmhkjafkaaDoor
open Go.RowKit

/-- What the package-level variables of the library hold. -/
structure Env (w : World) : Prop where
  ml : ∃ m, w.cell? ⟨0, 0, none⟩ = some (.int .i64 m)
  es : ∃ tp p, w.cell? ⟨1, 0, none⟩ = some (.iface tp p)
  er : ∃ tp p, w.cell? ⟨2, 0, none⟩ = some (.iface tp p)
  tab : ∃ t z, w.heap[3]? = some (.cells (Lib.pow10Tab.map fun z => Value.int .u64 z).toArray t z)

theorem Env.below {w w1 : World} (h : Env w) (hb : Below w.heap.size w w1) : Env w1 := by
  obtain ⟨m, hm⟩ := h.ml
  obtain ⟨t1, p1, h1⟩ := h.es
  obtain ⟨t2, p2, h2⟩ := h.er
  obtain ⟨t, z, ht⟩ := h.tab
  refine ⟨⟨m, cellB hb hm⟩, ⟨t1, p1, cellB hb h1⟩, ⟨t2, p2, cellB hb h2⟩, t, z, ?_⟩
  rw [hb.block _ ?_, ht]
  rcases Nat.lt_or_ge 3 w.heap.size with h | h
  · exact h
  · rw [Array.getElem?_eq_none h] at ht
    cases ht

theorem Env.alloc {w : World} (h : Env w) (o : Obj) : Env (w.alloc o) := h.below ((Below.refl _ _).alloc (Nat.le_refl _) _)
theorem Env.drewN {w : World} (h : Env w) (k : Nat) : Env (w.drewN k) := h.below (below_drewN _ _ _)

theorem Env.tabIs {w : World} (h : Env w) {name : String} (hn : Tryd.prog.globalNamed name = some 3) : Lib.TabIs Tryd.prog w name .u64 Lib.pow10Tab := by
  obtain ⟨t, z, ht⟩ := h.tab
  unfold Lib.TabIs World.var?
  rw [hn]
  simp only [Option.bind_some]
  rw [ht]

theorem below_grow (B : Nat) (w : World) (hB : B ≤ w.heap.size) (os : Array Obj) : Below B w (Go.Sort.grow w os) := by
  refine ⟨rfl, rfl, rfl, ?_, fun k hk => ?_⟩
  · simp [Go.Sort.grow]
  · simp only [Go.Sort.grow]
    rw [Array.getElem?_append_left (by omega)]

/-- strconv.Itoa. -/
theorem itoa_any (n : Int) (h0 : -9223372036854775808 ≤ n) (h1 : n ≤ 9223372036854775807) (w : World) (h : Env w) :
    Calls Tryd.prog 44 #[.int .i64 n] w fun e w' => e = .returned (.string ⟨(Lib.itoa n).toArray⟩) ∧ Below w.heap.size w w' := by
  refine (Any.strconv_Itoa Tryd.laysM171 n h0 h1 w (h.tabIs (by kernel_rfl))).mono ?_
  rintro e w' ⟨rfl, k, os, rfl⟩
  exact ⟨rfl, (below_drewN _ w k).trans (below_grow w.heap.size (w.drewN k) (Nat.le_refl _) os)⟩

/-- strings.Cut. -/
theorem cut_any (s sep : ByteArray) (hs : s.size < 4294967281) (w : World) (h : Env w) :
    Calls Tryd.prog 35 #[.string s, .string sep] w fun e w' => e = .returned (.tuple #[.string ⟨(Lib.cut s.data.toList sep.data.toList).1.toArray⟩, .string ⟨(Lib.cut s.data.toList sep.data.toList).2.1.toArray⟩, .bool (Lib.cut s.data.toList sep.data.toList).2.2]) ∧ Below w.heap.size w w' := by
  obtain ⟨m, hm⟩ := h.ml
  refine (Any.strings_Cut Tryd.lays145 s sep m w hs hm).mono ?_
  rintro e w' ⟨rfl, k, rfl⟩
  exact ⟨rfl, below_drewN _ w k⟩

/-- An error that is not nil. -/
def IsErr (v : Value) : Prop := ∃ t a, v = .iface t (.pointer (some a))

/-- strconv.Atoi where it succeeds. -/
theorem atoi_ok (s : ByteArray) (hs : s.size ≤ 1000) (v : Int) (h : Lib.atoiAll s.data.toList = .ok v) (w : World) :
    Calls Tryd.prog 36 #[.string s] w fun e w' => e = .returned (.tuple #[.int .i64 v, .nilIface]) ∧ Below w.heap.size w w' := by
  refine (Any.strconv_Atoi_ok Tryd.laysC172 s (by omega) v h w).mono ?_
  rintro e w' ⟨rfl, rfl | ⟨t, rfl⟩⟩
  · exact ⟨rfl, Below.refl _ _⟩
  · exact ⟨rfl, Joins.below_bytesWorld _ _ _ _ (Nat.le_refl _)⟩

/-- .. and where it fails. -/
theorem atoi_bad (s : ByteArray) (hs : s.size ≤ 1000) (h : ∀ v, Lib.atoiAll s.data.toList ≠ .ok v) (w : World) (he : Env w) :
    Calls Tryd.prog 36 #[.string s] w fun e w' => (∃ n t a, e = .returned (.tuple #[.int .i64 n, .iface t (.pointer (some a))])) ∧ Below w.heap.size w w' := by
  obtain ⟨t1, p1, h1⟩ := he.es
  obtain ⟨t2, p2, h2⟩ := he.er
  rcases hx : Lib.atoiAll s.data.toList with v | _ | _
  · exact absurd hx (h v)
  · refine (Any.strconv_Atoi_syntax Tryd.laysC172 s (by omega) hx _ w h1 (Or.inr ⟨_, _, rfl⟩)).mono ?_
    rintro e w' ⟨N, rfl, -, -, hb⟩
    exact ⟨⟨_, _, _, rfl⟩, hb⟩
  · refine (Any.strconv_Atoi_range Tryd.laysC172 s (by omega) hx _ w h2 (Or.inr ⟨_, _, rfl⟩)).mono ?_
    rintro e w' ⟨N, rfl, -, -, hb⟩
    exact ⟨⟨_, _, _, rfl⟩, hb⟩
end Go.Proofs.YtpmggfmhkjafkaaDoor
