/- What the library's package-level variables hold; strconv's and strings' contracts in these words. -/
import Derived.Test.YtblgfillaenemaaDoorVBase
import Derived.Test.YtblgfillaenemaaDoorShelf
import Derived.ShutString
import Derived.Lib.SmallJoins
namespace Go.Proofs.YtblgfillaenemaaDoor.L2
open Go.RowKit

/-- What the package-level variables of the library hold. -/
structure Env (w : World) : Prop where
  es : ∃ tp p, w.cell? ⟨1, 0, none⟩ = some (.iface tp p)
  er : ∃ tp p, w.cell? ⟨2, 0, none⟩ = some (.iface tp p)
  tab : ∃ t z, w.heap[0]? = some (.cells (Lib.pow10Tab.map fun z => Value.int .u64 z).toArray t z)

theorem Env.below {w w1 : World} (h : Env w) (hb : Below w.heap.size w w1) : Env w1 := by
  obtain ⟨t1, p1, h1⟩ := h.es
  obtain ⟨t2, p2, h2⟩ := h.er
  obtain ⟨t, z, ht⟩ := h.tab
  refine ⟨⟨t1, p1, cellB hb h1⟩, ⟨t2, p2, cellB hb h2⟩, t, z, ?_⟩
  rw [hb.block _ ?_, ht]
  rcases Nat.lt_or_ge 0 w.heap.size with h | h
  · exact h
  · rw [Array.getElem?_eq_none h] at ht
    cases ht
theorem Env.alloc {w : World} (h : Env w) (o : Obj) : Env (w.alloc o) := h.below ((Below.refl _ _).alloc (Nat.le_refl _) _)
theorem Env.drewN {w : World} (h : Env w) (k : Nat) : Env (w.drewN k) := h.below (below_drewN _ _ _)
theorem Env.next {w w1 : World} (h : Env w) {o : Obj} (hb : Below (w.alloc o).heap.size (w.alloc o) w1) : Env w1 := (h.alloc o).below hb

theorem Env.tabIs {w : World} (h : Env w) {name : String} (hn : Tryd.prog.globalNamed name = some 0) : Lib.TabIs Tryd.prog w name .u64 Lib.pow10Tab := by
  obtain ⟨t, z, ht⟩ := h.tab
  unfold Lib.TabIs World.var?
  rw [hn]
  simp only [Option.bind_some]
  rw [ht]

theorem below_grow (B : Nat) (w : World) (hB : B ≤ w.heap.size) (os : Array Obj) : Below B w (Go.Sort.grow w os) := by
  refine ⟨rfl, rfl, rfl, ?_, fun k hk => ?_⟩
  · simp [Go.Sort.grow]
  · simp only [Go.Sort.grow]
    rw [Array.getElem?_append_left (by omega)]

/-- strconv.Itoa. -/
theorem itoa_any (n : Int) (h0 : -9223372036854775808 ≤ n) (h1 : n ≤ 9223372036854775807) (w : World) (h : Env w) :
    Calls Tryd.prog 23 #[.int .i64 n] w fun e w' => e = .returned (.string ⟨(Lib.itoa n).toArray⟩) ∧ Below w.heap.size w w' := by
  refine (Any.strconv_Itoa Tryd.laysM171 n h0 h1 w (h.tabIs (by kernel_rfl))).mono ?_
  rintro e w' ⟨rfl, k, os, rfl⟩
  exact ⟨rfl, (below_drewN _ w k).trans (below_grow w.heap.size (w.drewN k) (Nat.le_refl _) os)⟩

/-- strconv.FormatBool. -/
theorem fbool_any (b : Bool) (w : World) :
    Calls Tryd.prog 24 #[.bool b] w fun e w' => e = .returned (.string ⟨(Lib.formatBool b).toArray⟩) ∧ w = w' := by
  refine (Any.strconv_FormatBool Tryd.lays121 b w).mono ?_
  rintro e w' ⟨rfl, rfl⟩
  exact ⟨rfl, rfl⟩

/-- What Atoi returns: a number, and whatever error; the number is the one that the text spells, if it spells one. -/
def AtoiPost (l : List UInt8) (w : World) (e : Ending) (w' : World) : Prop :=
  ∃ n f, e = .returned (.tuple #[.int .i64 n, f]) ∧ (∀ v, Lib.atoiAll l = .ok v → n = v) ∧ Below w.heap.size w w'

theorem atoi_any (l : List UInt8) (hl : l.length ≤ 1000) (w : World) (he : Env w) :
    Calls Tryd.prog 43 #[.string ⟨l.toArray⟩] w (AtoiPost l w) := by
  obtain ⟨t1, p1, h1⟩ := he.es
  obtain ⟨t2, p2, h2⟩ := he.er
  have hs : (⟨l.toArray⟩ : ByteArray).size ≤ 1000 := by simpa [ByteArray.size] using hl
  rcases hx : Lib.atoiAll l with v | _ | _
  · refine (Any.strconv_Atoi_ok Tryd.laysC172 ⟨l.toArray⟩ (by omega) v (by simpa using hx) w).mono ?_
    rintro e w' ⟨rfl, rfl | ⟨t, rfl⟩⟩
    · exact ⟨v, _, rfl, (fun u hu => by rw [hx] at hu; injection hu), Below.refl _ _⟩
    · exact ⟨v, _, rfl, (fun u hu => by rw [hx] at hu; injection hu), Joins.below_bytesWorld _ _ _ _ (Nat.le_refl _)⟩
  · refine (Any.strconv_Atoi_syntax Tryd.laysC172 ⟨l.toArray⟩ (by omega) (by simpa using hx) _ w h1 (Or.inr ⟨_, _, rfl⟩)).mono ?_
    rintro e w' ⟨N, rfl, -, -, hb⟩
    exact ⟨_, _, rfl, (fun u hu => by rw [hx] at hu; cases hu), hb⟩
  · refine (Any.strconv_Atoi_range Tryd.laysC172 ⟨l.toArray⟩ (by omega) (by simpa using hx) _ w h2 (Or.inr ⟨_, _, rfl⟩)).mono ?_
    rintro e w' ⟨N, rfl, -, -, hb⟩
    exact ⟨_, _, rfl, (fun u hu => by rw [hx] at hu; cases hu), hb⟩
end Go.Proofs.YtblgfillaenemaaDoor.L2
