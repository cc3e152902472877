import Derived.Lib.ItoaLen
import Derived.Lib.Hide
import Derived.Test.YtcgkaecaddpenaaGreatDoorChecked
import Derived.WalkKit
import Derived.ProofKit
import Derived.OpenShut
import Derived.LoopTactic
import Derived.RegionTactic
import Derived.ChangeAlike
import Derived.Below
import Derived.WalkSpells
import Derived.WalkLawsBesides
import Derived.IntWalk
import Derived.Handy
import Derived.Outline
import Derived.Deep.QuietTactic
import Derived.BigQuiet
import Derived.Deep.RegionWith
import Derived.Deep.RegionHeld3
import Derived.Deep.DeepFit
import Derived.Test.YtcgkaecaddpenaaGreatDoorShelf
import Derived.ShutString
import Derived.Lib.SmallJoins
import Derived.Lib.AtoiAll
import Derived.Lib.Strings
import Derived.Lib.Small
/- The plain mathematics of values: no program is imported. -/
namespace Go.Proofs.YtcgkaecaddpenaaGreatDoor.L2
/-- A value is valid. -/
def Vld (k n : Int) (t : List UInt8) : Prop :=
  (k = 0 ∧ n = 0 ∧ t = []) ∨ (k = 1 ∧ n = 0 ∧ t.length ≤ 200) ∨ (k = 2 ∧ -1000000000 ≤ n ∧ n ≤ 1000000000 ∧ t = []) ∨ (k = 3 ∧ 0 ≤ n ∧ n ≤ 73048 ∧ t = []) ∨ (k = 4 ∧ 0 ≤ n ∧ n ≤ 1 ∧ t = [])
instance (k n : Int) (t : List UInt8) : Decidable (Vld k n t) := by unfold Vld; infer_instance
def vldB (k n : Int) (t : List UInt8) : Bool := decide (Vld k n t)
theorem vldB_true {k n : Int} {t : List UInt8} (h : vldB k n t = true) : Vld k n t := of_decide_eq_true h
theorem vldB_mk {k n : Int} {t : List UInt8} (h : Vld k n t) : vldB k n t = true := decide_eq_true h
theorem vldB_false {k n : Int} {t : List UInt8} (h : ¬ Vld k n t) : vldB k n t = false := decide_eq_false h
theorem vldB_iff {k n : Int} {t : List UInt8} {b : Bool} (h : b = true ↔ Vld k n t) : b = vldB k n t := by
  rw [Bool.eq_iff_iff, h]; exact ⟨vldB_mk, vldB_true⟩

/-- The three-way comparison of numbers. -/
def cmpI (x y : Int) : Int := if x < y then -1 else if y < x then 1 else 0
theorem cmpI_lt {x y : Int} (h : x < y) : cmpI x y = -1 := if_pos h
theorem cmpI_gt {x y : Int} (h : y < x) : cmpI x y = 1 := by unfold cmpI; rw [if_neg (by omega), if_pos h]
theorem cmpI_self (x : Int) : cmpI x x = 0 := by unfold cmpI; rw [if_neg (by omega), if_neg (by omega)]
theorem cmpI_cases (x y : Int) : (x < y ∧ cmpI x y = -1) ∨ (y < x ∧ cmpI x y = 1) ∨ (x = y ∧ cmpI x y = 0) := by
  unfold cmpI; split
  · exact Or.inl ⟨by omega, rfl⟩
  · split
    · exact Or.inr (Or.inl ⟨by omega, rfl⟩)
    · exact Or.inr (Or.inr ⟨by omega, rfl⟩)

/-- The order of texts by their bytes. -/
def ltS : List UInt8 → List UInt8 → Bool
  | _, [] => false
  | [], _ :: _ => true
  | a :: x, b :: y => decide (a.toNat < b.toNat) || (decide (a.toNat = b.toNat) && ltS x y)
theorem ltS_irrefl : ∀ x, ltS x x = false
  | [] => rfl
  | a :: x => by simp [ltS, ltS_irrefl x]
theorem ltS_asymm : ∀ x y, ltS x y = true → ltS y x = false
  | [], [], h => by simp [ltS] at h
  | [], _ :: _, _ => rfl
  | _ :: _, [], h => by simp [ltS] at h
  | a :: x, b :: y, h => by
    simp only [ltS, Bool.or_eq_true, Bool.and_eq_true, decide_eq_true_eq] at h
    rcases h with h | ⟨h, h2⟩
    · simp [ltS]; omega
    · simp [ltS, h, ltS_asymm x y h2]
theorem ltS_total : ∀ x y, x ≠ y → ltS x y = true ∨ ltS y x = true
  | [], [], h => absurd rfl h
  | [], _ :: _, _ => Or.inl rfl
  | _ :: _, [], _ => Or.inr rfl
  | a :: x, b :: y, h => by
    rcases Nat.lt_trichotomy a.toNat b.toNat with h1 | h1 | h1
    · exact Or.inl (by simp [ltS, h1])
    · have hxy : x ≠ y := fun e => h (by rw [e, UInt8.toNat_inj.1 h1])
      rcases ltS_total x y hxy with h2 | h2
      · exact Or.inl (by simp [ltS, h1, h2])
      · exact Or.inr (by simp [ltS, h1, h2])
    · exact Or.inr (by simp [ltS, h1])
theorem ltS_trans : ∀ x y z, ltS x y = true → ltS y z = true → ltS x z = true
  | _, [], _, h, _ => by unfold ltS at h; cases h
  | _, _ :: _, [], _, h => by unfold ltS at h; cases h
  | [], _ :: _, _ :: _, _, _ => rfl
  | a :: x, b :: y, c :: z, h, k => by
    simp only [ltS, Bool.or_eq_true, Bool.and_eq_true, decide_eq_true_eq] at h k ⊢
    rcases h with h | ⟨h, h2⟩ <;> rcases k with k | ⟨k, k2⟩
    · exact Or.inl (by omega)
    · exact Or.inl (by omega)
    · exact Or.inl (by omega)
    · exact Or.inr ⟨by omega, ltS_trans x y z h2 k2⟩
/-- The three-way comparison of texts. -/
def cmpS (x y : List UInt8) : Int := if ltS x y then -1 else if ltS y x then 1 else 0
theorem cmpS_self (x : List UInt8) : cmpS x x = 0 := by unfold cmpS; rw [ltS_irrefl]; rfl
theorem cmpS_cases (x y : List UInt8) : (ltS x y = true ∧ ltS y x = false ∧ cmpS x y = -1) ∨ (ltS y x = true ∧ ltS x y = false ∧ cmpS x y = 1) ∨ (x = y ∧ cmpS x y = 0) := by
  by_cases e : x = y
  · subst e; exact Or.inr (Or.inr ⟨rfl, cmpS_self x⟩)
  · rcases ltS_total x y e with h | h
    · exact Or.inl ⟨h, ltS_asymm _ _ h, by unfold cmpS; rw [h]; rfl⟩
    · have h2 := ltS_asymm _ _ h
      exact Or.inr (Or.inl ⟨h, h2, by unfold cmpS; rw [h, h2]; rfl⟩)

/-- The first of two comparisons that tells a difference. -/
def or2 (x y : Int) : Int := if x = 0 then y else x
theorem or2_zero (y : Int) : or2 0 y = y := rfl
theorem or2_ne {x : Int} (h : x ≠ 0) (y : Int) : or2 x y = x := if_neg h

/-- The order of values. -/
def cmpV (k n : Int) (t : List UInt8) (k2 n2 : Int) (t2 : List UInt8) : Int := or2 (cmpI k k2) (or2 (cmpI n n2) (cmpS t t2))

theorem cmpV_self (k n : Int) (t : List UInt8) : cmpV k n t k n t = 0 := by
  unfold cmpV; rw [cmpI_self, cmpI_self, cmpS_self]; rfl
theorem cmpV_range (k n : Int) (t : List UInt8) (k2 n2 : Int) (t2 : List UInt8) : cmpV k n t k2 n2 t2 = -1 ∨ cmpV k n t k2 n2 t2 = 0 ∨ cmpV k n t k2 n2 t2 = 1 := by
  unfold cmpV or2
  rcases cmpI_cases k k2 with ⟨_, h⟩ | ⟨_, h⟩ | ⟨_, h⟩ <;> rcases cmpI_cases n n2 with ⟨_, g⟩ | ⟨_, g⟩ | ⟨_, g⟩ <;> rcases cmpS_cases t t2 with ⟨_, _, f⟩ | ⟨_, _, f⟩ | ⟨_, f⟩ <;> rw [h, g, f] <;> decide
theorem cmpV_neg (k n : Int) (t : List UInt8) (k2 n2 : Int) (t2 : List UInt8) : cmpV k2 n2 t2 k n t = -cmpV k n t k2 n2 t2 := by
  have hI : ∀ x y : Int, cmpI y x = -cmpI x y := by
    intro x y; unfold cmpI; split <;> split <;> first | omega | (split <;> omega) | rfl
  have hS : ∀ x y, cmpS y x = -cmpS x y := by
    intro x y
    rcases cmpS_cases x y with ⟨h1, h2, h3⟩ | ⟨h1, h2, h3⟩ | ⟨rfl, h3⟩
    · rw [h3]; unfold cmpS; rw [h1, h2]; rfl
    · rw [h3]; unfold cmpS; rw [h1]; rfl
    · rw [h3]; rfl
  have hO : ∀ x y : Int, or2 (-x) (-y) = -or2 x y := by
    intro x y; unfold or2; split <;> split <;> omega
  unfold cmpV
  rw [hI k k2, hI n n2, hS t t2, hO, hO]
theorem cmpV_zero {k n : Int} {t : List UInt8} {k2 n2 : Int} {t2 : List UInt8} (h : cmpV k n t k2 n2 t2 = 0) : k = k2 ∧ n = n2 ∧ t = t2 := by
  unfold cmpV or2 at h
  rcases cmpI_cases k k2 with ⟨_, e⟩ | ⟨_, e⟩ | ⟨e1, e⟩
  · rw [e, if_neg (by decide)] at h; cases h
  · rw [e, if_neg (by decide)] at h; cases h
  · rw [e, if_pos rfl] at h
    rcases cmpI_cases n n2 with ⟨_, e⟩ | ⟨_, e⟩ | ⟨e2, e⟩
    · rw [e, if_neg (by decide)] at h; cases h
    · rw [e, if_neg (by decide)] at h; cases h
    · rw [e, if_pos rfl] at h
      rcases cmpS_cases t t2 with ⟨_, _, e⟩ | ⟨_, _, e⟩ | ⟨e3, e⟩
      · rw [e] at h; cases h
      · rw [e] at h; cases h
      · exact ⟨e1, e2, e3⟩
/-- Strictly before. -/
def ltV (k n : Int) (t : List UInt8) (k2 n2 : Int) (t2 : List UInt8) : Prop := k < k2 ∨ (k = k2 ∧ (n < n2 ∨ (n = n2 ∧ ltS t t2 = true)))
theorem cmpV_lt {k n : Int} {t : List UInt8} {k2 n2 : Int} {t2 : List UInt8} : cmpV k n t k2 n2 t2 = -1 ↔ ltV k n t k2 n2 t2 := by
  unfold cmpV or2 ltV
  rcases cmpI_cases k k2 with ⟨a, e⟩ | ⟨a, e⟩ | ⟨a, e⟩
  · rw [e, if_neg (by decide)]; exact ⟨fun _ => Or.inl a, fun _ => rfl⟩
  · rw [e, if_neg (by decide)]; exact ⟨(fun h => by cases h), (fun h => by omega)⟩
  · rw [e, if_pos rfl]
    rcases cmpI_cases n n2 with ⟨b, e⟩ | ⟨b, e⟩ | ⟨b, e⟩
    · rw [e, if_neg (by decide)]; exact ⟨fun _ => Or.inr ⟨a, Or.inl b⟩, fun _ => rfl⟩
    · rw [e, if_neg (by decide)]; exact ⟨(fun h => by cases h), (fun h => by omega)⟩
    · rw [e, if_pos rfl]
      rcases cmpS_cases t t2 with ⟨c, _, e⟩ | ⟨_, c, e⟩ | ⟨c, e⟩
      · rw [e]; exact ⟨fun _ => Or.inr ⟨a, Or.inr ⟨b, c⟩⟩, fun _ => rfl⟩
      · rw [e, c]; exact ⟨(fun h => by cases h), (fun h => by rcases h with h | ⟨_, h | ⟨_, h⟩⟩ <;> first | omega | cases h)⟩
      · subst c; rw [e, ltS_irrefl]; exact ⟨(fun h => by cases h), (fun h => by rcases h with h | ⟨_, h | ⟨_, h⟩⟩ <;> first | omega | cases h)⟩
theorem ltV_trans {k n : Int} {t : List UInt8} {k2 n2 : Int} {t2 : List UInt8} {k3 n3 : Int} {t3 : List UInt8} (h : ltV k n t k2 n2 t2) (g : ltV k2 n2 t2 k3 n3 t3) : ltV k n t k3 n3 t3 := by
  unfold ltV at *
  rcases h with h | ⟨h, h1 | ⟨h1, h2⟩⟩ <;> rcases g with g | ⟨g, g1 | ⟨g1, g2⟩⟩
  · exact Or.inl (by omega)
  · exact Or.inl (by omega)
  · exact Or.inl (by omega)
  · exact Or.inl (by omega)
  · exact Or.inr ⟨by omega, Or.inl (by omega)⟩
  · exact Or.inr ⟨by omega, Or.inl (by omega)⟩
  · exact Or.inl (by omega)
  · exact Or.inr ⟨by omega, Or.inl (by omega)⟩
  · exact Or.inr ⟨by omega, Or.inr ⟨by omega, ltS_trans _ _ _ h2 g2⟩⟩
theorem cmpV_trans {k n : Int} {t : List UInt8} {k2 n2 : Int} {t2 : List UInt8} {k3 n3 : Int} {t3 : List UInt8} (h : cmpV k n t k2 n2 t2 ≤ 0) (g : cmpV k2 n2 t2 k3 n3 t3 ≤ 0) : cmpV k n t k3 n3 t3 ≤ 0 := by
  rcases cmpV_range k n t k2 n2 t2 with e | e | e
  · rcases cmpV_range k2 n2 t2 k3 n3 t3 with f | f | f
    · have := cmpV_lt.2 (ltV_trans (cmpV_lt.1 e) (cmpV_lt.1 f)); omega
    · obtain ⟨rfl, rfl, rfl⟩ := cmpV_zero f; omega
    · omega
  · obtain ⟨rfl, rfl, rfl⟩ := cmpV_zero e; exact g
  · omega
/-- How a byte is written between quotes. -/
def esc (c : UInt8) : List UInt8 := if c.toNat = 34 ∨ c.toNat = 92 then [92, c] else if c.toNat = 10 then [92, 110] else [c]
/-- The text of a text. -/
def quo (t : List UInt8) : List UInt8 := 34 :: (t.flatMap esc ++ [34])
/-- What stands after k bytes. -/
def qk (l : List UInt8) (k : Nat) : List UInt8 := 34 :: (l.take k).flatMap esc
theorem qk_succ (l : List UInt8) (k : Nat) (hk : k < l.length) : qk l (k + 1) = qk l k ++ esc l[k] := by
  unfold qk
  rw [List.take_succ_eq_append_getElem hk, List.flatMap_append]
  simp
theorem qk_end (l : List UInt8) : quo l = qk l l.length ++ [34] := by unfold quo qk; rw [List.take_length]; rfl
theorem esc_len (c : UInt8) : (esc c).length ≤ 2 := by unfold esc; split; simp; split <;> simp
theorem flat_len : ∀ l : List UInt8, (l.flatMap esc).length ≤ 2 * l.length
  | [] => by simp
  | c :: l => by rw [List.flatMap_cons, List.length_append, List.length_cons]; have := flat_len l; have := esc_len c; omega
theorem qk_len (l : List UInt8) (k : Nat) : (qk l k).length ≤ 1 + 2 * l.length := by
  unfold qk
  rw [List.length_cons]
  have := flat_len (l.take k)
  have := List.length_take_le k l
  have : (l.take k).length ≤ l.length := by rw [List.length_take]; omega
  omega
theorem quo_len (l : List UInt8) : (quo l).length ≤ 2 + 2 * l.length := by
  rw [qk_end, List.length_append]; have := qk_len l l.length; simp; omega
end Go.Proofs.YtcgkaecaddpenaaGreatDoor.L2

/- Words on worlds: what a block holds, and what stands when a world has grown. -/
namespace Go.Proofs.YtcgkaecaddpenaaGreatDoor.L2
open Go.RowKit

theorem ret_int {k : IntKind} {a b : Int} (h : a = b) : Ending.returned (.int k a) = .returned (.int k b) := by rw [h]
theorem bool_ret {a b : Bool} (h : a = b) : Ending.returned (.bool a) = .returned (.bool b) := by rw [h]
theorem str_ret {a b : List UInt8} (h : a = b) : Ending.returned (.string ⟨a.toArray⟩) = .returned (.string ⟨b.toArray⟩) := by rw [h]

/-- A value of the program. -/
abbrev V (k n : Int) (t : List UInt8) : Value := .agg #[.int .i64 k, .int .i64 n, .string ⟨t.toArray⟩]

/-- A cell that holds something lies in a block that exists. -/
theorem cellLt {w : World} {b o : Nat} {v : Value} (hc : w.cell? ⟨b, o, none⟩ = some v) : b < w.heap.size := by
  rcases Nat.lt_or_ge b w.heap.size with h | h
  · exact h
  · simp [World.cell?, Array.getElem?_eq_none h] at hc
theorem cellB {w w1 : World} {b o : Nat} {v : Value} (hb : Below w.heap.size w w1) (hc : w.cell? ⟨b, o, none⟩ = some v) : w1.cell? ⟨b, o, none⟩ = some v :=
  (hb.cell (p := ⟨b, o, none⟩) (cellLt hc)).trans hc
theorem frozenB {w w1 : World} {b o : Nat} {v : Value} (hb : Below w.heap.size w w1) (hc : w.cell? ⟨b, o, none⟩ = some v) (hf : w.frozen? ⟨b, o, none⟩ = false) : w1.frozen? ⟨b, o, none⟩ = false :=
  (hb.frozen (p := ⟨b, o, none⟩) (cellLt hc)).trans hf

/-- Block b holds a value. -/
structure Val3 (w : World) (b : Nat) (k n : Int) (t : List UInt8) : Prop where
  c0 : w.cell? ⟨b, 0, none⟩ = some (.int .i64 k)
  c1 : w.cell? ⟨b, 1, none⟩ = some (.int .i64 n)
  c2 : w.cell? ⟨b, 2, none⟩ = some (.string ⟨t.toArray⟩)
theorem Val3.below {w w1 : World} {b : Nat} {k n : Int} {t : List UInt8} (h : Val3 w b k n t) (hb : Below w.heap.size w w1) : Val3 w1 b k n t := ⟨cellB hb h.c0, cellB hb h.c1, cellB hb h.c2⟩
theorem Val3.lt {w : World} {b : Nat} {k n : Int} {t : List UInt8} (h : Val3 w b k n t) : b < w.heap.size := cellLt h.c0
theorem Val3.ne {w : World} {b : Nat} {k n : Int} {t : List UInt8} (h : Val3 w b k n t) : b ≠ w.heap.size := Nat.ne_of_lt h.lt
theorem Val3.alloc {w : World} {b : Nat} {k n : Int} {t : List UInt8} (h : Val3 w b k n t) (o : Obj) : Val3 (w.alloc o) b k n t := h.below ((Below.refl _ _).alloc (Nat.le_refl _) _)

/-- Block b is a value's, and may be written. -/
structure Own3 (w : World) (b : Nat) (k n : Int) (t : List UInt8) : Prop extends Val3 w b k n t where
  f0 : w.frozen? ⟨b, 0, none⟩ = false
  f1 : w.frozen? ⟨b, 1, none⟩ = false
  f2 : w.frozen? ⟨b, 2, none⟩ = false
theorem Own3.below {w w1 : World} {b : Nat} {k n : Int} {t : List UInt8} (h : Own3 w b k n t) (hb : Below w.heap.size w w1) : Own3 w1 b k n t :=
  { h.toVal3.below hb with f0 := frozenB hb h.c0 h.f0, f1 := frozenB hb h.c1 h.f1, f2 := frozenB hb h.c2 h.f2 }

theorem below_up {B C : Nat} {a b c : World} (h : Below B a b) (k : Below C b c) (hC : B ≤ C) : Below B a c := h.trans (k.mono hC)
theorem boxes2 (w : World) (A B : Obj) : Below w.heap.size w ((w.alloc A).alloc B) :=
  ((Below.refl _ _).alloc (Nat.le_refl _) _).alloc (by simp) _
theorem boxes3 (w : World) (A B C : Obj) : Below w.heap.size w (((w.alloc A).alloc B).alloc C) :=
  (((Below.refl _ _).alloc (Nat.le_refl _) _).alloc (by simp) _).alloc (by simp; omega) _
theorem below_drewN (B : Nat) (w : World) (k : Nat) : Below B w (w.drewN k) := ⟨rfl, rfl, rfl, Nat.le_refl _, fun _ _ => rfl⟩
theorem dN {B : Nat} {a w : World} (h : Below B a w) (k : Nat) : Below B a (w.drewN k) := h.trans (below_drewN B w k)
theorem below_next {B : Nat} {a w w1 : World} (h : Below B a w) (hB : B ≤ w.heap.size) {o : Obj} (hb : Below (w.alloc o).heap.size (w.alloc o) w1) : Below B a w1 :=
  below_up (h.alloc hB o) hb (by simp; omega)

/-- What a function returns that has a value and an error. -/
def ValPost (w : World) (r : Int × Int × List UInt8 × Int) (e : Ending) (w' : World) : Prop :=
  e = .returned (.tuple #[V r.1 r.2.1 r.2.2.1, .int .i64 r.2.2.2]) ∧ Below w.heap.size w w'
end Go.Proofs.YtcgkaecaddpenaaGreatDoor.L2

/- What the library's package-level variables hold; strconv's and strings' contracts in these words. -/
namespace Go.Proofs.YtcgkaecaddpenaaGreatDoor.L2
open Go.RowKit

/-- What the package-level variables of the library hold. -/
structure Env (w : World) : Prop where
  es : ∃ tp p, w.cell? ⟨0, 0, none⟩ = some (.iface tp p)
  er : ∃ tp p, w.cell? ⟨1, 0, none⟩ = some (.iface tp p)
  tab : ∃ t z, w.heap[3]? = some (.cells (Lib.pow10Tab.map fun z => Value.int .u64 z).toArray t z)

theorem Env.below {w w1 : World} (h : Env w) (hb : Below w.heap.size w w1) : Env w1 := by
  obtain ⟨t1, p1, h1⟩ := h.es
  obtain ⟨t2, p2, h2⟩ := h.er
  obtain ⟨t, z, ht⟩ := h.tab
  refine ⟨⟨t1, p1, cellB hb h1⟩, ⟨t2, p2, cellB hb h2⟩, t, z, ?_⟩
  rw [hb.block _ ?_, ht]
  rcases Nat.lt_or_ge 3 w.heap.size with h | h
  · exact h
  · rw [Array.getElem?_eq_none h] at ht
    cases ht
theorem Env.alloc {w : World} (h : Env w) (o : Obj) : Env (w.alloc o) := h.below ((Below.refl _ _).alloc (Nat.le_refl _) _)
theorem Env.drewN {w : World} (h : Env w) (k : Nat) : Env (w.drewN k) := h.below (below_drewN _ _ _)
theorem Env.next {w w1 : World} (h : Env w) {o : Obj} (hb : Below (w.alloc o).heap.size (w.alloc o) w1) : Env w1 := (h.alloc o).below hb

theorem Env.tabIs {w : World} (h : Env w) {name : String} (hn : Tryz.prog.globalNamed name = some 3) : Lib.TabIs Tryz.prog w name .u64 Lib.pow10Tab := by
  obtain ⟨t, z, ht⟩ := h.tab
  unfold Lib.TabIs World.var?
  rw [hn]
  simp only [Option.bind_some]
  rw [ht]

theorem below_grow (B : Nat) (w : World) (hB : B ≤ w.heap.size) (os : Array Obj) : Below B w (Go.Sort.grow w os) := by
  refine ⟨rfl, rfl, rfl, ?_, fun k hk => ?_⟩
  · simp [Go.Sort.grow]
  · simp only [Go.Sort.grow]
    rw [Array.getElem?_append_left (by omega)]

/-- strconv.Itoa. -/
theorem itoa_any (n : Int) (h0 : -9223372036854775808 ≤ n) (h1 : n ≤ 9223372036854775807) (w : World) (h : Env w) :
    Calls Tryz.prog 90 #[.int .i64 n] w fun e w' => e = .returned (.string ⟨(Lib.itoa n).toArray⟩) ∧ Below w.heap.size w w' := by
  refine (Any.strconv_Itoa Tryz.laysM171 n h0 h1 w (h.tabIs (by kernel_rfl))).mono ?_
  rintro e w' ⟨rfl, k, os, rfl⟩
  exact ⟨rfl, (below_drewN _ w k).trans (below_grow w.heap.size (w.drewN k) (Nat.le_refl _) os)⟩

/-- What Atoi returns: a number, and whatever error; the number is the one that the text spells, if it spells one. -/
def AtoiPost (l : List UInt8) (w : World) (e : Ending) (w' : World) : Prop :=
  ∃ n f, e = .returned (.tuple #[.int .i64 n, f]) ∧ (∀ v, Lib.atoiAll l = .ok v → n = v) ∧ Below w.heap.size w w'

theorem atoi_any (l : List UInt8) (hl : l.length ≤ 1000) (w : World) (he : Env w) :
    Calls Tryz.prog 38 #[.string ⟨l.toArray⟩] w (AtoiPost l w) := by
  obtain ⟨t1, p1, h1⟩ := he.es
  obtain ⟨t2, p2, h2⟩ := he.er
  have hs : (⟨l.toArray⟩ : ByteArray).size ≤ 1000 := by simpa [ByteArray.size] using hl
  rcases hx : Lib.atoiAll l with v | _ | _
  · refine (Any.strconv_Atoi_ok Tryz.laysC172 ⟨l.toArray⟩ (by omega) v (by simpa using hx) w).mono ?_
    rintro e w' ⟨rfl, rfl | ⟨t, rfl⟩⟩
    · exact ⟨v, _, rfl, (fun u hu => by rw [hx] at hu; injection hu), Below.refl _ _⟩
    · exact ⟨v, _, rfl, (fun u hu => by rw [hx] at hu; injection hu), Joins.below_bytesWorld _ _ _ _ (Nat.le_refl _)⟩
  · refine (Any.strconv_Atoi_syntax Tryz.laysC172 ⟨l.toArray⟩ (by omega) (by simpa using hx) _ w h1 (Or.inr ⟨_, _, rfl⟩)).mono ?_
    rintro e w' ⟨N, rfl, -, -, hb⟩
    exact ⟨_, _, rfl, (fun u hu => by rw [hx] at hu; cases hu), hb⟩
  · refine (Any.strconv_Atoi_range Tryz.laysC172 ⟨l.toArray⟩ (by omega) (by simpa using hx) _ w h2 (Or.inr ⟨_, _, rfl⟩)).mono ?_
    rintro e w' ⟨N, rfl, -, -, hb⟩
    exact ⟨_, _, rfl, (fun u hu => by rw [hx] at hu; cases hu), hb⟩
end Go.Proofs.YtcgkaecaddpenaaGreatDoor.L2

/- The plain mathematics of texts of values: Text, Parse, and what they make of each other. -/
namespace Go.Proofs.YtcgkaecaddpenaaGreatDoor.L2
/-- A decimal digit. -/
def IsDig (c : UInt8) : Prop := 48 ≤ c.toNat ∧ c.toNat ≤ 57

theorem ofNat_dig {k : Nat} (h : k < 10) : (UInt8.ofNat (48 + k)).toNat = 48 + k := by
  rw [UInt8.toNat_ofNat']; omega

theorem dec_digs (u : Nat) : ∀ c ∈ Lib.decDigits u, IsDig c := by
  induction u using Nat.strongRecOn with
  | _ u ih =>
    intro c hc
    rw [Lib.decDigits] at hc
    split at hc
    · simp only [List.mem_singleton] at hc
      subst hc
      unfold IsDig; rw [ofNat_dig (by omega)]; omega
    · rw [List.mem_append] at hc
      rcases hc with hc | hc
      · exact ih (u / 10) (by omega) c hc
      · simp only [List.mem_singleton] at hc
        subst hc
        unfold IsDig; rw [ofNat_dig (by omega)]; omega

theorem dec_ne (u : Nat) : Lib.decDigits u ≠ [] := by
  rw [Lib.decDigits]
  split <;> simp

/-- A parse goes on where the first part ended. -/
theorem parse_append : ∀ (l r : List UInt8) (acc v : Nat), Lib.parseUint10 acc l = .ok v → Lib.parseUint10 acc (l ++ r) = Lib.parseUint10 v r
  | [], r, acc, v, h => by
    simp only [Lib.parseUint10] at h
    injection h with h
    subst h; rfl
  | c :: l, r, acc, v, h => by
    rw [List.cons_append]
    simp only [Lib.parseUint10] at h ⊢
    split at h
    · rename_i hc
      rw [if_pos hc]
      split at h
      · cases h
      · rename_i h1
        rw [if_neg h1]
        split at h
        · cases h
        · rename_i h2
          rw [if_neg h2]
          exact parse_append l r _ v h
    · cases h

theorem parse_dec (u : Nat) (hu : u < 1000000000000000000) : Lib.parseUint10 0 (Lib.decDigits u) = .ok u := by
  induction u using Nat.strongRecOn with
  | _ u ih =>
    rw [Lib.decDigits]
    split
    · rename_i h
      simp only [Lib.parseUint10, ofNat_dig h]
      rw [if_pos (by omega), if_neg (by omega), if_neg (by omega)]
      simp
    · rename_i h
      rw [parse_append _ _ _ _ (ih (u / 10) (by omega) (by omega))]
      simp only [Lib.parseUint10, ofNat_dig (show u % 10 < 10 by omega)]
      rw [if_pos (by omega), if_neg (by omega), if_neg (by omega)]
      congr 1
      omega

theorem itoa_neg {n : Int} (h : n < 0) : Lib.itoa n = 45 :: Lib.decDigits n.natAbs := by unfold Lib.itoa; rw [if_pos h]
theorem itoa_pos {n : Int} (h : 0 ≤ n) : Lib.itoa n = Lib.decDigits n.natAbs := by
  unfold Lib.itoa; rw [if_neg (by omega)]; congr 1; omega

theorem atoi_itoa (n : Int) (h0 : -1000000000 ≤ n) (h1 : n ≤ 1000000000) : Lib.atoiAll (Lib.itoa n) = .ok n := by
  unfold Lib.itoa
  split
  · rename_i hn
    unfold Lib.atoiAll
    simp only []
    rw [if_pos (Or.inr (by decide))]
    unfold Lib.parseMag
    rw [if_neg (dec_ne _), parse_dec _ (by omega)]
    simp only []
    rw [if_neg (by simp), if_neg (by omega), if_pos (by decide)]
    congr 1
    omega
  · rename_i hn
    have hd := dec_digs n.toNat
    have hne := dec_ne n.toNat
    have hp := parse_dec n.toNat (by omega)
    generalize hl : Lib.decDigits n.toNat = l at *
    cases l with
    | nil => exact absurd rfl hne
    | cons c r =>
      have hc := hd c (by simp)
      unfold IsDig at hc
      unfold Lib.atoiAll
      simp only []
      rw [if_neg (by omega)]
      unfold Lib.parseMag
      rw [if_neg (by simp), hp]
      simp only []
      rw [if_neg (by omega), if_neg (by omega), if_neg (by omega)]
      congr 1
      omega

/-- How the text of a number begins. -/
theorem itoa_head (n : Int) : ∃ c r, Lib.itoa n = c :: r ∧ (c = 45 ∨ IsDig c) := by
  by_cases h : n < 0
  · exact ⟨45, _, itoa_neg h, Or.inl rfl⟩
  · rw [itoa_pos (by omega)]
    have hd := dec_digs n.natAbs
    have hne := dec_ne n.natAbs
    generalize Lib.decDigits n.natAbs = l at *
    cases l with
    | nil => exact absurd rfl hne
    | cons c r => exact ⟨c, r, rfl, Or.inr (hd c (by simp))⟩

/-- The text of a value; empty if it is not valid. -/
def txt (k n : Int) (t : List UInt8) : List UInt8 :=
  if vldB k n t then
    (if k = 1 then quo t else if k = 2 then Lib.itoa n else if k = 3 then 64 :: Lib.itoa n else if k = 4 then (if n = 1 then [116, 114, 117, 101] else [102, 97, 108, 115, 101]) else [110, 117, 108, 108])
  else []
theorem txt_bad {k n : Int} {t : List UInt8} (h : vldB k n t = false) : txt k n t = [] := by unfold txt; rw [h, if_neg (by decide)]
theorem txt_text {n : Int} {t : List UInt8} (h : vldB 1 n t = true) : txt 1 n t = quo t := by unfold txt; rw [h, if_pos rfl, if_pos rfl]
theorem txt_num {n : Int} {t : List UInt8} (h : vldB 2 n t = true) : txt 2 n t = Lib.itoa n := by unfold txt; rw [h, if_pos rfl, if_neg (by decide), if_pos rfl]
theorem txt_day {n : Int} {t : List UInt8} (h : vldB 3 n t = true) : txt 3 n t = 64 :: Lib.itoa n := by unfold txt; rw [h, if_pos rfl, if_neg (by decide), if_neg (by decide), if_pos rfl]
theorem txt_flag {n : Int} {t : List UInt8} (h : vldB 4 n t = true) : txt 4 n t = if n = 1 then [116, 114, 117, 101] else [102, 97, 108, 115, 101] := by unfold txt; rw [h, if_pos rfl, if_neg (by decide), if_neg (by decide), if_neg (by decide), if_pos rfl]
theorem txt_null {n : Int} {t : List UInt8} (h : vldB 0 n t = true) : txt 0 n t = [110, 117, 108, 108] := by unfold txt; rw [h, if_pos rfl, if_neg (by decide), if_neg (by decide), if_neg (by decide), if_neg (by decide)]

theorem vld_cases {k n : Int} {t : List UInt8} (h : vldB k n t = true) : k = 0 ∨ k = 1 ∨ k = 2 ∨ k = 3 ∨ k = 4 := by
  have := vldB_true h; unfold Vld at this; omega
theorem vld_bound {k n : Int} {t : List UInt8} (h : vldB k n t = true) : -1000000000 ≤ n ∧ n ≤ 1000000000 := by
  have := vldB_true h; unfold Vld at this; omega
theorem vld_len {k n : Int} {t : List UInt8} (h : vldB k n t = true) : t.length ≤ 200 := by
  have := vldB_true h
  unfold Vld at this
  rcases this with h | h | h | h | h
  · rw [h.2.2]; simp
  · exact h.2.2
  · rw [h.2.2.2]; simp
  · rw [h.2.2.2]; simp
  · rw [h.2.2.2]; simp
theorem txt_len (k n : Int) (t : List UInt8) : (txt k n t).length ≤ 402 := by
  cases hv : vldB k n t
  · rw [txt_bad hv]; simp
  · have hl := vld_len hv
    have hn := vld_bound hv
    have hi := Lib.itoa_length_le n (by omega) (by omega)
    rcases vld_cases hv with rfl | rfl | rfl | rfl | rfl
    · rw [txt_null hv]; simp
    · rw [txt_text hv]; have := quo_len t; omega
    · rw [txt_num hv]; omega
    · rw [txt_day hv]; simp; omega
    · rw [txt_flag hv]; split <;> simp
theorem txt_ne {k n : Int} {t : List UInt8} (hv : vldB k n t = true) : txt k n t ≠ [] := by
  obtain ⟨c, r, hc, _⟩ := itoa_head n
  rcases vld_cases hv with rfl | rfl | rfl | rfl | rfl
  · rw [txt_null hv]; simp
  · rw [txt_text hv]; simp [quo]
  · rw [txt_num hv, hc]; simp
  · rw [txt_day hv]; simp
  · rw [txt_flag hv]; split <;> simp

/-- The text that quote wrote, read back byte by byte. -/
def unq : List UInt8 → List UInt8
  | [] => []
  | [c] => [c]
  | c :: d :: r => if c.toNat = 92 then (if d.toNat = 110 then 10 else d) :: unq r else c :: unq (d :: r)

theorem unq_plain {c : UInt8} (h : c.toNat ≠ 92) (r : List UInt8) : unq (c :: r) = c :: unq r := by
  cases r with
  | nil => rfl
  | cons d r => rw [unq, if_neg h]
theorem unq_esc (d : UInt8) (r : List UInt8) : unq (92 :: d :: r) = (if d.toNat = 110 then 10 else d) :: unq r := by
  rw [unq, if_pos (by decide)]
theorem unq_flat : ∀ t : List UInt8, unq (t.flatMap esc) = t
  | [] => rfl
  | c :: t => by
    have ih := unq_flat t
    rw [List.flatMap_cons]
    by_cases h : c.toNat = 34 ∨ c.toNat = 92
    · have e : esc c = [92, c] := by unfold esc; rw [if_pos h]
      rw [e, List.cons_append, List.cons_append, List.nil_append, unq_esc, if_neg (by omega), ih]
    · by_cases h10 : c.toNat = 10
      · have e : esc c = [92, 110] := by unfold esc; rw [if_neg h, if_pos h10]
        rw [e, List.cons_append, List.cons_append, List.nil_append, unq_esc, if_pos (by decide), ih]
        congr 1
        exact (UInt8.toNat_inj.1 (by rw [h10]; rfl)).symm
      · have e : esc c = [c] := by unfold esc; rw [if_neg h, if_neg h10]
        rw [e, List.cons_append, List.nil_append, unq_plain (by omega), ih]

theorem trim_quo (t : List UInt8) : Lib.trimSuffix (t.flatMap esc ++ [34]) [34] = t.flatMap esc := by
  unfold Lib.trimSuffix
  have h : Lib.hasSuffix (t.flatMap esc ++ [34]) [34] = true := by
    unfold Lib.hasSuffix
    rw [List.isSuffixOf_iff_suffix]
    exact ⟨_, rfl⟩
  rw [h, if_pos rfl]
  simp

/-- The number or day whose digits are d, if l is its text. -/
def parseN (k : Int) (d l : List UInt8) : Int × Int × List UInt8 × Int :=
  match Lib.atoiAll d with
  | .ok n => if txt k n [] = l then (k, n, [], 0) else (0, 0, [], 4)
  | _ => (0, 0, [], 4)
theorem parseN_ok {k : Int} {d l : List UInt8} {n : Int} (h : Lib.atoiAll d = .ok n) : parseN k d l = if txt k n [] = l then (k, n, [], 0) else (0, 0, [], 4) := by
  unfold parseN; rw [h]
theorem parseN_cases (k : Int) (d l : List UInt8) : parseN k d l = (0, 0, [], 4) ∨ ∃ n, parseN k d l = (k, n, [], 0) ∧ txt k n [] = l := by
  rcases hx : Lib.atoiAll d with n | _ | _
  · rw [parseN_ok hx]
    by_cases b : txt k n [] = l
    · rw [if_pos b]; exact Or.inr ⟨n, rfl, b⟩
    · rw [if_neg b]; exact Or.inl rfl
  · left; unfold parseN; rw [hx]
  · left; unfold parseN; rw [hx]

/-- What Parse returns: the value that has the text; if there is one, all that is known of a guess decides. -/
def parse (l : List UInt8) : Int × Int × List UInt8 × Int :=
  if vldB 0 0 [] = true ∧ l = [110, 117, 108, 108] then (0, 0, [], 0)
  else if l = [116, 114, 117, 101] then (4, 1, [], 0)
  else if l = [102, 97, 108, 115, 101] then (4, 0, [], 0)
  else match l with
    | [] => (0, 0, [], 4)
    | c :: r =>
      if c.toNat = 34 then (if txt 1 0 (unq (Lib.trimSuffix r [34])) = l then (1, 0, unq (Lib.trimSuffix r [34]), 0) else (0, 0, [], 4))
      else if c.toNat = 64 then parseN 3 r l
      else parseN 2 l l

theorem vld_nil {k n : Int} {t : List UInt8} (h : vldB k n t = true) (hk : k ≠ 1) : t = [] := by
  have := vldB_true h; unfold Vld at this
  rcases this with h | h | h | h | h
  · exact h.2.2
  · exact absurd h.1 hk
  · exact h.2.2.2
  · exact h.2.2.2
  · exact h.2.2.2
theorem vld_zero {n : Int} {t : List UInt8} (h : vldB 1 n t = true) : n = 0 := by
  have := vldB_true h; unfold Vld at this; omega
theorem vld_zero0 {n : Int} {t : List UInt8} (h : vldB 0 n t = true) : n = 0 := by
  have := vldB_true h; unfold Vld at this; omega
theorem vld_flag {n : Int} {t : List UInt8} (h : vldB 4 n t = true) : n = 0 ∨ n = 1 := by
  have := vldB_true h; unfold Vld at this; omega

/-- Parse undoes Text. -/
theorem parse_txt {k n : Int} {t : List UInt8} (hv : vldB k n t = true) : parse (txt k n t) = (k, n, t, 0) := by
  have hb := vld_bound hv
  have ha := atoi_itoa n hb.1 hb.2
  obtain ⟨c, r, hc, hd⟩ := itoa_head n
  rcases vld_cases hv with rfl | rfl | rfl | rfl | rfl
  · obtain rfl := vld_zero0 hv
    obtain rfl := vld_nil hv (by decide)
    rw [txt_null hv]; decide +kernel
  · obtain rfl := vld_zero hv
    have ht := txt_text hv
    have e : txt 1 0 t = 34 :: (t.flatMap esc ++ [34]) := ht
    rw [e]
    unfold parse
    rw [if_neg (by simp), if_neg (by simp), if_neg (by simp)]
    simp only []
    rw [if_pos (by decide), trim_quo, unq_flat, if_pos e]
  · obtain rfl := vld_nil hv (by decide)
    have ht := txt_num hv
    have hne : c.toNat ≠ 34 ∧ c.toNat ≠ 64 ∧ c.toNat ≠ 110 ∧ c.toNat ≠ 116 ∧ c.toNat ≠ 102 := by
      rcases hd with rfl | hd
      · decide
      · unfold IsDig at hd; omega
    have hx : ∀ (x : UInt8) (y : List UInt8), c.toNat ≠ x.toNat → ¬ (c :: r = x :: y) := fun x y h e => h (by injection e with e _; rw [e])
    rw [ht, hc]
    unfold parse
    rw [if_neg (fun h => hx 110 _ hne.2.2.1 h.2), if_neg (hx 116 _ hne.2.2.2.1), if_neg (hx 102 _ hne.2.2.2.2)]
    simp only []
    rw [if_neg hne.1, if_neg hne.2.1, ← hc, parseN_ok ha, if_pos ht]
  · obtain rfl := vld_nil hv (by decide)
    have ht := txt_day hv
    rw [ht]
    unfold parse
    rw [if_neg (by simp), if_neg (by simp), if_neg (by simp)]
    simp only []
    rw [if_neg (by decide), if_pos (by decide), parseN_ok ha, if_pos ht]
  · obtain rfl := vld_nil hv (by decide)
    rw [txt_flag hv]
    rcases vld_flag hv with rfl | rfl
    · rw [if_neg (by decide)]; decide +kernel
    · rw [if_pos rfl]; decide +kernel

/-- What Parse accepts is the text of its result; what it does not is none's. -/
theorem parse_cases (l : List UInt8) : (parse l = (0, 0, [], 4) ∧ ∀ k n t, vldB k n t = true → txt k n t ≠ l) ∨ ∃ k n t, parse l = (k, n, t, 0) ∧ vldB k n t = true ∧ txt k n t = l := by
  have no : parse l = (0, 0, [], 4) → (parse l = (0, 0, [], 4) ∧ ∀ k n t, vldB k n t = true → txt k n t ≠ l) := fun h => ⟨h, fun k n t hv e => by
    rw [← e, parse_txt hv] at h
    simp at h⟩
  have yes : ∀ k n t, txt k n t = l → l ≠ [] → vldB k n t = true := fun k n t h hl => by
    cases hv : vldB k n t
    · rw [txt_bad hv] at h; exact absurd h.symm hl
    · rfl
  by_cases h0 : l = []
  · subst h0; exact Or.inl (no (by decide +kernel))
  by_cases h1 : l = [110, 117, 108, 108]
  · subst h1; exact Or.inr ⟨0, 0, [], by decide +kernel, by decide +kernel, by decide +kernel⟩
  by_cases h2 : l = [116, 114, 117, 101]
  · subst h2; exact Or.inr ⟨4, 1, [], by decide +kernel, by decide +kernel, by decide +kernel⟩
  by_cases h3 : l = [102, 97, 108, 115, 101]
  · subst h3; exact Or.inr ⟨4, 0, [], by decide +kernel, by decide +kernel, by decide +kernel⟩
  cases l with
  | nil => exact absurd rfl h0
  | cons c r =>
    have e : parse (c :: r) = (if c.toNat = 34 then (if txt 1 0 (unq (Lib.trimSuffix r [34])) = c :: r then (1, 0, unq (Lib.trimSuffix r [34]), 0) else (0, 0, [], 4))
      else if c.toNat = 64 then parseN 3 r (c :: r)
      else parseN 2 (c :: r) (c :: r)) := by
      unfold parse
      rw [if_neg (fun h => h1 h.2), if_neg h2, if_neg h3]
    by_cases a : c.toNat = 34
    · rw [if_pos a] at e
      by_cases b : txt 1 0 (unq (Lib.trimSuffix r [34])) = c :: r
      · rw [if_pos b] at e; exact Or.inr ⟨_, _, _, e, yes _ _ _ b h0, b⟩
      · rw [if_neg b] at e; exact Or.inl (no e)
    · rw [if_neg a] at e
      by_cases a2 : c.toNat = 64
      · rw [if_pos a2] at e
        rcases parseN_cases 3 r (c :: r) with b | ⟨n, b1, b2⟩
        · rw [b] at e; exact Or.inl (no e)
        · rw [b1] at e; exact Or.inr ⟨_, _, _, e, yes _ _ _ b2 h0, b2⟩
      · rw [if_neg a2] at e
        rcases parseN_cases 2 (c :: r) (c :: r) with b | ⟨n, b1, b2⟩
        · rw [b] at e; exact Or.inl (no e)
        · rw [b1] at e; exact Or.inr ⟨_, _, _, e, yes _ _ _ b2 h0, b2⟩

/-- A guess that is right where there is a value to be guessed: it decides. -/
def Guess (l : List UInt8) (K N : Int) (T : List UInt8) : Prop := ∀ k n t, vldB k n t = true → txt k n t = l → K = k ∧ N = n ∧ T = t
theorem parse_yes {l : List UInt8} {K N : Int} {T : List UInt8} (hv : vldB K N T = true) (h : txt K N T = l) : parse l = (K, N, T, 0) := by rw [← h]; exact parse_txt hv
theorem parse_no {l : List UInt8} {K N : Int} {T : List UInt8} (hg : Guess l K N T) (h : vldB K N T = false ∨ txt K N T ≠ l) : parse l = (0, 0, [], 4) := by
  rcases parse_cases l with ⟨e, _⟩ | ⟨k, n, t, _, hv, e⟩
  · exact e
  · obtain ⟨rfl, rfl, rfl⟩ := hg k n t hv e
    rcases h with h | h
    · rw [hv] at h; cases h
    · exact absurd e h
theorem txt_inj {k n : Int} {t : List UInt8} {k2 n2 : Int} {t2 : List UInt8} (h1 : vldB k n t = true) (h2 : vldB k2 n2 t2 = true) (h : txt k n t = txt k2 n2 t2) : k = k2 ∧ n = n2 ∧ t = t2 := by
  have a := parse_txt h1
  rw [h, parse_txt h2] at a
  simp at a
  exact ⟨a.1.symm, a.2.1.symm, a.2.2.symm⟩

/-- How the texts of the kinds begin. -/
theorem guess_text {r : List UInt8} {k n : Int} {t : List UInt8} (hv : vldB k n t = true) (h : txt k n t = 34 :: r) : k = 1 ∧ n = 0 ∧ r = t.flatMap esc ++ [34] := by
  have p := parse_txt hv
  obtain ⟨c, q, hc, hd⟩ := itoa_head n
  rcases vld_cases hv with rfl | rfl | rfl | rfl | rfl
  · rw [txt_null hv] at h; simp at h
  · rw [txt_text hv] at h
    refine ⟨rfl, vld_zero hv, ?_⟩
    unfold quo at h
    injection h with _ h
    exact h.symm
  · rw [txt_num hv, hc] at h
    injection h with h _
    subst h
    rcases hd with hd | hd
    · exact absurd hd (by decide)
    · unfold IsDig at hd; exact absurd hd (by decide)
  · rw [txt_day hv] at h; simp at h
  · rw [txt_flag hv] at h; split at h <;> simp at h
theorem guess_day {r : List UInt8} {k n : Int} {t : List UInt8} (hv : vldB k n t = true) (h : txt k n t = 64 :: r) : k = 3 ∧ Lib.itoa n = r ∧ t = [] := by
  obtain ⟨c, q, hc, hd⟩ := itoa_head n
  rcases vld_cases hv with rfl | rfl | rfl | rfl | rfl
  · rw [txt_null hv] at h; simp at h
  · rw [txt_text hv] at h; unfold quo at h; simp at h
  · rw [txt_num hv, hc] at h
    injection h with h _
    subst h
    rcases hd with hd | hd
    · exact absurd hd (by decide)
    · unfold IsDig at hd; exact absurd hd (by decide)
  · rw [txt_day hv] at h
    injection h with _ h
    exact ⟨rfl, h, vld_nil hv (by decide)⟩
  · rw [txt_flag hv] at h; split at h <;> simp at h
theorem guess_num {l : List UInt8} {k n : Int} {t : List UInt8} (hv : vldB k n t = true) (h : txt k n t = l) (h1 : l ≠ [110, 117, 108, 108]) (h2 : l ≠ [116, 114, 117, 101]) (h3 : l ≠ [102, 97, 108, 115, 101]) (h4 : ∀ r, l ≠ 34 :: r) (h5 : ∀ r, l ≠ 64 :: r) : k = 2 ∧ Lib.itoa n = l ∧ t = [] := by
  rcases vld_cases hv with rfl | rfl | rfl | rfl | rfl
  · rw [txt_null hv] at h; exact absurd h.symm h1
  · rw [txt_text hv] at h; exact absurd h.symm (h4 _)
  · rw [txt_num hv] at h; exact ⟨rfl, h, vld_nil hv (by decide)⟩
  · rw [txt_day hv] at h; exact absurd h.symm (h5 _)
  · rw [txt_flag hv] at h
    split at h
    · exact absurd h.symm h2
    · exact absurd h.symm h3
end Go.Proofs.YtcgkaecaddpenaaGreatDoor.L2

