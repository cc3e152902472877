/- The plain mathematics of rows: their order. -/
import Derived.Test.YtdoenjkebeidlaaDoorMath
namespace Go.Proofs.YtdoenjkebeidlaaDoor

/-- A value's three fields. -/
abbrev T3 := Int × Int × List UInt8
def cmpT (a b : T3) : Int := cmpV a.1 a.2.1 a.2.2 b.1 b.2.1 b.2.2
theorem cmpT_self (a : T3) : cmpT a a = 0 := cmpV_self _ _ _
theorem cmpT_range (a b : T3) : cmpT a b = -1 ∨ cmpT a b = 0 ∨ cmpT a b = 1 := cmpV_range _ _ _ _ _ _
theorem cmpT_neg (a b : T3) : cmpT b a = -cmpT a b := cmpV_neg _ _ _ _ _ _
theorem cmpT_zero {a b : T3} (h : cmpT a b = 0) : a = b := by
  obtain ⟨h1, h2, h3⟩ := cmpV_zero h
  exact Prod.ext h1 (Prod.ext h2 h3)
theorem cmpT_lt {a b c : T3} (h : cmpT a b = -1) (g : cmpT b c = -1) : cmpT a c = -1 := cmpV_lt.2 (ltV_trans (cmpV_lt.1 h) (cmpV_lt.1 g))

/-- The order of rows; a beginning comes first. -/
def cmpR : List T3 → List T3 → Int
  | [], [] => 0
  | [], _ :: _ => -1
  | _ :: _, [] => 1
  | a :: x, b :: y => or2 (cmpT a b) (cmpR x y)
theorem cmpR_range : ∀ x y, cmpR x y = -1 ∨ cmpR x y = 0 ∨ cmpR x y = 1
  | [], [] => Or.inr (Or.inl rfl)
  | [], _ :: _ => Or.inl rfl
  | _ :: _, [] => Or.inr (Or.inr rfl)
  | a :: x, b :: y => by
    unfold cmpR or2
    split
    · exact cmpR_range x y
    · exact cmpT_range a b
theorem cmpR_neg : ∀ x y, cmpR y x = -cmpR x y
  | [], [] => rfl
  | [], _ :: _ => rfl
  | _ :: _, [] => rfl
  | a :: x, b :: y => by
    unfold cmpR or2
    rw [cmpT_neg a b, cmpR_neg x y]
    split <;> split <;> omega
theorem cmpR_self : ∀ x, cmpR x x = 0
  | [] => rfl
  | a :: x => by unfold cmpR; rw [cmpT_self, or2_zero, cmpR_self x]
theorem cmpR_zero : ∀ x y, cmpR x y = 0 → x = y
  | [], [], _ => rfl
  | [], _ :: _, h => by cases h
  | _ :: _, [], h => by cases h
  | a :: x, b :: y, h => by
    unfold cmpR or2 at h
    split at h
    · rename_i h0
      rw [cmpT_zero h0, cmpR_zero x y h]
    · rename_i h0; exact absurd h h0
theorem cmpR_trans : ∀ x y z, cmpR x y ≤ 0 → cmpR y z ≤ 0 → cmpR x z ≤ 0
  | [], _, [], _, _ => by unfold cmpR; omega
  | [], _, _ :: _, _, _ => by unfold cmpR; omega
  | _ :: _, [], _, h, _ => by unfold cmpR at h; omega
  | _ :: _, _ :: _, [], _, h => by unfold cmpR at h; omega
  | a :: x, b :: y, c :: z, h, g => by
    unfold cmpR or2 at h g ⊢
    rcases cmpT_range a b with p | p | p
    · rw [p, if_neg (by decide)] at h
      rcases cmpT_range b c with q | q | q
      · rw [cmpT_lt p q, if_neg (by decide)]; omega
      · obtain rfl := cmpT_zero q; rw [p, if_neg (by decide)]; omega
      · rw [q, if_neg (by decide)] at g; omega
    · obtain rfl := cmpT_zero p
      rw [cmpT_self, if_pos rfl] at h
      rcases cmpT_range a c with q | q | q
      · rw [q, if_neg (by decide)]; omega
      · rw [q, if_pos rfl] at g ⊢; exact cmpR_trans x y z h g
      · rw [q, if_neg (by decide)] at g; omega
    · rw [p, if_neg (by decide)] at h; omega

/-- The order of rows, from the k-th values on. -/
theorem cmpR_drop_ne {x y : List T3} {k : Nat} (h : cmpR x y = cmpR (x.drop k) (y.drop k)) (hx : k < x.length) (hy : k < y.length) {c : Int} (hc : cmpT x[k] y[k] = c) (h0 : c ≠ 0) : cmpR x y = c := by
  rw [h, List.drop_eq_getElem_cons hx, List.drop_eq_getElem_cons hy]
  unfold cmpR; rw [hc, or2_ne h0]
theorem cmpR_drop_eq {x y : List T3} {k : Nat} (h : cmpR x y = cmpR (x.drop k) (y.drop k)) (hx : k < x.length) (hy : k < y.length) (hc : cmpT x[k] y[k] = 0) : cmpR x y = cmpR (x.drop (k + 1)) (y.drop (k + 1)) := by
  rw [h, List.drop_eq_getElem_cons hx, List.drop_eq_getElem_cons hy]
  conv => lhs; unfold cmpR
  rw [hc, or2_zero]
theorem cmpR_drop_gt {x y : List T3} {k : Nat} (h : cmpR x y = cmpR (x.drop k) (y.drop k)) (hx : k < x.length) (hy : y.length ≤ k) : cmpR x y = 1 := by
  rw [h, List.drop_eq_getElem_cons hx, List.drop_eq_nil_of_le hy]; rfl
theorem cmpR_drop_end {x y : List T3} {k : Nat} (h : cmpR x y = cmpR (x.drop k) (y.drop k)) (hx : x.length ≤ k) : cmpR x y = if k < y.length then -1 else 0 := by
  rw [h, List.drop_eq_nil_of_le hx]
  split
  · rename_i g; rw [List.drop_eq_getElem_cons g]; rfl
  · rename_i g; rw [List.drop_eq_nil_of_le (by omega)]; rfl

/-- Whether two rows are as long, and alike in the first k values. -/
def sameB (x y : List T3) (k : Nat) : Bool := decide (x.length = y.length) && decide (x.take k = y.take k)
theorem sameB_zero (x y : List T3) : sameB x y 0 = decide (x.length = y.length) := by unfold sameB; simp
theorem sameB_all {x y : List T3} {k : Nat} (h : x.length ≤ k ∨ y.length ≤ k) : sameB x y k = decide (x = y) := by
  unfold sameB
  by_cases e : x.length = y.length
  · rw [List.take_of_length_le (by omega), List.take_of_length_le (by omega), decide_eq_true e, Bool.true_and]
  · rw [decide_eq_false e, show decide (x = y) = false from decide_eq_false (fun g => e (by rw [g]))]; rfl
theorem sameB_false {x y : List T3} {k : Nat} (h : sameB x y k = false) : sameB x y (k + 1) = false := by
  cases g : sameB x y (k + 1)
  · rfl
  · exfalso
    unfold sameB at g h
    rw [Bool.and_eq_true, decide_eq_true_eq, decide_eq_true_eq] at g
    have e := congrArg (List.take k) g.2
    rw [List.take_take, List.take_take, Nat.min_eq_left (by omega)] at e
    rw [decide_eq_true g.1, decide_eq_true e] at h
    cases h
theorem sameB_step {x y : List T3} {k : Nat} (h : sameB x y k = true) (hx : k < x.length) (hy : k < y.length) : sameB x y (k + 1) = decide (x[k] = y[k]) := by
  unfold sameB at h ⊢
  rw [Bool.and_eq_true, decide_eq_true_eq, decide_eq_true_eq] at h
  rw [decide_eq_true h.1, Bool.true_and, List.take_succ_eq_append_getElem hx, List.take_succ_eq_append_getElem hy, h.2, Bool.eq_iff_iff]
  simp only [List.append_right_inj, List.cons.injEq, and_true, decide_eq_true_eq]
end Go.Proofs.YtdoenjkebeidlaaDoor
