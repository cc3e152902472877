/- What two lists in strict order have in common. -/
import Derived.Test.YtfpegkdbimkhdaaDoorCommon
namespace Go.Proofs.YtfpegkdbimkhdaaDoor
open Go

theorem comm_nil_l (y : List (List UInt8)) : comm [] y = 0 := by rw [comm]
theorem comm_nil_r (x : List (List UInt8)) : comm x [] = 0 := by cases x <;> rw [comm]
theorem comm_sym : ∀ x y : List (List UInt8), comm x y = comm y x
  | [], y => by rw [comm_nil_r, comm_nil_l]
  | a :: x, [] => by rw [comm_nil_r, comm_nil_l]
  | a :: x, b :: y => by
    cases h : ltS a b
    · cases g : ltS b a
      · rw [comm_eq h g, comm_eq g h, comm_sym x y]
      · rw [comm_gt h g, comm_lt g, comm_sym (a :: x) y]
    · rw [comm_lt h, comm_gt (ltS_asymm _ _ h) h, comm_sym x (b :: y)]
termination_by x y => x.length + y.length
theorem comm_self : ∀ x : List (List UInt8), comm x x = x.length
  | [] => by rw [comm_nil_l]; rfl
  | a :: x => by rw [comm_eq (ltS_irrefl a) (ltS_irrefl a), comm_self x]; rfl
theorem comm_le : ∀ x y : List (List UInt8), comm x y ≤ x.length ∧ comm x y ≤ y.length
  | [], y => by rw [comm_nil_l]; simp
  | a :: x, [] => by rw [comm_nil_r]; simp
  | a :: x, b :: y => by
    cases h : ltS a b
    · cases g : ltS b a
      · have := comm_le x y
        rw [comm_eq h g]; simp; omega
      · have := comm_le (a :: x) y
        rw [comm_gt h g]; simp at this ⊢; omega
    · have := comm_le x (b :: y)
      rw [comm_lt h]; simp at this ⊢; omega
termination_by x y => x.length + y.length
theorem lt_of_not {a b : List UInt8} (h : ltS a b = false) (g : ltS b a = false) : a = b := by
  by_cases e : a = b
  · exact e
  · rcases ltS_total a b e with k | k
    · rw [h] at k; cases k
    · rw [g] at k; cases k
theorem sortD_head {a : List UInt8} {l : List (List UInt8)} (h : ∀ z ∈ l, ltS a z = true) : sortD (a :: l) = a :: sortD l := by
  refine strict_eq (strict_sortD _) (List.pairwise_cons.2 ⟨fun z hz => h z ((mem_sortD _ _).1 hz), strict_sortD l⟩) (fun z => ?_)
  rw [mem_sortD, List.mem_cons, List.mem_cons, mem_sortD]
theorem comm_union : ∀ x y : List (List UInt8), Strict x → Strict y → comm x y + (sortD (x ++ y)).length = x.length + y.length
  | [], y, _, hy => by rw [comm_nil_l, List.nil_append, sortD_strict hy]; simp
  | a :: x, [], hx, _ => by rw [comm_nil_r, List.append_nil, sortD_strict hx]; simp
  | a :: x, b :: y, hx, hy => by
    have hx' := List.pairwise_cons.1 hx
    have hy' := List.pairwise_cons.1 hy
    cases h : ltS a b
    · cases g : ltS b a
      · obtain rfl := lt_of_not h g
        have e : sortD ((a :: x) ++ (a :: y)) = a :: sortD (x ++ y) := by
          rw [← sortD_head (a := a) (l := x ++ y) (fun z hz => (List.mem_append.1 hz).elim (hx'.1 z) (hy'.1 z))]
          refine sortD_eq (fun z => ?_)
          simp only [List.mem_append, List.mem_cons]
          constructor
          · rintro ((k | k) | (k | k))
            · exact Or.inl k
            · exact Or.inr (Or.inl k)
            · exact Or.inl k
            · exact Or.inr (Or.inr k)
          · rintro (k | k | k)
            · exact Or.inl (Or.inl k)
            · exact Or.inl (Or.inr k)
            · exact Or.inr (Or.inr k)
        have := comm_union x y hx'.2 hy'.2
        rw [comm_eq h g, e]; simp; omega
      · have e : sortD ((a :: x) ++ (b :: y)) = b :: sortD ((a :: x) ++ y) := by
          rw [← sortD_head (a := b) (l := (a :: x) ++ y) (fun z hz => (List.mem_append.1 hz).elim (fun k => (List.mem_cons.1 k).elim (fun k => by rw [k]; exact g) (fun k => ltS_trans _ _ _ g (hx'.1 z k))) (hy'.1 z))]
          refine sortD_eq (fun z => ?_)
          simp only [List.mem_append, List.mem_cons]
          constructor
          · rintro ((k | k) | (k | k))
            · exact Or.inr (Or.inl (Or.inl k))
            · exact Or.inr (Or.inl (Or.inr k))
            · exact Or.inl k
            · exact Or.inr (Or.inr k)
          · rintro (k | (k | k) | k)
            · exact Or.inr (Or.inl k)
            · exact Or.inl (Or.inl k)
            · exact Or.inl (Or.inr k)
            · exact Or.inr (Or.inr k)
        have := comm_union (a :: x) y hx hy'.2
        rw [comm_gt h g, e]; simp at this ⊢; omega
    · have e : sortD ((a :: x) ++ (b :: y)) = a :: sortD (x ++ (b :: y)) := by
        rw [List.cons_append]
        exact sortD_head (fun z hz => (List.mem_append.1 hz).elim (hx'.1 z) (fun k => (List.mem_cons.1 k).elim (fun k => by rw [k]; exact h) (fun k => ltS_trans _ _ _ h (hy'.1 z k))))
      have := comm_union x (b :: y) hx'.2 hy
      rw [comm_lt h, e]; simp at this ⊢; omega
termination_by x y => x.length + y.length
/-- The steps of the reference's loop. -/
theorem comm_hit {a : List UInt8} {x y : List (List UInt8)} (hx : Strict (a :: x)) : comm (a :: x) (a :: y) = comm x (a :: y) + 1 := by
  rw [comm_eq (ltS_irrefl a) (ltS_irrefl a)]
  cases x with
  | nil => rw [comm_nil_l, comm_nil_l]
  | cons c z =>
    have h := (List.pairwise_cons.1 hx).1 c (by simp)
    rw [comm_gt (ltS_asymm _ _ h) h]
theorem incB_sortD (l : List (List UInt8)) : incB (sortD l) = true := (incB_strict _).2 (strict_sortD l)
theorem commonT_sorted (x y : List (List UInt8)) : commonT (sortD x) (sortD y) = comm (sortD x) (sortD y) := by
  unfold commonT
  rw [incB_sortD, incB_sortD]
  rfl
end Go.Proofs.YtfpegkdbimkhdaaDoor
