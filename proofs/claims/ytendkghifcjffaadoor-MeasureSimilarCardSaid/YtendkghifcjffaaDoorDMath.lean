/- The edit distance of two texts, as a function on lists of bytes: what it obeys. -/
namespace Go.Proofs.YtendkghifcjffaaDoor
/-- Whether two bytes differ. -/
def neq (a b : UInt8) : Nat := if a = b then 0 else 1
/-- The edit distance. -/
def lev : List UInt8 → List UInt8 → Nat
  | [], y => y.length
  | x, [] => x.length
  | a :: x, b :: y => min (lev x y + neq a b) (min (lev x (b :: y)) (lev (a :: x) y) + 1)
termination_by x y => x.length + y.length

theorem neq_self (a : UInt8) : neq a a = 0 := if_pos rfl
theorem neq_le (a b : UInt8) : neq a b ≤ 1 := by unfold neq; split <;> omega
theorem neq_sym (a b : UInt8) : neq a b = neq b a := by
  unfold neq
  by_cases h : a = b
  · rw [if_pos h, if_pos h.symm]
  · rw [if_neg h, if_neg (fun e => h e.symm)]
theorem neq_tri (a b c : UInt8) : neq a c ≤ neq a b + neq b c := by
  unfold neq
  by_cases h : a = b
  · subst h; rw [if_pos rfl]; omega
  · rw [if_neg h]; split <;> omega
theorem lev_nil_l (y : List UInt8) : lev [] y = y.length := by rw [lev]
theorem lev_nil_r (x : List UInt8) : lev x [] = x.length := by
  cases x with
  | nil => rw [lev]
  | cons a x =>
    rw [lev]
    intro h
    cases h
theorem lev_cons (a b : UInt8) (x y : List UInt8) : lev (a :: x) (b :: y) = min (lev x y + neq a b) (min (lev x (b :: y)) (lev (a :: x) y) + 1) := by rw [lev]
theorem lev_sym : ∀ x y : List UInt8, lev x y = lev y x
  | [], y => by rw [lev_nil_l, lev_nil_r]
  | a :: x, [] => by rw [lev_nil_l, lev_nil_r]
  | a :: x, b :: y => by
    rw [lev_cons, lev_cons, lev_sym x y, lev_sym x (b :: y), lev_sym (a :: x) y, neq_sym a b]
    omega
termination_by x y => x.length + y.length
theorem lev_len : ∀ x y : List UInt8, x.length ≤ lev x y + y.length ∧ y.length ≤ lev x y + x.length ∧ lev x y ≤ max x.length y.length
  | [], y => by rw [lev_nil_l]; simp
  | a :: x, [] => by rw [lev_nil_r]; simp
  | a :: x, b :: y => by
    have h1 := lev_len x y
    have h2 := lev_len x (b :: y)
    have h3 := lev_len (a :: x) y
    have h4 := neq_le a b
    rw [lev_cons]
    simp only [List.length_cons] at *
    omega
termination_by x y => x.length + y.length
theorem lev_del (a : UInt8) (x y : List UInt8) : lev (a :: x) y ≤ lev x y + 1 := by
  cases y with
  | nil => rw [lev_nil_r, lev_nil_r]; simp
  | cons b y => rw [lev_cons]; omega
theorem lev_ins (b : UInt8) (x y : List UInt8) : lev x (b :: y) ≤ lev x y + 1 := by
  rw [lev_sym x (b :: y), lev_sym x y]; exact lev_del b y x
theorem lev_tri : ∀ x y z : List UInt8, lev x z ≤ lev x y + lev y z
  | [], y, z => by
    have := lev_len y z
    rw [lev_nil_l, lev_nil_l]; omega
  | a :: x, y, [] => by
    have := lev_len (a :: x) y
    rw [lev_nil_r, lev_nil_r]; omega
  | a :: x, [], c :: z => by
    have := lev_len (a :: x) (c :: z)
    rw [lev_nil_r, lev_nil_l]; omega
  | a :: x, b :: y, c :: z => by
    have h1 := lev_tri x (b :: y) (c :: z)
    have h2 := lev_tri (a :: x) (b :: y) z
    have h3 := lev_tri x y z
    have h4 := lev_tri (a :: x) y (c :: z)
    have h5 := lev_tri x y (c :: z)
    have h6 := lev_tri (a :: x) y z
    have n := neq_tri a b c
    have n1 := neq_le a b
    have n2 := neq_le b c
    have e1 := lev_cons a b x y
    have e2 := lev_cons b c y z
    have e3 := lev_cons a c x z
    omega
termination_by x y z => x.length + y.length + z.length
theorem lev_self : ∀ x : List UInt8, lev x x = 0
  | [] => by rw [lev_nil_l]; rfl
  | a :: x => by rw [lev_cons, lev_self x, neq_self]; omega
theorem lev_same (c : UInt8) (x y : List UInt8) : lev (c :: x) (c :: y) = lev x y := by
  have h1 := lev_tri x (c :: x) y
  have h2 := lev_tri x (c :: y) y
  have h3 := lev_del c y y
  have h4 := lev_ins c x x
  have h5 := lev_tri x (c :: x) (c :: y)
  have s1 := lev_self x
  have s2 := lev_self y
  have e := lev_cons c c x y
  have n := neq_self c
  have h6 := lev_tri x (c :: y) y
  have h7 := lev_tri x (c :: x) y
  have h8 : lev x y ≤ lev x (c :: y) + 1 := by omega
  have h9 := lev_tri x (c :: x) y
  have h10 : lev x y ≤ lev (c :: x) y + 1 := by omega
  omega
theorem lev_zero : ∀ x y : List UInt8, lev x y = 0 → x = y
  | [], y, h => by rw [lev_nil_l] at h; exact (List.length_eq_zero_iff.1 h).symm
  | a :: x, [], h => by rw [lev_nil_r] at h; simp at h
  | a :: x, b :: y, h => by
    rw [lev_cons] at h
    have h1 : lev x y = 0 := by omega
    have h2 : neq a b = 0 := by omega
    have h3 : a = b := by
      unfold neq at h2
      by_cases e : a = b
      · exact e
      · rw [if_neg e] at h2; cases h2
    rw [h3, lev_zero x y h1]
termination_by x y => x.length + y.length
theorem lev_prefix : ∀ c x y : List UInt8, lev (c ++ x) (c ++ y) = lev x y
  | [], x, y => rfl
  | a :: c, x, y => by rw [List.cons_append, List.cons_append, lev_same, lev_prefix c x y]
theorem lev_app_nil : ∀ y u v : List UInt8, lev u (y ++ v) ≤ y.length + lev u v
  | [], u, v => by simp
  | b :: y, u, v => by
    have h1 := lev_ins b u (y ++ v)
    have h2 := lev_app_nil y u v
    rw [List.cons_append]; simp only [List.length_cons]; omega
theorem lev_app : ∀ x y u v : List UInt8, lev (x ++ u) (y ++ v) ≤ lev x y + lev u v
  | [], y, u, v => by rw [lev_nil_l]; exact lev_app_nil y u v
  | a :: x, [], u, v => by
    rw [lev_nil_r, lev_sym, lev_sym u v]
    exact lev_app_nil (a :: x) v u
  | a :: x, b :: y, u, v => by
    have h1 := lev_app x y u v
    have h2 := lev_app x (b :: y) u v
    have h3 := lev_app (a :: x) y u v
    have e := lev_cons a b x y
    have e2 := lev_cons a b (x ++ u) (y ++ v)
    simp only [List.cons_append] at *
    omega
termination_by x y => x.length + y.length
theorem lev_one (a b : UInt8) : lev [a] [b] ≤ neq a b := by
  rw [lev_cons, lev_nil_l]; simp; omega
theorem lev_rev_le : ∀ x y : List UInt8, lev x.reverse y.reverse ≤ lev x y
  | [], y => by rw [List.reverse_nil, lev_nil_l, lev_nil_l]; simp
  | a :: x, [] => by rw [List.reverse_nil, lev_nil_r, lev_nil_r]; simp
  | a :: x, b :: y => by
    have h1 := lev_rev_le x y
    have h2 := lev_rev_le x (b :: y)
    have h3 := lev_rev_le (a :: x) y
    have g1 := lev_app x.reverse y.reverse [a] [b]
    have g2 := lev_app x.reverse (b :: y).reverse [a] []
    have g3 := lev_app (a :: x).reverse y.reverse [] [b]
    have o := lev_one a b
    have o1 : lev [a] [] = 1 := by rw [lev_nil_r]; rfl
    have o2 : lev [] [b] = 1 := by rw [lev_nil_l]; rfl
    rw [List.append_nil] at g2 g3
    have e := lev_cons a b x y
    simp only [List.reverse_cons] at *
    omega
termination_by x y => x.length + y.length
theorem lev_rev (x y : List UInt8) : lev x.reverse y.reverse = lev x y := by
  have h1 := lev_rev_le x y
  have h2 := lev_rev_le x.reverse y.reverse
  rw [List.reverse_reverse, List.reverse_reverse] at h2
  omega
theorem lev_suffix (c x y : List UInt8) : lev (x ++ c) (y ++ c) = lev x y := by
  rw [← lev_rev, List.reverse_append, List.reverse_append, lev_prefix, lev_rev]
theorem lev_more (u v y : List UInt8) (x : UInt8) : lev (u ++ x :: v) y ≤ lev (u ++ v) y + 1 ∧ lev (u ++ v) y ≤ lev (u ++ x :: v) y + 1 := by
  have h1 : lev (u ++ x :: v) (u ++ v) ≤ 1 := by
    rw [lev_prefix]
    have := lev_del x v v
    rw [lev_self] at this
    exact this
  have h2 := lev_tri (u ++ x :: v) (u ++ v) y
  have h3 := lev_tri (u ++ v) (u ++ x :: v) y
  have h4 := lev_sym (u ++ v) (u ++ x :: v)
  omega

/-! ### The table of the distances of the beginnings. -/
def dist (a b : List UInt8) (i j : Nat) : Nat := lev (a.take i).reverse (b.take j).reverse
theorem dist_zero_l (a b : List UInt8) {j : Nat} (hj : j ≤ b.length) : dist a b 0 j = j := by
  unfold dist; rw [List.take_zero, List.reverse_nil, lev_nil_l]; simp; omega
theorem dist_zero_r (a b : List UInt8) {i : Nat} (hi : i ≤ a.length) : dist a b i 0 = i := by
  unfold dist; rw [List.take_zero, List.reverse_nil, lev_nil_r]; simp; omega
theorem dist_step (a b : List UInt8) {i j : Nat} (hi : i < a.length) (hj : j < b.length) :
    dist a b (i + 1) (j + 1) = min (dist a b i j + neq a[i] b[j]) (min (dist a b i (j + 1)) (dist a b (i + 1) j) + 1) := by
  unfold dist
  rw [List.take_succ_eq_append_getElem hi, List.take_succ_eq_append_getElem hj, List.reverse_append, List.reverse_append]
  exact lev_cons _ _ _ _
theorem dist_end (a b : List UInt8) : dist a b a.length b.length = lev a b := by
  unfold dist; rw [List.take_length, List.take_length, lev_rev]
theorem dist_le (a b : List UInt8) (i j : Nat) : dist a b i j ≤ max i j := by
  have := (lev_len (a.take i).reverse (b.take j).reverse).2.2
  unfold dist
  simp at this
  omega
end Go.Proofs.YtendkghifcjffaaDoor
