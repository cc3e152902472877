import Derived.Maps.Views
/- The edit distance of two texts, as a function on lists of bytes: what it obeys. -/
namespace Go.Proofs.YtendkghifcjffaaGreatDoor
/-- Whether two bytes differ. -/
def neq (a b : UInt8) : Nat := if a = b then 0 else 1
/-- The edit distance. -/
def lev : List UInt8 → List UInt8 → Nat
  | [], y => y.length
  | x, [] => x.length
  | a :: x, b :: y => min (lev x y + neq a b) (min (lev x (b :: y)) (lev (a :: x) y) + 1)
termination_by x y => x.length + y.length

theorem neq_self (a : UInt8) : neq a a = 0 := if_pos rfl
theorem neq_le (a b : UInt8) : neq a b ≤ 1 := by unfold neq; split <;> omega
theorem neq_sym (a b : UInt8) : neq a b = neq b a := by
  unfold neq
  by_cases h : a = b
  · rw [if_pos h, if_pos h.symm]
  · rw [if_neg h, if_neg (fun e => h e.symm)]
theorem neq_tri (a b c : UInt8) : neq a c ≤ neq a b + neq b c := by
  unfold neq
  by_cases h : a = b
  · subst h; rw [if_pos rfl]; omega
  · rw [if_neg h]; split <;> omega
theorem lev_nil_l (y : List UInt8) : lev [] y = y.length := by rw [lev]
theorem lev_nil_r (x : List UInt8) : lev x [] = x.length := by
  cases x with
  | nil => rw [lev]
  | cons a x =>
    rw [lev]
    intro h
    cases h
theorem lev_cons (a b : UInt8) (x y : List UInt8) : lev (a :: x) (b :: y) = min (lev x y + neq a b) (min (lev x (b :: y)) (lev (a :: x) y) + 1) := by rw [lev]
theorem lev_sym : ∀ x y : List UInt8, lev x y = lev y x
  | [], y => by rw [lev_nil_l, lev_nil_r]
  | a :: x, [] => by rw [lev_nil_l, lev_nil_r]
  | a :: x, b :: y => by
    rw [lev_cons, lev_cons, lev_sym x y, lev_sym x (b :: y), lev_sym (a :: x) y, neq_sym a b]
    omega
termination_by x y => x.length + y.length
theorem lev_len : ∀ x y : List UInt8, x.length ≤ lev x y + y.length ∧ y.length ≤ lev x y + x.length ∧ lev x y ≤ max x.length y.length
  | [], y => by rw [lev_nil_l]; simp
  | a :: x, [] => by rw [lev_nil_r]; simp
  | a :: x, b :: y => by
    have h1 := lev_len x y
    have h2 := lev_len x (b :: y)
    have h3 := lev_len (a :: x) y
    have h4 := neq_le a b
    rw [lev_cons]
    simp only [List.length_cons] at *
    omega
termination_by x y => x.length + y.length
theorem lev_del (a : UInt8) (x y : List UInt8) : lev (a :: x) y ≤ lev x y + 1 := by
  cases y with
  | nil => rw [lev_nil_r, lev_nil_r]; simp
  | cons b y => rw [lev_cons]; omega
theorem lev_ins (b : UInt8) (x y : List UInt8) : lev x (b :: y) ≤ lev x y + 1 := by
  rw [lev_sym x (b :: y), lev_sym x y]; exact lev_del b y x
theorem lev_tri : ∀ x y z : List UInt8, lev x z ≤ lev x y + lev y z
  | [], y, z => by
    have := lev_len y z
    rw [lev_nil_l, lev_nil_l]; omega
  | a :: x, y, [] => by
    have := lev_len (a :: x) y
    rw [lev_nil_r, lev_nil_r]; omega
  | a :: x, [], c :: z => by
    have := lev_len (a :: x) (c :: z)
    rw [lev_nil_r, lev_nil_l]; omega
  | a :: x, b :: y, c :: z => by
    have h1 := lev_tri x (b :: y) (c :: z)
    have h2 := lev_tri (a :: x) (b :: y) z
    have h3 := lev_tri x y z
    have h4 := lev_tri (a :: x) y (c :: z)
    have h5 := lev_tri x y (c :: z)
    have h6 := lev_tri (a :: x) y z
    have n := neq_tri a b c
    have n1 := neq_le a b
    have n2 := neq_le b c
    have e1 := lev_cons a b x y
    have e2 := lev_cons b c y z
    have e3 := lev_cons a c x z
    omega
termination_by x y z => x.length + y.length + z.length
theorem lev_self : ∀ x : List UInt8, lev x x = 0
  | [] => by rw [lev_nil_l]; rfl
  | a :: x => by rw [lev_cons, lev_self x, neq_self]; omega
theorem lev_same (c : UInt8) (x y : List UInt8) : lev (c :: x) (c :: y) = lev x y := by
  have h1 := lev_tri x (c :: x) y
  have h2 := lev_tri x (c :: y) y
  have h3 := lev_del c y y
  have h4 := lev_ins c x x
  have h5 := lev_tri x (c :: x) (c :: y)
  have s1 := lev_self x
  have s2 := lev_self y
  have e := lev_cons c c x y
  have n := neq_self c
  have h6 := lev_tri x (c :: y) y
  have h7 := lev_tri x (c :: x) y
  have h8 : lev x y ≤ lev x (c :: y) + 1 := by omega
  have h9 := lev_tri x (c :: x) y
  have h10 : lev x y ≤ lev (c :: x) y + 1 := by omega
  omega
theorem lev_zero : ∀ x y : List UInt8, lev x y = 0 → x = y
  | [], y, h => by rw [lev_nil_l] at h; exact (List.length_eq_zero_iff.1 h).symm
  | a :: x, [], h => by rw [lev_nil_r] at h; simp at h
  | a :: x, b :: y, h => by
    rw [lev_cons] at h
    have h1 : lev x y = 0 := by omega
    have h2 : neq a b = 0 := by omega
    have h3 : a = b := by
      unfold neq at h2
      by_cases e : a = b
      · exact e
      · rw [if_neg e] at h2; cases h2
    rw [h3, lev_zero x y h1]
termination_by x y => x.length + y.length
theorem lev_prefix : ∀ c x y : List UInt8, lev (c ++ x) (c ++ y) = lev x y
  | [], x, y => rfl
  | a :: c, x, y => by rw [List.cons_append, List.cons_append, lev_same, lev_prefix c x y]
theorem lev_app_nil : ∀ y u v : List UInt8, lev u (y ++ v) ≤ y.length + lev u v
  | [], u, v => by simp
  | b :: y, u, v => by
    have h1 := lev_ins b u (y ++ v)
    have h2 := lev_app_nil y u v
    rw [List.cons_append]; simp only [List.length_cons]; omega
theorem lev_app : ∀ x y u v : List UInt8, lev (x ++ u) (y ++ v) ≤ lev x y + lev u v
  | [], y, u, v => by rw [lev_nil_l]; exact lev_app_nil y u v
  | a :: x, [], u, v => by
    rw [lev_nil_r, lev_sym, lev_sym u v]
    exact lev_app_nil (a :: x) v u
  | a :: x, b :: y, u, v => by
    have h1 := lev_app x y u v
    have h2 := lev_app x (b :: y) u v
    have h3 := lev_app (a :: x) y u v
    have e := lev_cons a b x y
    have e2 := lev_cons a b (x ++ u) (y ++ v)
    simp only [List.cons_append] at *
    omega
termination_by x y => x.length + y.length
theorem lev_one (a b : UInt8) : lev [a] [b] ≤ neq a b := by
  rw [lev_cons, lev_nil_l]; simp; omega
theorem lev_rev_le : ∀ x y : List UInt8, lev x.reverse y.reverse ≤ lev x y
  | [], y => by rw [List.reverse_nil, lev_nil_l, lev_nil_l]; simp
  | a :: x, [] => by rw [List.reverse_nil, lev_nil_r, lev_nil_r]; simp
  | a :: x, b :: y => by
    have h1 := lev_rev_le x y
    have h2 := lev_rev_le x (b :: y)
    have h3 := lev_rev_le (a :: x) y
    have g1 := lev_app x.reverse y.reverse [a] [b]
    have g2 := lev_app x.reverse (b :: y).reverse [a] []
    have g3 := lev_app (a :: x).reverse y.reverse [] [b]
    have o := lev_one a b
    have o1 : lev [a] [] = 1 := by rw [lev_nil_r]; rfl
    have o2 : lev [] [b] = 1 := by rw [lev_nil_l]; rfl
    rw [List.append_nil] at g2 g3
    have e := lev_cons a b x y
    simp only [List.reverse_cons] at *
    omega
termination_by x y => x.length + y.length
theorem lev_rev (x y : List UInt8) : lev x.reverse y.reverse = lev x y := by
  have h1 := lev_rev_le x y
  have h2 := lev_rev_le x.reverse y.reverse
  rw [List.reverse_reverse, List.reverse_reverse] at h2
  omega
theorem lev_suffix (c x y : List UInt8) : lev (x ++ c) (y ++ c) = lev x y := by
  rw [← lev_rev, List.reverse_append, List.reverse_append, lev_prefix, lev_rev]
theorem lev_more (u v y : List UInt8) (x : UInt8) : lev (u ++ x :: v) y ≤ lev (u ++ v) y + 1 ∧ lev (u ++ v) y ≤ lev (u ++ x :: v) y + 1 := by
  have h1 : lev (u ++ x :: v) (u ++ v) ≤ 1 := by
    rw [lev_prefix]
    have := lev_del x v v
    rw [lev_self] at this
    exact this
  have h2 := lev_tri (u ++ x :: v) (u ++ v) y
  have h3 := lev_tri (u ++ v) (u ++ x :: v) y
  have h4 := lev_sym (u ++ v) (u ++ x :: v)
  omega

/-! ### The table of the distances of the beginnings. -/
def dist (a b : List UInt8) (i j : Nat) : Nat := lev (a.take i).reverse (b.take j).reverse
theorem dist_zero_l (a b : List UInt8) {j : Nat} (hj : j ≤ b.length) : dist a b 0 j = j := by
  unfold dist; rw [List.take_zero, List.reverse_nil, lev_nil_l]; simp; omega
theorem dist_zero_r (a b : List UInt8) {i : Nat} (hi : i ≤ a.length) : dist a b i 0 = i := by
  unfold dist; rw [List.take_zero, List.reverse_nil, lev_nil_r]; simp; omega
theorem dist_step (a b : List UInt8) {i j : Nat} (hi : i < a.length) (hj : j < b.length) :
    dist a b (i + 1) (j + 1) = min (dist a b i j + neq a[i] b[j]) (min (dist a b i (j + 1)) (dist a b (i + 1) j) + 1) := by
  unfold dist
  rw [List.take_succ_eq_append_getElem hi, List.take_succ_eq_append_getElem hj, List.reverse_append, List.reverse_append]
  exact lev_cons _ _ _ _
theorem dist_end (a b : List UInt8) : dist a b a.length b.length = lev a b := by
  unfold dist; rw [List.take_length, List.take_length, lev_rev]
theorem dist_le (a b : List UInt8) (i j : Nat) : dist a b i j ≤ max i j := by
  have := (lev_len (a.take i).reverse (b.take j).reverse).2.2
  unfold dist
  simp at this
  omega
end Go.Proofs.YtendkghifcjffaaGreatDoor

/- The edit distance column by column, so that it can be reckoned. -/
namespace Go.Proofs.YtendkghifcjffaaGreatDoor
def base : List UInt8 → List Nat
  | [] => [0]
  | _ :: b => (b.length + 1) :: base b
def stepC (c : UInt8) : List UInt8 → List Nat → List Nat
  | [], p => [p.headD 0 + 1]
  | d :: b, p => (fun r => (min (p.tail.headD 0 + neq c d) (min (p.headD 0) (r.headD 0) + 1)) :: r) (stepC c b p.tail)
def col : List UInt8 → List UInt8 → List Nat
  | [], b => base b
  | c :: x, b => stepC c b (col x b)
def full (x : List UInt8) : List UInt8 → List Nat
  | [] => [lev x []]
  | d :: b => lev x (d :: b) :: full x b
theorem full_head (x b : List UInt8) : (full x b).headD 0 = lev x b := by cases b <;> rfl
theorem full_base : ∀ b, full [] b = base b
  | [] => by rw [full, base, lev_nil_l]; rfl
  | d :: b => by rw [full, base, lev_nil_l, full_base b]; rfl
theorem full_step (c : UInt8) (x : List UInt8) : ∀ b, stepC c b (full x b) = full (c :: x) b
  | [] => by rw [stepC, full_head, full, lev_nil_r, lev_nil_r]; rfl
  | d :: b => by
    have ih := full_step c x b
    have e : (full x (d :: b)).tail = full x b := rfl
    rw [stepC, e, ih, full_head, full_head]
    show min (lev x b + neq c d) (min (lev x (d :: b)) ((full (c :: x) b).headD 0) + 1) :: full (c :: x) b = lev (c :: x) (d :: b) :: full (c :: x) b
    rw [full_head, lev_cons]
theorem col_eq : ∀ x b, col x b = full x b
  | [], b => (full_base b).symm
  | c :: x, b => by rw [col, col_eq x b, full_step]
theorem lev_col (x b : List UInt8) : lev x b = (col x b).headD 0 := by rw [col_eq, full_head]
end Go.Proofs.YtendkghifcjffaaGreatDoor

/- Lists of texts as sets: how many different elements, how many in common. -/
namespace Go.Proofs.YtendkghifcjffaaGreatDoor
/-- The different elements of a list, in the order in which they came. -/
def dd (l : List (List UInt8)) : List (List UInt8) := l.foldl (fun acc x => if x ∈ acc then acc else acc ++ [x]) []
theorem dd_snoc (l : List (List UInt8)) (x : List UInt8) : dd (l ++ [x]) = if x ∈ dd l then dd l else dd l ++ [x] := by
  unfold dd; rw [List.foldl_append]; rfl
theorem snoc_ind {α : Type} {P : List α → Prop} (h0 : P []) (h1 : ∀ l x, P l → P (l ++ [x])) (l : List α) : P l := by
  have : ∀ n (l : List α), l.length = n → P l := by
    intro n
    induction n with
    | zero => intro l h; rw [List.length_eq_zero_iff.1 h]; exact h0
    | succ n ih =>
      intro l h
      have hne : l ≠ [] := by intro e; rw [e] at h; cases h
      rw [← List.dropLast_concat_getLast hne]
      exact h1 _ _ (ih _ (by rw [List.length_dropLast, h]; rfl))
  exact this _ l rfl
theorem mem_dd (l : List (List UInt8)) : ∀ z, z ∈ dd l ↔ z ∈ l := by
  refine snoc_ind (P := fun l => ∀ z, z ∈ dd l ↔ z ∈ l) (by intro z; exact Iff.rfl) (fun l x ih z => ?_) l
  rw [dd_snoc]
  by_cases h : x ∈ dd l
  · rw [if_pos h, ih z, List.mem_append, List.mem_singleton]
    constructor
    · exact Or.inl
    · rintro (k | k)
      · exact k
      · rw [k]; exact (ih x).1 h
  · rw [if_neg h, List.mem_append, List.mem_append, ih z]
theorem nodup_dd (l : List (List UInt8)) : (dd l).Nodup := by
  refine snoc_ind (P := fun l => (dd l).Nodup) List.nodup_nil (fun l x ih => ?_) l
  rw [dd_snoc]
  by_cases h : x ∈ dd l
  · rw [if_pos h]; exact ih
  · rw [if_neg h, List.nodup_append]
    exact ⟨ih, by simp, fun a ha b hb e => h (by rw [← List.mem_singleton.1 hb, ← e]; exact ha)⟩
theorem dd_len (l : List (List UInt8)) : (dd l).length ≤ l.length := by
  refine snoc_ind (P := fun l => (dd l).length ≤ l.length) (Nat.le_refl _) (fun l x ih => ?_) l
  rw [dd_snoc]
  split
  · simp; omega
  · simp; exact ih
theorem dd_new {l : List (List UInt8)} {x : List UInt8} (h : x ∉ l) : dd (l ++ [x]) = dd l ++ [x] := by
  rw [dd_snoc, if_neg (fun k => h ((mem_dd l x).1 k))]
theorem dd_old {l : List (List UInt8)} {x : List UInt8} (h : x ∈ l) : dd (l ++ [x]) = dd l := by
  rw [dd_snoc, if_pos ((mem_dd l x).2 h)]

/-- How many of the different elements of a list have a property. -/
def cnt (p : List UInt8 → Bool) (l : List (List UInt8)) : Nat := ((dd l).filter p).length
theorem cnt_new {p : List UInt8 → Bool} {l : List (List UInt8)} {x : List UInt8} (h : x ∉ l) : cnt p (l ++ [x]) = cnt p l + (if p x then 1 else 0) := by
  unfold cnt; rw [dd_new h, List.filter_append, List.length_append]
  cases hp : p x <;> simp [hp]
theorem cnt_old {p : List UInt8 → Bool} {l : List (List UInt8)} {x : List UInt8} (h : x ∈ l) : cnt p (l ++ [x]) = cnt p l := by
  unfold cnt; rw [dd_old h]
theorem cnt_split (p : List UInt8 → Bool) (l : List (List UInt8)) : cnt p l + cnt (fun x => !p x) l = (dd l).length := by
  unfold cnt
  induction dd l with
  | nil => rfl
  | cons a l ih => cases h : p a <;> simp [h] <;> omega
theorem cnt_le (p : List UInt8 → Bool) (l : List (List UInt8)) : cnt p l ≤ (dd l).length := List.length_filter_le _ _
/-- How many elements two lists have in common, and how many there are in one of them. -/
def both (a b : List (List UInt8)) : Nat := cnt (fun x => decide (x ∈ b)) a
def only (a b : List (List UInt8)) : Nat := cnt (fun x => !decide (x ∈ b)) a
def uni (a b : List (List UInt8)) : Nat := (dd a).length + only b a

theorem nodup_len_le {x : List (List UInt8)} : ∀ {y : List (List UInt8)}, x.Nodup → (∀ z ∈ x, z ∈ y) → x.length ≤ y.length := by
  induction x with
  | nil => intro y _ _; simp
  | cons a x ih =>
    intro y hx hy
    have hx' := List.nodup_cons.1 hx
    have hm : a ∈ y := hy a (by simp)
    have := ih (y := y.erase a) hx'.2 (fun z hz => (List.mem_erase_of_ne (fun e => hx'.1 (by rw [← e]; exact hz))).2 (hy z (by simp [hz])))
    rw [List.length_erase_of_mem hm] at this
    have : 0 < y.length := List.length_pos_of_mem hm
    simp only [List.length_cons]; omega
theorem nodup_len_eq {x y : List (List UInt8)} (hx : x.Nodup) (hy : y.Nodup) (h : ∀ z, z ∈ x ↔ z ∈ y) : x.length = y.length :=
  Nat.le_antisymm (nodup_len_le hx (fun z => (h z).1)) (nodup_len_le hy (fun z => (h z).2))
theorem both_sym (a b : List (List UInt8)) : both a b = both b a := by
  unfold both cnt
  refine nodup_len_eq ((nodup_dd a).filter _) ((nodup_dd b).filter _) (fun z => ?_)
  simp only [List.mem_filter, mem_dd, decide_eq_true_eq]
  exact And.comm
theorem both_only (a b : List (List UInt8)) : both a b + only a b = (dd a).length := cnt_split _ a
theorem uni_eq (a b : List (List UInt8)) : uni a b + both a b = (dd a).length + (dd b).length := by
  have := both_only b a
  rw [both_sym a b]; unfold uni; omega
theorem uni_sym (a b : List (List UInt8)) : uni a b = uni b a := by
  have h1 := uni_eq a b
  have h2 := uni_eq b a
  have h3 := both_sym a b
  omega
theorem both_le (a b : List (List UInt8)) : both a b ≤ (dd a).length := cnt_le _ a
theorem both_uni (a b : List (List UInt8)) : both a b ≤ uni a b := by
  have := both_le a b
  unfold uni; omega
theorem both_self (a : List (List UInt8)) : both a a = (dd a).length := by
  unfold both cnt
  rw [List.filter_eq_self.2]
  intro z hz; exact decide_eq_true ((mem_dd a z).1 hz)
theorem uni_self (a : List (List UInt8)) : uni a a = (dd a).length := by
  have h1 := uni_eq a a
  rw [both_self] at h1; omega
theorem dd_zero (a : List (List UInt8)) : (dd a).length = 0 ↔ a = [] := by
  constructor
  · intro h
    cases a with
    | nil => rfl
    | cons x y =>
      have : x ∈ dd (x :: y) := (mem_dd _ _).2 (by simp)
      rw [List.length_eq_zero_iff.1 h] at this
      cases this
  · rintro rfl; rfl
theorem only_zero (a b : List (List UInt8)) : only a b = 0 ↔ ∀ z ∈ a, z ∈ b := by
  unfold only cnt
  rw [List.length_eq_zero_iff, List.filter_eq_nil_iff]
  constructor
  · intro h z hz
    have := h z ((mem_dd a z).2 hz)
    simpa using this
  · intro h z hz
    simpa using h z ((mem_dd a z).1 hz)
theorem both_zero (a b : List (List UInt8)) : both a b = 0 ↔ ∀ z ∈ a, z ∉ b := by
  unfold both cnt
  rw [List.length_eq_zero_iff, List.filter_eq_nil_iff]
  constructor
  · intro h z hz
    have := h z ((mem_dd a z).2 hz)
    simpa using this
  · intro h z hz
    simpa using h z ((mem_dd a z).1 hz)
theorem uni_zero (a b : List (List UInt8)) : uni a b = 0 ↔ a = [] ∧ b = [] := by
  have h1 := uni_eq a b
  have h2 := both_le a b
  have h3 := both_le b a
  have h4 := both_sym a b
  rw [← dd_zero, ← dd_zero]; omega
theorem both_full (a b : List (List UInt8)) : both a b = uni a b ↔ (∀ z ∈ a, z ∈ b) ∧ (∀ z ∈ b, z ∈ a) := by
  have h1 := uni_eq a b
  have h2 := both_only a b
  have h3 := both_only b a
  have h4 := both_sym a b
  rw [← only_zero, ← only_zero]; omega

/-- The parts of the triangle inequality: a third list. All of them together have N elements. -/
def rest3 (a b c : List (List UInt8)) : Nat := cnt (fun x => !decide (x ∈ a) && !decide (x ∈ b)) c
theorem filter_split (p q : List UInt8 → Bool) (l : List (List UInt8)) : (l.filter (fun x => p x && q x)).length + (l.filter (fun x => p x && !q x)).length = (l.filter p).length := by
  induction l with
  | nil => rfl
  | cons a l ih => cases hp : p a <;> cases hq : q a <;> simp [hp, hq] <;> omega
theorem cnt_and (p q : List UInt8 → Bool) (l : List (List UInt8)) : cnt (fun x => p x && q x) l + cnt (fun x => p x && !q x) l = cnt p l := filter_split p q (dd l)
theorem cnt_move (p : List UInt8 → Bool) (a b : List (List UInt8)) : cnt (fun x => p x && decide (x ∈ b)) a = cnt (fun x => p x && decide (x ∈ a)) b := by
  unfold cnt
  refine nodup_len_eq ((nodup_dd a).filter _) ((nodup_dd b).filter _) (fun z => ?_)
  simp only [List.mem_filter, mem_dd, Bool.and_eq_true, decide_eq_true_eq]
  exact ⟨fun h => ⟨h.2.2, h.2.1, h.1⟩, fun h => ⟨h.2.2, h.2.1, h.1⟩⟩
theorem cnt_congr {p q : List UInt8 → Bool} {a : List (List UInt8)} (h : ∀ x ∈ a, p x = q x) : cnt p a = cnt q a := by
  unfold cnt
  rw [List.filter_congr (fun x hx => h x ((mem_dd a x).1 hx))]
/-- What Steinhaus' inequality wants of three sets: N, and what is each one's alone. -/
theorem regions (a b c : List (List UInt8)) : ∃ N : Nat,
    uni a c + rest3 a c b = N ∧ uni c b + rest3 c b a = N ∧ uni a b + rest3 a b c = N ∧
    both a c + rest3 a c b + (both c b + rest3 c b a) ≤ N + both a b ∧ uni a b ≤ N := by
  -- the seven regions
  have A1 := cnt_and (fun x => decide (x ∈ b)) (fun x => decide (x ∈ c)) a
  have A2 := cnt_and (fun x => !decide (x ∈ b)) (fun x => decide (x ∈ c)) a
  have A3 := both_only a b
  have A4 := cnt_and (fun x => decide (x ∈ c)) (fun x => decide (x ∈ b)) a
  have A5 : cnt (fun x => decide (x ∈ c) && decide (x ∈ b)) a = cnt (fun x => decide (x ∈ b) && decide (x ∈ c)) a := cnt_congr (fun x _ => Bool.and_comm _ _)
  have A6 : cnt (fun x => decide (x ∈ c) && !decide (x ∈ b)) a = cnt (fun x => !decide (x ∈ b) && decide (x ∈ c)) a := cnt_congr (fun x _ => Bool.and_comm _ _)
  have B1 := cnt_and (fun x => decide (x ∈ a)) (fun x => decide (x ∈ c)) b
  have B2 := cnt_and (fun x => !decide (x ∈ a)) (fun x => decide (x ∈ c)) b
  have B3 := both_only b a
  have B4 := cnt_and (fun x => decide (x ∈ c)) (fun x => decide (x ∈ a)) b
  have B5 : cnt (fun x => decide (x ∈ c) && decide (x ∈ a)) b = cnt (fun x => decide (x ∈ a) && decide (x ∈ c)) b := cnt_congr (fun x _ => Bool.and_comm _ _)
  have B6 : cnt (fun x => decide (x ∈ c) && !decide (x ∈ a)) b = cnt (fun x => !decide (x ∈ a) && decide (x ∈ c)) b := cnt_congr (fun x _ => Bool.and_comm _ _)
  have C1 := cnt_and (fun x => decide (x ∈ a)) (fun x => decide (x ∈ b)) c
  have C2 := cnt_and (fun x => !decide (x ∈ a)) (fun x => decide (x ∈ b)) c
  have C3 := both_only c a
  have C4 := cnt_and (fun x => decide (x ∈ b)) (fun x => decide (x ∈ a)) c
  have C5 : cnt (fun x => decide (x ∈ b) && decide (x ∈ a)) c = cnt (fun x => decide (x ∈ a) && decide (x ∈ b)) c := cnt_congr (fun x _ => Bool.and_comm _ _)
  have C6 : cnt (fun x => decide (x ∈ b) && !decide (x ∈ a)) c = cnt (fun x => !decide (x ∈ a) && decide (x ∈ b)) c := cnt_congr (fun x _ => Bool.and_comm _ _)
  -- the regions of two lists are those of either
  have M1 : cnt (fun x => decide (x ∈ b) && decide (x ∈ c)) a = cnt (fun x => decide (x ∈ b) && decide (x ∈ a)) c := cnt_move _ a c
  have M2 : cnt (fun x => decide (x ∈ a) && decide (x ∈ c)) b = cnt (fun x => decide (x ∈ a) && decide (x ∈ b)) c := cnt_move _ b c
  have M3 : cnt (fun x => !decide (x ∈ b) && decide (x ∈ c)) a = cnt (fun x => !decide (x ∈ b) && decide (x ∈ a)) c := cnt_move _ a c
  have M4 : cnt (fun x => !decide (x ∈ a) && decide (x ∈ c)) b = cnt (fun x => !decide (x ∈ a) && decide (x ∈ b)) c := cnt_move _ b c
  have M5 : cnt (fun x => !decide (x ∈ c) && decide (x ∈ b)) a = cnt (fun x => !decide (x ∈ c) && decide (x ∈ a)) b := cnt_move _ a b
  have N1 : cnt (fun x => decide (x ∈ a) && !decide (x ∈ b)) c = cnt (fun x => !decide (x ∈ b) && decide (x ∈ a)) c := cnt_congr (fun x _ => Bool.and_comm _ _)
  have N2 : cnt (fun x => decide (x ∈ b) && !decide (x ∈ c)) a = cnt (fun x => !decide (x ∈ c) && decide (x ∈ b)) a := cnt_congr (fun x _ => Bool.and_comm _ _)
  have N3 : cnt (fun x => decide (x ∈ a) && !decide (x ∈ c)) b = cnt (fun x => !decide (x ∈ c) && decide (x ∈ a)) b := cnt_congr (fun x _ => Bool.and_comm _ _)
  have R1 : rest3 a c b = cnt (fun x => !decide (x ∈ a) && !decide (x ∈ c)) b := rfl
  have R2 : rest3 c b a = cnt (fun x => !decide (x ∈ b) && !decide (x ∈ c)) a := cnt_congr (fun x _ => Bool.and_comm _ _)
  have R3 : rest3 a b c = cnt (fun x => !decide (x ∈ a) && !decide (x ∈ b)) c := rfl
  have S1 := both_only a c
  have S2 := both_only b c
  have S3 := both_only c b
  have T1 := uni_eq a c
  have T2 := uni_eq c b
  have T3 := uni_eq a b
  have U1 := both_sym a b
  have U2 := both_sym a c
  have U3 := both_sym b c
  have D1 : cnt (fun x => decide (x ∈ b)) a = both a b := rfl
  have D2 : cnt (fun x => !decide (x ∈ b)) a = only a b := rfl
  have D3 : cnt (fun x => decide (x ∈ c)) a = both a c := rfl
  have D4 : cnt (fun x => decide (x ∈ a)) b = both b a := rfl
  have D5 : cnt (fun x => !decide (x ∈ a)) b = only b a := rfl
  have D6 : cnt (fun x => decide (x ∈ c)) b = both b c := rfl
  have D7 : cnt (fun x => decide (x ∈ a)) c = both c a := rfl
  have D8 : cnt (fun x => !decide (x ∈ a)) c = only c a := rfl
  have D9 : cnt (fun x => decide (x ∈ b)) c = both c b := rfl
  refine ⟨uni a b + rest3 a b c, ?_, ?_, rfl, ?_, by omega⟩ <;> omega
end Go.Proofs.YtendkghifcjffaaGreatDoor

/- Sets of texts as maps: how many entries they have when elements are put in and deleted. -/
namespace Go.Proofs.YtendkghifcjffaaGreatDoor
open Go Go.Maps

/-- The set of some texts, as a map. -/
def setD (xs : List (List UInt8)) : DataW Unit := xs.foldl (fun m x => m.put (.string x) (.lit (.bool true))) (.map [])
def delD (D : DataW Unit) (xs : List (List UInt8)) : DataW Unit := xs.foldl (fun m x => m.del (.string x)) D
theorem setD_snoc (l : List (List UInt8)) (x : List UInt8) : setD (l ++ [x]) = (setD l).put (.string x) (.lit (.bool true)) := by unfold setD; rw [List.foldl_append]; rfl
theorem delD_snoc (D : DataW Unit) (l : List (List UInt8)) (x : List UInt8) : delD D (l ++ [x]) = (delD D l).del (.string x) := by unfold delD; rw [List.foldl_append]; rfl
/-- A map holds just the texts of a list without repeats. -/
structure Rep (D : DataW Unit) (L : List (List UInt8)) : Prop where
  tidy : Tidy D
  nodup : L.Nodup
  has : ∀ x, Maps.has D (.string x) = true ↔ x ∈ L
  size : Maps.size D = L.length
theorem str_ne {x y : List UInt8} (h : x ≠ y) : Lit.string x ≠ Lit.string y := fun e => h (by cases e; rfl)
theorem Rep.empty : Rep (.map []) [] := ⟨tidy_empty, List.nodup_nil, fun x => ⟨fun h => (by cases h), fun h => (by cases h)⟩, rfl⟩
theorem Rep.put {D : DataW Unit} {L : List (List UInt8)} (h : Rep D L) (x : List UInt8) (d : DataW Unit) : Rep (D.put (.string x) d) (if x ∈ L then L else L ++ [x]) := by
  have hk : WideAt.IsKeyLit (Lit.string x) := trivial
  have hh : ∀ y, Maps.has (D.put (.string x) d) (.string y) = true ↔ y = x ∨ y ∈ L := by
    intro y
    by_cases e : y = x
    · subst e
      rw [has_put_same h.tidy.isMap hk]
      simp
    · rw [has_put_other (str_ne e), h.has y]
      simp [e]
  refine ⟨h.tidy.put hk d, ?_, ?_, ?_⟩
  · split
    · exact h.nodup
    · rename_i g
      rw [List.nodup_append]
      exact ⟨h.nodup, by simp, fun a ha b hb e => g (by rw [← List.mem_singleton.1 hb, ← e]; exact ha)⟩
  · intro y
    rw [hh y]
    split
    · rename_i g
      exact ⟨fun k => k.elim (fun e => e ▸ g) id, Or.inr⟩
    · rw [List.mem_append, List.mem_singleton]
      exact Or.comm
  · rw [size_put h.tidy]
    by_cases g : x ∈ L
    · rw [if_pos ((h.has x).2 g), if_pos g, h.size]
    · rw [if_neg (fun k => g ((h.has x).1 k)), if_neg g, List.length_append, h.size]
      rfl
theorem Rep.del {D : DataW Unit} {L : List (List UInt8)} (h : Rep D L) (x : List UInt8) : Rep (D.del (.string x)) (L.filter (fun y => !decide (y = x))) := by
  have hh : ∀ y, Maps.has (D.del (.string x)) (.string y) = true ↔ y ∈ L ∧ y ≠ x := by
    intro y
    by_cases e : y = x
    · subst e
      rw [has_del_same]
      simp
    · rw [has_del_other (str_ne e), h.has y]
      simp [e]
  refine ⟨h.tidy.del _, h.nodup.filter _, fun y => ?_, ?_⟩
  · rw [hh y, List.mem_filter]
    simp
  · have hs := size_del (k := .string x) h.tidy
    have hl := List.filter_length_eq_sum x L h.nodup
    rw [h.size] at hs
    by_cases g : x ∈ L
    · rw [if_pos ((h.has x).2 g)] at hs
      rw [if_pos g] at hl
      omega
    · rw [if_neg (fun k => g ((h.has x).1 k))] at hs
      rw [if_neg g] at hl
      omega
where List.filter_length_eq_sum (x : List UInt8) : ∀ L : List (List UInt8), L.Nodup → (L.filter (fun y => !decide (y = x))).length + (if x ∈ L then 1 else 0) = L.length
  | [], _ => rfl
  | a :: L, h => by
    have h' := List.nodup_cons.1 h
    have ih := List.filter_length_eq_sum x L h'.2
    by_cases e : a = x
    · subst e
      rw [if_neg h'.1] at ih
      simp
      simpa using ih
    · have : (x ∈ a :: L) = (x ∈ L) := by simp [show ¬ x = a from fun q => e q.symm]
      simp only [List.filter_cons, e, decide_false, Bool.not_false, if_true, List.length_cons, this]
      omega
theorem rep_set (l : List (List UInt8)) : Rep (setD l) (dd l) := by
  refine snoc_ind (P := fun l => Rep (setD l) (dd l)) Rep.empty (fun l x ih => ?_) l
  rw [setD_snoc, dd_snoc]
  exact ih.put x _
theorem rep_del {D : DataW Unit} {L : List (List UInt8)} (h : Rep D L) (b : List (List UInt8)) : Rep (delD D b) (L.filter (fun x => !decide (x ∈ b))) := by
  refine snoc_ind (P := fun b => Rep (delD D b) (L.filter (fun x => !decide (x ∈ b)))) ?_ (fun b x ih => ?_) b
  · have : L.filter (fun x => !decide (x ∈ ([] : List (List UInt8)))) = L := List.filter_eq_self.2 (fun a _ => by simp)
    rw [this]
    exact h
  · rw [delD_snoc]
    have e : L.filter (fun y => !decide (y ∈ b ++ [x])) = (L.filter (fun y => !decide (y ∈ b))).filter (fun y => !decide (y = x)) := by
      rw [List.filter_filter]
      refine List.filter_congr (fun y _ => ?_)
      rw [Bool.eq_iff_iff]
      simp [and_comm]
    rw [e]
    exact ih.del x
theorem size_set (l : List (List UInt8)) : Maps.size (setD l) = (dd l).length := (rep_set l).size
theorem size_del_set (a b : List (List UInt8)) : Maps.size (delD (setD a) b) = only a b := (rep_del (rep_set a) b).size
end Go.Proofs.YtendkghifcjffaaGreatDoor

/- The Jaro matching of two texts: it is the same for both orders; it is whole exactly for equal texts. -/
namespace Go.Proofs.YtendkghifcjffaaGreatDoor
def inWin (w i j : Nat) : Bool := decide (i ≤ j + w) && decide (j ≤ i + w)
/-- Whether byte c at place i may be matched with place j of b, T being what is matched already. -/
def mayHit (b : List UInt8) (w i : Nat) (c : UInt8) (T : List Bool) (j : Nat) : Bool := (T[j]? == some false) && (b[j]? == some c) && inWin w i j
def hit (b : List UInt8) (w i : Nat) (c : UInt8) (T : List Bool) : Option Nat := (List.range b.length).find? (mayHit b w i c T)
def upd (T : List Bool) : Option Nat → List Bool
  | none => T
  | some j => T.set j true
def hitAt (a b : List UInt8) (w i : Nat) (T : List Bool) : Option Nat := match a[i]? with
  | none => none
  | some c => hit b w i c T
/-- What of b is matched behind i bytes of a. -/
def tk (a b : List UInt8) (w : Nat) : Nat → List Bool
  | 0 => List.replicate b.length false
  | i + 1 => (fun T => upd T (hitAt a b w i T)) (tk a b w i)
def hitA (a b : List UInt8) (w i : Nat) : Option Nat := hitAt a b w i (tk a b w i)
theorem tk_succ (a b : List UInt8) (w i : Nat) : tk a b w (i + 1) = upd (tk a b w i) (hitA a b w i) := rfl
theorem tk_len (a b : List UInt8) (w : Nat) : ∀ i, (tk a b w i).length = b.length
  | 0 => by simp [tk]
  | i + 1 => by
    rw [tk_succ]
    unfold upd
    split
    · exact tk_len a b w i
    · rw [List.length_set]; exact tk_len a b w i
theorem hit_some {b : List UInt8} {w i : Nat} {c : UInt8} {T : List Bool} {j : Nat} (hj : j < b.length) (h : mayHit b w i c T j = true) (hn : ∀ k < j, mayHit b w i c T k = false) : hit b w i c T = some j := by
  unfold hit
  rw [List.find?_range_eq_some]
  exact ⟨h, by simpa using hj, fun k hk => by rw [hn k hk]; rfl⟩
theorem hit_none {b : List UInt8} {w i : Nat} {c : UInt8} {T : List Bool} (hn : ∀ k < b.length, mayHit b w i c T k = false) : hit b w i c T = none := by
  unfold hit
  rw [List.find?_eq_none]
  intro k hk
  rw [hn k (by simpa using hk)]
  decide
theorem hit_inv {b : List UInt8} {w i : Nat} {c : UInt8} {T : List Bool} {j : Nat} (h : hit b w i c T = some j) : j < b.length ∧ mayHit b w i c T j = true ∧ ∀ k < j, mayHit b w i c T k = false := by
  unfold hit at h
  rw [List.find?_range_eq_some] at h
  exact ⟨by simpa using h.2.1, h.1, fun k hk => by have := h.2.2 k hk; simpa using this⟩
theorem hitA_at {a b : List UInt8} {w i : Nat} (hi : i < a.length) : hitA a b w i = hit b w i a[i] (tk a b w i) := by
  unfold hitA hitAt
  rw [List.getElem?_eq_getElem hi]
theorem hitA_out {a b : List UInt8} {w i : Nat} (hi : a.length ≤ i) : hitA a b w i = none := by
  unfold hitA hitAt
  rw [List.getElem?_eq_none hi]
theorem mayHit_iff {b : List UInt8} {w i : Nat} {c : UInt8} {T : List Bool} {j : Nat} : mayHit b w i c T j = true ↔ T[j]? = some false ∧ b[j]? = some c ∧ i ≤ j + w ∧ j ≤ i + w := by
  unfold mayHit inWin
  simp only [Bool.and_eq_true, beq_iff_eq, decide_eq_true_eq]
  exact ⟨fun h => ⟨h.1.1, h.1.2, h.2⟩, fun h => ⟨⟨h.1, h.2.1⟩, h.2.2⟩⟩
theorem tk_free (a b : List UInt8) (w : Nat) : ∀ i j, (tk a b w i)[j]? = some false ↔ j < b.length ∧ ∀ k < i, hitA a b w k ≠ some j
  | 0, j => by simp [tk, List.getElem?_replicate]
  | i + 1, j => by
    have ih := tk_free a b w i j
    rw [tk_succ]
    cases h : hitA a b w i with
    | none =>
      show (tk a b w i)[j]? = some false ↔ _
      rw [ih]
      refine ⟨fun g => ⟨g.1, fun k hk => ?_⟩, fun g => ⟨g.1, fun k hk => g.2 k (by omega)⟩⟩
      rcases Nat.lt_or_ge k i with q | q
      · exact g.2 k q
      · have : k = i := by omega
        rw [this, h]
        intro e
        cases e
    | some m =>
      show ((tk a b w i).set m true)[j]? = some false ↔ _
      by_cases hm : m = j
      · subst hm
        constructor
        · intro g
          rw [List.getElem?_set] at g
          rw [if_pos rfl] at g
          split at g <;> cases g
        · intro g
          exact absurd h (g.2 i (by omega))
      · rw [List.getElem?_set_ne hm, ih]
        refine ⟨fun g => ⟨g.1, fun k hk => ?_⟩, fun g => ⟨g.1, fun k hk => g.2 k (by omega)⟩⟩
        rcases Nat.lt_or_ge k i with q | q
        · exact g.2 k q
        · have : k = i := by omega
          rw [this, h]
          intro e
          exact hm (Option.some.inj e)
theorem tk_true (a b : List UInt8) (w i j : Nat) : (tk a b w i)[j]? = some true ↔ ∃ k < i, hitA a b w k = some j := by
  have hf := tk_free a b w i j
  constructor
  · intro h
    have hj : j < b.length := by
      rw [← tk_len a b w i]
      exact (List.getElem?_eq_some_iff.1 h).1
    by_cases g : ∃ k < i, hitA a b w k = some j
    · exact g
    · have := hf.2 ⟨hj, fun k hk e => g ⟨k, hk, e⟩⟩
      rw [h] at this
      cases this
  · rintro ⟨k, hk, e⟩
    have hj : j < (tk a b w i).length := by
      rw [tk_len]
      rcases Nat.lt_or_ge k a.length with q | q
      · rw [hitA_at q] at e
        exact (hit_inv e).1
      · rw [hitA_out q] at e
        cases e
    rw [List.getElem?_eq_getElem hj]
    cases h : (tk a b w i)[j] with
    | true => rfl
    | false =>
      have := (hf.1 (by rw [List.getElem?_eq_getElem hj, h])).2 k hk
      exact absurd e this
/-- What a match is, said of all matches. -/
theorem hitA_iff (a b : List UInt8) (w i j : Nat) : hitA a b w i = some j ↔ (∃ c, a[i]? = some c ∧ b[j]? = some c) ∧ i ≤ j + w ∧ j ≤ i + w ∧ (∀ k < i, hitA a b w k ≠ some j) ∧ ∀ k < j, hitA a b w i ≠ some k := by
  constructor
  · intro h
    rcases Nat.lt_or_ge i a.length with q | q
    · have h' := h
      rw [hitA_at q] at h'
      obtain ⟨h1, h2, h3⟩ := hit_inv h'
      obtain ⟨g1, g2, g3, g4⟩ := mayHit_iff.1 h2
      refine ⟨⟨a[i], List.getElem?_eq_getElem q, g2⟩, g3, g4, ((tk_free a b w i j).1 g1).2, fun k hk e => ?_⟩
      rw [h] at e
      have := Option.some.inj e
      omega
    · rw [hitA_out q] at h
      cases h
  · rintro ⟨⟨c, h1, h2⟩, h3, h4, h5, h6⟩
    obtain ⟨q, h1'⟩ := List.getElem?_eq_some_iff.1 h1
    obtain ⟨q2, h2'⟩ := List.getElem?_eq_some_iff.1 h2
    have hp : mayHit b w i a[i] (tk a b w i) j = true := mayHit_iff.2 ⟨(tk_free a b w i j).2 ⟨q2, h5⟩, by rw [h2, h1'], h3, h4⟩
    cases e : hitA a b w i with
    | none =>
      rw [hitA_at q] at e
      unfold hit at e
      rw [List.find?_eq_none] at e
      exact absurd hp (e j (by simpa using q2))
    | some m =>
      have e' := e
      rw [hitA_at q] at e'
      obtain ⟨m1, m2, m3⟩ := hit_inv e'
      rcases Nat.lt_trichotomy m j with g | g | g
      · exact absurd e (h6 m g)
      · rw [g]
      · have := m3 j g
        rw [hp] at this
        cases this
theorem hitA_swap (a b : List UInt8) (w : Nat) : ∀ n i j, i + j = n → (hitA a b w i = some j ↔ hitA b a w j = some i) := by
  intro n
  induction n using Nat.strongRecOn with
  | _ n ih =>
    intro i j hn
    rw [hitA_iff a b, hitA_iff b a]
    constructor
    · rintro ⟨⟨c, h1, h2⟩, h3, h4, h5, h6⟩
      exact ⟨⟨c, h2, h1⟩, h4, h3, fun k hk e => h6 k hk ((ih (i + k) (by omega) i k rfl).2 e), fun k hk e => h5 k hk ((ih (k + j) (by omega) k j rfl).2 e)⟩
    · rintro ⟨⟨c, h1, h2⟩, h3, h4, h5, h6⟩
      exact ⟨⟨c, h2, h1⟩, h4, h3, fun k hk e => h6 k hk ((ih (k + j) (by omega) k j rfl).1 e), fun k hk e => h5 k hk ((ih (i + k) (by omega) i k rfl).1 e)⟩
theorem hitA_self (a : List UInt8) (w : Nat) : ∀ n i j, i + j = n → (hitA a a w i = some j ↔ i = j ∧ i < a.length) := by
  intro n
  induction n using Nat.strongRecOn with
  | _ n ih =>
    intro i j hn
    rw [hitA_iff]
    constructor
    · rintro ⟨⟨c, h1, h2⟩, h3, h4, h5, h6⟩
      have q := (List.getElem?_eq_some_iff.1 h1).1
      have q2 := (List.getElem?_eq_some_iff.1 h2).1
      refine ⟨?_, q⟩
      rcases Nat.lt_trichotomy i j with g | g | g
      · exact absurd ((ih (i + i) (by omega) i i rfl).2 ⟨rfl, q⟩) (h6 i g)
      · exact g
      · exact absurd ((ih (j + j) (by omega) j j rfl).2 ⟨rfl, q2⟩) (h5 j g)
    · rintro ⟨rfl, q⟩
      refine ⟨⟨a[i], List.getElem?_eq_getElem q, List.getElem?_eq_getElem q⟩, by omega, by omega, fun k hk e => ?_, fun k hk e => ?_⟩
      · have := (ih (k + i) (by omega) k i rfl).1 e
        omega
      · have := (ih (i + k) (by omega) i k rfl).1 e
        omega

/-! ### The matched bytes. -/
def selTo (l : List UInt8) (p : Nat → Bool) : Nat → List UInt8
  | 0 => []
  | k + 1 => selTo l p k ++ (if p k then l[k]?.toList else [])
theorem selTo_yes {l : List UInt8} {p : Nat → Bool} {k : Nat} (hk : k < l.length) (h : p k = true) : selTo l p (k + 1) = selTo l p k ++ [l[k]] := by
  rw [selTo, if_pos h, List.getElem?_eq_getElem hk]; rfl
theorem selTo_no {l : List UInt8} {p : Nat → Bool} {k : Nat} (h : p k = false) : selTo l p (k + 1) = selTo l p k := by
  rw [selTo, if_neg (by rw [h]; decide), List.append_nil]
theorem selTo_len (l : List UInt8) (p : Nat → Bool) : ∀ k, (selTo l p k).length ≤ k
  | 0 => Nat.le_refl _
  | k + 1 => by
    have := selTo_len l p k
    rw [selTo]
    split
    · cases l[k]? <;> simp <;> omega
    · simp; omega
theorem selTo_congr {l : List UInt8} {p q : Nat → Bool} : ∀ {k : Nat}, (∀ i < k, p i = q i) → selTo l p k = selTo l q k
  | 0, _ => rfl
  | k + 1, h => by rw [selTo, selTo, selTo_congr (fun i hi => h i (by omega)), h k (by omega)]
theorem selTo_all {l : List UInt8} {p : Nat → Bool} : ∀ {k : Nat}, k ≤ l.length → (∀ i < k, p i = true) → selTo l p k = l.take k
  | 0, _, _ => by simp [selTo]
  | k + 1, hk, h => by
    rw [selTo_yes (by omega) (h k (by omega)), selTo_all (by omega) (fun i hi => h i (by omega)), List.take_succ_eq_append_getElem (by omega)]
theorem selTo_full {l : List UInt8} {p : Nat → Bool} : ∀ {k : Nat}, k ≤ l.length → (selTo l p k).length = k → ∀ i < k, p i = true
  | 0, _, _ => fun i hi => by omega
  | k + 1, hk, h => by
    have h1 := selTo_len l p k
    cases hp : p k with
    | false =>
      rw [selTo_no hp] at h
      omega
    | true =>
      rw [selTo_yes (by omega) hp, List.length_append] at h
      intro i hi
      rcases Nat.lt_or_ge i k with g | g
      · exact selTo_full (l := l) (p := p) (k := k) (by omega) (by simpa using h) i g
      · rw [show i = k by omega]; exact hp
def tb (T : List Bool) (j : Nat) : Bool := T[j]? == some true
theorem selTo_count (l : List UInt8) (T : List Bool) (hl : T.length = l.length) : ∀ k, k ≤ l.length → (selTo l (tb T) k).length = (T.take k).count true
  | 0, _ => by simp [selTo]
  | k + 1, hk => by
    have ih := selTo_count l T hl k (by omega)
    rw [List.take_succ_eq_append_getElem (by omega), List.count_append]
    cases h : T[k]'(by omega) with
    | true =>
      rw [selTo_yes (by omega) (by unfold tb; rw [List.getElem?_eq_getElem (by omega), h]; rfl), List.length_append, ih]
      simp
    | false =>
      rw [selTo_no (by unfold tb; rw [List.getElem?_eq_getElem (by omega), h]; rfl), ih]
      simp
def fa (a b : List UInt8) (w i : Nat) : Bool := (hitA a b w i).isSome
def IA (a b : List UInt8) (w i : Nat) : List UInt8 := selTo a (fa a b w) i
def IB (a b : List UInt8) (w : Nat) : List UInt8 := selTo b (tb (tk a b w a.length)) b.length
theorem IA_count (a b : List UInt8) (w : Nat) : ∀ i, i ≤ a.length → (IA a b w i).length = (tk a b w i).count true
  | 0, _ => by simp [IA, selTo, tk, List.count_replicate]
  | i + 1, hi => by
    have ih := IA_count a b w i (by omega)
    unfold IA at *
    cases h : hitA a b w i with
    | none =>
      rw [selTo_no (by unfold fa; rw [h]; rfl), tk_succ, h, ih]
      rfl
    | some j =>
      rw [selTo_yes (by omega) (by unfold fa; rw [h]; rfl), tk_succ, h, List.length_append, ih]
      show _ = ((tk a b w i).set j true).count true
      rw [hitA_at (by omega)] at h
      obtain ⟨h1, h2, _⟩ := hit_inv h
      have h3 := (mayHit_iff.1 h2).1
      obtain ⟨h4, h5⟩ := List.getElem?_eq_some_iff.1 h3
      rw [List.count_set h4, h5]
      simp
theorem IA_IB_len (a b : List UInt8) (w : Nat) : (IA a b w a.length).length = (IB a b w).length := by
  rw [IA_count a b w _ (Nat.le_refl _)]
  unfold IB
  rw [selTo_count b _ (tk_len a b w _) _ (Nat.le_refl _), List.take_of_length_le (by rw [tk_len]; exact Nat.le_refl _)]
theorem swap_fa (a b : List UInt8) (w j : Nat) : fa b a w j = tb (tk a b w a.length) j := by
  unfold fa tb
  rw [Bool.eq_iff_iff, Option.isSome_iff_exists, beq_iff_eq, tk_true]
  constructor
  · rintro ⟨i, h⟩
    have h' := (hitA_swap b a w _ j i rfl).1 h
    refine ⟨i, ?_, h'⟩
    rcases Nat.lt_or_ge i a.length with q | q
    · exact q
    · rw [hitA_out q] at h'
      cases h'
  · rintro ⟨i, _, h⟩
    exact ⟨i, (hitA_swap a b w _ i j rfl).1 h⟩
theorem swap_IA (a b : List UInt8) (w : Nat) : IA b a w b.length = IB a b w := selTo_congr (fun j _ => swap_fa a b w j)
theorem swap_IB (a b : List UInt8) (w : Nat) : IB b a w = IA a b w a.length := (swap_IA b a w).symm
theorem self_IA (a : List UInt8) (w : Nat) : IA a a w a.length = a := by
  unfold IA
  rw [selTo_all (Nat.le_refl _) (fun i hi => ?_), List.take_length]
  unfold fa
  rw [(hitA_self a w _ i i rfl).2 ⟨rfl, hi⟩]
  rfl
theorem self_IB (a : List UInt8) (w : Nat) : IB a a w = a := by rw [← swap_IA, self_IA]
theorem full_IA {a b : List UInt8} {w : Nat} (h : (IA a b w a.length).length = a.length) : IA a b w a.length = a := by
  have := selTo_full (p := fa a b w) (Nat.le_refl a.length) h
  unfold IA
  rw [selTo_all (Nat.le_refl _) this, List.take_length]
theorem full_IB {a b : List UInt8} {w : Nat} (h : (IB a b w).length = b.length) : IB a b w = b := by
  rw [← swap_IA] at *
  exact full_IA h
theorem IA_le (a b : List UInt8) (w : Nat) : (IA a b w a.length).length ≤ a.length ∧ (IA a b w a.length).length ≤ b.length := by
  refine ⟨selTo_len _ _ _, ?_⟩
  rw [IA_IB_len]
  exact selTo_len _ _ _
theorem IA_apart {a b : List UInt8} {w : Nat} (h : ∀ x ∈ a, x ∉ b) : IA a b w a.length = [] := by
  have hn : ∀ i, fa a b w i = false := by
    intro i
    unfold fa
    cases e : hitA a b w i with
    | none => rfl
    | some j =>
      obtain ⟨⟨c, h1, h2⟩, _⟩ := (hitA_iff a b w i j).1 e
      exact absurd (List.mem_of_getElem? h2) (h c (List.mem_of_getElem? h1))
  unfold IA
  have : ∀ k, selTo a (fa a b w) k = [] := by
    intro k
    induction k with
    | zero => rfl
    | succ k ih => rw [selTo_no (hn k), ih]
  exact this _
/-- At how many of the first k places two lists differ. -/
def diffTo (x y : List UInt8) : Nat → Nat
  | 0 => 0
  | k + 1 => diffTo x y k + (if x[k]? = y[k]? then 0 else 1)
theorem diffTo_le (x y : List UInt8) : ∀ k, diffTo x y k ≤ k
  | 0 => Nat.le_refl _
  | k + 1 => by
    have := diffTo_le x y k
    rw [diffTo]
    split <;> omega
theorem diffTo_sym (x y : List UInt8) : ∀ k, diffTo x y k = diffTo y x k
  | 0 => rfl
  | k + 1 => by
    rw [diffTo, diffTo, diffTo_sym x y k]
    by_cases h : x[k]? = y[k]?
    · rw [if_pos h, if_pos h.symm]
    · rw [if_neg h, if_neg (fun e => h e.symm)]
theorem diffTo_self (x : List UInt8) : ∀ k, diffTo x x k = 0
  | 0 => rfl
  | k + 1 => by rw [diffTo, diffTo_self x k, if_pos rfl]
theorem diffTo_zero (x y : List UInt8) : ∀ k, diffTo x y k = 0 → ∀ i < k, x[i]? = y[i]?
  | 0, _ => fun i hi => by omega
  | k + 1, h => by
    rw [diffTo] at h
    intro i hi
    rcases Nat.lt_or_ge i k with g | g
    · exact diffTo_zero x y k (by omega) i g
    · rw [show i = k by omega]
      by_cases e : x[k]? = y[k]?
      · exact e
      · rw [if_neg e] at h; omega
theorem diff_eq {x y : List UInt8} (hl : x.length = y.length) (h : diffTo x y x.length = 0) : x = y := by
  apply List.ext_getElem?
  intro i
  rcases Nat.lt_or_ge i x.length with g | g
  · exact diffTo_zero x y _ h i g
  · rw [List.getElem?_eq_none g, List.getElem?_eq_none (by omega)]
end Go.Proofs.YtendkghifcjffaaGreatDoor

