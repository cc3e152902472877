/- Lists of texts as sets: how many different elements, how many in common. -/
namespace Go.Proofs.YtendkghifcjffaaDoor
/-- The different elements of a list, in the order in which they came. -/
def dd (l : List (List UInt8)) : List (List UInt8) := l.foldl (fun acc x => if x ∈ acc then acc else acc ++ [x]) []
theorem dd_snoc (l : List (List UInt8)) (x : List UInt8) : dd (l ++ [x]) = if x ∈ dd l then dd l else dd l ++ [x] := by
  unfold dd; rw [List.foldl_append]; rfl
theorem snoc_ind {α : Type} {P : List α → Prop} (h0 : P []) (h1 : ∀ l x, P l → P (l ++ [x])) (l : List α) : P l := by
  have : ∀ n (l : List α), l.length = n → P l := by
    intro n
    induction n with
    | zero => intro l h; rw [List.length_eq_zero_iff.1 h]; exact h0
    | succ n ih =>
      intro l h
      have hne : l ≠ [] := by intro e; rw [e] at h; cases h
      rw [← List.dropLast_concat_getLast hne]
      exact h1 _ _ (ih _ (by rw [List.length_dropLast, h]; rfl))
  exact this _ l rfl
theorem mem_dd (l : List (List UInt8)) : ∀ z, z ∈ dd l ↔ z ∈ l := by
  refine snoc_ind (P := fun l => ∀ z, z ∈ dd l ↔ z ∈ l) (by intro z; exact Iff.rfl) (fun l x ih z => ?_) l
  rw [dd_snoc]
  by_cases h : x ∈ dd l
  · rw [if_pos h, ih z, List.mem_append, List.mem_singleton]
    constructor
    · exact Or.inl
    · rintro (k | k)
      · exact k
      · rw [k]; exact (ih x).1 h
  · rw [if_neg h, List.mem_append, List.mem_append, ih z]
theorem nodup_dd (l : List (List UInt8)) : (dd l).Nodup := by
  refine snoc_ind (P := fun l => (dd l).Nodup) List.nodup_nil (fun l x ih => ?_) l
  rw [dd_snoc]
  by_cases h : x ∈ dd l
  · rw [if_pos h]; exact ih
  · rw [if_neg h, List.nodup_append]
    exact ⟨ih, by simp, fun a ha b hb e => h (by rw [← List.mem_singleton.1 hb, ← e]; exact ha)⟩
theorem dd_len (l : List (List UInt8)) : (dd l).length ≤ l.length := by
  refine snoc_ind (P := fun l => (dd l).length ≤ l.length) (Nat.le_refl _) (fun l x ih => ?_) l
  rw [dd_snoc]
  split
  · simp; omega
  · simp; exact ih
theorem dd_new {l : List (List UInt8)} {x : List UInt8} (h : x ∉ l) : dd (l ++ [x]) = dd l ++ [x] := by
  rw [dd_snoc, if_neg (fun k => h ((mem_dd l x).1 k))]
theorem dd_old {l : List (List UInt8)} {x : List UInt8} (h : x ∈ l) : dd (l ++ [x]) = dd l := by
  rw [dd_snoc, if_pos ((mem_dd l x).2 h)]

/-- How many of the different elements of a list have a property. -/
def cnt (p : List UInt8 → Bool) (l : List (List UInt8)) : Nat := ((dd l).filter p).length
theorem cnt_new {p : List UInt8 → Bool} {l : List (List UInt8)} {x : List UInt8} (h : x ∉ l) : cnt p (l ++ [x]) = cnt p l + (if p x then 1 else 0) := by
  unfold cnt; rw [dd_new h, List.filter_append, List.length_append]
  cases hp : p x <;> simp [hp]
theorem cnt_old {p : List UInt8 → Bool} {l : List (List UInt8)} {x : List UInt8} (h : x ∈ l) : cnt p (l ++ [x]) = cnt p l := by
  unfold cnt; rw [dd_old h]
theorem cnt_split (p : List UInt8 → Bool) (l : List (List UInt8)) : cnt p l + cnt (fun x => !p x) l = (dd l).length := by
  unfold cnt
  induction dd l with
  | nil => rfl
  | cons a l ih => cases h : p a <;> simp [h] <;> omega
theorem cnt_le (p : List UInt8 → Bool) (l : List (List UInt8)) : cnt p l ≤ (dd l).length := List.length_filter_le _ _
/-- How many elements two lists have in common, and how many there are in one of them. -/
def both (a b : List (List UInt8)) : Nat := cnt (fun x => decide (x ∈ b)) a
def only (a b : List (List UInt8)) : Nat := cnt (fun x => !decide (x ∈ b)) a
def uni (a b : List (List UInt8)) : Nat := (dd a).length + only b a

theorem nodup_len_le {x : List (List UInt8)} : ∀ {y : List (List UInt8)}, x.Nodup → (∀ z ∈ x, z ∈ y) → x.length ≤ y.length := by
  induction x with
  | nil => intro y _ _; simp
  | cons a x ih =>
    intro y hx hy
    have hx' := List.nodup_cons.1 hx
    have hm : a ∈ y := hy a (by simp)
    have := ih (y := y.erase a) hx'.2 (fun z hz => (List.mem_erase_of_ne (fun e => hx'.1 (by rw [← e]; exact hz))).2 (hy z (by simp [hz])))
    rw [List.length_erase_of_mem hm] at this
    have : 0 < y.length := List.length_pos_of_mem hm
    simp only [List.length_cons]; omega
theorem nodup_len_eq {x y : List (List UInt8)} (hx : x.Nodup) (hy : y.Nodup) (h : ∀ z, z ∈ x ↔ z ∈ y) : x.length = y.length :=
  Nat.le_antisymm (nodup_len_le hx (fun z => (h z).1)) (nodup_len_le hy (fun z => (h z).2))
theorem both_sym (a b : List (List UInt8)) : both a b = both b a := by
  unfold both cnt
  refine nodup_len_eq ((nodup_dd a).filter _) ((nodup_dd b).filter _) (fun z => ?_)
  simp only [List.mem_filter, mem_dd, decide_eq_true_eq]
  exact And.comm
theorem both_only (a b : List (List UInt8)) : both a b + only a b = (dd a).length := cnt_split _ a
theorem uni_eq (a b : List (List UInt8)) : uni a b + both a b = (dd a).length + (dd b).length := by
  have := both_only b a
  rw [both_sym a b]; unfold uni; omega
theorem uni_sym (a b : List (List UInt8)) : uni a b = uni b a := by
  have h1 := uni_eq a b
  have h2 := uni_eq b a
  have h3 := both_sym a b
  omega
theorem both_le (a b : List (List UInt8)) : both a b ≤ (dd a).length := cnt_le _ a
theorem both_uni (a b : List (List UInt8)) : both a b ≤ uni a b := by
  have := both_le a b
  unfold uni; omega
theorem both_self (a : List (List UInt8)) : both a a = (dd a).length := by
  unfold both cnt
  rw [List.filter_eq_self.2]
  intro z hz; exact decide_eq_true ((mem_dd a z).1 hz)
theorem uni_self (a : List (List UInt8)) : uni a a = (dd a).length := by
  have h1 := uni_eq a a
  rw [both_self] at h1; omega
theorem dd_zero (a : List (List UInt8)) : (dd a).length = 0 ↔ a = [] := by
  constructor
  · intro h
    cases a with
    | nil => rfl
    | cons x y =>
      have : x ∈ dd (x :: y) := (mem_dd _ _).2 (by simp)
      rw [List.length_eq_zero_iff.1 h] at this
      cases this
  · rintro rfl; rfl
theorem only_zero (a b : List (List UInt8)) : only a b = 0 ↔ ∀ z ∈ a, z ∈ b := by
  unfold only cnt
  rw [List.length_eq_zero_iff, List.filter_eq_nil_iff]
  constructor
  · intro h z hz
    have := h z ((mem_dd a z).2 hz)
    simpa using this
  · intro h z hz
    simpa using h z ((mem_dd a z).1 hz)
theorem both_zero (a b : List (List UInt8)) : both a b = 0 ↔ ∀ z ∈ a, z ∉ b := by
  unfold both cnt
  rw [List.length_eq_zero_iff, List.filter_eq_nil_iff]
  constructor
  · intro h z hz
    have := h z ((mem_dd a z).2 hz)
    simpa using this
  · intro h z hz
    simpa using h z ((mem_dd a z).1 hz)
theorem uni_zero (a b : List (List UInt8)) : uni a b = 0 ↔ a = [] ∧ b = [] := by
  have h1 := uni_eq a b
  have h2 := both_le a b
  have h3 := both_le b a
  have h4 := both_sym a b
  rw [← dd_zero, ← dd_zero]; omega
theorem both_full (a b : List (List UInt8)) : both a b = uni a b ↔ (∀ z ∈ a, z ∈ b) ∧ (∀ z ∈ b, z ∈ a) := by
  have h1 := uni_eq a b
  have h2 := both_only a b
  have h3 := both_only b a
  have h4 := both_sym a b
  rw [← only_zero, ← only_zero]; omega

/-- The parts of the triangle inequality: a third list. All of them together have N elements. -/
def rest3 (a b c : List (List UInt8)) : Nat := cnt (fun x => !decide (x ∈ a) && !decide (x ∈ b)) c
theorem filter_split (p q : List UInt8 → Bool) (l : List (List UInt8)) : (l.filter (fun x => p x && q x)).length + (l.filter (fun x => p x && !q x)).length = (l.filter p).length := by
  induction l with
  | nil => rfl
  | cons a l ih => cases hp : p a <;> cases hq : q a <;> simp [hp, hq] <;> omega
theorem cnt_and (p q : List UInt8 → Bool) (l : List (List UInt8)) : cnt (fun x => p x && q x) l + cnt (fun x => p x && !q x) l = cnt p l := filter_split p q (dd l)
theorem cnt_move (p : List UInt8 → Bool) (a b : List (List UInt8)) : cnt (fun x => p x && decide (x ∈ b)) a = cnt (fun x => p x && decide (x ∈ a)) b := by
  unfold cnt
  refine nodup_len_eq ((nodup_dd a).filter _) ((nodup_dd b).filter _) (fun z => ?_)
  simp only [List.mem_filter, mem_dd, Bool.and_eq_true, decide_eq_true_eq]
  exact ⟨fun h => ⟨h.2.2, h.2.1, h.1⟩, fun h => ⟨h.2.2, h.2.1, h.1⟩⟩
theorem cnt_congr {p q : List UInt8 → Bool} {a : List (List UInt8)} (h : ∀ x ∈ a, p x = q x) : cnt p a = cnt q a := by
  unfold cnt
  rw [List.filter_congr (fun x hx => h x ((mem_dd a x).1 hx))]
/-- What Steinhaus' inequality wants of three sets: N, and what is each one's alone. -/
theorem regions (a b c : List (List UInt8)) : ∃ N : Nat,
    uni a c + rest3 a c b = N ∧ uni c b + rest3 c b a = N ∧ uni a b + rest3 a b c = N ∧
    both a c + rest3 a c b + (both c b + rest3 c b a) ≤ N + both a b ∧ uni a b ≤ N := by
  -- the seven regions
  have A1 := cnt_and (fun x => decide (x ∈ b)) (fun x => decide (x ∈ c)) a
  have A2 := cnt_and (fun x => !decide (x ∈ b)) (fun x => decide (x ∈ c)) a
  have A3 := both_only a b
  have A4 := cnt_and (fun x => decide (x ∈ c)) (fun x => decide (x ∈ b)) a
  have A5 : cnt (fun x => decide (x ∈ c) && decide (x ∈ b)) a = cnt (fun x => decide (x ∈ b) && decide (x ∈ c)) a := cnt_congr (fun x _ => Bool.and_comm _ _)
  have A6 : cnt (fun x => decide (x ∈ c) && !decide (x ∈ b)) a = cnt (fun x => !decide (x ∈ b) && decide (x ∈ c)) a := cnt_congr (fun x _ => Bool.and_comm _ _)
  have B1 := cnt_and (fun x => decide (x ∈ a)) (fun x => decide (x ∈ c)) b
  have B2 := cnt_and (fun x => !decide (x ∈ a)) (fun x => decide (x ∈ c)) b
  have B3 := both_only b a
  have B4 := cnt_and (fun x => decide (x ∈ c)) (fun x => decide (x ∈ a)) b
  have B5 : cnt (fun x => decide (x ∈ c) && decide (x ∈ a)) b = cnt (fun x => decide (x ∈ a) && decide (x ∈ c)) b := cnt_congr (fun x _ => Bool.and_comm _ _)
  have B6 : cnt (fun x => decide (x ∈ c) && !decide (x ∈ a)) b = cnt (fun x => !decide (x ∈ a) && decide (x ∈ c)) b := cnt_congr (fun x _ => Bool.and_comm _ _)
  have C1 := cnt_and (fun x => decide (x ∈ a)) (fun x => decide (x ∈ b)) c
  have C2 := cnt_and (fun x => !decide (x ∈ a)) (fun x => decide (x ∈ b)) c
  have C3 := both_only c a
  have C4 := cnt_and (fun x => decide (x ∈ b)) (fun x => decide (x ∈ a)) c
  have C5 : cnt (fun x => decide (x ∈ b) && decide (x ∈ a)) c = cnt (fun x => decide (x ∈ a) && decide (x ∈ b)) c := cnt_congr (fun x _ => Bool.and_comm _ _)
  have C6 : cnt (fun x => decide (x ∈ b) && !decide (x ∈ a)) c = cnt (fun x => !decide (x ∈ a) && decide (x ∈ b)) c := cnt_congr (fun x _ => Bool.and_comm _ _)
  -- the regions of two lists are those of either
  have M1 : cnt (fun x => decide (x ∈ b) && decide (x ∈ c)) a = cnt (fun x => decide (x ∈ b) && decide (x ∈ a)) c := cnt_move _ a c
  have M2 : cnt (fun x => decide (x ∈ a) && decide (x ∈ c)) b = cnt (fun x => decide (x ∈ a) && decide (x ∈ b)) c := cnt_move _ b c
  have M3 : cnt (fun x => !decide (x ∈ b) && decide (x ∈ c)) a = cnt (fun x => !decide (x ∈ b) && decide (x ∈ a)) c := cnt_move _ a c
  have M4 : cnt (fun x => !decide (x ∈ a) && decide (x ∈ c)) b = cnt (fun x => !decide (x ∈ a) && decide (x ∈ b)) c := cnt_move _ b c
  have M5 : cnt (fun x => !decide (x ∈ c) && decide (x ∈ b)) a = cnt (fun x => !decide (x ∈ c) && decide (x ∈ a)) b := cnt_move _ a b
  have N1 : cnt (fun x => decide (x ∈ a) && !decide (x ∈ b)) c = cnt (fun x => !decide (x ∈ b) && decide (x ∈ a)) c := cnt_congr (fun x _ => Bool.and_comm _ _)
  have N2 : cnt (fun x => decide (x ∈ b) && !decide (x ∈ c)) a = cnt (fun x => !decide (x ∈ c) && decide (x ∈ b)) a := cnt_congr (fun x _ => Bool.and_comm _ _)
  have N3 : cnt (fun x => decide (x ∈ a) && !decide (x ∈ c)) b = cnt (fun x => !decide (x ∈ c) && decide (x ∈ a)) b := cnt_congr (fun x _ => Bool.and_comm _ _)
  have R1 : rest3 a c b = cnt (fun x => !decide (x ∈ a) && !decide (x ∈ c)) b := rfl
  have R2 : rest3 c b a = cnt (fun x => !decide (x ∈ b) && !decide (x ∈ c)) a := cnt_congr (fun x _ => Bool.and_comm _ _)
  have R3 : rest3 a b c = cnt (fun x => !decide (x ∈ a) && !decide (x ∈ b)) c := rfl
  have S1 := both_only a c
  have S2 := both_only b c
  have S3 := both_only c b
  have T1 := uni_eq a c
  have T2 := uni_eq c b
  have T3 := uni_eq a b
  have U1 := both_sym a b
  have U2 := both_sym a c
  have U3 := both_sym b c
  have D1 : cnt (fun x => decide (x ∈ b)) a = both a b := rfl
  have D2 : cnt (fun x => !decide (x ∈ b)) a = only a b := rfl
  have D3 : cnt (fun x => decide (x ∈ c)) a = both a c := rfl
  have D4 : cnt (fun x => decide (x ∈ a)) b = both b a := rfl
  have D5 : cnt (fun x => !decide (x ∈ a)) b = only b a := rfl
  have D6 : cnt (fun x => decide (x ∈ c)) b = both b c := rfl
  have D7 : cnt (fun x => decide (x ∈ a)) c = both c a := rfl
  have D8 : cnt (fun x => !decide (x ∈ a)) c = only c a := rfl
  have D9 : cnt (fun x => decide (x ∈ b)) c = both c b := rfl
  refine ⟨uni a b + rest3 a b c, ?_, ?_, rfl, ?_, by omega⟩ <;> omega
end Go.Proofs.YtendkghifcjffaaDoor
