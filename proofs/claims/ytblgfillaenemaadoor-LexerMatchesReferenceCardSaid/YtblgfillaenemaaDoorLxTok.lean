/- What stands behind a token does not change it. -/
import Derived.Test.YtblgfillaenemaaDoorLxMath
namespace Go.Proofs.YtblgfillaenemaaDoor.L7

theorem take_tw (p : UInt8 → Bool) (l : List UInt8) : l.take (l.takeWhile p).length = l.takeWhile p := by
  have h := List.takeWhile_append_dropWhile (p := p) (l := l)
  have : (l.takeWhile p ++ l.dropWhile p).take (l.takeWhile p).length = l.takeWhile p := List.take_left
  rwa [h] at this
theorem drop_tw (p : UInt8 → Bool) (l : List UInt8) : l.drop (l.takeWhile p).length = l.dropWhile p := by
  have h := List.takeWhile_append_dropWhile (p := p) (l := l)
  have : (l.takeWhile p ++ l.dropWhile p).drop (l.takeWhile p).length = l.dropWhile p := List.drop_left
  rwa [h] at this
theorem head_dw (p : UInt8 → Bool) (l : List UInt8) (s : UInt8) (h : (l.dropWhile p).head? = some s) : p s = false := by
  induction l with
  | nil => simp at h
  | cons c r ih =>
    by_cases hc : p c = true
    · rw [List.dropWhile_cons_of_pos hc] at h
      exact ih h
    · rw [List.dropWhile_cons_of_neg hc] at h
      simp at h
      subst h
      simpa using hc
theorem mem_tw (p : UInt8 → Bool) (l : List UInt8) : ∀ a ∈ l.takeWhile p, p a = true := by
  induction l with
  | nil => simp
  | cons c r ih =>
    by_cases hc : p c = true
    · rw [List.takeWhile_cons_of_pos hc]
      intro a ha
      rcases List.mem_cons.1 ha with rfl | ha
      · exact hc
      · exact ih a ha
    · rw [List.takeWhile_cons_of_neg hc]
      simp
/-- What begins with no such byte adds nothing. -/
theorem tw_app (p : UInt8 → Bool) (w y : List UInt8) (hw : ∀ a ∈ w, p a = true) (hy : ∀ s, y.head? = some s → p s = false) : (w ++ y).takeWhile p = w ∧ (w ++ y).dropWhile p = y := by
  have h1 : y.takeWhile p = [] ∧ y.dropWhile p = y := by
    cases y with
    | nil => simp
    | cons s y =>
      have := hy s rfl
      rw [List.takeWhile_cons_of_neg (by simp [this]), List.dropWhile_cons_of_neg (by simp [this])]
      exact ⟨rfl, rfl⟩
  induction w with
  | nil => simpa using h1
  | cons c w ih =>
    have hc := hw c List.mem_cons_self
    have := ih (fun a ha => hw a (List.mem_cons_of_mem _ ha))
    rw [List.cons_append, List.takeWhile_cons_of_pos hc, List.dropWhile_cons_of_pos hc, this.1, this.2]
    exact ⟨rfl, rfl⟩

theorem lt_in {c : UInt8} (h : Lt c = true) : In c = true := by unfold In; rw [h]; rfl
theorem dg_in {c : UInt8} (h : In c = false) : Dg c = false := by
  unfold In at h
  cases hd : Dg c with
  | false => rfl
  | true => rw [hd] at h; simp at h

/-! ### The content of a text. -/
theorem con_end (r : List UInt8) : con (34 :: r) = ([], 1, 0) := by
  cases r with
  | nil => rw [con, if_pos rfl]
  | cons d r => rw [con, if_pos rfl]
theorem con_esc {d : UInt8} {r : List UInt8} (h : d = 34 ∨ d = 92 ∨ d = 110) : con (92 :: d :: r) = ((if d = 110 then 10 else d) :: (con r).1, (con r).2.1 + 2, (con r).2.2) := by
  rw [con, if_neg (by decide), if_neg (by decide), if_pos rfl, if_pos h]
theorem con_plain {c : UInt8} {r : List UInt8} (h1 : c ≠ 34) (h2 : c ≠ 10) (h3 : c ≠ 92) (hr : r ≠ []) : con (c :: r) = (c :: (con r).1, (con r).2.1 + 1, (con r).2.2) := by
  cases r with
  | nil => exact absurd rfl hr
  | cons d r => rw [con, if_neg h1, if_neg h2, if_neg h3]
/-- How a content that ends begins. -/
theorem con_cases {l s : List UInt8} {n : Nat} (h : con l = (s, n, 0)) :
    (∃ r, l = 34 :: r ∧ s = [] ∧ n = 1) ∨ (∃ d r s' n', l = 92 :: d :: r ∧ (d = 34 ∨ d = 92 ∨ d = 110) ∧ con r = (s', n', 0) ∧ s = (if d = 110 then 10 else d) :: s' ∧ n = n' + 2) ∨
    (∃ c r s' n', l = c :: r ∧ c ≠ 34 ∧ c ≠ 10 ∧ c ≠ 92 ∧ con r = (s', n', 0) ∧ s = c :: s' ∧ n = n' + 1) := by
  match l with
  | [] => rw [con] at h; simp at h
  | [c] =>
    rw [con] at h
    by_cases h1 : c = 34
    · subst h1
      rw [if_pos rfl] at h
      simp only [Prod.mk.injEq] at h
      exact .inl ⟨[], rfl, h.1.symm, h.2.1.symm⟩
    · rw [if_neg h1] at h
      split at h <;> simp at h
  | c :: d :: r =>
    by_cases h1 : c = 34
    · subst h1
      rw [con_end] at h
      simp only [Prod.mk.injEq] at h
      exact .inl ⟨d :: r, rfl, h.1.symm, h.2.1.symm⟩
    · by_cases h2 : c = 10
      · rw [con, if_neg h1, if_pos h2] at h
        simp at h
      · by_cases h3 : c = 92
        · subst h3
          by_cases h4 : d = 34 ∨ d = 92 ∨ d = 110
          · rw [con_esc h4] at h
            simp only [Prod.mk.injEq] at h
            refine .inr (.inl ⟨d, r, (con r).1, (con r).2.1, rfl, h4, ?_, h.1.symm, h.2.1.symm⟩)
            rw [← h.2.2]
          · rw [con, if_neg h1, if_neg h2, if_pos rfl, if_neg h4] at h
            simp at h
        · rw [con_plain h1 h2 h3 (by simp)] at h
          simp only [Prod.mk.injEq] at h
          refine .inr (.inr ⟨c, d :: r, (con (d :: r)).1, (con (d :: r)).2.1, rfl, h1, h2, h3, ?_, h.1.symm, h.2.1.symm⟩)
          rw [← h.2.2]
theorem con_ne {l s : List UInt8} {n : Nat} (h : con l = (s, n, 0)) : l ≠ [] := by rintro rfl; rw [con] at h; simp at h
theorem con_ext : ∀ (m : Nat) (l s : List UInt8) (n : Nat), l.length ≤ m → con l = (s, n, 0) → 1 ≤ n ∧ n ≤ l.length ∧ ∀ y, con (l.take n ++ y) = (s, n, 0)
  | 0, l, s, n, hm, h => by
    have : l = [] := List.length_eq_zero_iff.1 (by omega)
    subst this
    rw [con] at h
    simp at h
  | m + 1, l, s, n, hm, h => by
    rcases con_cases h with ⟨r, rfl, rfl, rfl⟩ | ⟨d, r, s', n', rfl, hd, hr, rfl, rfl⟩ | ⟨c, r, s', n', rfl, h1, h2, h3, hr, rfl, rfl⟩
    · exact ⟨by omega, by simp, fun y => by simp [con_end]⟩
    · obtain ⟨a, b, k⟩ := con_ext m r s' n' (by simp at hm; omega) hr
      refine ⟨by omega, by simp; omega, fun y => ?_⟩
      rw [List.take_succ_cons, List.take_succ_cons, List.cons_append, List.cons_append, con_esc hd, k y]
    · obtain ⟨a, b, k⟩ := con_ext m r s' n' (by simp at hm; omega) hr
      refine ⟨by omega, by simp; omega, fun y => ?_⟩
      have hne := con_ne (k y)
      rw [List.take_succ_cons, List.cons_append, con_plain h1 h2 h3 hne, k y]

/-! ### A token. -/
/-- What may stand behind a token of length n at the beginning of r: nothing, a byte that continues no token, or what stands there. -/
def Fol (r : List UInt8) (n : Nat) (y : List UInt8) : Prop := ∀ s, y.head? = some s → (In s = false ∧ s ≠ 61) ∨ (r.drop n).head? = some s
theorem Fol.nil (r : List UInt8) (n : Nat) : Fol r n [] := fun s h => by simp at h
theorem Fol.good {r : List UInt8} {n : Nat} {s : UInt8} {y : List UInt8} (h1 : In s = false) (h2 : s ≠ 61) : Fol r n (s :: y) := fun t h => by
  simp at h
  subst h
  exact .inl ⟨h1, h2⟩
theorem tok_name {c : UInt8} {r : List UInt8} (h : Lt c = true) : tok (c :: r) = if 24 < ((c :: r).takeWhile In).length then bad 3 else ((1, (c :: r).takeWhile In, 0), ((c :: r).takeWhile In).length, 0) := by rw [tok, if_pos h]
theorem tok_num {c : UInt8} {r : List UInt8} (h : Lt c ≠ true) (h2 : Dg c = true) : tok (c :: r) = if 10 < ((c :: r).takeWhile Dg).length ∨ (∃ s, ((c :: r).dropWhile Dg).head? = some s ∧ In s = true) then bad 6 else ((2, (c :: r).takeWhile Dg, (num ((c :: r).takeWhile Dg) : Int)), ((c :: r).takeWhile Dg).length, 0) := by
  rw [tok, if_neg h, if_pos h2]
theorem not_lt34 : Lt 34 ≠ true := by decide
theorem not_dg34 : Dg 34 ≠ true := by decide
theorem tok_text (r : List UInt8) : tok (34 :: r) = if (con r).2.2 ≠ 0 then bad (con r).2.2 else if 200 < (con r).1.length then bad 3 else ((3, (con r).1, 0), (con r).2.1 + 1, 0) := by
  rw [tok, if_neg not_lt34, if_neg not_dg34, if_pos rfl]
theorem tok_sym {c : UInt8} {r : List UInt8} (h : Lt c ≠ true) (h2 : Dg c ≠ true) (h3 : c ≠ 34) : tok (c :: r) = if symN (c :: r) = 0 then bad 5 else ((4, (c :: r).take (symN (c :: r)), 0), symN (c :: r), 0) := by
  rw [tok, if_neg h, if_neg h2, if_neg h3]
theorem bad_ne {e : Int} {t : Int × List UInt8 × Int} {n : Nat} (he : e ≠ 0) : bad e ≠ (t, n, 0) := by
  unfold bad
  intro h
  simp only [Prod.mk.injEq] at h
  exact he h.2.2
theorem symN_cons (c : UInt8) (r : List UInt8) : symN (c :: r) = if r.head? = some 61 ∧ (c = 33 ∨ c = 60) then 2 else if c ∈ syms then 1 else 0 := rfl
theorem symN_cases (c : UInt8) (r : List UInt8) : (symN (c :: r) = 2 ∧ ∃ r', r = 61 :: r' ∧ (c = 33 ∨ c = 60)) ∨ (symN (c :: r) = 1 ∧ c ∈ syms ∧ ¬ (r.head? = some 61 ∧ (c = 33 ∨ c = 60))) ∨ symN (c :: r) = 0 := by
  by_cases h : r.head? = some 61 ∧ (c = 33 ∨ c = 60)
  · refine .inl ⟨by rw [symN_cons, if_pos h], ?_⟩
    cases r with
    | nil => simp at h
    | cons d r =>
      simp at h
      exact ⟨r, by rw [h.1], h.2⟩
  · by_cases h2 : c ∈ syms
    · exact .inr (.inl ⟨by rw [symN_cons, if_neg h, if_pos h2], h2, h⟩)
    · exact .inr (.inr (by rw [symN_cons, if_neg h, if_neg h2]))
theorem tok_ext {r : List UInt8} {t : Int × List UInt8 × Int} {n : Nat} (h : tok r = (t, n, 0)) : 1 ≤ n ∧ n ≤ r.length ∧ ∀ y, Fol r n y → tok (r.take n ++ y) = (t, n, 0) := by
  match r with
  | [] => rw [tok] at h; exact absurd h (bad_ne (by decide))
  | c :: r =>
    by_cases h1 : Lt c = true
    · rw [tok_name h1] at h
      split at h
      · exact absurd h (bad_ne (by decide))
      · rename_i hlen
        simp only [Prod.mk.injEq] at h
        obtain ⟨rfl, rfl, _⟩ := h
        have e0 : (c :: r).takeWhile In = c :: r.takeWhile In := List.takeWhile_cons_of_pos (lt_in h1)
        refine ⟨by rw [e0]; simp, (List.takeWhile_sublist _).length_le, fun y hy => ?_⟩
        rw [take_tw]
        have h2 := (tw_app In ((c :: r).takeWhile In) y (mem_tw _ _) (fun s hs => by
          rcases hy s hs with h | h
          · exact h.1
          · rw [drop_tw] at h
            exact head_dw _ _ _ h)).1
        obtain ⟨w, hw⟩ : ∃ w, (c :: r).takeWhile In = w := ⟨_, rfl⟩
        rw [hw] at h2 hlen ⊢
        rw [hw] at e0
        rw [e0] at h2 hlen ⊢
        rw [List.cons_append] at h2 ⊢
        rw [tok_name h1, h2, if_neg hlen]
    · by_cases h2 : Dg c = true
      · rw [tok_num h1 h2] at h
        split at h
        · exact absurd h (bad_ne (by decide))
        · rename_i hlen
          simp only [Prod.mk.injEq] at h
          obtain ⟨rfl, rfl, _⟩ := h
          have e0 : (c :: r).takeWhile Dg = c :: r.takeWhile Dg := List.takeWhile_cons_of_pos h2
          refine ⟨by rw [e0]; simp, (List.takeWhile_sublist _).length_le, fun y hy => ?_⟩
          have hin : ∀ s, y.head? = some s → In s = false := fun s hs => by
            rcases hy s hs with h | h
            · exact h.1
            · rw [drop_tw] at h
              cases hi : In s with
              | false => rfl
              | true => exact absurd (.inr ⟨s, h, hi⟩) hlen
          rw [take_tw]
          have h3 := tw_app Dg ((c :: r).takeWhile Dg) y (mem_tw _ _) (fun s hs => dg_in (hin s hs))
          have hl2 : ¬ 10 < ((c :: r).takeWhile Dg).length := fun q => hlen (.inl q)
          obtain ⟨w, hw⟩ : ∃ w, (c :: r).takeWhile Dg = w := ⟨_, rfl⟩
          rw [hw] at h3 hl2 ⊢
          rw [hw] at e0
          rw [e0] at h3 hl2 ⊢
          rw [List.cons_append] at h3 ⊢
          rw [tok_num h1 h2, h3.1, h3.2, if_neg]
          rintro (q | ⟨s, q1, q2⟩)
          · exact hl2 q
          · rw [hin s q1] at q2
            simp at q2
      · by_cases h3 : c = 34
        · subst h3
          rw [tok_text] at h
          split at h
          · rename_i he
            exact absurd h (bad_ne he)
          · rename_i he
            split at h
            · exact absurd h (bad_ne (by decide))
            · rename_i hlen
              simp only [Prod.mk.injEq] at h
              obtain ⟨rfl, rfl, _⟩ := h
              have hc : con r = ((con r).1, (con r).2.1, 0) := by
                have : (con r).2.2 = 0 := by simpa using he
                rw [← this]
              obtain ⟨a, b, k⟩ := con_ext r.length r _ _ (Nat.le_refl _) hc
              refine ⟨by omega, by simp; omega, fun y _ => ?_⟩
              rw [List.take_succ_cons, List.cons_append, tok_text, k y]
              simp only
              rw [if_neg (by simp), if_neg hlen]
        · rw [tok_sym h1 h2 h3] at h
          split at h
          · exact absurd h (bad_ne (by decide))
          · rename_i hs
            simp only [Prod.mk.injEq] at h
            obtain ⟨rfl, rfl, _⟩ := h
            rcases symN_cases c r with ⟨e, r', rfl, hc⟩ | ⟨e, hm, hn⟩ | e
            · rw [e]
              refine ⟨by omega, by simp, fun y _ => ?_⟩
              have e2 : symN (c :: 61 :: y) = 2 := by rw [symN_cons, if_pos ⟨rfl, hc⟩]
              show tok (c :: 61 :: y) = _
              rw [tok_sym h1 h2 h3, e2, if_neg (by omega)]
              rfl
            · rw [e]
              refine ⟨by omega, by simp, fun y hy => ?_⟩
              have e2 : symN (c :: y) = 1 := by
                rw [symN_cons, if_neg, if_pos hm]
                rintro ⟨q1, q2⟩
                rcases hy 61 q1 with h | h
                · exact h.2 rfl
                · exact hn ⟨h, q2⟩
              show tok (c :: y) = _
              rw [tok_sym h1 h2 h3, e2, if_neg (by omega)]
              rfl
            · exact absurd e hs
end Go.Proofs.YtblgfillaenemaaDoor.L7
