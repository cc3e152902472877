/- The laws of tokens in plain words, second part: beginnings, ends of tokens, tokens that are written again, places. -/
import Derived.Test.YtblgfillaenemaaDoorLxLaw
namespace Go.Proofs.YtblgfillaenemaaDoor.L7

theorem gap_app_back (cm : Bool) (a x : List UInt8) (h : gapC cm (a ++ x) < a.length) : gapC cm a = gapC cm (a ++ x) := by
  induction a generalizing cm with
  | nil => simp at h
  | cons c r ih =>
    rw [List.cons_append] at h ⊢
    rcases gap_step cm c with e | ⟨cm', e⟩
    · rw [e, e]
    · rw [e, List.length_cons] at h
      rw [e, e, ih cm' (by omega)]
/-- What stands before a place behind the gaps has the same gaps. -/
theorem gap_of_take {r : List UInt8} {k : Nat} (h : gap r < k) (hk : k ≤ r.length) : gap (r.take k) = gap r := by
  have e : r = r.take k ++ r.drop k := (List.take_append_drop k r).symm
  have h1 : gapC false (r.take k ++ r.drop k) < (r.take k).length := by rw [← e, List.length_take, Nat.min_eq_left hk]; exact h
  have := gap_app_back false _ _ h1
  rw [← e] at this
  exact this
theorem lx_begin : ∀ (m : Nat) (r : List UInt8) (p : Nat), r.length ≤ m → (lx r p).2.1 ≠ 0 →
    ∃ k, k < r.length ∧ (lx r p).2.2 = ((p + k : Nat) : Int) ∧ (lx (r.take k) p).2.1 = 0 ∧ ∀ q, lx (r.drop k) q = ([], (lx r p).2.1, (q : Int))
  | m, r, p, hm, h => by
    rcases lx_cases r with h1 | ⟨h1, he⟩ | ⟨h1, t, n, ht⟩
    · rw [lx_nil h1] at h
      exact absurd rfl h
    · have h0 := gap_of_drop r
      refine ⟨gap r, h1, by rw [lx_bad h1 he], ?_, fun q => ?_⟩
      · rw [lx_nil (by rw [show gap (r.take (gap r)) = gap r from gap_take false r, List.length_take]; omega)]
      · rw [lx_bad h1 he, lx_bad (r := r.drop (gap r)) (by rw [h0, List.length_drop]; omega) (by rw [h0]; exact he), h0]
        rfl
    · obtain ⟨hn, hl, hx⟩ := tok_ext ht
      rw [List.length_drop] at hl
      rw [lx_tok h1 ht] at h ⊢
      have hlen : (r.drop (gap r + n)).length < r.length := by rw [List.length_drop]; omega
      match m with
      | 0 => omega
      | m + 1 =>
        obtain ⟨k, k1, k2, k3, k4⟩ := lx_begin m _ _ (by omega) h
        rw [List.length_drop] at k1
        have hg : gap (r.take (gap r + n + k)) = gap r := gap_of_take (by omega) (by omega)
        have hd : (r.take (gap r + n + k)).drop (gap r) = (r.drop (gap r)).take n ++ (r.drop (gap r + n)).take k := by
          rw [List.drop_take, show gap r + n + k - gap r = n + k by omega, List.take_add, List.drop_drop]
        have ht2 : tok ((r.take (gap r + n + k)).drop (gap (r.take (gap r + n + k)))) = (t, n, 0) := by
          rw [hg, hd]
          refine hx _ (fun s hs => .inr ?_)
          rw [List.drop_drop]
          rw [List.head?_take] at hs
          split at hs
          · simp at hs
          · exact hs
        refine ⟨gap r + n + k, by omega, ?_, ?_, fun q => ?_⟩
        · rw [k2]
          simp only [Nat.add_assoc]
        · rw [lx_tok (by rw [hg, List.length_take]; omega) ht2, hg]
          have : (r.take (gap r + n + k)).drop (gap r + n) = (r.drop (gap r + n)).take k := by rw [List.drop_take]; congr 1; omega
          rw [this]
          exact k3
        · rw [← k4 q, List.drop_drop]
/-- What a token is: a text, or what stands there. -/
theorem tok_shape {r : List UInt8} {t : Int × List UInt8 × Int} {n : Nat} (h : tok r = (t, n, 0)) :
    (t.1 = 3 ∧ t.2.2 = 0 ∧ t.2.1.length ≤ 200 ∧ ∃ s, r = 34 :: s ∧ 1 ≤ n ∧ con s = (t.2.1, n - 1, 0)) ∨ (t.1 ≠ 3 ∧ t.2.1 = r.take n) := by
  match r with
  | [] => rw [tok] at h; exact absurd h (bad_ne (by decide))
  | c :: r =>
    by_cases h1 : Lt c = true
    · rw [tok_name h1] at h
      split at h
      · exact absurd h (bad_ne (by decide))
      · simp only [Prod.mk.injEq] at h
        obtain ⟨rfl, rfl, _⟩ := h
        exact .inr ⟨by simp, (take_tw In (c :: r)).symm⟩
    · by_cases h2 : Dg c = true
      · rw [tok_num h1 h2] at h
        split at h
        · exact absurd h (bad_ne (by decide))
        · simp only [Prod.mk.injEq] at h
          obtain ⟨rfl, rfl, _⟩ := h
          exact .inr ⟨by simp, (take_tw Dg (c :: r)).symm⟩
      · by_cases h3 : c = 34
        · subst h3
          rw [tok_text] at h
          split at h
          · rename_i he
            exact absurd h (bad_ne he)
          · rename_i he
            split at h
            · exact absurd h (bad_ne (by decide))
            · rename_i hlen
              simp only [Prod.mk.injEq] at h
              obtain ⟨rfl, rfl, _⟩ := h
              refine .inl ⟨rfl, rfl, Nat.le_of_not_lt hlen, r, rfl, by omega, ?_⟩
              have : (con r).2.2 = 0 := by simpa using he
              rw [Nat.add_sub_cancel, ← this]
        · rw [tok_sym h1 h2 h3] at h
          split at h
          · exact absurd h (bad_ne (by decide))
          · simp only [Prod.mk.injEq] at h
            obtain ⟨rfl, rfl, _⟩ := h
            exact .inr ⟨by simp, rfl⟩
/-- No token begins with a gap. -/
theorem tok_head {c : UInt8} {r : List UInt8} {t : Int × List UInt8 × Int} {n : Nat} (h : tok (c :: r) = (t, n, 0)) : c ≠ 10 ∧ c ≠ 35 ∧ c ≠ 32 ∧ c ≠ 9 := by
  have key : ∀ d : UInt8, Lt d ≠ true → Dg d ≠ true → d ≠ 34 → d ∉ syms → d ≠ 33 → d ≠ 60 → c ≠ d := by
    intro d a b e f g k q
    subst q
    rw [tok_sym a b e] at h
    have : symN (c :: r) = 0 := by
      rw [symN_cons, if_neg, if_neg f]
      rintro ⟨_, x | x⟩
      · exact g x
      · exact k x
    rw [if_pos this] at h
    exact absurd h (bad_ne (by decide))
  exact ⟨key 10 (by decide) (by decide) (by decide) (by decide) (by decide) (by decide), key 35 (by decide) (by decide) (by decide) (by decide) (by decide) (by decide), key 32 (by decide) (by decide) (by decide) (by decide) (by decide) (by decide), key 9 (by decide) (by decide) (by decide) (by decide) (by decide) (by decide)⟩
theorem tok_gap {r x : List UInt8} {t : Int × List UInt8 × Int} {n : Nat} (h : tok r = (t, n, 0)) : gap (r ++ x) = 0 ∧ gap r = 0 := by
  match r with
  | [] => rw [tok] at h; exact absurd h (bad_ne (by decide))
  | c :: r => exact ⟨gap_none (tok_head h), gap_none (tok_head h)⟩
/-- A token, and what follows it. -/
theorem lx_one {w x : List UInt8} {t : Int × List UInt8 × Int} {p : Nat} (h : tok (w ++ x) = (t, w.length, 0)) : lx (w ++ x) p = (tkOf t p :: (lx x (p + w.length)).1, (lx x (p + w.length)).2) := by
  have h0 := (tok_gap (x := []) h).2
  obtain ⟨h1, h2, _⟩ := tok_ext h
  rw [lx_tok (t := t) (n := w.length) (by rw [h0]; omega) (by rw [h0]; exact h), h0, Nat.zero_add, List.drop_left]
  rfl
/-! ### The end of a token that is no text. -/
theorem lx_split : ∀ (m : Nat) (r : List UInt8) (p : Nat) (ts : List Tk), r.length ≤ m → lx r p = (ts, 0, 0) → ∀ i (hi : i < ts.length), ts[i].kind ≠ 3 →
    ∃ k, k ≤ r.length ∧ ts[i].at_ + (ts[i].text.length : Int) = ((p + k : Nat) : Int) ∧ (∀ x, Good x → lx (r.take k ++ x) p = (ts.take (i + 1) ++ (lx x (p + k)).1, (lx x (p + k)).2)) ∧ lx (r.drop k) (p + k) = (ts.drop (i + 1), 0, 0)
  | m, r, p, ts, hm, h, i, hi, h3 => by
    rcases lx_cases r with h1 | ⟨h1, he⟩ | ⟨h1, t, n, ht⟩
    · rw [lx_nil h1] at h
      simp only [Prod.mk.injEq] at h
      obtain ⟨rfl, _⟩ := h
      simp at hi
    · rw [lx_bad h1 he] at h
      simp only [Prod.mk.injEq] at h
      exact absurd h.2.1 he
    · obtain ⟨hn, hl, hx⟩ := tok_ext ht
      rw [List.length_drop] at hl
      rw [lx_tok h1 ht] at h
      obtain ⟨us, hus⟩ : ∃ us, (lx (r.drop (gap r + n)) (p + gap r + n)).1 = us := ⟨_, rfl⟩
      rw [hus] at h
      simp only [Prod.mk.injEq] at h
      obtain ⟨rfl, h2⟩ := h
      have h4 : lx (r.drop (gap r + n)) (p + gap r + n) = (us, 0, 0) := Prod.ext hus h2
      have hlen : (r.drop (gap r + n)).length < r.length := by rw [List.length_drop]; omega
      -- what is put behind a part that ends at a token's end
      have front : ∀ (k : Nat), gap r + n + k ≤ r.length → ∀ x, (k = 0 → Good x) → lx (r.take (gap r + n + k) ++ x) p = (tkOf t (p + gap r) :: (lx ((r.drop (gap r + n)).take k ++ x) (p + gap r + n)).1, (lx ((r.drop (gap r + n)).take k ++ x) (p + gap r + n)).2) := by
        intro k hk x hg
        have e : r.take (gap r + n + k) = r.take (gap r + n) ++ (r.drop (gap r + n)).take k := List.take_add
        have hg1 : gap (r.take (gap r + n + k)) = gap r := gap_of_take (by omega) hk
        have hg2 : gap (r.take (gap r + n + k) ++ x) = gap r := by
          have := gap_app_lt false (r.take (gap r + n + k)) x (by rw [show gapC false _ = gap r from hg1, List.length_take]; omega)
          rw [show gap (r.take (gap r + n + k) ++ x) = gapC false (r.take (gap r + n + k)) from this]
          exact hg1
        have hd : (r.take (gap r + n + k) ++ x).drop (gap r) = (r.drop (gap r)).take n ++ ((r.drop (gap r + n)).take k ++ x) := by
          rw [List.drop_append_of_le_length (by rw [List.length_take]; omega), List.drop_take, show gap r + n + k - gap r = n + k by omega, List.take_add, List.drop_drop, List.append_assoc]
        have hd2 : (r.take (gap r + n + k) ++ x).drop (gap r + n) = (r.drop (gap r + n)).take k ++ x := by
          rw [List.drop_append_of_le_length (by rw [List.length_take]; omega), List.drop_take, show gap r + n + k - (gap r + n) = k by omega]
        have ht2 : tok ((r.take (gap r + n + k) ++ x).drop (gap (r.take (gap r + n + k) ++ x))) = (t, n, 0) := by
          rw [hg2, hd]
          refine hx _ (fun s hs => ?_)
          cases hc : (r.drop (gap r + n)).take k with
          | nil =>
            rw [hc] at hs
            have : k = 0 := by
              have := congrArg List.length hc
              rw [List.length_take, List.length_drop] at this
              simp at this
              omega
            exact .inl (hg this s hs)
          | cons d y =>
            rw [hc] at hs
            refine .inr ?_
            rw [List.drop_drop]
            have h5 : ((r.drop (gap r + n)).take k).head? = some s := by rw [hc]; exact hs
            rw [List.head?_take] at h5
            split at h5
            · simp at h5
            · exact h5
        rw [lx_tok (by rw [hg2, List.length_append, List.length_take]; omega) ht2, hg2, hd2]
      match i with
      | 0 =>
        have hs := (tok_shape ht).resolve_left (fun q => h3 q.1)
        refine ⟨gap r + n, by omega, ?_, fun x hx2 => ?_, ?_⟩
        · show (((p + gap r : Nat) : Int)) + (t.2.1.length : Int) = _
          rw [hs.2, List.length_take, List.length_drop]
          omega
        · have := front 0 (by omega) x (fun _ => hx2)
          simp only [Nat.add_zero, List.take_zero, List.nil_append] at this
          rw [this, ← Nat.add_assoc]
          rfl
        · rw [← Nat.add_assoc, h4]
          rfl
      | i + 1 =>
        match m with
        | 0 => omega
        | m + 1 =>
          have hi2 : i < us.length := by simpa using hi
          obtain ⟨k, k1, k2, k3, k4⟩ := lx_split m _ _ us (by omega) h4 i hi2 h3
          rw [List.length_drop] at k1
          refine ⟨gap r + n + k, by omega, ?_, fun x hx2 => ?_, ?_⟩
          · show us[i].at_ + (us[i].text.length : Int) = _
            rw [k2]
            simp only [Nat.add_assoc]
          · rw [front k (by omega) x (fun _ => hx2), k3 x hx2]
            simp only [Nat.add_assoc]
            rfl
          · rw [show p + (gap r + n + k) = p + gap r + n + k by omega, ← List.drop_drop, k4]
            rfl
end Go.Proofs.YtblgfillaenemaaDoor.L7
