/- The laws of tokens in plain words: shifted texts, texts with an error, beginnings, ends of tokens, tokens that are written again. -/
import Derived.Test.YtblgfillaenemaaDoorLxRaw
namespace Go.Proofs.YtblgfillaenemaaDoor.L7

/-- A token that stands further on. -/
def sh (q : Nat) (t : Tk) : Tk := { t with at_ := t.at_ + (q : Int) }
theorem lx_shift : ∀ (m : Nat) (r : List UInt8) (p q : Nat), r.length ≤ m → lx r (p + q) = ((lx r p).1.map (sh q), (lx r p).2.1, if (lx r p).2.1 = 0 then 0 else (lx r p).2.2 + (q : Int))
  | m, r, p, q, hm => by
    rcases lx_cases r with h | ⟨h, he⟩ | ⟨h, t, n, ht⟩
    · rw [lx_nil h, lx_nil h]
      simp
    · rw [lx_bad h he, lx_bad h he]
      simp only [List.map_nil, if_neg he]
      rw [show ((p + q + gap r : Nat) : Int) = ((p + gap r : Nat) : Int) + (q : Int) by omega]
    · obtain ⟨hn, hl, _⟩ := tok_ext ht
      rw [List.length_drop] at hl
      rw [lx_tok h ht, lx_tok h ht]
      have hlen : (r.drop (gap r + n)).length < r.length := by rw [List.length_drop]; omega
      match m with
      | 0 => omega
      | m + 1 =>
        have ih := lx_shift m (r.drop (gap r + n)) (p + gap r + n) q (by omega)
        rw [show p + q + gap r + n = p + gap r + n + q by omega, ih]
        have e : tkOf t (p + q + gap r) = sh q (tkOf t (p + gap r)) := by
          unfold tkOf sh
          simp only [Tk.mk.injEq, true_and]
          omega
        rw [e]
        rfl
/-- Each token takes a byte. -/
theorem lx_count : ∀ (m : Nat) (r : List UInt8) (p : Nat), r.length ≤ m → (lx r p).1.length ≤ r.length
  | m, r, p, hm => by
    rcases lx_cases r with h | ⟨h, he⟩ | ⟨h, t, n, ht⟩
    · rw [lx_nil h]; simp
    · rw [lx_bad h he]; simp
    · obtain ⟨hn, hl, _⟩ := tok_ext ht
      rw [List.length_drop] at hl
      rw [lx_tok h ht]
      have hlen : (r.drop (gap r + n)).length < r.length := by rw [List.length_drop]; omega
      match m with
      | 0 => omega
      | m + 1 =>
        have ih := lx_count m (r.drop (gap r + n)) (p + gap r + n) (by omega)
        rw [List.length_cons]
        omega
theorem lexT_short {t : List UInt8} (h : t.length ≤ 5000) : lexT t = if (lx t 0).2.1 ≠ 0 then ([], (lx t 0).2) else ((lx t 0).1, 0, 0) := by
  have hc := lx_count t.length t 0 (Nat.le_refl _)
  unfold lexT
  rw [if_neg (by omega)]
  have e : (raw (t.length + 1) t 0).1[5000]? = none := List.getElem?_eq_none (by unfold lx at hc; omega)
  rw [e]
  rfl
/-- With no error the offset is 0. -/
theorem lx_zero : ∀ (m : Nat) (r : List UInt8) (p : Nat), r.length ≤ m → (lx r p).2.1 = 0 → (lx r p).2.2 = 0
  | m, r, p, hm, h0 => by
    rcases lx_cases r with h | ⟨h, he⟩ | ⟨h, t, n, ht⟩
    · rw [lx_nil h]
    · rw [lx_bad h he] at h0
      exact absurd h0 he
    · obtain ⟨hn, hl, _⟩ := tok_ext ht
      rw [List.length_drop] at hl
      rw [lx_tok h ht] at h0 ⊢
      have hlen : (r.drop (gap r + n)).length < r.length := by rw [List.length_drop]; omega
      match m with
      | 0 => omega
      | m + 1 => exact lx_zero m _ _ (by omega) h0
theorem lx_ok {r : List UInt8} {p : Nat} (h : (lx r p).2.1 = 0) : lx r p = ((lx r p).1, 0, 0) := Prod.ext rfl (Prod.ext h (lx_zero r.length r p (Nat.le_refl _) h))

/-! ### An error stays an error before a line feed. -/
theorem tw_nl (p : UInt8 → Bool) (hp : p 10 = false) (l b : List UInt8) : (l ++ 10 :: b).takeWhile p = l.takeWhile p ∧ (l ++ 10 :: b).dropWhile p = l.dropWhile p ++ 10 :: b := by
  induction l with
  | nil => simp [hp]
  | cons c r ih =>
    rw [List.cons_append]
    by_cases hc : p c = true
    · rw [List.takeWhile_cons_of_pos hc, List.takeWhile_cons_of_pos hc, List.dropWhile_cons_of_pos hc, List.dropWhile_cons_of_pos hc, ih.1, ih.2]
      exact ⟨rfl, rfl⟩
    · rw [List.takeWhile_cons_of_neg hc, List.takeWhile_cons_of_neg hc, List.dropWhile_cons_of_neg hc, List.dropWhile_cons_of_neg hc]
      exact ⟨rfl, rfl⟩
theorem con_nl_bad : ∀ (m : Nat) (l b : List UInt8), l.length ≤ m → (con l).2.2 ≠ 0 → (con (l ++ 10 :: b)).2.2 ≠ 0
  | m, l, b, hm, h => by
    match l with
    | [] =>
      cases b with
      | nil => decide
      | cons d b =>
        rw [List.nil_append, con, if_neg (by decide), if_pos rfl]
        simp
    | c :: r =>
      by_cases h1 : c = 34
      · subst h1
        rw [con_end] at h
        simp at h
      · by_cases h2 : c = 10
        · subst h2
          rw [List.cons_append]
          cases hr : r ++ 10 :: b with
          | nil => simp at hr
          | cons d x =>
            rw [con, if_neg h1, if_pos rfl]
            simp
        · by_cases h3 : c = 92
          · subst h3
            match r with
            | [] =>
              show (con (92 :: 10 :: b)).2.2 ≠ 0
              rw [con, if_neg (by decide), if_neg (by decide), if_pos rfl, if_neg (by decide)]
              simp
            | d :: r =>
              rw [List.cons_append, List.cons_append]
              by_cases h4 : d = 34 ∨ d = 92 ∨ d = 110
              · rw [con_esc h4] at h ⊢
                match m with
                | 0 => simp at hm
                | m + 1 => exact con_nl_bad m r b (by simp at hm; omega) h
              · rw [con, if_neg (by decide), if_neg (by decide), if_pos rfl, if_neg h4]
                simp
          · rw [List.cons_append, con_plain h1 h2 h3 (by simp)]
            match m with
            | 0 => simp at hm
            | m + 1 =>
              refine con_nl_bad m r b (by simp at hm; omega) ?_
              by_cases hr : r = []
              · subst hr
                rw [con]
                simp
              · rw [con_plain h1 h2 h3 hr] at h
                exact h
theorem in10 : In 10 = false := by decide
theorem dg10 : Dg 10 = false := by decide
theorem bad_snd (e : Int) : (bad e).2.2 = e := rfl
theorem tok_nl_bad {r : List UInt8} (b : List UInt8) (hr : r ≠ []) (h : (tok r).2.2 ≠ 0) : (tok (r ++ 10 :: b)).2.2 ≠ 0 := by
  match r with
  | [] => exact absurd rfl hr
  | c :: r =>
    have a1 := tw_nl In in10 (c :: r) b
    have a2 := tw_nl Dg dg10 (c :: r) b
    rw [List.cons_append] at a1 a2 ⊢
    by_cases h1 : Lt c = true
    · rw [tok_name h1] at h ⊢
      rw [a1.1]
      split at h
      · rename_i q
        rw [if_pos q, bad_snd]
        decide
      · simp at h
    · by_cases h2 : Dg c = true
      · rw [tok_num h1 h2] at h ⊢
        rw [a2.1, a2.2]
        split at h
        · rename_i q
          rw [if_pos, bad_snd]
          · decide
          · rcases q with q | ⟨s, q1, q2⟩
            · exact .inl q
            · refine .inr ⟨s, ?_, q2⟩
              cases hd : (c :: r).dropWhile Dg with
              | nil => rw [hd] at q1; simp at q1
              | cons d y =>
                rw [hd] at q1
                exact q1
        · simp at h
      · by_cases h3 : c = 34
        · subst h3
          rw [tok_text] at h ⊢
          by_cases he : (con r).2.2 = 0
          · rw [if_neg (by simpa using he)] at h
            have hc : con r = ((con r).1, (con r).2.1, 0) := by rw [← he]
            have k := (con_ext r.length r _ _ (Nat.le_refl _) hc).2.2 (r.drop (con r).2.1 ++ 10 :: b)
            rw [← List.append_assoc, List.take_append_drop] at k
            split at h
            · rename_i q
              rw [k]
              simp only
              rw [if_neg (by simp), if_pos q, bad_snd]
              decide
            · simp at h
          · have := con_nl_bad r.length r b (Nat.le_refl _) he
            rw [if_pos this, bad_snd]
            exact this
        · rw [tok_sym h1 h2 h3] at h ⊢
          split at h
          · rename_i q
            have e : symN (c :: (r ++ 10 :: b)) = 0 := by
              rw [symN_cons] at q ⊢
              split at q
              · simp at q
              · rename_i q1
                split at q
                · simp at q
                · rename_i q2
                  rw [if_neg, if_neg q2]
                  rintro ⟨e1, e2⟩
                  cases r with
                  | nil => simp at e1
                  | cons d r => exact q1 ⟨e1, e2⟩
            rw [if_pos e, bad_snd]
            decide
          · simp at h
theorem lx_nl_bad : ∀ (m : Nat) (r b : List UInt8) (p : Nat), r.length ≤ m → (lx r p).2.1 ≠ 0 → (lx (r ++ 10 :: b) p).2.1 ≠ 0
  | m, r, b, p, hm, h => by
    rcases lx_cases r with h1 | ⟨h1, he⟩ | ⟨h1, t, n, ht⟩
    · rw [lx_nil h1] at h
      exact absurd rfl h
    · have e := gap_app_lt false r (10 :: b) h1
      have e2 : (r ++ 10 :: b).drop (gap r) = r.drop (gap r) ++ 10 :: b := by rw [List.drop_append_of_le_length (by omega)]
      have h3 := tok_nl_bad b (by rw [ne_eq, List.drop_eq_nil_iff]; omega) he
      rw [lx_bad (by rw [show gap (r ++ 10 :: b) = gap r from e, List.length_append]; omega) (by rw [show gap (r ++ 10 :: b) = gap r from e, e2]; exact h3), show gap (r ++ 10 :: b) = gap r from e, e2]
      exact h3
    · obtain ⟨hn, hl, _⟩ := tok_ext ht
      rw [List.length_drop] at hl
      have e := gap_app_lt false r (10 :: b) h1
      have e2 : (r ++ 10 :: b).drop (gap r) = r.drop (gap r) ++ 10 :: b := by rw [List.drop_append_of_le_length (by omega)]
      have ht2 : tok ((r ++ 10 :: b).drop (gap (r ++ 10 :: b))) = (t, n, 0) := by
        rw [show gap (r ++ 10 :: b) = gap r from e, e2]
        exact tok_app ht (fun s hs => by simp at hs; subst hs; decide)
      rw [lx_tok h1 ht] at h
      rw [lx_tok (by rw [show gap (r ++ 10 :: b) = gap r from e, List.length_append]; omega) ht2, show gap (r ++ 10 :: b) = gap r from e,
        show (r ++ 10 :: b).drop (gap r + n) = r.drop (gap r + n) ++ 10 :: b from by rw [List.drop_append_of_le_length (by omega)]]
      have hlen : (r.drop (gap r + n)).length < r.length := by rw [List.length_drop]; omega
      match m with
      | 0 => omega
      | m + 1 => exact lx_nl_bad m _ b _ (by omega) h
end Go.Proofs.YtblgfillaenemaaDoor.L7
