/- The tokens of a text, one behind the other: texts that are put together, taken apart. -/
import Derived.Test.YtblgfillaenemaaDoorLxTok
namespace Go.Proofs.YtblgfillaenemaaDoor.L7

theorem raw_fuel : ∀ (m f f' : Nat) (r : List UInt8) (p : Nat), r.length ≤ m → r.length < f → r.length < f' → raw f r p = raw f' r p
  | m, 0, _, r, p, _, h, _ => absurd h (by omega)
  | m, _, 0, r, p, _, _, h => absurd h (by omega)
  | m, f + 1, f' + 1, r, p, hm, h1, h2 => by
    by_cases e1 : r.drop (gap r) = []
    · rw [raw, raw, if_pos e1, if_pos e1]
    · by_cases e2 : (tok (r.drop (gap r))).2.2 ≠ 0
      · rw [raw, raw, if_neg e1, if_neg e1, if_pos e2, if_pos e2]
      · rw [raw, raw, if_neg e1, if_neg e1, if_neg e2, if_neg e2]
        have e3 : tok (r.drop (gap r)) = ((tok (r.drop (gap r))).1, (tok (r.drop (gap r))).2.1, 0) := by
          have : (tok (r.drop (gap r))).2.2 = 0 := by simpa using e2
          rw [← this]
        obtain ⟨hn, hl, _⟩ := tok_ext e3
        rw [List.length_drop] at hl
        have hlen : ((r.drop (gap r)).drop (tok (r.drop (gap r))).2.1).length < r.length := by
          rw [List.length_drop, List.length_drop]
          omega
        match m with
        | 0 => omega
        | m + 1 => rw [raw_fuel m f f' _ _ (by omega) (by omega) (by omega)]
/-- The tokens of a text that stands at an offset. -/
def lx (r : List UInt8) (p : Nat) : List Tk × Int × Int := raw (r.length + 1) r p
theorem lx_nil {r : List UInt8} {p : Nat} (h : gap r = r.length) : lx r p = ([], 0, 0) := by
  rw [lx, raw, if_pos (by rw [h, List.drop_length])]
theorem lx_bad {r : List UInt8} {p : Nat} (h : gap r < r.length) (he : (tok (r.drop (gap r))).2.2 ≠ 0) : lx r p = ([], (tok (r.drop (gap r))).2.2, ((p + gap r : Nat) : Int)) := by
  rw [lx, raw, if_neg (by rw [List.drop_eq_nil_iff]; omega), if_pos he]
theorem lx_tok {r : List UInt8} {p : Nat} {t : Int × List UInt8 × Int} {n : Nat} (h : gap r < r.length) (ht : tok (r.drop (gap r)) = (t, n, 0)) :
    lx r p = (tkOf t (p + gap r) :: (lx (r.drop (gap r + n)) (p + gap r + n)).1, (lx (r.drop (gap r + n)) (p + gap r + n)).2) := by
  obtain ⟨hn, hl, _⟩ := tok_ext ht
  rw [List.length_drop] at hl
  rw [lx, raw, if_neg (by rw [List.drop_eq_nil_iff]; omega), if_neg (by rw [ht]; simp), ht]
  simp only [List.drop_drop]
  rw [raw_fuel r.length r.length ((r.drop (gap r + n)).length + 1) _ _ (by rw [List.length_drop]; omega) (by rw [List.length_drop]; omega) (by omega)]
  rfl
/-- A text is all gaps, or begins, behind its gaps, with something that is no token, or with a token. -/
theorem lx_cases (r : List UInt8) : gap r = r.length ∨ (gap r < r.length ∧ (tok (r.drop (gap r))).2.2 ≠ 0) ∨ (gap r < r.length ∧ ∃ t n, tok (r.drop (gap r)) = (t, n, 0)) := by
  have h := gapC_le false r
  by_cases h1 : gap r = r.length
  · exact .inl h1
  · by_cases h2 : (tok (r.drop (gap r))).2.2 ≠ 0
    · exact .inr (.inl ⟨by unfold gap at *; omega, h2⟩)
    · refine .inr (.inr ⟨by unfold gap at *; omega, (tok (r.drop (gap r))).1, (tok (r.drop (gap r))).2.1, ?_⟩)
      have : (tok (r.drop (gap r))).2.2 = 0 := by simpa using h2
      rw [← this]
theorem gap_of_drop (r : List UInt8) : gap (r.drop (gap r)) = 0 := by
  cases h : r.drop (gap r) with
  | nil => simp [gapC]
  | cons c x => exact gap_none (gap_drop r c x h)
theorem lx_gap (r : List UInt8) (p : Nat) : lx r p = lx (r.drop (gap r)) (p + gap r) := by
  have h0 := gap_of_drop r
  have hl := gapC_le false r
  rcases lx_cases r with h | ⟨h, he⟩ | ⟨h, t, n, ht⟩
  · rw [lx_nil h, lx_nil (by rw [h0, List.length_drop]; unfold gap at *; omega)]
  · rw [lx_bad h he, lx_bad (r := r.drop (gap r)) (by rw [h0, List.length_drop]; unfold gap at *; omega) (by rw [h0]; exact he), h0]
    rfl
  · rw [lx_tok h ht, lx_tok (r := r.drop (gap r)) (t := t) (n := n) (by rw [h0, List.length_drop]; unfold gap at *; omega) (by rw [h0]; exact ht), h0]
    simp only [List.drop_drop, Nat.zero_add, Nat.add_zero]
/-! ### Texts, one behind the other. -/
def Good (x : List UInt8) : Prop := ∀ s, x.head? = some s → In s = false ∧ s ≠ 61
theorem fol_app {r x : List UInt8} {n : Nat} (hx : Good x) : Fol r n (r.drop n ++ x) := fun s hs => by
  cases h : r.drop n with
  | nil =>
    rw [h] at hs
    exact .inl (hx s hs)
  | cons d y =>
    rw [h] at hs
    exact .inr hs
theorem tok_app {r x : List UInt8} {t : Int × List UInt8 × Int} {n : Nat} (h : tok r = (t, n, 0)) (hx : Good x) : tok (r ++ x) = (t, n, 0) := by
  have h1 := (tok_ext h).2.2 _ (fol_app (r := r) (n := n) hx)
  rwa [← List.append_assoc, List.take_append_drop] at h1
theorem lx_app : ∀ (m : Nat) (r x : List UInt8) (p : Nat) (ts : List Tk), r.length ≤ m → lx r p = (ts, 0, 0) → Good x → (∃ n, ∀ cm, gapC cm x = n) →
    lx (r ++ x) p = (ts ++ (lx x (p + r.length)).1, (lx x (p + r.length)).2)
  | m, r, x, p, ts, hm, h, hx, ⟨k, hk⟩ => by
    rcases lx_cases r with h1 | ⟨h1, he⟩ | ⟨h1, t, n, ht⟩
    · rw [lx_nil h1] at h
      simp only [Prod.mk.injEq] at h
      obtain ⟨rfl, _⟩ := h
      have e := gap_app_all false r x k h1 hk
      rw [lx_gap (r ++ x) p, lx_gap x (p + r.length), show gap (r ++ x) = r.length + k from e, show gap x = k from hk false, List.drop_append, ← Nat.add_assoc]
      rw [List.drop_eq_nil_of_le (by omega), Nat.add_sub_cancel_left]
      simp
    · rw [lx_bad h1 he] at h
      simp only [Prod.mk.injEq] at h
      exact absurd h.2.1 he
    · obtain ⟨hn, hl, _⟩ := tok_ext ht
      rw [List.length_drop] at hl
      rw [lx_tok h1 ht] at h
      have e := gap_app_lt false r x h1
      have e2 : (r ++ x).drop (gap r) = r.drop (gap r) ++ x := by rw [List.drop_append_of_le_length (by omega)]
      have ht2 : tok ((r ++ x).drop (gap (r ++ x))) = (t, n, 0) := by
        rw [show gap (r ++ x) = gap r from e, e2]
        exact tok_app ht hx
      obtain ⟨us, hus⟩ : ∃ us, (lx (r.drop (gap r + n)) (p + gap r + n)).1 = us := ⟨_, rfl⟩
      rw [hus] at h
      simp only [Prod.mk.injEq] at h
      obtain ⟨rfl, h2⟩ := h
      have h3 : lx (r.drop (gap r + n)) (p + gap r + n) = (us, 0, 0) := Prod.ext hus h2
      have hlen : (r.drop (gap r + n)).length < r.length := by rw [List.length_drop]; omega
      rw [lx_tok (by rw [show gap (r ++ x) = gap r from e, List.length_append]; omega) ht2, show gap (r ++ x) = gap r from e]
      match m with
      | 0 => omega
      | m + 1 =>
        have ih := lx_app m _ x _ _ (by omega) h3 hx ⟨k, hk⟩
        rw [show (r ++ x).drop (gap r + n) = r.drop (gap r + n) ++ x from by rw [List.drop_append_of_le_length (by omega)], ih, List.length_drop,
          show p + gap r + n + (r.length - (gap r + n)) = p + r.length from by omega]
        rfl
end Go.Proofs.YtblgfillaenemaaDoor.L7
