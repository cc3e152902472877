/- Where tokens stand. -/
import Derived.Test.YtblgfillaenemaaDoorLxLaw3
namespace Go.Proofs.YtblgfillaenemaaDoor.L7

theorem lx_at : ∀ (m : Nat) (r : List UInt8) (p : Nat), r.length ≤ m → ∀ t ∈ (lx r p).1, (p : Int) ≤ t.at_ ∧ t.at_ ≤ ((p + r.length : Nat) : Int)
  | m, r, p, hm => by
    rcases lx_cases r with h | ⟨h, he⟩ | ⟨h, t, n, ht⟩
    · rw [lx_nil h]; simp
    · rw [lx_bad h he]; simp
    · obtain ⟨hn, hl, _⟩ := tok_ext ht
      rw [List.length_drop] at hl
      rw [lx_tok h ht]
      have hlen : (r.drop (gap r + n)).length < r.length := by rw [List.length_drop]; omega
      match m with
      | 0 => omega
      | m + 1 =>
        intro u hu
        rcases List.mem_cons.1 hu with rfl | hu
        · show (p : Int) ≤ ((p + gap r : Nat) : Int) ∧ ((p + gap r : Nat) : Int) ≤ _
          omega
        · have ih := lx_at m (r.drop (gap r + n)) (p + gap r + n) (by omega) u hu
          rw [List.length_drop] at ih
          omega
/-- What is written of a content is as long as what stood there. -/
theorem con_len : ∀ (m : Nat) (l s : List UInt8) (n : Nat), l.length ≤ m → con l = (s, n, 0) → (s.flatMap esc7).length + 1 = n
  | 0, l, s, n, hm, h => by
    have : l = [] := List.length_eq_zero_iff.1 (by omega)
    subst this
    rw [con] at h
    simp at h
  | m + 1, l, s, n, hm, h => by
    rcases con_cases h with ⟨r, rfl, rfl, rfl⟩ | ⟨d, r, s', n', rfl, hd, hr, rfl, rfl⟩ | ⟨c, r, s', n', rfl, h1, h2, h3, hr, rfl, rfl⟩
    · simp
    · have ih := con_len m r s' n' (by simp at hm; omega) hr
      rw [List.flatMap_cons, List.length_append]
      have : (esc7 (if d = 110 then 10 else d)).length = 2 := by
        rcases hd with rfl | rfl | rfl <;> rfl
      omega
    · have ih := con_len m r s' n' (by simp at hm; omega) hr
      rw [List.flatMap_cons, List.length_append]
      have : (esc7 c).length = 1 := by
        unfold esc7
        rw [if_neg (fun q => q.elim h1 h3), if_neg h2]
        rfl
      omega
theorem wr7_len {r : List UInt8} {t : Int × List UInt8 × Int} {n p : Nat} (h : tok r = (t, n, 0)) : (wr7 (tkOf t p)).length ≤ n := by
  have he := tok_ext h
  rcases tok_shape h with ⟨h1, _, _, s, _, h4, h5⟩ | ⟨h1, h2⟩
  · unfold wr7
    rw [if_pos (show (tkOf t p).kind = 3 from h1)]
    have := con_len s.length s _ _ (Nat.le_refl _) h5
    show (34 :: (t.2.1.flatMap esc7 ++ [34])).length ≤ n
    rw [List.length_cons, List.length_append, List.length_singleton]
    omega
  · unfold wr7
    rw [if_neg (show ¬ (tkOf t p).kind = 3 from h1)]
    show t.2.1.length ≤ n
    rw [h2, List.length_take]
    omega
theorem wr_total : ∀ (m : Nat) (r : List UInt8) (p : Nat) (ts : List Tk), r.length ≤ m → lx r p = (ts, 0, 0) → (wrAll ts).length ≤ 2 * r.length
  | m, r, p, ts, hm, h => by
    rcases lx_cases r with h1 | ⟨h1, h2⟩ | ⟨h1, t, n, ht⟩
    · rw [lx_nil h1] at h
      simp only [Prod.mk.injEq] at h
      obtain ⟨rfl, _⟩ := h
      simp [wrAll]
    · rw [lx_bad h1 h2] at h
      simp only [Prod.mk.injEq] at h
      exact absurd h.2.1 h2
    · obtain ⟨hn, hl, _⟩ := tok_ext ht
      rw [List.length_drop] at hl
      rw [lx_tok h1 ht] at h
      obtain ⟨us, hus⟩ : ∃ us, (lx (r.drop (gap r + n)) (p + gap r + n)).1 = us := ⟨_, rfl⟩
      rw [hus] at h
      simp only [Prod.mk.injEq] at h
      obtain ⟨rfl, h2⟩ := h
      have hlen : (r.drop (gap r + n)).length < r.length := by rw [List.length_drop]; omega
      have hw := wr7_len (p := p + gap r) ht
      match m with
      | 0 => omega
      | m + 1 =>
        have ih := wr_total m _ _ us (by omega) (Prod.ext hus h2)
        rw [List.length_drop] at ih
        show ((tkOf t (p + gap r) :: us).flatMap fun t => wr7 t ++ [32]).length ≤ _
        rw [List.flatMap_cons, List.length_append, List.length_append, List.length_singleton]
        have e : (us.flatMap fun t => wr7 t ++ [32]).length = (wrAll us).length := rfl
        rw [e]
        omega
theorem wrAll_take (ts : List Tk) (i : Nat) (hi : i < ts.length) : wrAll (ts.take (i + 1)) = wrAll (ts.take i) ++ (wr7 ts[i] ++ [32]) := by
  unfold wrAll
  rw [List.take_succ_eq_append_getElem hi, List.flatMap_append]
  simp
theorem wrAll_le (ts : List Tk) (i : Nat) : (wrAll (ts.take i)).length ≤ (wrAll ts).length := by
  have h : wrAll ts = wrAll (ts.take i) ++ wrAll (ts.drop i) := by
    unfold wrAll
    rw [← List.flatMap_append, List.take_append_drop]
  rw [h, List.length_append]
  omega
end Go.Proofs.YtblgfillaenemaaDoor.L7
