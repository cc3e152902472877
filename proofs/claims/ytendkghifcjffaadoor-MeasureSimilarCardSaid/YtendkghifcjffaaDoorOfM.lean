/- What Of obeys: symmetry, bounds, equal values. -/
import Derived.Test.YtendkghifcjffaaDoorMOfF
namespace Go.Proofs.YtendkghifcjffaaDoor

theorem eq_sym (k n : Int) (x : List UInt8) (k2 n2 : Int) (y : List UInt8) : eqT k n x k2 n2 y = eqT k2 n2 y k n x := by
  have h := L2.cmpV_neg k n x k2 n2 y
  unfold eqT
  rw [h]
  by_cases e : L2.cmpV k n x k2 n2 y = 0
  · rw [if_pos e, if_pos (by omega)]
  · rw [if_neg e, if_neg (by omega)]
theorem alike_sym (a b : List UInt8) : alikeT a b = alikeT b a := by
  unfold alikeT
  rw [lev_sym b a, Nat.max_comm b.length]
theorem alike_self (a : List UInt8) : alikeT a a = (1, 1) := by
  unfold alikeT
  rw [Nat.max_self, lev_self]
  by_cases h : a.length = 0
  · rw [if_pos h]
  · rw [if_neg h, show ((a.length : Nat) : Int) - ((0 : Nat) : Int) = (a.length : Int) by omega]
    exact shr_one (by omega)
theorem alike_unit (a b : List UInt8) (ha : a.length ≤ 1000) (hb : b.length ≤ 1000) : UnitR (alikeT a b) := by
  have h := (lev_len a b).2.2
  unfold alikeT
  split
  · exact unit_one
  · exact unit_shr (by omega) (by omega) (by omega) (by omega)
theorem cmp_sym (m t : Int) (k n : Int) (x : List UInt8) (k2 n2 : Int) (y : List UInt8) : cmpT m t k n x k2 n2 y = cmpT m t k2 n2 y k n x := by
  unfold cmpT
  rw [eq_sym, near_sym n2 n, alike_sym (L3.foldT y), jac_sym (toks y), jaro_sym (L3.foldT y)]
  by_cases h1 : m = 1
  · rw [if_pos h1, if_pos h1]
  · rw [if_neg h1, if_neg h1]
    by_cases h5 : m = 5
    · rw [if_pos h5, if_pos h5]
      by_cases hk : k = k2
      · subst hk
        rfl
      · rw [if_neg (fun e => hk e.1), if_neg (fun e => hk e.1.symm)]
    · rw [if_neg h5, if_neg h5]
      by_cases hk : k = 1 ∧ k2 = 1
      · rw [if_pos hk, if_pos hk.symm]
      · rw [if_neg hk, if_neg (fun e => hk e.symm)]
theorem of_sym (m t : Int) (k n : Int) (x : List UInt8) (k2 n2 : Int) (y : List UInt8) : ofT m t k2 n2 y k n x = ofT m t k n x k2 n2 y := by
  unfold ofT
  rw [cmp_sym m t k2 n2 y]
  by_cases h1 : m < 1 ∨ 5 < m
  · rw [if_pos h1, if_pos h1]
  · rw [if_neg h1, if_neg h1]
    by_cases h2 : L2.vldB k n x = false ∨ L2.vldB k2 n2 y = false
    · rw [if_pos h2, if_pos h2.symm]
    · rw [if_neg h2, if_neg (show ¬ (L2.vldB k2 n2 y = false ∨ L2.vldB k n x = false) from fun e => h2 e.symm)]
      by_cases h5 : m = 5 ∧ okTol t = false
      · rw [if_pos h5, if_pos h5]
      rw [if_neg h5, if_neg h5]
      by_cases h3 : k = 0 ∨ k2 = 0
      · rw [if_pos h3, if_pos h3.symm]
      · rw [if_neg h3, if_neg (fun e => h3 e.symm)]
theorem vld_200 {k n : Int} {x : List UInt8} (h : L2.vldB k n x = true) : x.length ≤ 200 := by
  have := L2.vldB_true h
  unfold L2.Vld at this
  rcases this with ⟨_, _, h⟩ | ⟨_, _, h⟩ | ⟨_, _, _, h⟩ | ⟨_, _, _, h⟩ | ⟨_, _, _, h⟩ <;> first | omega | (rw [h]; simp)
theorem of_unit (m t : Int) (k n : Int) (x : List UInt8) (k2 n2 : Int) (y : List UInt8) (h : (ofT m t k n x k2 n2 y).2 = 0) : UnitR (ofT m t k n x k2 n2 y).1 := by
  unfold ofT at *
  split at h
  · cases h
  split at h
  · cases h
  split at h
  · cases h
  rename_i q1 q2 q3
  rw [if_neg q1, if_neg q2, if_neg q3]
  split at h
  · rename_i q4
    rw [if_pos q4]
    exact unit_nil
  rename_i q4
  rw [if_neg q4]
  have va : L2.vldB k n x = true := by
    cases e : L2.vldB k n x
    · exact absurd (Or.inl e) q2
    · rfl
  have vb : L2.vldB k2 n2 y = true := by
    cases e : L2.vldB k2 n2 y
    · exact absurd (Or.inr e) q2
    · rfl
  have l1 := L3.foldT_len x
  have l2 := L3.foldT_len y
  have l3 := vld_200 va
  have l4 := vld_200 vb
  have l5 : (toks x).length ≤ (L3.words x).length := L3.sortD_len (L3.words x)
  have l6 : (toks y).length ≤ (L3.words y).length := L3.sortD_len (L3.words y)
  have l7 := L3.words_len x
  have l8 := L3.words_len y
  cases e : cmpT m t k n x k2 n2 y with
  | none => rw [e] at h; cases h
  | some r =>
    show UnitR r
    unfold cmpT at e
    split at e
    · cases e
      unfold eqT
      split
      · exact unit_one
      · exact unit_nil
    split at e
    · split at e
      · cases e
        exact near_unit _ _ _
      · cases e
    split at e
    · cases e
      split
      · exact alike_unit _ _ (by omega) (by omega)
      · split
        · exact jac_unit _ _ (by omega)
        · exact jaro_unit _ _
    · cases e
theorem of_self (m t : Int) (k n : Int) (x : List UInt8) (h : (ofT m t k n x k n x).2 = 0) (hk : k ≠ 0) : (ofT m t k n x k n x).1 = (1, 1) := by
  unfold ofT at *
  split at h
  · cases h
  split at h
  · cases h
  split at h
  · cases h
  rename_i q1 q2 q3
  rw [if_neg q1, if_neg q2, if_neg q3]
  rw [if_neg (by omega)] at h ⊢
  have va : L2.vldB k n x = true := by
    cases e : L2.vldB k n x
    · exact absurd (Or.inl e) q2
    · rfl
  cases e : cmpT m t k n x k n x with
  | none => rw [e] at h; cases h
  | some r =>
    show r = (1, 1)
    unfold cmpT at e
    split at e
    · cases e
      unfold eqT
      rw [if_pos (L2.cmpV_self _ _ _)]
    split at e
    · split at e
      · cases e
        rename_i q5 _
        rw [near_self]
        cases w : okTol t
        · exact absurd ⟨q5, w⟩ q3
        · rfl
      · cases e
    split at e
    · cases e
      split
      · exact alike_self _
      · split
        · exact jac_self _
        · have l1 := L3.foldT_len x
          have l3 := vld_200 va
          exact (jaro_one _ _ (by omega) (by omega)).2 rfl
    · cases e
end Go.Proofs.YtendkghifcjffaaDoor
