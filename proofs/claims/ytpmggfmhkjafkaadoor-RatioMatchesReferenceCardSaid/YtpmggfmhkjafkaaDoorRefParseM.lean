/- The plain mathematics of the reference's Parse, and its contract as a whole. -/
import Derived.Test.YtpmggfmhkjafkaaDoorRefParse
import Derived.Test.YtpmggfmhkjafkaaDoorTextM
namespace Go.Proofs.YtpmggfmhkjafkaaDoor
open Go.RowKit

theorem fold_app (l : List UInt8) (c : UInt8) : ∀ a, numFold a (l ++ [c]) = 10 * numFold a l + (c.toNat - 48) := by
  induction l with
  | nil => intro a; rfl
  | cons x l ih => intro a; exact ih _

theorem fold_dec (u : Nat) : numFold 0 (Lib.decDigits u) = u := by
  induction u using Nat.strongRecOn with
  | _ u ih =>
    rw [Lib.decDigits]
    split
    · rename_i h
      show 10 * 0 + ((UInt8.ofNat (48 + u)).toNat - 48) = u
      rw [ofNat_dig h]; omega
    · rename_i h
      rw [fold_app, ih (u / 10) (by omega), ofNat_dig (by omega)]
      omega

theorem dec_short (k : Nat) : ∀ u, u < 10 ^ (k + 1) → (Lib.decDigits u).length ≤ k + 1 := by
  induction k with
  | zero => intro u h; rw [Lib.decDigits, dif_pos (by simpa using h)]; simp
  | succ k ih =>
    intro u h
    rw [Lib.decDigits]
    split
    · simp
    · rw [List.length_append, List.length_singleton]
      have := ih (u / 10) (by rw [Nat.pow_succ] at h; omega)
      omega

theorem num_dec (u : Nat) (h : u ≤ 1000000000) : numF (Lib.decDigits u) = u := by
  have l := dec_short 9 u (by omega)
  have a : (Lib.decDigits u).all isDig = true := by
    rw [List.all_eq_true]
    intro c hc
    exact decide_eq_true (dec_digs u c hc)
  have l2 : (Lib.decDigits u).length ≤ 11 := by omega
  unfold numF
  rw [a, decide_eq_true l2, fold_dec]
  rfl

/-- What the number ahead of a slash seems to be. -/
theorem num_neg {n : Int} {y : List UInt8} (h0 : -1000000000 ≤ n) (h1 : n ≤ 1000000000) (h : Lib.itoa n = 45 :: y) : (-(numF y : Int)) = n := by
  by_cases hn : n < 0
  · rw [itoa_neg hn] at h
    injection h with _ h
    rw [← h, num_dec _ (by omega)]
    omega
  · rw [itoa_pos (by omega)] at h
    have := dec_digs n.natAbs 45 (by rw [h]; simp)
    unfold IsDig at this
    simp at this

theorem num_pos {n : Int} {c : UInt8} {y : List UInt8} (h0 : -1000000000 ≤ n) (h1 : n ≤ 1000000000) (hc : c ≠ 45) (h : Lib.itoa n = c :: y) : (numF (c :: y) : Int) = n := by
  by_cases hn : n < 0
  · rw [itoa_neg hn] at h
    injection h with h _
    exact absurd h.symm hc
  · rw [itoa_pos (by omega)] at h
    rw [← h, num_dec _ (by omega)]
    omega

theorem txt_cut {n d : Int} {b r : List UInt8} (hv : Vld n d) (hb : ∀ x ∈ b, x ≠ 47) (h : txt n d = b ++ 47 :: r) : Lib.itoa n = b ∧ Lib.itoa d = r := by
  have ht : txt n d = if d = 1 then Lib.itoa n else Lib.itoa n ++ [47] ++ Lib.itoa d := by
    unfold txt; rw [vldB_mk hv, if_pos rfl]
  have e1 := cut_at b r hb
  rw [List.append_assoc, List.singleton_append, ← h, ht] at e1
  split at e1
  · rw [cut_no _ (itoa_noslash n)] at e1
    simp at e1
  · rw [cut_at _ _ (itoa_noslash n)] at e1
    simp at e1
    exact e1

theorem txt_whole {n d : Int} {b : List UInt8} (hv : Vld n d) (hb : ∀ x ∈ b, x ≠ 47) (h : txt n d = b) : Lib.itoa n = b ∧ d = 1 := by
  have ht : txt n d = if d = 1 then Lib.itoa n else Lib.itoa n ++ [47] ++ Lib.itoa d := by
    unfold txt; rw [vldB_mk hv, if_pos rfl]
  rw [h] at ht
  split at ht
  · rename_i hd; exact ⟨ht.symm, hd⟩
  · exact absurd rfl (hb 47 (by rw [ht]; simp))

theorem parse_want (l : List UInt8) (N D : Int) (hne : l ≠ []) (hv : ∀ n d, Vld n d → txt n d = l → N = n ∧ D = d) : parse l = if txt N D = l then (N, D, 0) else (0, 0, 6) := by
  by_cases h : txt N D = l
  · rw [if_pos h]
    cases v : vldB N D
    · rw [txt_bad v] at h; exact absurd h.symm hne
    · rw [← h]; exact parse_txt (vldB_true v)
  · rw [if_neg h]
    rcases parse_cases l with e | ⟨n, d, _, v, e2⟩
    · exact e
    · obtain ⟨rfl, rfl⟩ := hv n d v e2
      exact absurd e2 h

/-- The reference's Parse, for every text of at most 1000 bytes. -/
theorem refparse_any (l : List UInt8) (hl : l.length ≤ 1000) (w : World) :
    Calls Tryd.prog 14 #[.string ⟨l.toArray⟩] w (RatioPost w (parse l)) := by
  by_cases hm : (47 : UInt8) ∈ l
  · obtain ⟨b, r, h, hb⟩ := List.eq_append_cons_of_mem hm
    have hb' : ∀ x ∈ b, x ≠ 47 := fun x hx e => hb (e ▸ hx)
    have hne : l ≠ [] := by rw [h]; simp
    have vd : ∀ n d, Vld n d → txt n d = l → Lib.itoa n = b ∧ (numF r : Int) = d := by
      intro n d v e
      obtain ⟨e1, e2⟩ := txt_cut v hb' (e.trans h)
      obtain ⟨d1, d2, _, _, _⟩ := v
      refine ⟨e1, ?_⟩
      rw [← e2, itoa_pos (by omega), num_dec _ (by omega)]
      omega
    cases b with
    | nil =>
      rw [parse_want l (numF [] : Int) (numF r : Int) hne (fun n d v e => absurd (vd n d v e).1 (itoa_ne n))]
      by_cases hq : txt (numF [] : Int) (numF r : Int) = l
      · rw [if_pos hq]; exact refp_cut_emp_eq r l hl h hb' _ _ rfl rfl _ rfl hq w
      · rw [if_neg hq]; exact refp_cut_emp_ne r l hl h hb' _ _ rfl rfl _ rfl hq w
    | cons c y =>
      by_cases hc : c = 45
      · subst hc
        rw [parse_want l (-(numF y : Int)) (numF r : Int) hne (fun n d v e => ⟨num_neg v.2.2.1 v.2.2.2.1 (vd n d v e).1, (vd n d v e).2⟩)]
        by_cases hq : txt (-(numF y : Int)) (numF r : Int) = l
        · rw [if_pos hq]; exact refp_cut_neg_eq y r l hl h hb' _ _ rfl rfl _ rfl hq w
        · rw [if_neg hq]; exact refp_cut_neg_ne y r l hl h hb' _ _ rfl rfl _ rfl hq w
      · rw [parse_want l (numF (c :: y) : Int) (numF r : Int) hne (fun n d v e => ⟨num_pos v.2.2.1 v.2.2.2.1 hc (vd n d v e).1, (vd n d v e).2⟩)]
        by_cases hq : txt (numF (c :: y) : Int) (numF r : Int) = l
        · rw [if_pos hq]; exact refp_cut_pos_eq c y hc r l hl h hb' _ _ rfl rfl _ rfl hq w
        · rw [if_neg hq]; exact refp_cut_pos_ne c y hc r l hl h hb' _ _ rfl rfl _ rfl hq w
  · have hb' : ∀ x ∈ l, x ≠ 47 := fun x hx e => hm (e ▸ hx)
    have vd : ∀ n d, Vld n d → txt n d = l → Lib.itoa n = l ∧ (1 : Int) = d := fun n d v e => ⟨(txt_whole v hb' e).1, (txt_whole v hb' e).2.symm⟩
    cases l with
    | nil => rw [parse_nil]; exact refp_no_emp w
    | cons c y =>
      have hne : c :: y ≠ [] := by simp
      by_cases hc : c = 45
      · subst hc
        rw [parse_want _ (-(numF y : Int)) 1 hne (fun n d v e => ⟨num_neg v.2.2.1 v.2.2.2.1 (vd n d v e).1, (vd n d v e).2⟩)]
        by_cases hq : txt (-(numF y : Int)) 1 = 45 :: y
        · rw [if_pos hq]; exact refp_no_neg_eq y _ hl rfl hb' _ _ rfl rfl _ rfl hq w
        · rw [if_neg hq]; exact refp_no_neg_ne y _ hl rfl hb' _ _ rfl rfl _ rfl hq w
      · rw [parse_want _ (numF (c :: y) : Int) 1 hne (fun n d v e => ⟨num_pos v.2.2.1 v.2.2.2.1 hc (vd n d v e).1, (vd n d v e).2⟩)]
        by_cases hq : txt (numF (c :: y) : Int) 1 = c :: y
        · rw [if_pos hq]; exact refp_no_pos_eq c y hc _ hl rfl hb' _ _ rfl rfl _ rfl hq w
        · rw [if_neg hq]; exact refp_no_pos_ne c y hc _ hl rfl hb' _ _ rfl rfl _ rfl hq w
end Go.Proofs.YtpmggfmhkjafkaaDoor
