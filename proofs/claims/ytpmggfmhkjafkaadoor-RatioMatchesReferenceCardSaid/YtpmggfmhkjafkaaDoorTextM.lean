/- The plain mathematics of texts: what Parse makes of a ratio's text. -/
import Derived.Test.YtpmggfmhkjafkaaDoorCmp
import Derived.Lib.ItoaLen
namespace Go.Proofs.YtpmggfmhkjafkaaDoor

/-- A decimal digit. -/
def IsDig (c : UInt8) : Prop := 48 ≤ c.toNat ∧ c.toNat ≤ 57

theorem ofNat_dig {k : Nat} (h : k < 10) : (UInt8.ofNat (48 + k)).toNat = 48 + k := by
  rw [UInt8.toNat_ofNat']; omega

theorem dec_digs (u : Nat) : ∀ c ∈ Lib.decDigits u, IsDig c := by
  induction u using Nat.strongRecOn with
  | _ u ih =>
    intro c hc
    rw [Lib.decDigits] at hc
    split at hc
    · simp only [List.mem_singleton] at hc
      subst hc
      unfold IsDig; rw [ofNat_dig (by omega)]; omega
    · rw [List.mem_append] at hc
      rcases hc with hc | hc
      · exact ih (u / 10) (by omega) c hc
      · simp only [List.mem_singleton] at hc
        subst hc
        unfold IsDig; rw [ofNat_dig (by omega)]; omega

theorem dec_ne (u : Nat) : Lib.decDigits u ≠ [] := by
  rw [Lib.decDigits]
  split <;> simp

/-- A parse goes on where the first part ended. -/
theorem parse_append : ∀ (l r : List UInt8) (acc v : Nat), Lib.parseUint10 acc l = .ok v → Lib.parseUint10 acc (l ++ r) = Lib.parseUint10 v r
  | [], r, acc, v, h => by
    simp only [Lib.parseUint10] at h
    injection h with h
    subst h; rfl
  | c :: l, r, acc, v, h => by
    rw [List.cons_append]
    simp only [Lib.parseUint10] at h ⊢
    split at h
    · rename_i hc
      rw [if_pos hc]
      split at h
      · cases h
      · rename_i h1
        rw [if_neg h1]
        split at h
        · cases h
        · rename_i h2
          rw [if_neg h2]
          exact parse_append l r _ v h
    · cases h

theorem parse_dec (u : Nat) (hu : u < 1000000000000000000) : Lib.parseUint10 0 (Lib.decDigits u) = .ok u := by
  induction u using Nat.strongRecOn with
  | _ u ih =>
    rw [Lib.decDigits]
    split
    · rename_i h
      simp only [Lib.parseUint10, ofNat_dig h]
      rw [if_pos (by omega), if_neg (by omega), if_neg (by omega)]
      simp
    · rename_i h
      rw [parse_append _ _ _ _ (ih (u / 10) (by omega) (by omega))]
      simp only [Lib.parseUint10, ofNat_dig (show u % 10 < 10 by omega)]
      rw [if_pos (by omega), if_neg (by omega), if_neg (by omega)]
      congr 1
      omega

theorem atoi_itoa (n : Int) (h0 : -1000000000 ≤ n) (h1 : n ≤ 1000000000) : Lib.atoiAll (Lib.itoa n) = .ok n := by
  unfold Lib.itoa
  split
  · rename_i hn
    unfold Lib.atoiAll
    simp only []
    rw [if_pos (Or.inr (by decide))]
    unfold Lib.parseMag
    rw [if_neg (dec_ne _), parse_dec _ (by omega)]
    simp only []
    rw [if_neg (by simp), if_neg (by omega), if_pos (by decide)]
    congr 1
    omega
  · rename_i hn
    have hd := dec_digs n.toNat
    have hne := dec_ne n.toNat
    have hp := parse_dec n.toNat (by omega)
    generalize hl : Lib.decDigits n.toNat = l at *
    cases l with
    | nil => exact absurd rfl hne
    | cons c r =>
      have hc := hd c (by simp)
      unfold IsDig at hc
      unfold Lib.atoiAll
      simp only []
      rw [if_neg (by omega)]
      unfold Lib.parseMag
      rw [if_neg (by simp), hp]
      simp only []
      rw [if_neg (by omega), if_neg (by omega), if_neg (by omega)]
      congr 1
      omega

theorem itoa_ne (n : Int) : Lib.itoa n ≠ [] := by
  unfold Lib.itoa
  split
  · simp
  · exact dec_ne _

theorem itoa_noslash (n : Int) : ∀ c ∈ Lib.itoa n, c ≠ 47 := by
  intro c hc h
  subst h
  unfold Lib.itoa at hc
  split at hc
  · rw [List.mem_cons] at hc
    rcases hc with hc | hc
    · exact absurd hc (by decide)
    · have := dec_digs _ _ hc
      unfold IsDig at this
      simp at this
  · have := dec_digs _ _ hc
    unfold IsDig at this
    simp at this

theorem indexByte_no : ∀ (l : List UInt8), (∀ c ∈ l, c ≠ 47) → Lib.indexByte l 47 = -1
  | [], _ => rfl
  | c :: l, h => by
    have h1 : (c == 47) = false := by simpa using h c (by simp)
    have h2 := indexByte_no l (fun x hx => h x (by simp [hx]))
    simp [Lib.indexByte, h1, h2]

theorem indexByte_at : ∀ (l r : List UInt8), (∀ c ∈ l, c ≠ 47) → Lib.indexByte (l ++ 47 :: r) 47 = (l.length : Int)
  | [], r, _ => by simp [Lib.indexByte]
  | c :: l, r, h => by
    have h1 : (c == 47) = false := by simpa using h c (by simp)
    have h2 := indexByte_at l r (fun x hx => h x (by simp [hx]))
    have h3 : ((l.length : Int) == -1) = false := by rw [beq_eq_false_iff_ne]; omega
    simp [Lib.indexByte, h1, h2, h3]

theorem cut_no (l : List UInt8) (h : ∀ c ∈ l, c ≠ 47) : Lib.cut l [47] = (l, [], false) := by
  unfold Lib.cut
  rw [Lib.index_one, indexByte_no l h, if_neg (by decide)]

theorem cut_at (l r : List UInt8) (h : ∀ c ∈ l, c ≠ 47) : Lib.cut (l ++ [47] ++ r) [47] = (l, r, true) := by
  unfold Lib.cut
  rw [List.append_assoc, List.singleton_append, Lib.index_one, indexByte_at l r h, if_pos (by omega)]
  simp [← List.drop_drop]

theorem txt_valid {n d : Int} (h : Vld n d) : txt n d ≠ [] := by
  unfold txt
  rw [vldB_mk h, if_pos rfl]
  split
  · exact itoa_ne n
  · simp

theorem txt_bad {n d : Int} (h : vldB n d = false) : txt n d = [] := by
  unfold txt
  rw [h, if_neg (by decide)]

/-- Parse undoes Text. -/
theorem parse_txt {n d : Int} (h : Vld n d) : parse (txt n d) = (n, d, 0) := by
  have hh := h
  obtain ⟨d1, d2, n1, n2, _⟩ := hh
  have an := atoi_itoa n n1 n2
  have ad := atoi_itoa d (by omega) d2
  have ht : txt n d = if d = 1 then Lib.itoa n else Lib.itoa n ++ [47] ++ Lib.itoa d := by
    unfold txt; rw [vldB_mk h, if_pos rfl]
  by_cases hd : d = 1
  · subst hd
    rw [if_pos rfl] at ht
    unfold parse
    rw [ht, cut_no _ (itoa_noslash n)]
    simp only []
    rw [if_neg (by decide)]
    unfold parse2
    rw [an, show Lib.atoiAll [49] = .ok 1 by decide]
    simp only []
    rw [if_pos ht]
  · rw [if_neg hd] at ht
    unfold parse
    rw [ht, cut_at _ _ (itoa_noslash n)]
    simp only [if_true]
    unfold parse2
    rw [an, ad]
    simp only []
    rw [if_pos ht]

theorem parse_nil : parse [] = (0, 0, 6) := by decide +kernel

/-- What Parse accepts is the text of its result. -/
theorem parse_cases (l : List UInt8) : parse l = (0, 0, 6) ∨ ∃ n d, parse l = (n, d, 0) ∧ Vld n d ∧ txt n d = l := by
  unfold parse parse2
  split
  · rename_i n d h1 h2
    by_cases h : txt n d = l
    · rw [if_pos h]
      cases hv : vldB n d
      · exfalso
        rw [txt_bad hv] at h
        subst h
        rw [show Lib.cut [] [47] = ([], [], false) by decide] at h1
        simp [Lib.atoiAll] at h1
      · exact Or.inr ⟨n, d, rfl, vldB_true hv, h⟩
    · rw [if_neg h]; exact Or.inl rfl
  · exact Or.inl rfl

theorem txt_len (n d : Int) (h : Vld n d) : (txt n d).length ≤ 1000 := by
  obtain ⟨d1, d2, n1, n2, _⟩ := h
  have l1 := Lib.itoa_length_le n (by omega) (by omega)
  have l2 := Lib.itoa_length_le d (by omega) (by omega)
  unfold txt
  split
  · split
    · omega
    · simp only [List.length_append, List.length_singleton]; omega
  · simp
end Go.Proofs.YtpmggfmhkjafkaaDoor
