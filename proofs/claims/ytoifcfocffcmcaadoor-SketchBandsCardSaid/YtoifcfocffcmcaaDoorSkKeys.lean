/- The plain mathematics of keys: equal keys have equal bands and equal numbers. -/
import Derived.Test.YtoifcfocffcmcaaDoorSkMath
namespace Go.Proofs.YtoifcfocffcmcaaDoor

theorem dig_nat {k : Nat} (h : k < 10) : (UInt8.ofNat (48 + k)).toNat = 48 + k := by
  rw [UInt8.toNat_ofNat']; omega
/-- Decimal digits are neither a dot nor a colon. -/
theorem dec_digs (u : Nat) : ∀ c ∈ Lib.decDigits u, 48 ≤ c.toNat ∧ c.toNat ≤ 57 := by
  induction u using Nat.strongRecOn with
  | _ u ih =>
    intro c hc
    rw [Lib.decDigits] at hc
    split at hc
    · simp only [List.mem_singleton] at hc
      subst hc
      rw [dig_nat (by omega)]; omega
    · rw [List.mem_append] at hc
      rcases hc with hc | hc
      · exact ih (u / 10) (by omega) c hc
      · simp only [List.mem_singleton] at hc
        subst hc
        rw [dig_nat (by omega)]; omega
/-- The number that decimal digits spell. -/
def dv (l : List UInt8) : Nat := l.foldl (fun a c => a * 10 + (c.toNat - 48)) 0
theorem dv_dec (u : Nat) : dv (Lib.decDigits u) = u := by
  induction u using Nat.strongRecOn with
  | _ u ih =>
    rw [Lib.decDigits]
    split
    · simp only [dv, List.foldl_cons, List.foldl_nil]
      rw [dig_nat (by omega)]; omega
    · have := ih (u / 10) (by omega)
      unfold dv at *
      rw [List.foldl_append, this]
      simp only [List.foldl_cons, List.foldl_nil]
      rw [dig_nat (by omega)]; omega
theorem itoa_digs {x : Int} (h : 0 ≤ x) : ∀ c ∈ Lib.itoa x, 48 ≤ c.toNat ∧ c.toNat ≤ 57 := by
  unfold Lib.itoa
  rw [if_neg (by omega)]
  exact dec_digs _
theorem itoa_inj {x y : Int} (h : 0 ≤ x) (k : 0 ≤ y) (e : Lib.itoa x = Lib.itoa y) : x = y := by
  unfold Lib.itoa at e
  rw [if_neg (by omega), if_neg (by omega)] at e
  have := congrArg dv e
  rw [dv_dec, dv_dec] at this
  omega
/-- Two texts up to a separator that neither has. -/
theorem sep_split (s : UInt8) : ∀ (u v p q : List UInt8), (∀ c ∈ u, c ≠ s) → (∀ c ∈ v, c ≠ s) → u ++ s :: p = v ++ s :: q → u = v ∧ p = q
  | [], [], p, q, _, _, e => by
    simp at e
    exact ⟨rfl, e⟩
  | [], b :: v, p, q, _, h2, e => by
    simp at e
    exact absurd e.1.symm (h2 b List.mem_cons_self)
  | a :: u, [], p, q, h1, _, e => by
    simp at e
    exact absurd e.1 (h1 a List.mem_cons_self)
  | a :: u, b :: v, p, q, h1, h2, e => by
    simp only [List.cons_append, List.cons.injEq] at e
    obtain ⟨rfl, e⟩ := e
    obtain ⟨r1, r2⟩ := sep_split s u v p q (fun c hc => h1 c (List.mem_cons_of_mem _ hc)) (fun c hc => h2 c (List.mem_cons_of_mem _ hc)) e
    exact ⟨by rw [r1], r2⟩
theorem no_dot {x : Int} (h : 0 ≤ x) : ∀ c ∈ Lib.itoa x, c ≠ 46 := by
  intro c hc e
  have := itoa_digs h c hc
  rw [e] at this
  exact absurd this (by decide)
theorem no_colon {x : Int} (h : 0 ≤ x) : ∀ c ∈ Lib.itoa x, c ≠ 58 := by
  intro c hc e
  have := itoa_digs h c hc
  rw [e] at this
  exact absurd this (by decide)
theorem join_two (x y : List UInt8) (r : List (List UInt8)) : Lib.join (x :: y :: r) [46] = x ++ 46 :: Lib.join (y :: r) [46] := by
  rw [Lib.join_cons, Lib.join_cons]
  simp [Lib.joinTail]
theorem join_inj : ∀ (l k : List Int), l.length = k.length → (∀ x ∈ l, 0 ≤ x) → (∀ x ∈ k, 0 ≤ x) → Lib.join (l.map Lib.itoa) [46] = Lib.join (k.map Lib.itoa) [46] → l = k
  | [], [], _, _, _, _ => rfl
  | [], _ :: _, h, _, _, _ => by simp at h
  | _ :: _, [], h, _, _, _ => by simp at h
  | [x], [y], _, hx, hy, e => by
    simp only [List.map_cons, List.map_nil, Lib.join_one] at e
    rw [itoa_inj (hx x List.mem_cons_self) (hy y List.mem_cons_self) e]
  | [_], _ :: _ :: _, h, _, _, _ => by simp at h
  | _ :: _ :: _, [_], h, _, _, _ => by simp at h
  | x :: x2 :: l, y :: y2 :: k, h, hx, hy, e => by
    simp only [List.map_cons] at e
    rw [join_two, join_two] at e
    obtain ⟨e1, e2⟩ := sep_split 46 _ _ _ _ (no_dot (hx x List.mem_cons_self)) (no_dot (hy y List.mem_cons_self)) e
    have e3 := join_inj (x2 :: l) (y2 :: k) (by simpa using h) (fun z hz => hx z (List.mem_cons_of_mem _ hz)) (fun z hz => hy z (List.mem_cons_of_mem _ hz)) (by simpa using e2)
    rw [itoa_inj (hx x List.mem_cons_self) (hy y List.mem_cons_self) e1, e3]
theorem key_inj {i j : Nat} {l k : List Int} (hl : l.length = k.length) (hx : ∀ x ∈ l, 0 ≤ x) (hy : ∀ x ∈ k, 0 ≤ x) : keyT i l = keyT j k ↔ i = j ∧ l = k := by
  constructor
  · intro e
    unfold keyT at e
    obtain ⟨e1, e2⟩ := sep_split 58 _ _ _ _ (no_colon (by omega)) (no_colon (by omega)) e
    have := itoa_inj (by omega) (by omega) e1
    exact ⟨by omega, join_inj l k hl hx hy e2⟩
  · rintro ⟨rfl, rfl⟩
    rfl
/-- Two bands have the same key exactly if they are the same band, with equal numbers. -/
theorem band_eq {a b : List Int} {n i j k : Nat} (ha : a.length = k * n) (hb : b.length = k * n) (pa : ∀ x ∈ a, 0 ≤ x) (pb : ∀ x ∈ b, 0 ≤ x) (hi : i < k) (hj : j < k) :
    bandK a n i = bandK b n j ↔ i = j ∧ (a.drop (i * n)).take n = (b.drop (j * n)).take n := by
  have h1 : (i + 1) * n ≤ k * n := Nat.mul_le_mul_right n hi
  have h2 : (j + 1) * n ≤ k * n := Nat.mul_le_mul_right n hj
  rw [Nat.add_mul, Nat.one_mul] at h1 h2
  exact key_inj (by simp; omega) (fun x hx => pa x (List.mem_of_mem_drop (List.mem_of_mem_take hx))) (fun x hx => pb x (List.mem_of_mem_drop (List.mem_of_mem_take hx)))
theorem keys_len (s : List Int) {n k : Nat} (hn : 0 < n) (h : s.length = k * n) : (keysT s n).length = k := by
  unfold keysT
  rw [h, Nat.mul_div_cancel _ hn]
  simp
theorem keys_get (s : List Int) (n : Nat) {i : Nat} (h : i < (keysT s n).length) : (keysT s n)[i] = bandK s n i := by simp [keysT]
end Go.Proofs.YtoifcfocffcmcaaDoor
