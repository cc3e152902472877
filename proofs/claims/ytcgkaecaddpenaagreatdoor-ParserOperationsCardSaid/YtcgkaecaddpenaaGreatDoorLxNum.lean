/- Numbers and their digits, in plain words; a text's quotes. -/
import Derived.Test.YtcgkaecaddpenaaGreatDoorPLx
import Derived.Test.YtcgkaecaddpenaaGreatDoorPV
namespace Go.Proofs.YtcgkaecaddpenaaGreatDoor.L7

theorem dg_rng {c : UInt8} (h : Dg c = true) : 48 ≤ c.toNat ∧ c.toNat ≤ 57 := by
  unfold Dg at h
  simpa using h
theorem parse_digs : ∀ (l : List UInt8) (acc k : Nat), (∀ c ∈ l, Dg c = true) → acc < 10 ^ k → k + l.length ≤ 18 →
    Lib.parseUint10 acc l = .ok (l.foldl (fun v c => 10 * v + (c.toNat - 48)) acc) ∧ l.foldl (fun v c => 10 * v + (c.toNat - 48)) acc < 10 ^ (k + l.length)
  | [], acc, k, _, h, _ => ⟨rfl, by simpa using h⟩
  | c :: r, acc, k, hd, h, hk => by
    have h1 := dg_rng (hd c List.mem_cons_self)
    have hk2 : k + (r.length + 1) ≤ 18 := by simpa using hk
    have hp : 10 ^ k ≤ 10 ^ 17 := Nat.pow_le_pow_right (by omega) (by omega)
    have h17 : 10 ^ 17 = 100000000000000000 := by decide
    rw [h17] at hp
    have hs : 10 * acc + (c.toNat - 48) < 10 ^ (k + 1) := by rw [Nat.pow_succ]; omega
    have ih := parse_digs r (10 * acc + (c.toNat - 48)) (k + 1) (fun d q => hd d (List.mem_cons_of_mem _ q)) hs (by omega)
    rw [Lib.parseUint10, if_pos h1, if_neg (by omega), if_neg (by omega), Nat.mul_comm acc 10, List.foldl_cons, List.length_cons]
    exact ⟨ih.1, by have := ih.2; rwa [show k + 1 + r.length = k + (r.length + 1) by omega] at this⟩
theorem num_lt {l : List UInt8} (hd : ∀ c ∈ l, Dg c = true) (hl : l.length ≤ 10) : num l < 10000000000 := by
  have h := (parse_digs l 0 0 hd (by decide) (by omega)).2
  have hp : 10 ^ (0 + l.length) ≤ 10 ^ 10 := Nat.pow_le_pow_right (by omega) (by omega)
  have h10 : 10 ^ 10 = 10000000000 := by decide
  rw [h10] at hp
  unfold num
  omega
theorem atoi_digs {l : List UInt8} (hd : ∀ c ∈ l, Dg c = true) (h0 : l ≠ []) (hl : l.length ≤ 10) : Lib.atoiAll l = .ok (num l : Int) := by
  have hp := (parse_digs l 0 0 hd (by decide) (by omega)).1
  have hb := num_lt hd hl
  unfold num at hb ⊢
  generalize l.foldl (fun v c => 10 * v + (c.toNat - 48)) 0 = n at hp hb ⊢
  cases l with
  | nil => exact absurd rfl h0
  | cons c r =>
    have hc := dg_rng (hd c List.mem_cons_self)
    unfold Lib.atoiAll
    simp only []
    rw [if_neg (by omega)]
    unfold Lib.parseMag
    rw [if_neg (by simp), hp]
    simp only []
    rw [if_neg (by omega), if_neg (by omega), if_neg (by omega)]
theorem dec_len : ∀ (k u : Nat), u < 10 ^ (k + 1) → (Lib.decDigits u).length ≤ k + 1
  | 0, u, h => by rw [Lib.decDigits, dif_pos (by simpa using h)]; simp
  | k + 1, u, h => by
    by_cases hu : u < 10
    · rw [Lib.decDigits, dif_pos hu]
      simp
    · have ih := dec_len k (u / 10) (by rw [Nat.pow_succ] at h; omega)
      rw [Lib.decDigits, dif_neg hu, List.length_append]
      simp
      omega
/-- The digits of a number: what they spell. -/
theorem num_dec (u : Nat) (hu : u ≤ 1000000000) : (∀ c ∈ Lib.decDigits u, Dg c = true) ∧ Lib.decDigits u ≠ [] ∧ (Lib.decDigits u).length ≤ 10 ∧ num (Lib.decDigits u) = u := by
  have hd : ∀ c ∈ Lib.decDigits u, Dg c = true := fun c hc => by
    have := L2.dec_digs u c hc
    unfold L2.IsDig at this
    unfold Dg
    simp
    omega
  have hl : (Lib.decDigits u).length ≤ 10 := dec_len 9 u (by omega)
  refine ⟨hd, L2.dec_ne u, hl, ?_⟩
  have h1 := (parse_digs (Lib.decDigits u) 0 0 hd (by decide) (by omega)).1
  rw [L2.parse_dec u (by omega)] at h1
  injection h1 with h1
  exact h1.symm
/-- What stands in a name and is no digit. -/
theorem tw_in_dg : ∀ t : List UInt8, (t.takeWhile In).length = (t.takeWhile Dg).length + ((t.dropWhile Dg).takeWhile In).length
  | [] => rfl
  | c :: r => by
    by_cases h : Dg c = true
    · rw [List.takeWhile_cons_of_pos h, List.dropWhile_cons_of_pos h, List.takeWhile_cons_of_pos (by unfold In; rw [h]; simp), List.length_cons, List.length_cons, tw_in_dg r]
      omega
    · rw [List.takeWhile_cons_of_neg h, List.dropWhile_cons_of_neg h, List.length_nil, Nat.zero_add]
theorem tw_in_pos (l : List UInt8) : 0 < (l.takeWhile In).length ↔ ∃ s, l.head? = some s ∧ In s = true := by
  cases l with
  | nil => simp
  | cons c r =>
    by_cases h : In c = true
    · rw [List.takeWhile_cons_of_pos h]
      exact ⟨fun _ => ⟨c, rfl, h⟩, fun _ => by simp⟩
    · rw [List.takeWhile_cons_of_neg h]
      constructor
      · intro q
        simp at q
      · rintro ⟨s, q1, q2⟩
        simp at q1
        subst q1
        exact absurd q2 h
/-- A number with more behind it. -/
theorem more_iff (t : List UInt8) : (t.takeWhile Dg).length < (t.takeWhile In).length ↔ ∃ s, (t.dropWhile Dg).head? = some s ∧ In s = true := by
  rw [← tw_in_pos, tw_in_dg]
  omega
/-- The quotes of both layers are one. -/
theorem esc_same (c : UInt8) : esc7 c = L2.esc c := by
  unfold esc7 L2.esc
  have e : ∀ d : UInt8, (c = d) = (c.toNat = d.toNat) := fun d => propext UInt8.toNat_inj.symm
  simp only [e]
  rfl
theorem quo_same (t : List UInt8) : quo7 t = L2.quo t := by
  unfold quo7 L2.quo
  have : esc7 = L2.esc := funext esc_same
  rw [this]
end Go.Proofs.YtcgkaecaddpenaaGreatDoor.L7
