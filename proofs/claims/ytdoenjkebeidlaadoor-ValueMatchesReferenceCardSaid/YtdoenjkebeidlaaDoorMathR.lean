/- The plain mathematics of the reference's guesses. -/
import Derived.Test.YtdoenjkebeidlaaDoorMathT
namespace Go.Proofs.YtdoenjkebeidlaaDoor

/-- What the reference reads between quotes: it leaves the last byte out. -/
def runq : List UInt8 → List UInt8
  | [] => []
  | [_] => []
  | c :: d :: r => if c.toNat = 92 then (if d.toNat = 110 then 10 else d) :: runq r else c :: runq (d :: r)
theorem runq_short (l : List UInt8) (h : l.length ≤ 1) : runq l = [] := by
  cases l with
  | nil => rfl
  | cons c r => cases r with
    | nil => rfl
    | cons d r => simp at h
theorem runq_esc (d : UInt8) (r : List UInt8) : runq (92 :: d :: r) = (if d.toNat = 110 then 10 else d) :: runq r := by
  rw [runq, if_pos (by decide)]
theorem runq_plain {c : UInt8} (h : c.toNat ≠ 92) (r : List UInt8) (hr : r ≠ []) : runq (c :: r) = c :: runq r := by
  cases r with
  | nil => exact absurd rfl hr
  | cons d r => rw [runq, if_neg h]
theorem runq_flat : ∀ t : List UInt8, runq (t.flatMap esc ++ [34]) = t
  | [] => rfl
  | c :: t => by
    have ih := runq_flat t
    have hne : t.flatMap esc ++ [34] ≠ [] := by simp
    rw [List.flatMap_cons, List.append_assoc]
    by_cases h : c.toNat = 34 ∨ c.toNat = 92
    · have e : esc c = [92, c] := by unfold esc; rw [if_pos h]
      rw [e, List.cons_append, List.cons_append, List.nil_append, runq_esc, if_neg (by omega), ih]
    · by_cases h10 : c.toNat = 10
      · have e : esc c = [92, 110] := by unfold esc; rw [if_neg h, if_pos h10]
        rw [e, List.cons_append, List.cons_append, List.nil_append, runq_esc, if_pos (by decide), ih]
        congr 1
        exact (UInt8.toNat_inj.1 (by rw [h10]; rfl)).symm
      · have e : esc c = [c] := by unfold esc; rw [if_neg h, if_neg h10]
        rw [e, List.cons_append, List.nil_append, runq_plain (by omega) _ hne, ih]

/-- One digit more, in 64 bits. -/
def numS (v : Nat) (c : UInt8) : Nat := if 48 ≤ c.toNat ∧ c.toNat ≤ 57 then (v * 10 + (c.toNat - 48)) % 18446744073709551616 else v
def numM (v : Nat) : List UInt8 → Nat
  | [] => v
  | c :: r => numM (numS v c) r
theorem numM_app (a b : List UInt8) : ∀ v, numM v (a ++ b) = numM (numM v a) b := by
  induction a with
  | nil => intro v; rfl
  | cons c a ih => intro v; exact ih _
theorem numM_dec (u : Nat) (hu : u ≤ 1000000000000) : numM 0 (Lib.decDigits u) = u := by
  induction u using Nat.strongRecOn with
  | _ u ih =>
    rw [Lib.decDigits]
    split
    · rename_i h
      show numS 0 _ = u
      unfold numS
      rw [ofNat_dig h, if_pos (by omega)]
      omega
    · rename_i h
      rw [numM_app, ih (u / 10) (by omega) (by omega)]
      show numS _ _ = u
      unfold numS
      rw [ofNat_dig (by omega), if_pos (by omega)]
      omega
theorem dec_short (k : Nat) : ∀ u, u < 10 ^ (k + 1) → (Lib.decDigits u).length ≤ k + 1 := by
  induction k with
  | zero => intro u h; rw [Lib.decDigits, dif_pos (by simpa using h)]; simp
  | succ k ih =>
    intro u h
    rw [Lib.decDigits]
    split
    · simp
    · rw [List.length_append, List.length_singleton]
      have := ih (u / 10) (by rw [Nat.pow_succ] at h; omega)
      omega
/-- What the reference's Number makes of the text of a number. -/
theorem num_neg {n : Int} {l : List UInt8} (h0 : -1000000000 ≤ n) (h : Lib.itoa n = l) (hn : n < 0) : (numM 0 (l.take 20) : Int) = -n ∧ ∃ r, l = 45 :: r := by
  rw [itoa_neg hn] at h
  have hl := dec_short 9 n.natAbs (by omega)
  refine ⟨?_, _, h.symm⟩
  rw [← h, List.take_of_length_le (by simp; omega)]
  have e : numM 0 (45 :: Lib.decDigits n.natAbs) = numM 0 (Lib.decDigits n.natAbs) := rfl
  rw [e, numM_dec _ (by omega)]
  omega
theorem num_pos {n : Int} {l : List UInt8} (h1 : n ≤ 1000000000) (h : Lib.itoa n = l) (hn : 0 ≤ n) : (numM 0 (l.take 20) : Int) = n ∧ ∃ c r, l = c :: r ∧ c.toNat ≠ 45 := by
  rw [itoa_pos hn] at h
  have hl := dec_short 9 n.natAbs (by omega)
  have hd := dec_digs n.natAbs
  have hne := dec_ne n.natAbs
  refine ⟨?_, ?_⟩
  · rw [← h, List.take_of_length_le (by omega), numM_dec _ (by omega)]
    omega
  · rw [h] at hd hne
    cases l with
    | nil => exact absurd rfl hne
    | cons c r =>
      have := hd c (by simp)
      unfold IsDig at this
      exact ⟨c, r, rfl, by omega⟩
end Go.Proofs.YtdoenjkebeidlaaDoor
