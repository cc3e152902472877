import Derived.Test.YtcgkaecaddpenaaGreatDoorKSlc
import Derived.Test.YtcgkaecaddpenaaGreatDoorPLx
/- The reference's letters, gaps and symbols. -/
namespace Go.Proofs.YtcgkaecaddpenaaGreatDoor
open Go.RowKit

open L7 (Lt Dg In gapC gap symN syms)

theorem lt_yes {c : UInt8} (h : ((97 : Int) ≤ (c.toNat : Int) ∧ (c.toNat : Int) ≤ 122) ∨ ((65 : Int) ≤ (c.toNat : Int) ∧ (c.toNat : Int) ≤ 90)) : Lt c = true := by
  unfold Lt
  simp only [Bool.or_eq_true, Bool.and_eq_true, decide_eq_true_eq]
  omega
theorem lt_no {c : UInt8} (h : ¬ (((97 : Int) ≤ (c.toNat : Int) ∧ (c.toNat : Int) ≤ 122) ∨ ((65 : Int) ≤ (c.toNat : Int) ∧ (c.toNat : Int) ≤ 90))) : Lt c = false := by
  cases hl : Lt c with
  | false => rfl
  | true =>
    unfold Lt at hl
    simp only [Bool.or_eq_true, Bool.and_eq_true, decide_eq_true_eq] at hl
    omega
theorem dg_yes {c : UInt8} (h1 : (48 : Int) ≤ (c.toNat : Int)) (h2 : (c.toNat : Int) ≤ 57) : Dg c = true := by
  unfold Dg
  simp only [Bool.and_eq_true, decide_eq_true_eq]
  omega
theorem dg_no {c : UInt8} (h : ¬ ((48 : Int) ≤ (c.toNat : Int) ∧ (c.toNat : Int) ≤ 57)) : Dg c = false := by
  cases hl : Dg c with
  | false => rfl
  | true =>
    unfold Dg at hl
    simp only [Bool.and_eq_true, decide_eq_true_eq] at hl
    omega
theorem eq_of_int {c d : UInt8} (h : (c.toNat : Int) = (d.toNat : Int)) : c = d := UInt8.toNat_inj.1 (by omega)
theorem ne_of_int {c d : UInt8} (h : ¬ (c.toNat : Int) = (d.toNat : Int)) : c ≠ d := fun e => h (by rw [e])
/-! ### Gap. -/
theorem gap_go {cm : Bool} {c : UInt8} {r : List UInt8} : (c = 10 → gapC cm (c :: r) = gapC false r + 1) ∧ (c ≠ 10 → c = 35 → gapC cm (c :: r) = gapC true r + 1) :=
  ⟨fun h => L7.gapC_nl h, fun h h2 => L7.gapC_hash h h2⟩
end Go.Proofs.YtcgkaecaddpenaaGreatDoor

/- The reference's symbol. -/
namespace Go.Proofs.YtcgkaecaddpenaaGreatDoor
open Go.RowKit

open L7 (Lt Dg In gapC gap symN syms)

end Go.Proofs.YtcgkaecaddpenaaGreatDoor

/- The reference's content. -/
namespace Go.Proofs.YtcgkaecaddpenaaGreatDoor
open Go.RowKit

open L7 (con con_esc con_plain)

/-- What has been read of a content: acc, out of m bytes; rest is still to be read. -/
def CI (r0 acc : List UInt8) (m : Nat) (rest : List UInt8) : Prop := (con r0).2.2 = (con rest).2.2 ∧ ((con rest).2.2 = 0 → (con r0).1 = acc ++ (con rest).1 ∧ (con r0).2.1 = m + (con rest).2.1)
theorem ci_start (r : List UInt8) : CI r [] 0 r := ⟨rfl, fun _ => ⟨rfl, by omega⟩⟩
theorem ci_plain {r0 acc rest : List UInt8} {m : Nat} {c : UInt8} (h1 : c ≠ 34) (h2 : c ≠ 10) (h3 : c ≠ 92) (h : CI r0 acc m (c :: rest)) : CI r0 (acc ++ [c]) (m + 1) rest := by
  by_cases hr : rest = []
  · subst hr
    have e1 : (con [c]).2.2 = 7 := by rw [con, if_neg h1, if_neg h2]
    have e2 : (con []).2.2 = 7 := by rw [con]
    refine ⟨by rw [h.1, e1, e2], fun q => ?_⟩
    rw [e2] at q
    simp at q
  · obtain ⟨a, b⟩ := h
    rw [con_plain h1 h2 h3 hr] at a b
    refine ⟨a, fun q => ?_⟩
    obtain ⟨x, y⟩ := b q
    refine ⟨?_, ?_⟩
    · rw [x, List.append_assoc]; rfl
    · rw [y]
      show m + ((con rest).2.1 + 1) = _
      omega
theorem ci_esc {r0 acc rest : List UInt8} {m : Nat} {d : UInt8} (hd : d = 34 ∨ d = 92 ∨ d = 110) (h : CI r0 acc m (92 :: d :: rest)) : CI r0 (acc ++ [if d = 110 then 10 else d]) (m + 2) rest := by
  obtain ⟨a, b⟩ := h
  rw [con_esc hd] at a b
  refine ⟨a, fun q => ?_⟩
  obtain ⟨x, y⟩ := b q
  refine ⟨?_, ?_⟩
  · rw [x, List.append_assoc]; rfl
  · rw [y]
    show m + ((con rest).2.1 + 2) = _
    omega
theorem ci_end {r0 acc rest : List UInt8} {m : Nat} (h : CI r0 acc m (34 :: rest)) : con r0 = (acc, m + 1, 0) := by
  obtain ⟨a, b⟩ := h
  rw [L7.con_end] at a b
  obtain ⟨x, y⟩ := b rfl
  exact Prod.ext (by rw [x]; simp) (Prod.ext y a)
theorem ci_err {r0 acc rest : List UInt8} {m : Nat} {e : Int} (h : CI r0 acc m rest) (he : (con rest).2.2 = e) : (con r0).2.2 = e := h.1.trans he
theorem con_nl (rest : List UInt8) : (con (10 :: rest)).2.2 = 5 := by
  cases rest with
  | nil => rw [con, if_neg (by decide), if_pos rfl]
  | cons d r => rw [con, if_neg (by decide), if_pos rfl]
theorem con_bad {d : UInt8} {r : List UInt8} (h : ¬ (d = 34 ∨ d = 92 ∨ d = 110)) : (con (92 :: d :: r)).2.2 = 5 := by rw [con, if_neg (by decide), if_neg (by decide), if_pos rfl, if_neg h]
theorem con_bs : (con [92]).2.2 = 7 := by rw [con, if_neg (by decide), if_neg (by decide)]
/-- What content returns. -/
def ctT (r : List UInt8) : List UInt8 × Nat × Int := if (con r).2.2 ≠ 0 then ([], 0, (con r).2.2) else if 200 < (con r).1.length then ([], 0, 3) else ((con r).1, (con r).2.1 + 1, 0)
theorem ct_err {r : List UInt8} {e : Int} (h : (con r).2.2 = e) (he : e ≠ 0) : ctT r = ([], 0, e) := by unfold ctT; rw [h, if_pos he]
theorem ct_long {r acc : List UInt8} {m : Nat} (h : con r = (acc, m, 0)) (hl : 200 < acc.length) : ctT r = ([], 0, 3) := by unfold ctT; rw [h, if_neg (by simp), if_pos hl]
theorem ct_ok {r acc : List UInt8} {m : Nat} (h : con r = (acc, m, 0)) (hl : ¬ 200 < acc.length) : ctT r = (acc, m + 1, 0) := by unfold ctT; rw [h, if_neg (by simp), if_neg hl]
/-- The bytes of a row of the call's own, as a string. -/
theorem conv_own7 {w : World} {B : Nat} {v : Value} {n : Nat} {l : List UInt8} (h : w.ownsRow B 5 1 v n (bys l)) :
    (convert 101 9 v).run Tryz.prog w = .ok (.string ⟨l.toArray⟩) w := by
  have hn : n = l.length := by have := h.1; rw [bys_len] at this; omega
  subst hn
  rcases Joins.ownsRow_forms h with ⟨rfl, h0⟩ | ⟨g, cap, rfl⟩
  · obtain rfl : l = [] := List.length_eq_zero_iff.1 h0
    rw [run_convert_bytes_string w 101 9 5 none 0 0 (by kernel_rfl) (by kernel_rfl) (by kernel_rfl)]
    simp [Conv.bytesToString]
    rfl
  · refine run_convert_bytes_back w 101 9 5 ⟨g, 0, none⟩ cap l (by kernel_rfl) (by kernel_rfl) (by kernel_rfl) (fun j hj => ?_)
    have h1 := h.cells (g := g) rfl j (.int .u8 (l[j].toNat : Int)) (by unfold bys; rw [List.getElem?_map, List.getElem?_eq_getElem hj]; rfl)
    exact h1
end Go.Proofs.YtcgkaecaddpenaaGreatDoor

