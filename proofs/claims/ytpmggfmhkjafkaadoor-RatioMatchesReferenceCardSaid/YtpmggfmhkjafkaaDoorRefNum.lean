/- The contract of the reference's number. -/
import Derived.Test.YtpmggfmhkjafkaaDoorRefText
namespace Go.Proofs.YtpmggfmhkjafkaaDoor
open Go.RowKit

/-- The value of digits. -/
def numFold : Nat → List UInt8 → Nat
  | a, [] => a
  | a, c :: l => numFold (10 * a + (c.toNat - 48)) l
def isDig (c : UInt8) : Bool := decide (48 ≤ c.toNat ∧ c.toNat ≤ 57)
/-- What number returns. -/
def numF (l : List UInt8) : Nat := if l.all isDig && decide (l.length ≤ 11) then numFold 0 l else 0

theorem num_step (l : List UInt8) (k : Nat) (hk : k < l.length) (v : Nat) (hf : numFold 0 l = numFold v (l.drop k)) (hd : (l.take k).all isDig = true) (hc : 48 ≤ l[k].toNat ∧ l[k].toNat ≤ 57) :
    numFold 0 l = numFold (10 * v + (l[k].toNat - 48)) (l.drop (k + 1)) ∧ (l.take (k + 1)).all isDig = true := by
  constructor
  · rw [hf, List.drop_eq_getElem_cons hk]; rfl
  · rw [List.take_succ_eq_append_getElem hk, List.all_append, hd]
    simp [isDig, hc]

theorem num_bad (l : List UInt8) (k : Nat) (hk : k < l.length) (hc : ¬ (48 ≤ l[k].toNat ∧ l[k].toNat ≤ 57 ∧ l.length ≤ 11)) : numF l = 0 := by
  unfold numF
  rw [if_neg]
  intro h
  rw [Bool.and_eq_true, decide_eq_true_eq, List.all_eq_true] at h
  have h1 := h.1 l[k] (List.getElem_mem hk)
  unfold isDig at h1
  rw [decide_eq_true_eq] at h1
  exact hc ⟨h1.1, h1.2, h.2⟩

theorem num_end (l : List UInt8) (v : Nat) (hf : numFold 0 l = numFold v (l.drop l.length)) (hd : (l.take l.length).all isDig = true) (h11 : 1 ≤ l.length → l.length ≤ 11) : numF l = v := by
  rw [List.take_length] at hd
  rw [List.drop_length] at hf
  unfold numF
  have h12 : l.length ≤ 11 := by omega
  rw [hd, decide_eq_true h12, hf]
  rfl

theorem refnumber_any (l : List UInt8) (hl : l.length ≤ 1000) (w : World) :
    Calls Tryd.prog 37 #[.string ⟨l.toArray⟩] w fun e w' => e = .returned (.int .i64 (numF l : Int)) ∧ w' = w := by
  go_enter Tryd.func37, Tryd.ntmps37
  go_wp2
  go_loop [3, 4] (fun n i => ∃ k v : Nat, i = .int .i64 (k : Int) ∧ n = .int .i64 (v : Int) ∧ k ≤ l.length ∧ (1 ≤ k → l.length ≤ 11) ∧ v < 10 ^ k ∧ numFold 0 l = numFold v (l.drop k) ∧ (l.take k).all isDig = true) (fun _ i => l.length - (intOf i).toNat)
  case atStart => exact ⟨0, 0, rfl, rfl, by omega, by omega, by simp, by simp, by simp⟩
  case round =>
    obtain ⟨k, v, rfl, rfl, hk, h11, hv, hf, hd⟩ := hrel
    have HF := Lib.hid hf
    have HD := Lib.hid hd
    have HV := Lib.hid hv
    have H1 := Lib.hid h11
    clear hf hd hv h11
    by_cases hlt : k < l.length
    · have hb2 : ∀ (h : k < (ByteArray.mk l.toArray).size), (⟨l.toArray⟩ : ByteArray)[k]'h = l[k] := fun _ => rfl
      go_wp2
      · have h : ((l[k].toNat : Int) < 48 ∨ 57 < (l[k].toNat : Int)) ∨ 11 < (l.length : Int) := by assumption
        go_ret
        exact ⟨ret_int (by rw [num_bad l k hlt (by omega)]; rfl), rfl⟩
      · have h : (48 ≤ (l[k].toNat : Int) ∧ (l[k].toNat : Int) ≤ 57) ∧ (l.length : Int) ≤ 11 := by assumption
        have e := num_step l k hlt v HF.out HD.out (by omega)
        have p1 : v < 10 ^ 10 := Nat.lt_of_lt_of_le HV.out (Nat.pow_le_pow_right (by omega) (by omega))
        refine ⟨⟨k + 1, 10 * v + (l[k].toNat - 48), by simp, ?_, by omega, by omega, ?_, e.1, e.2⟩, by simp [intOf]; omega⟩
        · congr 1
          simp only [wrap64]
          omega
        · have := HV.out
          rw [Nat.pow_succ]
          omega
      · have h : 57 < (l[k].toNat : Int) := by assumption
        go_ret
        exact ⟨ret_int (by rw [num_bad l k hlt (by omega)]; rfl), rfl⟩
      · have h : (l[k].toNat : Int) < 48 := by assumption
        go_ret
        exact ⟨ret_int (by rw [num_bad l k hlt (by omega)]; rfl), rfl⟩
    · have ke : k = l.length := by omega
      have en := Lib.hid (num_end l v (by rw [← ke]; exact HF.out) (by rw [← ke]; exact HD.out) (by rw [← ke]; have := H1.out; omega))
      go_wp2
      go_ret
      exact ⟨ret_int (by rw [en.out]), rfl⟩
end Go.Proofs.YtpmggfmhkjafkaaDoor
