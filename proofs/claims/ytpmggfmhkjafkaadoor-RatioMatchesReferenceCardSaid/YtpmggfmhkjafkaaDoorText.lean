/- The contract of Text. -/
import Derived.Test.YtpmggfmhkjafkaaDoorEnv
import Derived.Lib.ItoaLen
namespace Go.Proofs.YtpmggfmhkjafkaaDoor
open Go.RowKit

/-- The text of a ratio; empty if it is not valid. -/
def txt (n d : Int) : List UInt8 := if vldB n d then (if d = 1 then Lib.itoa n else Lib.itoa n ++ [47] ++ Lib.itoa d) else []

theorem str_ret {a b : List UInt8} (h : a = b) : Ending.returned (.string ⟨a.toArray⟩) = .returned (.string ⟨b.toArray⟩) := by rw [h]

theorem vldN0 {n d : Int} (h : Vld n d) : -9223372036854775808 ≤ n := by obtain ⟨_, _, _, _, _⟩ := h; omega
theorem vldN1 {n d : Int} (h : Vld n d) : n ≤ 9223372036854775807 := by obtain ⟨_, _, _, _, _⟩ := h; omega
theorem vldD0 {n d : Int} (h : Vld n d) : -9223372036854775808 ≤ d := by obtain ⟨_, _, _, _, _⟩ := h; omega
theorem vldD1 {n d : Int} (h : Vld n d) : d ≤ 9223372036854775807 := by obtain ⟨_, _, _, _, _⟩ := h; omega

theorem text_bad (n d : Int) (w : World) (hv : vldB n d = false) :
    Calls Tryd.prog 27 #[.agg #[.int .i64 n, .int .i64 d]] w fun e w' => e = .returned (.string ⟨#[]⟩) ∧ Below w.heap.size w w' := by
  go_enter Tryd.func27, Tryd.ntmps27
  go_wp2_with fail
  refine (valid_any n d _).mono ?_
  rintro e w1 ⟨rfl, hb1⟩
  have HB := below_up (((Below.refl _ _).alloc (Nat.le_refl _) _)) hb1 (by simp)
  clear hb1
  go_wp2_with fail
  go_ret
  exact ⟨rfl, HB⟩

theorem text_one (n : Int) (w : World) (he : Env w) (hv : vldB n 1 = true) :
    Calls Tryd.prog 27 #[.agg #[.int .i64 n, .int .i64 1]] w fun e w' => e = .returned (.string ⟨(Lib.itoa n).toArray⟩) ∧ Below w.heap.size w w' := by
  have HV := Lib.hid (vldB_true hv)
  go_enter Tryd.func27, Tryd.ntmps27
  go_wp2_with fail
  refine (valid_any n 1 _).mono ?_
  rintro e w1 ⟨rfl, hb1⟩
  have A1 : Rat2 w1 w.heap.size n 1 := Rat2.below ⟨by simp [go_sem], by simp [go_sem]⟩ hb1
  have HB := below_up (((Below.refl _ _).alloc (Nat.le_refl _) _)) hb1 (by simp)
  have c0 := A1.c0; have c1 := A1.c1
  have HE := Lib.hid (he.below HB)
  clear hb1 he
  go_wp2_with fail
  refine (itoa_any n ?_ ?_ _ HE.out).mono ?_
  iterate 2 (obtain ⟨_, _, _, _, _⟩ := HV.out; omega)
  rintro e w2 ⟨rfl, hb2⟩
  have HB2 := below_up HB hb2 HB.size
  clear hb2
  go_wp2_with fail
  go_ret
  exact ⟨rfl, HB2⟩

theorem text_two (n d : Int) (w : World) (he : Env w) (hv : vldB n d = true) (hd : d ≠ 1) :
    Calls Tryd.prog 27 #[.agg #[.int .i64 n, .int .i64 d]] w fun e w' => e = .returned (.string ⟨(Lib.itoa n ++ [47] ++ Lib.itoa d).toArray⟩) ∧ Below w.heap.size w w' := by
  have HV := Lib.hid (vldB_true hv)
  have hd1 : ((d : Int) == 1) = false := by simpa using hd
  have HL1 := Lib.hid (Lib.itoa_length_le n (vldN0 HV.out) (vldN1 HV.out))
  have HL2 := Lib.hid (Lib.itoa_length_le d (vldD0 HV.out) (vldD1 HV.out))
  go_enter Tryd.func27, Tryd.ntmps27
  go_wp2_with fail
  refine (valid_any n d _).mono ?_
  rintro e w1 ⟨rfl, hb1⟩
  have A1 : Rat2 w1 w.heap.size n d := Rat2.below ⟨by simp [go_sem], by simp [go_sem]⟩ hb1
  have HB := below_up (((Below.refl _ _).alloc (Nat.le_refl _) _)) hb1 (by simp)
  have c0 := A1.c0; have c1 := A1.c1
  have HE := Lib.hid (he.below HB)
  have HA := Lib.hid A1
  clear hb1 he A1
  go_wp2_with fail
  have q1 : (9223372036854775807 < (Lib.itoa n).length + 1) = False := eq_false (by have := HL1.out; omega)
  have q2 : (9223372036854775807 < (Lib.itoa n).length + 1 + (Lib.itoa d).length) = False := eq_false (by have := HL1.out; have := HL2.out; omega)
  go_region_held3 (fun w' => w'.cell? ⟨w.heap.size, 0, none⟩ = some (.int .i64 n) ∧ w'.cell? ⟨w.heap.size, 1, none⟩ = some (.int .i64 d)) (go_keep)
    (first | (go_at_call_of 44 (Value.int IntKind.i64 n); refine (itoa_any n (vldN0 HV.out) (vldN1 HV.out) _ (HE.out.drewN 1)).mono ?_; rintro e w2 ⟨rfl, hb2⟩; have k2 := HA.out.below ((below_drewN _ w1 1).trans hb2); have k0 := k2.c0; have k1 := k2.c1) | (go_at_call_of 44 (Value.int IntKind.i64 d); refine (itoa_any d (vldD0 HV.out) (vldD1 HV.out) _ ((HE.out.drewN 1).below hb2)).mono ?_; rintro e w3 ⟨rfl, hb3⟩; have k4 := k2.below hb3; have k5 := k4.c0; have k6 := k4.c1))
  go_wp2_with fail
  go_ret
  exact ⟨by congr 2, (below_up HB ((below_drewN _ w1 1).trans hb2) HB.size).trans (hb3.mono (Nat.le_trans HB.size (Nat.le_trans ((below_drewN w1.heap.size w1 1).size) hb2.size)))⟩

/-- Text, for every ratio. -/
theorem text_any (n d : Int) (w : World) (he : Env w) :
    Calls Tryd.prog 27 #[.agg #[.int .i64 n, .int .i64 d]] w fun e w' => e = .returned (.string ⟨(txt n d).toArray⟩) ∧ Below w.heap.size w w' := by
  unfold txt
  cases hv : vldB n d
  · rw [if_neg (by decide)]
    exact text_bad n d w hv
  · rw [if_pos rfl]
    by_cases hd : d = 1
    · subst hd
      rw [if_pos rfl]
      exact text_one n w he hv
    · rw [if_neg hd]
      exact text_two n d w he hv hd
end Go.Proofs.YtpmggfmhkjafkaaDoor
