/- The contracts of the reference's digits and Text. -/
import Derived.Test.YtpmggfmhkjafkaaDoorRef
import Derived.Test.YtpmggfmhkjafkaaDoorCmp
import Derived.Test.YtpmggfmhkjafkaaDoorTextM
import Derived.Laws.IdiomStrings
namespace Go.Proofs.YtpmggfmhkjafkaaDoor
open Go.RowKit

/-- One byte as a string. -/
theorem conv_byte (W : World) (z : Int) : (convert 62 9 (.slice (some ⟨W.heap.size, 0, none⟩) 1 1)).run Tryd.prog (W.alloc (.cells #[.int .u8 z] 5)) = .ok (.string ⟨#[UInt8.ofNat z.toNat]⟩) (W.alloc (.cells #[.int .u8 z] 5)) := by
  rw [run_convert_bytes_string (W.alloc (.cells #[.int .u8 z] 5)) 62 9 5 _ 1 1 (by kernel_rfl) (by kernel_rfl) (by kernel_rfl)]
  rw [run_bytesToString (W.alloc (.cells #[.int .u8 z] 5)) ⟨W.heap.size, 0, none⟩ 1 1 [z] ?_]
  · simp; rfl
  · have hl := run_loadCells_list (P := Tryd.prog) (W.alloc (.cells #[.int .u8 z] 5)) ⟨W.heap.size, 0, none⟩ [.int .u8 z] (fun j v hj => by
      cases j with
      | zero => simp at hj; subst hj; simp [go_sem]
      | succ j => simp at hj)
    simpa using hl

theorem dec_step (n : Nat) : Lib.decDigits n = if n ≤ 9 then [UInt8.ofNat (48 + n % 10)] else Lib.decDigits (n / 10) ++ [UInt8.ofNat (48 + n % 10)] := by
  rw [Lib.decDigits]
  split
  · rw [if_pos (by omega), Nat.mod_eq_of_lt (by omega)]
  · rw [if_neg (by omega)]

theorem dec_len (n : Nat) (hn : n ≤ 1000000000) : (Lib.decDigits n).length ≤ 1000 := by
  have h := Lib.itoa_length_le (n : Int) (by omega) (by omega)
  unfold Lib.itoa at h
  rw [if_neg (by omega), Int.toNat_natCast] at h
  omega

theorem dig_nat (m : Nat) : UInt8.ofNat (48 + (m : Int) % 10).toNat = UInt8.ofNat (48 + m % 10) := by
  congr 1

theorem str_cons (b b' : UInt8) (h : b = b') (t : List UInt8) : Value.string (⟨#[b]⟩ ++ ⟨t.toArray⟩) = Value.string ⟨(b' :: t).toArray⟩ := by
  subst h
  congr 1

theorem refdigits_any (n : Nat) (hn : n ≤ 1000000000) (w : World) :
    Calls Tryd.prog 45 #[.int .u64 (n : Int)] w fun e w' => e = .returned (.string ⟨(Lib.decDigits n).toArray⟩) ∧ Below w.heap.size w w' := by
  have cv := conv_byte
  go_enter Tryd.func45, Tryd.ntmps45
  go_wp2
  go_loopw [0, 3] (fun a s wr => ∃ (m : Nat) (t : List UInt8), a = .int .u64 (m : Int) ∧ s = .string ⟨t.toArray⟩ ∧ Lib.decDigits n = (if m ≤ 9 then t else Lib.decDigits (m / 10) ++ t) ∧ m ≤ 1000000000 ∧ Below w.heap.size w wr) (fun a _ _ => (intOf a).toNat)
  case atStart => exact ⟨n, [UInt8.ofNat (48 + n % 10)], rfl, rfl, dec_step n, hn, (Below.refl _ _).alloc (Nat.le_refl _) _⟩
  case round =>
    obtain ⟨m, t, rfl, rfl, hd, hm, hb⟩ := hrel
    have HD := Lib.hid hd
    have HB := Lib.hid hb
    clear hd hb
    have tl : (9223372036854775807 < 1 + t.length) = False := eq_false (by
      have e := HD.out
      have l := dec_len n hn
      split at e
      · rw [e] at l; omega
      · rw [e, List.length_append] at l; omega)
    go_wp2
    · have hlt : (9 : Int) < (m : Int) := by assumption
      refine ⟨⟨m / 10, UInt8.ofNat (48 + m / 10 % 10) :: t, by simp, str_cons _ _ (by simp) t, ?_, by omega, HB.out.alloc HB.out.size _⟩, by simp [intOf]; omega⟩
      have e := HD.out
      rw [if_neg (by omega)] at e
      rw [e, dec_step (m / 10)]
      split
      · rfl
      · rw [List.append_assoc]; rfl
    · have hge : (m : Int) ≤ 9 := by assumption
      go_ret
      have e := HD.out
      rw [if_pos (by omega)] at e
      exact ⟨str_ret e.symm, HB.out⟩

theorem reftext_bad (n d : Int) (w : World) (hv : vldB n d = false) :
    Calls Tryd.prog 28 #[.agg #[.int .i64 n, .int .i64 d]] w fun e w' => e = .returned (.string ⟨#[]⟩) ∧ Below w.heap.size w w' := by
  go_enter Tryd.func28, Tryd.ntmps28
  go_wp2_with fail
  refine (refvalid_any n d _).mono ?_
  rintro e w1 ⟨rfl, hb1⟩
  have HB := below_up (((Below.refl _ _).alloc (Nat.le_refl _) _)) hb1 (by simp)
  clear hb1
  go_wp2_with fail
  go_ret
  exact ⟨rfl, HB⟩

theorem itoa_neg {n : Int} (h : n < 0) : Lib.itoa n = 45 :: Lib.decDigits n.natAbs := by unfold Lib.itoa; rw [if_pos h]
theorem itoa_pos {n : Int} (h : 0 ≤ n) : Lib.itoa n = Lib.decDigits n.natAbs := by
  unfold Lib.itoa; rw [if_neg (by omega)]; congr 1; omega

theorem reftext_ok (n d : Int) (w : World) (hv : vldB n d = true) (t : List UInt8) (ht : txt n d = t) :
    Calls Tryd.prog 28 #[.agg #[.int .i64 n, .int .i64 d]] w fun e w' => e = .returned (.string ⟨t.toArray⟩) ∧ Below w.heap.size w w' := by
  have HT := Lib.hid ht
  have HV := Lib.hid (vldB_true hv)
  obtain ⟨d1, d2, n1, n2, _⟩ := HV.out
  have LA := Lib.hid (dec_len n.natAbs (by omega))
  have LB := Lib.hid (dec_len d.natAbs (by omega))
  clear ht
  go_enter Tryd.func28, Tryd.ntmps28
  go_wp2_with fail
  refine (refvalid_any n d _).mono ?_
  rintro e w1 ⟨rfl, hb1⟩
  have A1 : Rat2 w1 w.heap.size n d := Rat2.below ⟨by simp [go_sem], by simp [go_sem]⟩ hb1
  have HB := below_up (((Below.refl _ _).alloc (Nat.le_refl _) _)) hb1 (by simp)
  have c0 := A1.c0; have c1 := A1.c1
  clear hb1
  go_wp2_with fail
  refine (size_any n (by omega) (by omega) _).mono ?_
  rintro e w' ⟨rfl, rfl⟩
  go_wp2_with fail
  refine (refdigits_any n.natAbs (by omega) _).mono ?_
  rintro e w2 ⟨rfl, hb2⟩
  replace A1 := A1.below hb2
  replace HB := below_up HB hb2 HB.size
  clear hb2 c0 c1
  have c0 := A1.c0; have c1 := A1.c1
  have q0 : (9223372036854775807 < 1 + (Lib.decDigits n.natAbs).length) = False := eq_false (by have := LA.out; omega)
  have q1 : (9223372036854775807 < (Lib.decDigits n.natAbs).length + 1) = False := eq_false (by have := LA.out; omega)
  have q2 : (9223372036854775807 < 1 + (Lib.decDigits n.natAbs).length + 1) = False := eq_false (by have := LA.out; omega)
  have q3 : (9223372036854775807 < (Lib.decDigits n.natAbs).length + 1 + 1) = False := eq_false (by have := LA.out; omega)
  have q4 : (9223372036854775807 < (Lib.decDigits n.natAbs).length + 1 + (Lib.decDigits d.natAbs).length) = False := eq_false (by have := LA.out; have := LB.out; omega)
  have q5 : (9223372036854775807 < 1 + (Lib.decDigits n.natAbs).length + 1 + (Lib.decDigits d.natAbs).length) = False := eq_false (by have := LA.out; have := LB.out; omega)
  have q6 : (9223372036854775807 < (Lib.decDigits n.natAbs).length + 1 + 1 + (Lib.decDigits d.natAbs).length) = False := eq_false (by have := LA.out; have := LB.out; omega)
  have HV1 := Lib.hid (vldB_true hv)
  by_cases hn : n < 0
  · by_cases hd : d = 1
    · go_wp2_with fail
      go_ret
      refine ⟨str_ret ?_, HB⟩
      rw [← HT.out]; unfold txt; rw [hv, if_pos rfl, if_pos hd, itoa_neg hn]
      simp
    · have hd1 : ((d : Int) == 1) = false := by simpa using hd
      go_wp2_with fail
      refine (size_any d (by omega) (by omega) _).mono ?_
      rintro e w' ⟨rfl, rfl⟩
      go_wp2_with fail
      refine (refdigits_any d.natAbs (by omega) _).mono ?_
      rintro e w3 ⟨rfl, hb3⟩
      replace HB := below_up HB hb3 HB.size
      go_wp2_with fail
      go_ret
      refine ⟨str_ret ?_, HB⟩
      rw [← HT.out]; unfold txt; rw [hv, if_pos rfl, if_neg hd, itoa_neg hn, itoa_pos (by omega)]
      simp
  · by_cases hd : d = 1
    · go_wp2_with fail
      go_ret
      refine ⟨str_ret ?_, HB⟩
      rw [← HT.out]; unfold txt; rw [hv, if_pos rfl, if_pos hd, itoa_pos (by omega)]
    · have hd1 : ((d : Int) == 1) = false := by simpa using hd
      go_wp2_with fail
      refine (size_any d (by omega) (by omega) _).mono ?_
      rintro e w' ⟨rfl, rfl⟩
      go_wp2_with fail
      refine (refdigits_any d.natAbs (by omega) _).mono ?_
      rintro e w3 ⟨rfl, hb3⟩
      replace HB := below_up HB hb3 HB.size
      go_wp2_with fail
      go_ret
      refine ⟨str_ret ?_, HB⟩
      rw [← HT.out]; unfold txt; rw [hv, if_pos rfl, if_neg hd, itoa_pos (by omega), itoa_pos (by omega)]
      simp

/-- Text, for every ratio. -/
theorem reftext_any (n d : Int) (w : World) :
    Calls Tryd.prog 28 #[.agg #[.int .i64 n, .int .i64 d]] w fun e w' => e = .returned (.string ⟨(txt n d).toArray⟩) ∧ Below w.heap.size w w' := by
  cases hv : vldB n d
  · rw [txt_bad hv]
    exact reftext_bad n d w hv
  · exact reftext_ok n d w hv _ rfl
end Go.Proofs.YtpmggfmhkjafkaaDoor
