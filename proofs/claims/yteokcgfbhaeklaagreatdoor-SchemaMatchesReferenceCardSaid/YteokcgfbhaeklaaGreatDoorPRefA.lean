/- The contracts of the reference's sign, Valid, Compare, digits, Decimal. -/
import Derived.Test.YteokcgfbhaeklaaGreatDoorPBase
import Derived.Test.YteokcgfbhaeklaaGreatDoorVCmp
import Derived.Test.YteokcgfbhaeklaaGreatDoorPMath
import Derived.Laws.IdiomStrings
namespace Go.Proofs.YteokcgfbhaeklaaGreatDoor.L2
open Go.RowKit

theorem refvalid_any (k n : Int) (t : List UInt8) (w : World) :
    Calls Tryz.prog 62 #[V k n t] w fun e w' => e = .returned (.bool (vldB k n t)) ∧ Below w.heap.size w w' := by
  go_enter Tryz.func62, Tryz.ntmps62
  go_wp2_with fail
  all_goals
    go_ret
    refine ⟨bool_ret (vldB_iff ?_), by go_grown⟩
    simp only [beq_iff_eq, beq_eq_false_iff_ne, ne_eq] at *
    unfold Vld
    by_cases ht : t = [] <;> simp [ht] <;> omega

end Go.Proofs.YteokcgfbhaeklaaGreatDoor.L2

/- The contracts of the reference's digits and Decimal. -/
namespace Go.Proofs.YteokcgfbhaeklaaGreatDoor.L2
open Go.RowKit

/-- One digit. -/
def dig1 (m : Nat) : UInt8 := UInt8.ofNat (48 + m)
theorem dig_cut (m : Nat) (h : m < 10) : (⟨#[48, 49, 50, 51, 52, 53, 54, 55, 56, 57]⟩ : ByteArray).extract m (m + 1) = ⟨#[dig1 m]⟩ := by
  rcases (by omega : m = 0 ∨ m = 1 ∨ m = 2 ∨ m = 3 ∨ m = 4 ∨ m = 5 ∨ m = 6 ∨ m = 7 ∨ m = 8 ∨ m = 9) with rfl | rfl | rfl | rfl | rfl | rfl | rfl | rfl | rfl | rfl <;> rfl

theorem digits_small (n : Nat) (h : n < 10) (w : World) :
    Calls Tryz.prog 106 #[.int .u64 (n : Int)] w fun e w' => e = .returned (.string ⟨(Lib.decDigits n).toArray⟩) ∧ ∃ k, w' = w.drewN k := by
  have hx := dig_cut n h
  go_enter Tryz.func106, Tryz.ntmps106
  go_wp2_with fail
  go_ret
  exact ⟨str_ret (show [dig1 n] = _ by rw [Lib.decDigits, dif_pos h]; rfl), 0, rfl⟩

set_option maxRecDepth 100000 in
theorem digits_any (n : Nat) : n ≤ 10000000000 → ∀ w : World,
    Calls Tryz.prog 106 #[.int .u64 (n : Int)] w fun e w' => e = .returned (.string ⟨(Lib.decDigits n).toArray⟩) ∧ ∃ k, w' = w.drewN k := by
  induction n using Nat.strongRecOn with
  | _ n ih =>
    intro hn w
    by_cases h : n < 10
    · exact digits_small n h w
    · obtain ⟨q, hq⟩ : ∃ q, n / 10 = q := ⟨_, rfl⟩
      obtain ⟨r, hr⟩ : ∃ r, n % 10 = r := ⟨_, rfl⟩
      have IH := Lib.hid (ih q (by omega) (by omega))
      have hr9 : r < 10 := by omega
      have hx := dig_cut r hr9
      have HD := Lib.hid (show Lib.decDigits n = Lib.decDigits q ++ [dig1 r] by rw [Lib.decDigits, dif_neg h, hq, hr]; rfl)
      have hl := Lib.itoa_length_le (q : Int) (by omega) (by omega)
      rw [Lib.itoa_nonneg] at hl
      have qq : (9223372036854775807 < (Lib.decDigits q).length + 1) = False := eq_false (by omega)
      have w1 : IntKind.u64.wrap ((n : Int) / 10) = (q : Int) := by simp only [IntKind.wrap_u64]; omega
      have w2 : (n : Int).tmod 10 = (r : Int) := by rw [Int.tmod_eq_emod_of_nonneg (by omega)]; omega
      have w3 : IntKind.u64.wrap ((r : Int) + 1) = (r : Int) + 1 := by simp only [IntKind.wrap_u64]; omega
      have hsl : ∀ W, (Instr.slice 9 (.string ⟨#[48, 49, 50, 51, 52, 53, 54, 55, 56, 57]⟩) (some (.int .u64 (r : Int))) (some (.int .u64 ((r : Int) + 1))) none).run Tryz.prog W = .ok (.string ⟨#[dig1 r]⟩) W := fun W => by
        rw [run_slice_string W 9 _ .u64 .u64 (r : Int) ((r : Int) + 1) (by kernel_rfl) (by omega) (by omega) (by show (r : Int) + 1 ≤ 10; omega), show ((r : Int) + 1).toNat = r + 1 by omega, Int.toNat_natCast, hx]
      clear ih hl hn hq hr
      go_enter Tryz.func106, Tryz.ntmps106
      go_wp2_with fail
      go_quiet ((go_at_call 106; exact Calls.quiet_of (IH.out _)))
      go_wp2_with fail
      go_ret
      exact ⟨str_ret HD.out.symm, _, rfl⟩

theorem decimal_any (n : Int) (h0 : -1000000000 ≤ n) (h1 : n ≤ 1000000000) (w : World) :
    Calls Tryz.prog 94 #[.int .i64 n] w fun e w' => e = .returned (.string ⟨(Lib.itoa n).toArray⟩) ∧ Below w.heap.size w w' := by
  obtain ⟨q, hq⟩ : ∃ q, n.natAbs = q := ⟨_, rfl⟩
  have HL := Lib.hid (Lib.itoa_length_le n (by omega) (by omega))
  have hq2 : q ≤ 10000000000 := by omega
  by_cases hn : n < 0
  · have w1 : IntKind.u64.wrap (-IntKind.u64.wrap n) = (q : Int) := by simp only [IntKind.wrap_u64]; omega
    have HI := Lib.hid (show Lib.itoa n = 45 :: Lib.decDigits q by rw [itoa_neg hn, hq])
    have qq : (9223372036854775807 < 1 + (Lib.decDigits q).length) = False := eq_false (by have := HL.out; rw [HI.out, List.length_cons] at this; omega)
    clear hq h0 h1
    go_enter Tryz.func94, Tryz.ntmps94
    go_wp2_with fail
    refine (digits_any q hq2 _).mono ?_
    rintro e w1 ⟨rfl, k, rfl⟩
    go_wp2_with fail
    go_ret
    exact ⟨str_ret HI.out.symm, below_drewN _ _ _⟩
  · have w1 : IntKind.u64.wrap n = (q : Int) := by simp only [IntKind.wrap_u64]; omega
    have HI := Lib.hid (show Lib.itoa n = Lib.decDigits q by rw [itoa_pos (by omega), hq])
    clear hq h0 h1
    go_enter Tryz.func94, Tryz.ntmps94
    go_wp2_with fail
    refine (digits_any q hq2 _).mono ?_
    rintro e w1 ⟨rfl, k, rfl⟩
    go_wp2_with fail
    go_ret
    exact ⟨str_ret HI.out.symm, below_drewN _ _ _⟩
end Go.Proofs.YteokcgfbhaeklaaGreatDoor.L2

/- The contracts of the reference's Quoted, unquoted, Number. -/
namespace Go.Proofs.YteokcgfbhaeklaaGreatDoor.L2
open Go.RowKit

theorem ext_eq (l : List UInt8) (i j : Nat) : (⟨l.toArray⟩ : ByteArray).extract i j = ⟨((l.drop i).take (j - i)).toArray⟩ := by
  apply ByteArray.ext
  simp
theorem ext_one (l : List UInt8) (k : Nat) (hk : k < l.length) : (⟨l.toArray⟩ : ByteArray).extract k (k + 1) = ⟨#[l[k]]⟩ := by
  rw [ext_eq, List.drop_eq_getElem_cons hk, show k + 1 - k = 1 by omega]
  rfl

/-- What the reference has written after k bytes. -/
def fq (l : List UInt8) (k : Nat) : List UInt8 := (l.take k).flatMap esc
theorem fq_succ (l : List UInt8) (k : Nat) (hk : k < l.length) : fq l (k + 1) = fq l k ++ esc l[k] := by
  unfold fq
  rw [List.take_succ_eq_append_getElem hk, List.flatMap_append]
  simp
theorem fq_len (l : List UInt8) (k : Nat) : (fq l k).length ≤ 2 * l.length := by
  have := qk_len l k; unfold qk at this; rw [List.length_cons] at this; unfold fq; omega
theorem fq_end (l : List UInt8) : quo l = 34 :: (fq l l.length ++ [34]) := by unfold quo fq; rw [List.take_length]

theorem str_app (a b c : List UInt8) (h : c = a ++ b) : Value.string (⟨a.toArray⟩ ++ ⟨b.toArray⟩) = Value.string ⟨c.toArray⟩ := by
  subst h; congr 1

set_option maxRecDepth 100000 in
set_option maxHeartbeats 1600000 in
theorem quoted_any (l : List UInt8) (hl : l.length ≤ 1000) (w : World) :
    Calls Tryz.prog 93 #[.string ⟨l.toArray⟩] w fun e w' => e = .returned (.string ⟨(quo l).toArray⟩) ∧ w = w' := by
  have HL := Lib.hid hl
  clear hl
  go_enter Tryz.func93, Tryz.ntmps93
  go_wp2_with fail
  go_loop [3, 4] (fun v i => ∃ k : Nat, k ≤ l.length ∧ i = .int .i64 (k : Int) ∧ v = .string ⟨(fq l k).toArray⟩) (fun _ i => l.length - (intOf i).toNat)
  case atStart => exact ⟨0, by omega, by simp, rfl⟩
  case round =>
    obtain ⟨k, hk, rfl, rfl⟩ := hrel
    have LQ := Lib.hid (fq_len l k)
    have q1 : (9223372036854775807 < (fq l k).length + 2) = False := eq_false (by have := LQ.out; have := HL.out; omega)
    have q2 : (9223372036854775807 < (fq l k).length + 1) = False := eq_false (by have := LQ.out; have := HL.out; omega)
    by_cases hlt : k < l.length
    · have hb2 : ∀ (h : k < (ByteArray.mk l.toArray).size), (⟨l.toArray⟩ : ByteArray)[k]'h = l[k] := fun _ => rfl
      have hx := ext_one l k hlt
      have HSU := Lib.hid (show ∀ e, esc l[k] = e → fq l (k + 1) = fq l k ++ e from fun e h => by rw [← h]; exact fq_succ l k hlt)
      have hL := HL.out
      by_cases h1 : l[k].toNat = 34
      · have e1 : ((l[k].toNat : Int) == 34) = true := by simp; omega
        have HE := Lib.hid (show esc l[k] = [92, 34] by unfold esc; rw [if_pos (Or.inl h1), show l[k] = 34 from UInt8.toNat_inj.1 (by rw [h1]; rfl)])
        clear h1
        go_wp2_with fail
        go_round
        case rel => exact ⟨k + 1, by omega, by simp, str_app _ [92, 34] _ (HSU.out _ HE.out)⟩
        case measure => simp [intOf]; omega
      · by_cases h2 : l[k].toNat = 92
        · have e1 : ((l[k].toNat : Int) == 34) = false := by simp; omega
          have e2 : ((l[k].toNat : Int) == 92) = true := by simp; omega
          have HE := Lib.hid (show esc l[k] = [92, 92] by unfold esc; rw [if_pos (Or.inr h2), show l[k] = 92 from UInt8.toNat_inj.1 (by rw [h2]; rfl)])
          clear h1 h2
          go_wp2_with fail
          go_round
          case rel => exact ⟨k + 1, by omega, by simp, str_app _ [92, 92] _ (HSU.out _ HE.out)⟩
          case measure => simp [intOf]; omega
        · by_cases h3 : l[k].toNat = 10
          · have e1 : ((l[k].toNat : Int) == 34) = false := by simp; omega
            have e2 : ((l[k].toNat : Int) == 92) = false := by simp; omega
            have e3 : ((l[k].toNat : Int) == 10) = true := by simp; omega
            have HE := Lib.hid (show esc l[k] = [92, 110] by unfold esc; rw [if_neg (by omega), if_pos h3])
            clear h1 h2 h3
            go_wp2_with fail
            go_round
            case rel => exact ⟨k + 1, by omega, by simp, str_app _ [92, 110] _ (HSU.out _ HE.out)⟩
            case measure => simp [intOf]; omega
          · have e1 : ((l[k].toNat : Int) == 34) = false := by simp; omega
            have e2 : ((l[k].toNat : Int) == 92) = false := by simp; omega
            have e3 : ((l[k].toNat : Int) == 10) = false := by simp; omega
            have HE := Lib.hid (show esc l[k] = [l[k]] by unfold esc; rw [if_neg (by omega), if_neg h3])
            clear h1 h2 h3
            go_wp2_with fail
            go_round
            case rel => exact ⟨k + 1, by omega, by simp, str_app _ [l[k]] _ (HSU.out _ HE.out)⟩
            case measure => simp [intOf]; omega
    · have ke : k = l.length := by omega
      subst ke
      have q3 : (9223372036854775807 < 1 + (fq l l.length).length) = False := eq_false (by have := LQ.out; have := HL.out; omega)
      have q4 : (9223372036854775807 < 1 + (fq l l.length).length + 1) = False := eq_false (by have := LQ.out; have := HL.out; omega)
      go_wp2_with fail
      go_ret
      exact ⟨by rw [fq_end]; congr 2, rfl⟩

theorem runq_end (l : List UInt8) (k : Nat) (a : List UInt8) (h : runq (l.drop 1) = a ++ runq (l.drop k)) (hk : l.length ≤ k + 1) : runq (l.drop 1) = a := by
  rw [h, runq_short (l.drop k) (by rw [List.length_drop]; omega), List.append_nil]
theorem runq_step1 (l : List UInt8) (k : Nat) (hk : k + 1 < l.length) (a : List UInt8) (h : runq (l.drop 1) = a ++ runq (l.drop k)) (hc : l[k].toNat ≠ 92) : runq (l.drop 1) = (a ++ [l[k]]) ++ runq (l.drop (k + 1)) := by
  rw [h, List.drop_eq_getElem_cons (show k < l.length by omega), runq_plain hc _ (by rw [ne_eq, List.drop_eq_nil_iff]; omega), List.append_assoc]; rfl
theorem runq_step2 (l : List UInt8) (k : Nat) (hk : k + 1 < l.length) (a : List UInt8) (h : runq (l.drop 1) = a ++ runq (l.drop k)) (hc : l[k].toNat = 92) (e : UInt8) (he : (if l[k + 1].toNat = 110 then (10 : UInt8) else l[k + 1]) = e) : runq (l.drop 1) = (a ++ [e]) ++ runq (l.drop (k + 1 + 1)) := by
  rw [h, List.drop_eq_getElem_cons (show k < l.length by omega), List.drop_eq_getElem_cons hk]
  have h92 : l[k] = 92 := UInt8.toNat_inj.1 (by rw [hc]; rfl)
  rw [h92, runq_esc, he, List.append_assoc]; rfl
theorem byte_ne {c d : UInt8} (h : c.toNat ≠ d.toNat) : (c == d) = false := by rw [beq_eq_false_iff_ne]; exact fun e => h (by rw [e])
theorem byte_eq {c d : UInt8} (h : c.toNat = d.toNat) : c = d := UInt8.toNat_inj.1 h

set_option maxRecDepth 100000 in
set_option maxHeartbeats 1600000 in
theorem unquoted_any (l : List UInt8) (hl : l.length ≤ 1000) (w : World) :
    Calls Tryz.prog 96 #[.string ⟨l.toArray⟩] w fun e w' => e = .returned (.string ⟨(runq (l.drop 1)).toArray⟩) ∧ w = w' := by
  have HL := Lib.hid hl
  clear hl
  go_enter Tryz.func96, Tryz.ntmps96
  go_wp2_with fail
  go_loop [3, 4] (fun v i => ∃ (k : Nat) (a : List UInt8), i = .int .i64 (k : Int) ∧ v = .string ⟨a.toArray⟩ ∧ runq (l.drop 1) = a ++ runq (l.drop k) ∧ 1 ≤ k ∧ a.length ≤ k ∧ k ≤ l.length + 1) (fun _ i => l.length + 1 - (intOf i).toNat)
  case atStart => exact ⟨1, [], rfl, rfl, by simp, by omega, by simp, by omega⟩
  case round =>
    obtain ⟨k, a, rfl, rfl, hu, hk1, ha, hk⟩ := hrel
    have HU := Lib.hid hu
    have HA := Lib.hid ha
    clear hu ha
    have hL := HL.out
    have q1 : (9223372036854775807 < a.length + 1) = False := eq_false (by have := HA.out; omega)
    by_cases hlt : k + 1 < l.length
    · have hx := ext_one l k (by omega)
      by_cases h1 : l[k].toNat = 92
      · have h92 := byte_eq (d := 92) h1
        have hx1 := ext_one l (k + 1) hlt
        by_cases h2 : l[k + 1].toNat = 110
        · have h110 := byte_eq (d := 110) h2
          have HS := Lib.hid (runq_step2 l k hlt a HU.out h1 10 (if_pos h2))
          rw [h92] at hx
          rw [h110] at hx1
          clear h1 h2 h92 h110
          go_wp2_with fail
          go_round
          case rel => exact ⟨k + 1 + 1, _, by simp, str_app a [10] _ rfl, HS.out, by omega, by have := HA.out; simp; omega, by omega⟩
          case measure => simp [intOf]; omega
        · have e2 : (l[k + 1] == 110) = false := byte_ne h2
          have e3 : ¬ l[k + 1] = 110 := by simpa using e2
          have HS := Lib.hid (runq_step2 l k hlt a HU.out h1 l[k + 1] (if_neg h2))
          rw [h92] at hx
          clear h1 h2 h92
          go_wp2_with fail
          go_round
          case rel => exact ⟨k + 1 + 1, _, by simp, str_app a [l[k + 1]] _ rfl, HS.out, by omega, by have := HA.out; simp; omega, by omega⟩
          case measure => simp [intOf]; omega
      · have e1 : (l[k] == 92) = false := byte_ne h1
        have e3 : ¬ l[k] = 92 := by simpa using e1
        have HS := Lib.hid (runq_step1 l k hlt a HU.out h1)
        clear h1
        go_wp2_with fail
        go_round
        case rel => exact ⟨k + 1, _, by simp, str_app a [l[k]] _ rfl, HS.out, by omega, by have := HA.out; simp; omega, by omega⟩
        case measure => simp [intOf]; omega
    · have HF := Lib.hid (runq_end l k a HU.out (by omega))
      go_wp2_with fail
      go_ret
      exact ⟨str_ret (by rw [← List.drop_one]; exact HF.out.symm), rfl⟩

/-- What Number returns: some number; the one whose text this is, if there is one. -/
def NumPost (l : List UInt8) (w : World) (e : Ending) (w' : World) : Prop :=
  ∃ N, e = .returned (.int .i64 N) ∧ (∀ n, -1000000000 ≤ n → n ≤ 1000000000 → Lib.itoa n = l → N = n) ∧ w = w'

theorem take_drop_cons (l : List UInt8) (k : Nat) (hk : k < l.length) (h20 : k < 20) : (l.take 20).drop k = l[k] :: (l.take 20).drop (k + 1) := by
  rw [List.drop_eq_getElem_cons (by rw [List.length_take]; omega), List.getElem_take]

theorem numS_wrap (m : Nat) (c : UInt8) (h1 : 48 ≤ c.toNat) (h2 : c.toNat ≤ 57) : IntKind.u64.wrap (IntKind.u64.wrap ((m : Int) * 10) + ((c.toNat : Int) - 48)) = ((numS m c : Nat) : Int) := by
  unfold numS
  rw [if_pos ⟨h1, h2⟩]
  simp only [IntKind.wrap_u64]
  omega
theorem numS_lt (m : Nat) (c : UInt8) (hm : m < 18446744073709551616) : numS m c < 18446744073709551616 := by
  unfold numS
  split
  · exact Nat.mod_lt _ (by decide)
  · exact hm
theorem num_post1 {l : List UInt8} {m : Nat} {w : World} {e : Ending} (hv : numM 0 (l.take 20) = m) (h : l = [] ∨ ∃ h : 0 < l.length, l[0].toNat ≠ 45) (he : e = .returned (.int .i64 (wrap64 (m : Int)))) : NumPost l w e w := by
  refine ⟨_, he, fun n h0 h1 hn => ?_, rfl⟩
  by_cases hneg : n < 0
  · obtain ⟨_, r, hr⟩ := num_neg h0 hn hneg
    exfalso
    rcases h with h | ⟨h, g⟩
    · rw [hr] at h; cases h
    · subst hr; exact g rfl
  · have hp := (num_pos h1 hn (by omega)).1
    rw [hv] at hp
    simp only [wrap64]
    omega
theorem num_post2 {l : List UInt8} {m : Nat} {w : World} {e : Ending} (hv : numM 0 (l.take 20) = m) (hp0 : 0 < l.length) (h : l[0].toNat = 45) (he : e = .returned (.int .i64 (wrap64 (IntKind.u64.wrap (-(m : Int)))))) : NumPost l w e w := by
  refine ⟨_, he, fun n h0 h1 hn => ?_, rfl⟩
  by_cases hneg : n < 0
  · have hp := (num_neg h0 hn hneg).1
    rw [hv] at hp
    simp only [wrap64, IntKind.wrap_u64]
    omega
  · obtain ⟨_, c, r, hr, hc⟩ := num_pos h1 hn (by omega)
    exfalso
    subst hr
    exact hc h

set_option maxRecDepth 100000 in
set_option maxHeartbeats 1600000 in
theorem number_ref (l : List UInt8) (hl : l.length ≤ 1000) (w : World) :
    Calls Tryz.prog 95 #[.string ⟨l.toArray⟩] w (NumPost l w) := by
  have HL := Lib.hid hl
  clear hl
  go_enter Tryz.func95, Tryz.ntmps95
  go_wp2_with fail
  go_loop [3, 4] (fun v i => ∃ k m : Nat, i = .int .i64 (k : Int) ∧ v = .int .u64 (m : Int) ∧ m < 18446744073709551616 ∧ numM 0 (l.take 20) = numM m ((l.take 20).drop k) ∧ k ≤ l.length ∧ k ≤ 20) (fun _ i => l.length - (intOf i).toNat)
  case atStart => exact ⟨0, 0, rfl, rfl, by omega, by simp, by omega, by omega⟩
  case round =>
    obtain ⟨k, m, rfl, rfl, hm, hu, hk, h20⟩ := hrel
    have HU := Lib.hid hu
    have HM := Lib.hid hm
    clear hu
    have hL := HL.out
    by_cases hlt : k < l.length
    · by_cases hk2 : k < 20
      · have hb2 : ∀ (h : k < (ByteArray.mk l.toArray).size), (⟨l.toArray⟩ : ByteArray)[k]'h = l[k] := fun _ => rfl
        have HS := Lib.hid (show numM 0 (l.take 20) = numM (numS m l[k]) ((l.take 20).drop (k + 1)) by rw [HU.out, take_drop_cons l k hlt hk2]; rfl)
        go_wp2_with fail
        · have c1 : (48 : Int) ≤ l[k].toNat := by assumption
          have c2 : (l[k].toNat : Int) ≤ 57 := by assumption
          refine ⟨⟨k + 1, numS m l[k], by simp, by rw [numS_wrap m l[k] (by omega) (by omega)], numS_lt m l[k] HM.out, HS.out, by omega, by omega⟩, by simp [intOf]; omega⟩
        · have c2 : (57 : Int) < l[k].toNat := by assumption
          refine ⟨⟨k + 1, m, by simp, rfl, HM.out, ?_, by omega, by omega⟩, by simp [intOf]; omega⟩
          rw [HS.out]; unfold numS; rw [if_neg (by omega)]
        · have c1 : ¬ (48 : Int) ≤ l[k].toNat := by assumption
          refine ⟨⟨k + 1, m, by simp, rfl, HM.out, ?_, by omega, by omega⟩, by simp [intOf]; omega⟩
          rw [HS.out]; unfold numS; rw [if_neg (by omega)]
      · have k20 : k = 20 := by omega
        have HV := Lib.hid (show numM 0 (l.take 20) = m by rw [HU.out, k20, List.drop_eq_nil_of_le (by rw [List.length_take]; omega)]; rfl)
        clear HU
        by_cases h0 : l = []
        · have HZ := Lib.hid h0
          have z1 : (l == []) = true := by simpa using h0
          have z2 : (!l == []) = false := by simpa using h0
          have z3 : l.isEmpty = true := by simpa using h0
          clear h0
          go_wp2_with fail
          go_ret
          exact num_post1 HV.out (Or.inl HZ.out) rfl
        · have z1 : (l == []) = false := by simpa using h0
          have z2 : (!l == []) = true := by simpa using h0
          have z3 : l.isEmpty = false := by simpa using h0
          have hp : 0 < l.length := List.length_pos_iff.2 h0
          have hb0 : ∀ (h : 0 < (ByteArray.mk l.toArray).size), (⟨l.toArray⟩ : ByteArray)[0]'h = l[0] := fun _ => rfl
          by_cases h45 : l[0].toNat = 45
          · have e45 : ((l[0].toNat : Int) == 45) = true := by simp; omega
            have HZ := Lib.hid h45
            clear h45 h0
            go_wp2_with fail
            go_ret
            exact num_post2 HV.out hp HZ.out rfl
          · have e45 : ((l[0].toNat : Int) == 45) = false := by simp; omega
            have HZ := Lib.hid h45
            clear h45 h0
            go_wp2_with fail
            go_ret
            exact num_post1 HV.out (Or.inr ⟨hp, HZ.out⟩) rfl
    · have ke : k = l.length := by omega
      have HV := Lib.hid (show numM 0 (l.take 20) = m by rw [HU.out, List.drop_eq_nil_of_le (by rw [List.length_take]; omega)]; rfl)
      clear HU
      by_cases h0 : l = []
      · have HZ := Lib.hid h0
        have z1 : (l == []) = true := by simpa using h0
        have z2 : (!l == []) = false := by simpa using h0
        have z3 : l.isEmpty = true := by simpa using h0
        clear h0
        go_wp2_with fail
        go_ret
        exact num_post1 HV.out (Or.inl HZ.out) rfl
      · have z1 : (l == []) = false := by simpa using h0
        have z2 : (!l == []) = true := by simpa using h0
        have z3 : l.isEmpty = false := by simpa using h0
        have hp : 0 < l.length := List.length_pos_iff.2 h0
        have hb0 : ∀ (h : 0 < (ByteArray.mk l.toArray).size), (⟨l.toArray⟩ : ByteArray)[0]'h = l[0] := fun _ => rfl
        by_cases h45 : l[0].toNat = 45
        · have e45 : ((l[0].toNat : Int) == 45) = true := by simp; omega
          have HZ := Lib.hid h45
          clear h45 h0
          go_wp2_with fail
          go_ret
          exact num_post2 HV.out hp HZ.out rfl
        · have e45 : ((l[0].toNat : Int) == 45) = false := by simp; omega
          have HZ := Lib.hid h45
          clear h45 h0
          go_wp2_with fail
          go_ret
          exact num_post1 HV.out (Or.inr ⟨hp, HZ.out⟩) rfl
end Go.Proofs.YteokcgfbhaeklaaGreatDoor.L2

/- The contract of the reference's Text. -/
namespace Go.Proofs.YteokcgfbhaeklaaGreatDoor.L2
open Go.RowKit

theorem reftext_bad (k n : Int) (t : List UInt8) (hv : vldB k n t = false) (w : World) :
    Calls Tryz.prog 63 #[V k n t] w fun e w' => e = .returned (.string ⟨#[]⟩) ∧ Below w.heap.size w w' := by
  go_enter Tryz.func63, Tryz.ntmps63
  go_wp2_with fail
  refine (refvalid_any k n t _).mono ?_
  rintro e w1 ⟨rfl, hb1⟩
  have HB := below_up (((Below.refl _ _).alloc (Nat.le_refl _) _)) hb1 (by simp)
  clear hb1
  go_wp2_with fail
  go_ret
  exact ⟨rfl, HB⟩

theorem reftext_null (n : Int) (t : List UInt8) (hv : vldB 0 n t = true) (w : World) :
    Calls Tryz.prog 63 #[V 0 n t] w fun e w' => e = .returned (.string ⟨#[110, 117, 108, 108]⟩) ∧ Below w.heap.size w w' := by
  go_enter Tryz.func63, Tryz.ntmps63
  go_wp2_with fail
  refine (refvalid_any 0 n t _).mono ?_
  rintro e w1 ⟨rfl, hb1⟩
  have A1 : Val3 w1 w.heap.size 0 n t := Val3.below ⟨by simp [go_sem], by simp [go_sem], by simp [go_sem]⟩ hb1
  have HB := below_up (((Below.refl _ _).alloc (Nat.le_refl _) _)) hb1 (by simp)
  have c0 := A1.c0
  clear hb1
  go_wp2_with fail
  go_ret
  exact ⟨rfl, HB⟩

theorem reftext_text (n : Int) (t : List UInt8) (hv : vldB 1 n t = true) (w : World) :
    Calls Tryz.prog 63 #[V 1 n t] w fun e w' => e = .returned (.string ⟨(quo t).toArray⟩) ∧ Below w.heap.size w w' := by
  have HL := Lib.hid (vld_len hv)
  go_enter Tryz.func63, Tryz.ntmps63
  go_wp2_with fail
  refine (refvalid_any 1 n t _).mono ?_
  rintro e w1 ⟨rfl, hb1⟩
  have A1 : Val3 w1 w.heap.size 1 n t := Val3.below ⟨by simp [go_sem], by simp [go_sem], by simp [go_sem]⟩ hb1
  have HB := below_up (((Below.refl _ _).alloc (Nat.le_refl _) _)) hb1 (by simp)
  have c0 := A1.c0; have c2 := A1.c2
  clear hb1
  go_wp2_with fail
  refine (quoted_any t (by have := HL.out; omega) _).mono ?_
  rintro e w2 ⟨rfl, rfl⟩
  have HB2 := HB
  go_wp2_with fail
  go_ret
  exact ⟨rfl, HB2⟩

theorem reftext_num (n : Int) (t : List UInt8) (hv : vldB 2 n t = true) (w : World) :
    Calls Tryz.prog 63 #[V 2 n t] w fun e w' => e = .returned (.string ⟨(Lib.itoa n).toArray⟩) ∧ Below w.heap.size w w' := by
  have HN := Lib.hid (vld_bound hv)
  go_enter Tryz.func63, Tryz.ntmps63
  go_wp2_with fail
  refine (refvalid_any 2 n t _).mono ?_
  rintro e w1 ⟨rfl, hb1⟩
  have A1 : Val3 w1 w.heap.size 2 n t := Val3.below ⟨by simp [go_sem], by simp [go_sem], by simp [go_sem]⟩ hb1
  have HB := below_up (((Below.refl _ _).alloc (Nat.le_refl _) _)) hb1 (by simp)
  have c0 := A1.c0; have c1 := A1.c1
  clear hb1
  go_wp2_with fail
  refine (decimal_any n (by have := HN.out; omega) (by have := HN.out; omega) _).mono ?_
  rintro e w2 ⟨rfl, hb2⟩
  have HB2 := below_up HB hb2 HB.size
  clear hb2
  go_wp2_with fail
  go_ret
  exact ⟨rfl, HB2⟩

theorem reftext_day (n : Int) (t : List UInt8) (hv : vldB 3 n t = true) (w : World) :
    Calls Tryz.prog 63 #[V 3 n t] w fun e w' => e = .returned (.string ⟨(64 :: Lib.itoa n).toArray⟩) ∧ Below w.heap.size w w' := by
  have HN := Lib.hid (vld_bound hv)
  have HL := Lib.hid (Lib.itoa_length_le n (by have := HN.out; omega) (by have := HN.out; omega))
  go_enter Tryz.func63, Tryz.ntmps63
  go_wp2_with fail
  refine (refvalid_any 3 n t _).mono ?_
  rintro e w1 ⟨rfl, hb1⟩
  have A1 : Val3 w1 w.heap.size 3 n t := Val3.below ⟨by simp [go_sem], by simp [go_sem], by simp [go_sem]⟩ hb1
  have HB := below_up (((Below.refl _ _).alloc (Nat.le_refl _) _)) hb1 (by simp)
  have c0 := A1.c0; have c1 := A1.c1
  clear hb1
  go_wp2_with fail
  refine (decimal_any n (by have := HN.out; omega) (by have := HN.out; omega) _).mono ?_
  rintro e w2 ⟨rfl, hb2⟩
  have HB2 := below_up HB hb2 HB.size
  clear hb2
  have q : (9223372036854775807 < 1 + (Lib.itoa n).length) = False := eq_false (by have := HL.out; omega)
  go_wp2_with fail
  go_ret
  exact ⟨str_ret (by simp), HB2⟩

theorem reftext_flag (n : Int) (t : List UInt8) (hv : vldB 4 n t = true) (l : List UInt8) (hl : txt 4 n t = l) (w : World) :
    Calls Tryz.prog 63 #[V 4 n t] w fun e w' => e = .returned (.string ⟨l.toArray⟩) ∧ Below w.heap.size w w' := by
  have HL := Lib.hid hl
  clear hl
  go_enter Tryz.func63, Tryz.ntmps63
  go_wp2_with fail
  refine (refvalid_any 4 n t _).mono ?_
  rintro e w1 ⟨rfl, hb1⟩
  have A1 : Val3 w1 w.heap.size 4 n t := Val3.below ⟨by simp [go_sem], by simp [go_sem], by simp [go_sem]⟩ hb1
  have HB := below_up (((Below.refl _ _).alloc (Nat.le_refl _) _)) hb1 (by simp)
  have c0 := A1.c0; have c1 := A1.c1
  clear hb1
  by_cases h1 : n = 1
  · subst h1
    go_wp2_with fail
    go_ret
    exact ⟨str_ret (by rw [← HL.out, txt_flag hv, if_pos rfl]), HB⟩
  · have e1 : (n == 1) = false := by simpa using h1
    have HH := Lib.hid h1
    clear h1
    go_wp2_with fail
    go_ret
    exact ⟨str_ret (by rw [← HL.out, txt_flag hv, if_neg HH.out]), HB⟩

/-- Text, for every value. -/
theorem reftext_any (k n : Int) (t : List UInt8) (w : World) :
    Calls Tryz.prog 63 #[V k n t] w fun e w' => e = .returned (.string ⟨(txt k n t).toArray⟩) ∧ Below w.heap.size w w' := by
  cases hv : vldB k n t
  · rw [txt_bad hv]; exact reftext_bad k n t hv w
  · rcases vld_cases hv with rfl | rfl | rfl | rfl | rfl
    · rw [txt_null hv]; exact reftext_null n t hv w
    · rw [txt_text hv]; exact reftext_text n t hv w
    · rw [txt_num hv]; exact reftext_num n t hv w
    · rw [txt_day hv]; exact reftext_day n t hv w
    · exact reftext_flag n t hv _ rfl w
end Go.Proofs.YteokcgfbhaeklaaGreatDoor.L2

