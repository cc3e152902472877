/- The reference's Valid, Make, Union. -/
import Derived.Test.YtoifcfocffcmcaaDoorSkRefA
import Derived.Test.YtoifcfocffcmcaaDoorSkRefM
import Derived.Test.YtoifcfocffcmcaaDoorSkOne
namespace Go.Proofs.YtoifcfocffcmcaaDoor
open Go.RowKit

set_option maxHeartbeats 1600000 in
theorem valid_ref (l : List Int) (v : Value) (w : World) (hl : l.length ≤ 4000) (h : Ints w v l) :
    Calls Tryd.prog 28 #[v] w fun e w' => e = .returned (.bool (isSk l)) ∧ Below w.heap.size w w' := by
  have HS := Lib.hid h
  obtain ⟨A, cap, rfl, hcap, _⟩ := h
  by_cases hs : l.length < 1 ∨ 64 < l.length
  · rw [isSk_short hs]
    obtain ⟨k, hk⟩ : ∃ k, l.length = k := ⟨_, rfl⟩
    rw [hk] at hs hl
    rw [hk]
    clear hk HS
    rcases hs with hs | hs
    · go_enter Tryd.func28, Tryd.ntmps28
      go_wp2_with fail
      go_ret
      exact ⟨rfl, Below.refl _ _⟩
    · go_enter Tryd.func28, Tryd.ntmps28
      go_wp2_with fail
      go_ret
      exact ⟨rfl, Below.refl _ _⟩
  have h1 : 1 ≤ l.length := by omega
  have h2 : l.length ≤ 64 := by omega
  have HE := isSk_all h1 h2
  rw [headD_get (by omega)] at HE
  have HE' := Lib.hid HE
  clear HE
  go_enter Tryd.func28, Tryd.ntmps28
  go_wp2_with fail
  go_loopw [3] (fun i wr => ∃ j : Nat, i = .int .i64 (j : Int) ∧ (isSk l = (l.drop j).all (vB (l[0]'(by omega)))) ∧ j ≤ l.length ∧ Below w.heap.size w wr) (fun i _ => l.length + 1 - (intOf i).toNat)
  case atStart => exact ⟨0, by simp, HE'.out, by omega, Below.refl _ _⟩
  case round =>
    obtain ⟨j, rfl, hi, hj, hbw⟩ := hrel
    have HI := Lib.hid hi
    have HB := Lib.hid hbw
    clear hi hbw
    by_cases hlt : j < l.length
    · obtain ⟨-, -, b, off, rfl, hc⟩ := (HS.out.below HB.out).spot (by omega)
      have c0 := hc 0 (by omega)
      have c1 := hc j hlt
      rw [Nat.add_zero] at c0
      clear hc
      have HN := Lib.hid (show isSk l = (vB (l[0]'(by omega)) l[j] && (l.drop (j + 1)).all (vB (l[0]'(by omega)))) from by rw [HI.out, List.drop_eq_getElem_cons hlt, List.all_cons])
      obtain ⟨f, hf⟩ : ∃ f, l[0]'(by omega) = f := ⟨_, rfl⟩
      obtain ⟨x, hx⟩ : ∃ x, l[j] = x := ⟨_, rfl⟩
      rw [hf] at c0 HN
      rw [hx] at c1 HN
      have HV := Lib.hid (vB_iff f x)
      have HF := Lib.hid hf
      clear hf hx
      have k0 : ∀ m, (wr.drewN m).cell? ⟨b, off, none⟩ = some (.int .i64 f) := fun m => c0
      have k1 : ∀ m, (wr.drewN m).cell? ⟨b, off + j, none⟩ = some (.int .i64 x) := fun m => c1
      clear c0 c1
      by_cases g1 : x < -1
      · have HN2 := Lib.hid (show isSk l = false by rw [HN.out, show vB f x = false from Bool.eq_false_iff.2 (fun e => by have := HV.out.1 e; omega)]; rfl)
        have d1 : decide (x < -1) = true := decide_eq_true g1
        go_wp2_with fail
        go_quiet (fail)
        go_wp2_with fail
        go_ret
        exact ⟨bool_ret HN2.out.symm, by first | exact HB.out | exact dN HB.out _⟩
      have d1 : decide (x < -1) = false := decide_eq_false g1
      by_cases g2 : 2147483647 ≤ x
      · have HN2 := Lib.hid (show isSk l = false by rw [HN.out, show vB f x = false from Bool.eq_false_iff.2 (fun e => by have := HV.out.1 e; omega)]; rfl)
        have d2 : decide (2147483647 ≤ x) = true := decide_eq_true g2
        go_wp2_with fail
        go_quiet (fail)
        go_wp2_with fail
        go_ret
        exact ⟨bool_ret HN2.out.symm, by first | exact HB.out | exact dN HB.out _⟩
      have d2 : decide (2147483647 ≤ x) = false := decide_eq_false g2
      by_cases g3 : x < 0 ↔ f < 0
      · have e3 : decide (x < 0) = decide (f < 0) := decide_eq_decide.2 g3
        have HN2 := Lib.hid (show isSk l = (l.drop (j + 1)).all (vB f) by rw [HN.out, HV.out.2 ⟨by omega, by omega, g3⟩]; rfl)
        obtain ⟨y, hy⟩ : ∃ y, decide (f < 0) = y := ⟨_, rfl⟩
        rw [hy] at e3
        have e4 : (y != y) = false := by simp
        clear g3
        go_wp2_with fail
        go_quiet (fail)
        go_wp2_with fail
        go_roundw
        case rel => exact ⟨j + 1, by simp, by rw [HN2.out, HF.out], by omega, by first | exact HB.out | exact dN HB.out _⟩
        case measure => simp [intOf]; omega
      · have e3 : decide (x < 0) ≠ decide (f < 0) := fun e => g3 (decide_eq_decide.1 e)
        have HN2 := Lib.hid (show isSk l = false by rw [HN.out, show vB f x = false from Bool.eq_false_iff.2 (fun e => g3 (HV.out.1 e).2.2)]; rfl)
        obtain ⟨y, hy⟩ : ∃ y, decide (f < 0) = y := ⟨_, rfl⟩
        obtain ⟨z, hz⟩ : ∃ z, decide (x < 0) = z := ⟨_, rfl⟩
        rw [hy, hz] at e3
        have e4 : (z == y) = false := beq_eq_false_iff_ne.2 e3
        clear g3 e3
        go_wp2_with fail
        go_quiet (fail)
        go_wp2_with fail
        go_ret
        exact ⟨bool_ret HN2.out.symm, by first | exact HB.out | exact dN HB.out _⟩
    · go_wp2_with fail
      go_ret
      exact ⟨bool_ret (by rw [HI.out, List.drop_eq_nil_of_le (by omega)]; rfl), HB.out⟩
end Go.Proofs.YtoifcfocffcmcaaDoor
