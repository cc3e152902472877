/- The contracts of within and apart. -/
import Derived.Test.YtendkghifcjffaaGreatDoorMFew
namespace Go.Proofs.YtendkghifcjffaaGreatDoor
open Go.RowKit

def inB (x : List UInt8) (b : List (List UInt8)) (k : Nat) : Bool := (b.take k).any (fun y => decide (x = y))
theorem inB_succ {x : List UInt8} {b : List (List UInt8)} {k : Nat} (hk : k < b.length) : inB x b (k + 1) = (inB x b k || decide (x = b[k])) := by
  unfold inB
  rw [List.take_succ_eq_append_getElem hk, List.any_append]
  simp
theorem inB_all (x : List UInt8) (b : List (List UInt8)) : inB x b b.length = decide (x ∈ b) := by
  unfold inB
  rw [List.take_length, Bool.eq_iff_iff, List.any_eq_true]
  simp
def withinB (a b : List (List UInt8)) : Bool := a.all (fun x => decide (x ∈ b))
def apartB (a b : List (List UInt8)) : Bool := a.all (fun x => !decide (x ∈ b))

set_option maxRecDepth 100000 in
set_option maxHeartbeats 1600000 in
theorem within_any (a b : List (List UInt8)) (u v : Value) (w : World) (ha : a.length ≤ 1000) (hb : b.length ≤ 1000) (hu : Strs w u a) (hv : Strs w v b) :
    Calls Tryz.prog 22 #[u, v] w fun e w' => e = .returned (.bool (withinB a b)) ∧ Below w.heap.size w w' := by
  have HU := Lib.hid hu
  have HV := Lib.hid hv
  obtain ⟨A, cap, rfl, hcap, _, _⟩ := hu
  obtain ⟨A2, cap2, rfl, hcap2, _, _⟩ := hv
  go_enter Tryz.func22, Tryz.ntmps22
  go_wp2_with fail
  go_loopw [5] (fun x wr => ∃ i : Nat, x = .int .i64 (i : Int) ∧ withinB a b = withinB (a.drop i) b ∧ i ≤ a.length ∧ Below w.heap.size w wr) (fun x _ => a.length + 1 - (intOf x).toNat)
  case atStart => exact ⟨0, by simp, rfl, by omega, Below.refl _ _⟩
  case round =>
    obtain ⟨i, rfl, hi, hia, hbr⟩ := hrel
    have HI := Lib.hid hi
    have HR := Lib.hid hbr
    clear hi hbr
    have hi2 : (i : Int) ≤ 1000 := by omega
    by_cases hlt : i < a.length
    · have HN := Lib.hid (show withinB (a.drop i) b = (decide (a[i] ∈ b) && withinB (a.drop (i + 1)) b) by rw [List.drop_eq_getElem_cons hlt]; rfl)
      obtain ⟨x, hx⟩ : ∃ x, a[i] = x := ⟨_, rfl⟩
      rw [hx] at HN
      have HX := Lib.hid hx
      clear hx
      go_wp2_with fail
      go_loopw [6, 7] (fun f y wr => ∃ k : Nat, y = .int .i64 (k : Int) ∧ f = .bool (inB x b k) ∧ k ≤ b.length ∧ Below w.heap.size w wr) (fun _ y _ => b.length + 1 - (intOf y).toNat)
      case atStart => exact ⟨0, by simp, by simp [inB], by omega, HR.out⟩
      case round =>
        clear HR
        obtain ⟨k, rfl, rfl, hk, hbr⟩ := hrel
        have HR := Lib.hid hbr
        clear hbr
        have hk2 : (k : Int) ≤ 1000 := by omega
        by_cases hkl : k < b.length
        · have HK := Lib.hid (inB_succ (x := x) hkl)
          obtain ⟨A', cap', e, _, _, hc⟩ := HU.out.below HR.out
          cases e
          obtain ⟨p, off, rfl, c0⟩ := hc i hlt
          obtain ⟨A', cap', e, _, _, hc2⟩ := HV.out.below HR.out
          cases e
          obtain ⟨p2, off2, rfl, c1⟩ := hc2 k hkl
          clear hc hc2
          rw [HX.out] at c0
          obtain ⟨z, hz⟩ : ∃ z, b[k] = z := ⟨_, rfl⟩
          rw [hz] at c1 HK
          obtain ⟨q, hq⟩ : ∃ q, inB x b k = q := ⟨_, rfl⟩
          rw [hq] at HK ⊢
          clear hz hq
          cases q
          · by_cases hxz : x = z
            · subst hxz
              go_wp2_with fail
              go_quiet (fail)
              go_wp2_with fail
              go_roundw
              case rel => exact ⟨k + 1, by simp, by rw [HK.out]; simp, by omega, dN HR.out _⟩
              case measure => simp [intOf]; omega
            · have hxb : (x == z) = false := by simpa using hxz
              go_wp2_with fail
              go_quiet (fail)
              go_wp2_with fail
              go_roundw
              case rel => exact ⟨k + 1, by simp, by rw [HK.out, decide_eq_false hxz]; rfl, by omega, dN HR.out _⟩
              case measure => simp [intOf]; omega
          · go_wp2_with fail
            go_quiet (fail)
            go_wp2_with fail
            go_roundw
            case rel => exact ⟨k + 1, by simp, by rw [HK.out]; rfl, by omega, dN HR.out _⟩
            case measure => simp [intOf]; omega
        · obtain rfl : k = b.length := by omega
          have HQ := Lib.hid (inB_all x b)
          obtain ⟨q, hq⟩ : ∃ q, inB x b b.length = q := ⟨_, rfl⟩
          rw [hq] at HQ ⊢
          clear hq
          cases q
          · have HF := Lib.hid (show withinB a b = false by rw [HI.out, HN.out, ← HQ.out]; rfl)
            go_wp2_with fail
            go_ret
            exact ⟨bool_ret (by rw [HF.out]), HR.out⟩
          · have HF := Lib.hid (show withinB a b = withinB (a.drop (i + 1)) b by rw [HI.out, HN.out, ← HQ.out]; rfl)
            go_wp2_with fail
            go_roundw
            case rel => exact ⟨i + 1, by simp, HF.out, by omega, HR.out⟩
            case measure => simp [intOf]; omega
    · have HE := Lib.hid (show withinB a b = true by rw [HI.out, List.drop_eq_nil_of_le (by omega)]; rfl)
      go_wp2_with fail
      go_ret
      exact ⟨bool_ret (by rw [HE.out]), HR.out⟩

set_option maxRecDepth 100000 in
set_option maxHeartbeats 1600000 in
theorem apart_any (a b : List (List UInt8)) (u v : Value) (w : World) (ha : a.length ≤ 1000) (hb : b.length ≤ 1000) (hu : Strs w u a) (hv : Strs w v b) :
    Calls Tryz.prog 23 #[u, v] w fun e w' => e = .returned (.bool (apartB a b)) ∧ Below w.heap.size w w' := by
  have HU := Lib.hid hu
  have HV := Lib.hid hv
  obtain ⟨A, cap, rfl, hcap, _, _⟩ := hu
  obtain ⟨A2, cap2, rfl, hcap2, _, _⟩ := hv
  go_enter Tryz.func23, Tryz.ntmps23
  go_wp2_with fail
  go_loopw [5] (fun x wr => ∃ i : Nat, x = .int .i64 (i : Int) ∧ apartB a b = apartB (a.drop i) b ∧ i ≤ a.length ∧ Below w.heap.size w wr) (fun x _ => a.length + 1 - (intOf x).toNat)
  case atStart => exact ⟨0, by simp, rfl, by omega, Below.refl _ _⟩
  case round =>
    obtain ⟨i, rfl, hi, hia, hbr⟩ := hrel
    have HI := Lib.hid hi
    have HR := Lib.hid hbr
    clear hi hbr
    have hi2 : (i : Int) ≤ 1000 := by omega
    by_cases hlt : i < a.length
    · have HN := Lib.hid (show apartB (a.drop i) b = (!decide (a[i] ∈ b) && apartB (a.drop (i + 1)) b) by rw [List.drop_eq_getElem_cons hlt]; rfl)
      obtain ⟨A', cap', e, _, _, hc⟩ := HU.out.below HR.out
      cases e
      obtain ⟨p, off, rfl, c0⟩ := hc i hlt
      clear hc
      obtain ⟨x, hx⟩ : ∃ x, a[i] = x := ⟨_, rfl⟩
      rw [hx] at HN c0
      clear hx
      have S1 : Hid (Strs wr (.slice (some ⟨p, off + i, none⟩) 1 (cap - i)) [x]) := Lib.hid ⟨_, _, rfl, by simp; omega, (fun e => by cases e), fun j hj => ⟨p, off + i, rfl, by
        have : j = 0 := by simpa using hj
        subst this
        exact c0⟩⟩
      have C := Lib.hid (within_any [x] b _ _ wr (by simp) hb S1.out (HV.out.below HR.out))
      have hq : withinB [x] b = decide (x ∈ b) := by unfold withinB; simp
      rw [hq] at C
      have hci : ¬ cap = i := by omega
      have hci2 : ¬ cap - i = 0 := by omega
      go_wp2_with fail
      refine C.out.mono ?_
      rintro e w1 ⟨rfl, hb⟩
      have HB1 := Lib.hid (below_up HR.out hb HR.out.size)
      clear hb
      obtain ⟨q, hq2⟩ : ∃ q, decide (x ∈ b) = q := ⟨_, rfl⟩
      rw [hq2] at HN ⊢
      clear hq hq2
      cases q
      · have HF := Lib.hid (show apartB a b = apartB (a.drop (i + 1)) b by rw [HI.out, HN.out]; rfl)
        go_wp2_with fail
        go_roundw
        case rel => exact ⟨i + 1, by simp, HF.out, by omega, HB1.out⟩
        case measure => simp [intOf]; omega
      · have HF := Lib.hid (show apartB a b = false by rw [HI.out, HN.out]; rfl)
        go_wp2_with fail
        go_ret
        exact ⟨bool_ret (by rw [HF.out]), HB1.out⟩
    · have HE := Lib.hid (show apartB a b = true by rw [HI.out, List.drop_eq_nil_of_le (by omega)]; rfl)
      go_wp2_with fail
      go_ret
      exact ⟨bool_ret (by rw [HE.out]), HR.out⟩
end Go.Proofs.YtendkghifcjffaaGreatDoor
