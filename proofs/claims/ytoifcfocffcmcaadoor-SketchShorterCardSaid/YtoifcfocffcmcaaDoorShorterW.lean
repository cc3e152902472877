/- SketchShorter in plain words. -/
import Derived.Test.YtoifcfocffcmcaaDoorSkOne
namespace Go.Proofs.YtoifcfocffcmcaaDoor
open Go.RowKit

theorem max_if (a b : Int) : (if a < b then b else a) = max a b := by split <;> omega
theorem min_if (a b : Int) : (if b < a then b else a) = min a b := by split <;> omega
theorem run_max2 {P : Program} (ts : Array TypeId) (t : TypeId) (a b : Int) (w : World) :
    (Builtin.max_ ts t #[.int .i64 a, .int .i64 b]).run P w = .ok (.int .i64 (max a b)) w := by
  simp [Builtin.max_, Builtin.max2, max_if]
abbrev OwnY (w : World) (base : Nat) (v : Value) (l : List UInt8) : Prop := w.ownsRow base 5 1 v l.length (bys l)
theorem run_min2 {P : Program} (ts : Array TypeId) (t : TypeId) (a b : Int) (w : World) :
    (Builtin.min_ ts t #[.int .i64 a, .int .i64 b]).run P w = .ok (.int .i64 (min a b)) w := by
  simp [Builtin.min_, Builtin.min2, min_if]

/-- Whether one of the first k tokens has the least hash. -/
def hit (toks : List (List UInt8)) (i : Int) (k : Nat) : Bool := decide (toks = []) || (toks.take k).any (fun t => hashT t i == leastH toks i)
theorem hit_zero (toks : List (List UInt8)) (i : Int) : hit toks i 0 = decide (toks = []) := by simp [hit]
theorem hit_succ (toks : List (List UInt8)) (i : Int) {k : Nat} (h : k < toks.length) : hit toks i (k + 1) = (hit toks i k || (hashT toks[k] i == leastH toks i)) := by
  unfold hit
  rw [List.take_succ_eq_append_getElem h, List.any_append]
  simp [Bool.or_assoc]
theorem hit_all (toks : List (List UInt8)) (i : Int) : hit toks i toks.length = true := by
  unfold hit
  by_cases h : toks = []
  · rw [decide_eq_true h]; rfl
  · rw [decide_eq_false h, Bool.false_or, List.take_length, List.any_eq_true]
    have hn : hashes toks i ≠ [] := by intro e; exact h (List.map_eq_nil_iff.1 e)
    obtain ⟨t, ht, e⟩ := List.mem_map.1 (least_mem hn)
    exact ⟨t, ht, beq_iff_eq.2 e⟩
theorem hash_ge (toks : List (List UInt8)) (i : Int) {k : Nat} (h : k < toks.length) : leastH toks i ≤ hashT toks[k] i :=
  least_le (List.mem_map.2 ⟨toks[k], List.getElem_mem _, rfl⟩)

set_option maxRecDepth 100000 in
theorem shorter_few (toks : List (List UInt8)) (c d : UInt8) (v : Value) (w : World) (ht : Tab w) (h : Strs w v toks) (hf : fewB toks = false) :
    Calls Tryd.prog 9 #[v, .int .u8 (c.toNat : Int), .int .u8 (d.toNat : Int)] w fun e w' => e = .returned (.bool true) ∧ Below w.heap.size w w' := by
  have HF := Lib.hid (fun W (hw : Below w.heap.size w W) => few_any toks v W (h.below hw))
  rw [hf] at HF
  go_enter Tryd.func9, Tryd.ntmps9
  go_wp2_with fail
  refine (head_any w ht).mono ?_
  rintro e w1 ⟨rfl, hb⟩
  go_wp2_with fail
  refine (HF.out _ hb).mono ?_
  rintro e w2 ⟨rfl, rfl⟩
  go_wp2_with fail
  go_ret
  exact ⟨rfl, hb⟩

set_option maxHeartbeats 4000000 in
set_option maxRecDepth 100000 in
theorem shorter_many (toks : List (List UInt8)) (c d : UInt8) (v : Value) (w : World) (ht : Tab w) (h : Strs w v toks) (hf : fewB toks = true) :
    Calls Tryd.prog 9 #[v, .int .u8 (c.toNat : Int), .int .u8 (d.toNat : Int)] w fun e w' => e = .returned (.bool true) ∧ Below w.heap.size w w' := by
  have HF := Lib.hid (fun W (hw : Below w.heap.size w W) => few_any toks v W (h.below hw))
  rw [hf] at HF
  obtain ⟨l1, m1⟩ := fewB_yes hf
  have HA := Lib.hid h
  have HL := Lib.hid m1
  have hcl : c.toNat < 256 := c.toNat_lt
  have hdl : d.toNat < 256 := d.toNat_lt
  obtain ⟨m, p1, p2, hm⟩ := mod64 c
  obtain ⟨n, q1, q2, hn⟩ := mod64 d
  obtain ⟨lo, hlo⟩ : ∃ x : Nat, min m n = x := ⟨_, rfl⟩
  obtain ⟨hi, hhi⟩ : ∃ x : Nat, max m n = x := ⟨_, rfl⟩
  have elo : min (m : Int) (n : Int) = (lo : Int) := by omega
  have ehi : max (m : Int) (n : Int) = (hi : Int) := by omega
  have hlh : lo ≤ hi := by omega
  have lo1 : 1 ≤ lo := by omega
  have hi2 : hi ≤ 64 := by omega
  clear hlo hhi hf
  have mx := fun (x y : Int) (W : World) => run_max2 (P := Tryd.prog) #[3, 3] 3 x y W
  have mn := fun (x y : Int) (W : World) => run_min2 (P := Tryd.prog) #[3, 3] 3 x y W
  have HM := Lib.hid (fun (k : Nat) (k1 : 1 ≤ k) (k2 : k ≤ 64) (W : World) (hw : Below w.heap.size w W) => make_any toks (k : Int) v W (by omega) (fun t ht => by have := m1 t ht; omega) (h.below hw))
  have HK := Lib.hid (fun (k : Nat) (k1 : 1 ≤ k) (k2 : k ≤ 64) => make_ok toks k1 k2)
  obtain ⟨A, cap, ev, hca, _⟩ := h
  subst ev
  obtain ⟨l, hl⟩ : ∃ l, toks.length = l := ⟨_, rfl⟩
  have HLE := Lib.hid hl
  rw [hl] at HA HM HF l1 hca
  rw [hl]
  clear hl m1 p1 p2 q1 q2
  go_enter Tryd.func9, Tryd.ntmps9
  go_wp2_with fail
  refine (head_any w ht).mono ?_
  rintro e w1 ⟨rfl, hb⟩
  go_wp2_with fail
  refine (HF.out _ hb).mono ?_
  rintro e w2 ⟨rfl, rfl⟩
  go_wp2_with fail
  refine (HM.out lo lo1 (by omega) _ hb).mono ?_
  rw [HK.out lo lo1 (by omega)]
  rintro e w3 ⟨va, rfl, hva, hb3⟩
  have HW := Lib.hid (below_up hb hb3 hb.size)
  clear hb hb3
  go_wp2_with fail
  refine (HM.out hi (by omega) hi2 _ HW.out).mono ?_
  rw [HK.out hi (by omega) hi2]
  rintro e w4 ⟨vb, rfl, hvb, hb4⟩
  have HVA := Lib.hid (hva.below hb4)
  have HVB := Lib.hid hvb
  have HW := Lib.hid (below_up HW.out hb4 HW.out.size)
  clear hb4 hva
  obtain ⟨b2, o2, c2, evb, hc2, x2⟩ := hvb.block (by rw [sk_len]; omega)
  obtain ⟨A2, ca2, eva, hca2, _⟩ := HVA.out
  rw [sk_len] at evb eva hc2 hca2
  subst evb eva
  have HX := Lib.hid x2
  clear x2 hvb
  go_wp2_with fail
  refine (ints_ref (sk toks lo) (sk toks lo) _ _ w4 (by rw [sk_len]; omega) HVA.out (by have := Ints.part HX.out (s := 0) (n := lo) (c := c2) (by rw [sk_len]; omega) (by omega); rw [List.drop_zero, sk_take toks hlh, Nat.add_zero] at this; exact this)).mono ?_
  rw [decide_eq_true rfl]
  rintro e w5 ⟨rfl, hb5⟩
  have HVB := Lib.hid (HVB.out.below hb5)
  have HW := Lib.hid (below_up HW.out hb5 HW.out.size)
  clear hb5 HX HVA
  go_wp2_with fail
  go_loopw [14] (fun x wr => ∃ j : Nat, x = .int .i64 (j : Int) ∧ j ≤ hi ∧ Below w.heap.size w wr ∧ Ints wr (.slice (some ⟨b2, o2, none⟩) hi c2) (sk toks hi)) (fun x _ => hi + 1 - (intOf x).toNat)
  case atStart => exact ⟨0, by simp, by omega, HW.out, HVB.out⟩
  case round =>
    clear HW HVB
    obtain ⟨j, rfl, hj, hbw, hvb⟩ := hrel
    have HW := Lib.hid hbw
    have HVB := Lib.hid hvb
    clear hbw hvb
    by_cases hlt : j < hi
    · obtain ⟨-, -, b3, o3, e3, x2⟩ := HVB.out.spot (by rw [sk_len]; omega)
      cases e3
      have c0 := x2 j (by rw [sk_len]; exact hlt)
      rw [sk_get] at c0
      clear x2
      by_cases hl0 : l = 0
      · have ht0 : toks = [] := List.length_eq_zero_iff.1 (by have := HLE.out; omega)
        have hr : leastH toks (j : Int) = -1 := by rw [ht0]; rfl
        rw [hr] at c0
        subst hl0
        go_wp2_with fail
        obtain ⟨wo, rfl⟩ : ∃ wo, wo = wr := ⟨_, rfl⟩
        go_loopw [15, 16] (fun f x wr => x = .int .i64 0 ∧ f = .bool true ∧ Below w.heap.size w wr ∧ Ints wr (.slice (some ⟨b2, o2, none⟩) hi c2) (sk toks hi)) (fun _ _ _ => 0)
        case atStart => exact ⟨by simp, by simp, HW.out, HVB.out⟩
        case round =>
          clear HW HVB c0
          obtain ⟨rfl, rfl, hbw, hvb⟩ := hrel
          go_wp2_with fail
          go_roundw
          case rel => exact ⟨j + 1, by simp, by omega, hbw, hvb⟩
          case measure => simp [intOf]; omega
      · have hl1 : ((l : Int) == 0) = false := by rw [beq_eq_false_iff_ne]; omega
        have hstart := hit_zero toks (j : Int)
        rw [decide_eq_false (show ¬ toks = [] by intro e; exact hl0 (by rw [← HLE.out, e]; rfl))] at hstart
        have HST := Lib.hid hstart
        clear hstart
        go_wp2_with fail
        obtain ⟨wo, rfl⟩ : ∃ wo, wo = wr := ⟨_, rfl⟩
        go_loopw [15, 16] (fun f x wr => ∃ k : Nat, x = .int .i64 (k : Int) ∧ f = .bool (hit toks (j : Int) k) ∧ k ≤ l ∧ Below w.heap.size w wr ∧ Ints wr (.slice (some ⟨b2, o2, none⟩) hi c2) (sk toks hi)) (fun _ x _ => l + 1 - (intOf x).toNat)
        case atStart => exact ⟨0, by simp, by rw [HST.out], by omega, HW.out, HVB.out⟩
        case round =>
          clear HW HVB c0
          obtain ⟨k, rfl, rfl, hk, hbw, hvb⟩ := hrel
          have HW := Lib.hid hbw
          have HVB := Lib.hid hvb
          clear hbw hvb
          by_cases hkl : k < l
          · obtain ⟨-, -, b1, o1, rfl, x1⟩ := (HA.out.below HW.out).spot (by have := HLE.out; omega)
            have c1 := x1 k (by have := HLE.out; omega)
            have hz := hash_ge toks (j : Int) (show k < toks.length by have := HLE.out; omega)
            have hs := hit_succ toks (j : Int) (show k < toks.length by have := HLE.out; omega)
            have HH := Lib.hid (hash_any (toks[k]'(by have := HLE.out; omega)) (j : Int) (by have := HL.out _ (List.getElem_mem (show k < toks.length by have := HLE.out; omega)); omega) wr)
            obtain ⟨t, ht⟩ : ∃ t, toks[k]'(by have := HLE.out; omega) = t := ⟨_, rfl⟩
            rw [ht] at c1 hz hs HH
            obtain ⟨z, hze⟩ : ∃ z, hashT t (j : Int) = z := ⟨_, rfl⟩
            obtain ⟨r, hre⟩ : ∃ r, leastH toks (j : Int) = r := ⟨_, rfl⟩
            obtain ⟨f, hf⟩ : ∃ f, hit toks (j : Int) k = f := ⟨_, rfl⟩
            rw [hze] at hz hs HH
            rw [hre] at hz hs
            rw [hf] at hs
            have HS := Lib.hid hs
            have HRE := Lib.hid hre
            rw [hf]
            clear x1 ht hze hre hf hs
            go_wp2_with fail
            refine HH.out.mono ?_
            rintro e w6 ⟨rfl, hb6⟩
            have HVB := Lib.hid (HVB.out.below hb6)
            have HW := Lib.hid (below_up HW.out hb6 HW.out.size)
            obtain ⟨-, -, b3, o3, e3, x2⟩ := HVB.out.spot (by rw [sk_len]; omega)
            cases e3
            have c0 := x2 j (by rw [sk_len]; exact hlt)
            rw [sk_get, HRE.out] at c0
            clear x2 hb6
            cases f
            · go_wp2_with fail
              go_roundw
              case rel => exact ⟨k + 1, by simp, by rw [HS.out, Bool.false_or], by omega, HW.out, HVB.out⟩
              case measure => simp [intOf]; omega
            · go_wp2_with fail
              go_roundw
              case rel => exact ⟨k + 1, by simp, by rw [HS.out, Bool.true_or], by omega, HW.out, HVB.out⟩
              case measure => simp [intOf]; omega
          · have hkl2 : k = l := by omega
            subst hkl2
            have hall := hit_all toks (j : Int)
            rw [HLE.out] at hall
            rw [hall]
            clear hall
            go_wp2_with fail
            go_roundw
            case rel => exact ⟨j + 1, by simp, by omega, HW.out, HVB.out⟩
            case measure => simp [intOf]; omega
    · go_wp2_with fail
      go_ret
      exact ⟨rfl, HW.out⟩

theorem shorter_law (toks : List (List UInt8)) (c d : UInt8) (v : Value) (w : World) (ht : Tab w) (h : Strs w v toks) :
    Calls Tryd.prog 9 #[v, .int .u8 (c.toNat : Int), .int .u8 (d.toNat : Int)] w fun e w' => e = .returned (.bool true) ∧ Below w.heap.size w w' := by
  cases hf : fewB toks
  · exact shorter_few toks c d v w ht h hf
  · exact shorter_many toks c d v w ht h hf
end Go.Proofs.YtoifcfocffcmcaaDoor
