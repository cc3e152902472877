/- The reference's Make. -/
import Derived.Test.YtoifcfocffcmcaaDoorSkRefA
import Derived.Test.YtoifcfocffcmcaaDoorSkRefM
import Derived.Test.YtoifcfocffcmcaaDoorSkOne
namespace Go.Proofs.YtoifcfocffcmcaaDoor
open Go.RowKit

theorem owns_kept {w w1 : World} {base n : Nat} {e : TypeId} {v : Value} {xs : List Value} (h : w.ownsRow base e 1 v n xs) (hb : Below w.heap.size w w1) : w1.ownsRow base e 1 v n xs :=
  h.kept (grown_of_below hb none) (by cases v.ownBlock with | none => exact Or.inl rfl | some k => exact Or.inr (by simp))

set_option maxHeartbeats 3200000 in
theorem make_ref (toks : List (List UInt8)) (n : Int) (v : Value) (w : World) (hq : toks.length ≤ 100) (hl : ∀ t ∈ toks, t.length ≤ 1000) (h : Strs w v toks) :
    Calls Tryd.prog 13 #[v, .int .i64 n] w (ListPost w (makeT toks n)) := by
  by_cases hn : n < 1 ∨ 64 < n
  · have e : makeT toks n = ([], 1) := by unfold makeT; rw [if_neg (by omega)]
    rw [e]
    rcases hn with hn | hn
    · go_enter Tryd.func13, Tryd.ntmps13
      go_wp2_with fail
      go_returns
      exact ⟨_, rfl, ints_nil _, Below.refl _ _⟩
    · go_enter Tryd.func13, Tryd.ntmps13
      go_wp2_with fail
      go_returns
      exact ⟨_, rfl, ints_nil _, Below.refl _ _⟩
  obtain ⟨m, rfl⟩ : ∃ m : Nat, n = (m : Int) := ⟨n.toNat, by omega⟩
  have e : makeT toks (m : Int) = (sk toks m, 0) := by unfold makeT; rw [if_pos (by omega), Int.toNat_natCast]
  rw [e]
  have hm1 : 1 ≤ m := by omega
  have hm2 : m ≤ 64 := by omega
  clear hn e
  have HA := Lib.hid h
  have HL := Lib.hid hl
  obtain ⟨A, cap, ev, hca, _⟩ := h
  subst ev
  obtain ⟨q, hqe⟩ : ∃ q, toks.length = q := ⟨_, rfl⟩
  have HQ := Lib.hid hqe
  rw [hqe] at HA hca hq
  rw [hqe]
  clear hqe hl
  go_enter Tryd.func13, Tryd.ntmps13
  go_wp2_with fail
  go_loopw [6, 7] (fun u x wr => ∃ j : Nat, x = .int .i64 (j : Int) ∧ j ≤ m ∧ OwnI wr w.heap.size u ((sk toks m).take j) ∧ Below w.heap.size w wr) (fun _ x _ => m + 1 - (intOf x).toNat)
  case atStart => exact ⟨0, by simp, by omega, World.ownsRow_nil _ _ _ _, Below.refl _ _⟩
  case round =>
    obtain ⟨j, rfl, hj, ho, hbw⟩ := hrel
    have HO := Lib.hid ho
    have HW := Lib.hid hbw
    clear ho hbw
    by_cases hlt : j < m
    · have HMORE := Lib.hid (sk_more toks m hlt)
      obtain ⟨V, hV⟩ : ∃ V, (sk toks m).take j = V := ⟨_, rfl⟩
      have HVL := Lib.hid (show V.length ≤ 64 by rw [← hV]; simp; omega)
      rw [hV] at HO HMORE
      clear hV
      go_wp2_with fail
      obtain ⟨wo, rfl⟩ : ∃ wo, wo = wr := ⟨_, rfl⟩
      go_loopw [8, 9] (fun y x wr => ∃ i : Nat, x = .int .i64 (i : Int) ∧ i ≤ q ∧ y = .int .i64 (leastH (toks.take i) (j : Int)) ∧ Below wo.heap.size wo wr) (fun _ x _ => q + 1 - (intOf x).toNat)
      case atStart => exact ⟨0, by simp, by omega, by simp [leastH_nil], Below.refl _ _⟩
      case round =>
        obtain ⟨i, rfl, hi, rfl, hbw⟩ := hrel
        have HB := Lib.hid hbw
        have HW1 := Lib.hid (below_up HW.out hbw HW.out.size)
        clear hbw
        by_cases hlq : i < q
        · obtain ⟨-, -, b1, o1, rfl, x1⟩ := (HA.out.below HW1.out).spot (by have := HQ.out; omega)
          have c1 := x1 i (by have := HQ.out; omega)
          have HH := Lib.hid (hash_ref (toks[i]'(by have := HQ.out; omega)) (j : Int) (HL.out _ (List.getElem_mem _)) wr)
          have HS := least_step toks (j : Int) (k := i) (by have := HQ.out; omega)
          obtain ⟨t, ht⟩ : ∃ t, toks[i]'(by have := HQ.out; omega) = t := ⟨_, rfl⟩
          rw [ht] at c1 HH HS
          obtain ⟨z, hz⟩ : ∃ z, hashT t (j : Int) = z := ⟨_, rfl⟩
          rw [hz] at HH HS
          obtain ⟨u, hu⟩ : ∃ u, leastH (toks.take i) (j : Int) = u := ⟨_, rfl⟩
          have hu0 := leastH_low (toks.take i) (j : Int)
          rw [hu] at HS hu0
          rw [hu]
          have HS' := Lib.hid HS
          clear x1 ht hz hu HS
          by_cases g1 : u < 0
          · go_wp2_with fail
            refine HH.out.mono ?_
            rintro e w5 ⟨rfl, hb5⟩
            go_wp2_with fail
            go_roundw
            case rel => exact ⟨i + 1, by simp, by omega, by rw [HS'.out, if_pos (Or.inl g1)], below_up HB.out hb5 HB.out.size⟩
            case measure => simp [intOf]; omega
          by_cases g2 : z < u
          · go_wp2_with fail
            refine HH.out.mono ?_
            rintro e w5 ⟨rfl, hb5⟩
            go_wp2_with fail
            go_roundw
            case rel => exact ⟨i + 1, by simp, by omega, by rw [HS'.out, if_pos (Or.inr g2)], below_up HB.out hb5 HB.out.size⟩
            case measure => simp [intOf]; omega
          · go_wp2_with fail
            refine HH.out.mono ?_
            rintro e w5 ⟨rfl, hb5⟩
            go_wp2_with fail
            go_roundw
            case rel => exact ⟨i + 1, by simp, by omega, by rw [HS'.out, if_neg (by omega)], below_up HB.out hb5 HB.out.size⟩
            case measure => simp [intOf]; omega
        · have hqi : i = q := by omega
          subst hqi
          rw [List.take_of_length_le (by have := HQ.out; omega)]
          obtain ⟨x, hx⟩ : ∃ x, leastH toks (j : Int) = x := ⟨_, rfl⟩
          rw [hx] at HMORE
          rw [hx]
          have HO1 := Lib.hid (owns_kept HO.out HB.out)
          clear hx
          go_wp2_with (at_builtin; refine wp_appendI rfl _ _ rfl w.heap.size _ V rfl (HO1.out.alloc _) _ [x] rfl (ints_one _ x _) (by have := HVL.out; simp; omega) (by have := HW1.out.size; simp; omega) ?_)
          intro v' w3 hown' hg'
          have HB2 := Lib.hid (below_grown (HW1.out.alloc HW1.out.size _) (by have := HW1.out.size; simp; omega) (HO1.out.alloc _) hg')
          have HO2 := Lib.hid hown'
          clear hown' hg'
          go_wp2_with fail
          go_roundw
          case rel => exact ⟨j + 1, by simp, by omega, by rw [HMORE.out]; exact HO2.out, HB2.out⟩
          case measure => simp [intOf]; omega
    · have hjm : j = m := by omega
      subst hjm
      rw [List.take_of_length_le (by rw [sk_len]; omega)] at HO
      go_wp2_with fail
      go_returns
      exact ⟨_, rfl, ints_of_owns HO.out, HW.out⟩

end Go.Proofs.YtoifcfocffcmcaaDoor
