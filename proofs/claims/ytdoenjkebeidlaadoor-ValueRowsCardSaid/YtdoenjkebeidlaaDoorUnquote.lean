/- The contract of unquote. -/
import Derived.Test.YtdoenjkebeidlaaDoorQuote
import Derived.Test.YtdoenjkebeidlaaDoorMathT
namespace Go.Proofs.YtdoenjkebeidlaaDoor
open Go.RowKit

theorem unq_step1 (l : List UInt8) (k : Nat) (hk : k < l.length) (a : List UInt8) (h : unq l = a ++ unq (l.drop k)) (hc : l[k].toNat ≠ 92) : unq l = (a ++ [l[k]]) ++ unq (l.drop (k + 1)) := by
  rw [h, List.drop_eq_getElem_cons hk, unq_plain hc, List.append_assoc]; rfl
theorem unq_step2 (l : List UInt8) (k : Nat) (hk : k + 1 < l.length) (a : List UInt8) (h : unq l = a ++ unq (l.drop k)) (hc : l[k].toNat = 92) (e : UInt8) (he : (if l[k + 1].toNat = 110 then (10 : UInt8) else l[k + 1]) = e) : unq l = (a ++ [e]) ++ unq (l.drop (k + 1 + 1)) := by
  rw [h, List.drop_eq_getElem_cons (show k < l.length by omega), List.drop_eq_getElem_cons hk]
  have h92 : l[k] = 92 := UInt8.toNat_inj.1 (by rw [hc]; rfl)
  rw [h92, unq_esc, he, List.append_assoc]; rfl
theorem unq_step3 (l : List UInt8) (k : Nat) (hk : k < l.length) (hk1 : ¬ k + 1 < l.length) (a : List UInt8) (h : unq l = a ++ unq (l.drop k)) : unq l = (a ++ [l[k]]) ++ unq (l.drop (k + 1)) := by
  rw [h, List.drop_eq_getElem_cons hk, List.drop_eq_nil_of_le (by omega)]
  simp [unq]

set_option maxRecDepth 100000 in
set_option maxHeartbeats 1600000 in
theorem unquote_any (l : List UInt8) (hl : l.length ≤ 1000) (w : World) :
    Calls Tryd.prog 47 #[.string ⟨l.toArray⟩] w fun e w' => e = .returned (.string ⟨(unq l).toArray⟩) ∧ Below w.heap.size w w' := by
  obtain ⟨i0, hi, hz0, hz1, hz2⟩ := info_parts info5
  have HL := Lib.hid hl
  clear hl
  go_enter Tryd.func47, Tryd.ntmps47
  go_wp2_with fail
  go_loopw [3, 4] (fun v i wr => ∃ (k : Nat) (a : List UInt8), k ≤ l.length ∧ i = .int .i64 (k : Int) ∧ wr.ownsRow w.heap.size 5 1 v a.length (bys a) ∧ Below w.heap.size w wr ∧ unq l = a ++ unq (l.drop k) ∧ a.length ≤ k) (fun _ i _ => l.length - (intOf i).toNat)
  case atStart => exact ⟨0, [], by omega, by simp, World.ownsRow_nil _ _ _ _, Below.refl _ _, by simp, by simp⟩
  case round =>
    obtain ⟨k, a, hk, rfl, hown, hb, hu, ha⟩ := hrel
    have HB := Lib.hid hb
    have HU := Lib.hid hu
    have HA := Lib.hid ha
    clear hb hu ha
    by_cases hlt : k < l.length
    · have hb2 : ∀ (h : k < (ByteArray.mk l.toArray).size), (⟨l.toArray⟩ : ByteArray)[k]'h = l[k] := fun _ => rfl
      have hL := HL.out
      by_cases h1 : l[k].toNat = 92
      · have e1 : ((l[k].toNat : Int) == 92) = true := by simp; omega
        by_cases hk1 : k + 1 < l.length
        · have hb3 : ∀ (h : k + 1 < (ByteArray.mk l.toArray).size), (⟨l.toArray⟩ : ByteArray)[k + 1]'h = l[k + 1] := fun _ => rfl
          by_cases h2 : l[k + 1].toNat = 110
          · have e2 : ((l[k + 1].toNat : Int) == 110) = true := by simp; omega
            have HS := Lib.hid (unq_step2 l k hk1 a HU.out h1 10 (if_pos h2))
            clear h1 h2
            go_wp2_with (at_builtin; refine wpList_append_own _ rfl _ _ 70 rfl w.heap.size 5 i0 (.int .u8 0) 1 1 Tryd.underlying70 hi hz0 hz1 hz2 rfl (by decide) _ _ _ rfl (hown.alloc _) ⟨wr.heap.size, 0, none⟩ 1 1 [.int .u8 (10)] rfl rfl ?c1 ?c2 ?c3 ?c4 ?c5 ?_)
            case c1 =>
              intro j u hj
              match j, hj with
              | 0, hj => simp at hj; subst hj; simp [Addr.add, go_sem]
            case c2 => intro u hu; simp at hu; subst hu; rfl
            case c3 => have := HA.out; have := HL.out; unfold maxLen; omega
            case c4 => have := HA.out; have := HL.out; omega
            case c5 => have := HB.out.size; simp; omega
            intro v' w1 hown' hgrow _
            have R := Lib.hid (own_step (e := [10]) hown')
            have HB1 := Lib.hid (below_grown HB.out HB.out.size hown hgrow)
            clear hown' hgrow hown
            go_wp2
            go_roundw
            case rel => exact ⟨k + 1 + 1, _, by omega, by simp, R.out, HB1.out, HS.out, by have := HA.out; simp; omega⟩
            case measure => simp [intOf]; omega
          · have e2 : ((l[k + 1].toNat : Int) == 110) = false := by simp; omega
            have HS := Lib.hid (unq_step2 l k hk1 a HU.out h1 l[k + 1] (if_neg h2))
            clear h1 h2
            go_wp2_with (at_builtin; refine wpList_append_own _ rfl _ _ 70 rfl w.heap.size 5 i0 (.int .u8 0) 1 1 Tryd.underlying70 hi hz0 hz1 hz2 rfl (by decide) _ _ _ rfl (hown.alloc _) ⟨wr.heap.size, 0, none⟩ 1 1 [.int .u8 ((l[k + 1].toNat : Int))] rfl rfl ?c1 ?c2 ?c3 ?c4 ?c5 ?_)
            case c1 =>
              intro j u hj
              match j, hj with
              | 0, hj => simp at hj; subst hj; simp [Addr.add, go_sem]
            case c2 => intro u hu; simp at hu; subst hu; rfl
            case c3 => have := HA.out; have := HL.out; unfold maxLen; omega
            case c4 => have := HA.out; have := HL.out; omega
            case c5 => have := HB.out.size; simp; omega
            intro v' w1 hown' hgrow _
            have R := Lib.hid (own_step (e := [l[k + 1]]) hown')
            have HB1 := Lib.hid (below_grown HB.out HB.out.size hown hgrow)
            clear hown' hgrow hown
            go_wp2
            go_roundw
            case rel => exact ⟨k + 1 + 1, _, by omega, by simp, R.out, HB1.out, HS.out, by have := HA.out; simp; omega⟩
            case measure => simp [intOf]; omega
        · have HS := Lib.hid (unq_step3 l k hlt hk1 a HU.out)
          clear h1
          go_wp2_with (at_builtin; refine wpList_append_own _ rfl _ _ 70 rfl w.heap.size 5 i0 (.int .u8 0) 1 1 Tryd.underlying70 hi hz0 hz1 hz2 rfl (by decide) _ _ _ rfl (hown.alloc _) ⟨wr.heap.size, 0, none⟩ 1 1 [.int .u8 ((l[k].toNat : Int))] rfl rfl ?c1 ?c2 ?c3 ?c4 ?c5 ?_)
          case c1 =>
            intro j u hj
            match j, hj with
            | 0, hj => simp at hj; subst hj; simp [Addr.add, go_sem]
          case c2 => intro u hu; simp at hu; subst hu; rfl
          case c3 => have := HA.out; have := HL.out; unfold maxLen; omega
          case c4 => have := HA.out; have := HL.out; omega
          case c5 => have := HB.out.size; simp; omega
          intro v' w1 hown' hgrow _
          have R := Lib.hid (own_step (e := [l[k]]) hown')
          have HB1 := Lib.hid (below_grown HB.out HB.out.size hown hgrow)
          clear hown' hgrow hown
          go_wp2
          go_roundw
          case rel => exact ⟨k + 1, _, by omega, by simp, R.out, HB1.out, HS.out, by have := HA.out; simp; omega⟩
          case measure => simp [intOf]; omega
      · have e1 : ((l[k].toNat : Int) == 92) = false := by simp; omega
        have HS := Lib.hid (unq_step1 l k hlt a HU.out h1)
        clear h1
        go_wp2_with (at_builtin; refine wpList_append_own _ rfl _ _ 70 rfl w.heap.size 5 i0 (.int .u8 0) 1 1 Tryd.underlying70 hi hz0 hz1 hz2 rfl (by decide) _ _ _ rfl (hown.alloc _) ⟨wr.heap.size, 0, none⟩ 1 1 [.int .u8 ((l[k].toNat : Int))] rfl rfl ?c1 ?c2 ?c3 ?c4 ?c5 ?_)
        case c1 =>
          intro j u hj
          match j, hj with
          | 0, hj => simp at hj; subst hj; simp [Addr.add, go_sem]
        case c2 => intro u hu; simp at hu; subst hu; rfl
        case c3 => have := HA.out; have := HL.out; unfold maxLen; omega
        case c4 => have := HA.out; have := HL.out; omega
        case c5 => have := HB.out.size; simp; omega
        intro v' w1 hown' hgrow _
        have R := Lib.hid (own_step (e := [l[k]]) hown')
        have HB1 := Lib.hid (below_grown HB.out HB.out.size hown hgrow)
        clear hown' hgrow hown
        go_wp2
        go_roundw
        case rel => exact ⟨k + 1, _, by omega, by simp, R.out, HB1.out, HS.out, by have := HA.out; simp; omega⟩
        case measure => simp [intOf]; omega
    · have ke : k = l.length := by omega
      subst ke
      have cv := conv_own hown
      have hu : unq l = a := by rw [HU.out, List.drop_length]; simp [unq]
      have HUU := Lib.hid hu
      clear hu
      go_wp2
      go_ret
      exact ⟨str_ret HUU.out.symm, HB.out⟩
end Go.Proofs.YtdoenjkebeidlaaDoor
