/- The contract of quote. -/
import Derived.Test.YtblgfillaenemaaDoorVBase
import Derived.Lib.SmallJoins
import Derived.Laws.OwnMore
import Derived.Laws.IdiomStrings
namespace Go.Proofs.YtblgfillaenemaaDoor.L2
open Go.RowKit

/-- Bytes as cells. -/
def bys (l : List UInt8) : List Value := l.map fun c => .int .u8 (c.toNat : Int)
theorem bys_app (a b : List UInt8) : bys (a ++ b) = bys a ++ bys b := List.map_append
theorem bys_len (a : List UInt8) : (bys a).length = a.length := List.length_map _
theorem info5 : (Tryd.prog.info? 5).map (fun i => (i.zero, i.size, i.bytes)) = some (some (.int .u8 0), 1, 1) := by kernel_rfl

/-- 'string(b)', where b's cells are the bytes l. -/
theorem conv_own {w : World} {B : Nat} {v : Value} {n : Nat} {l : List UInt8} (h : w.ownsRow B 5 1 v n (bys l)) :
    (convert 57 9 v).run Tryd.prog w = .ok (.string ⟨l.toArray⟩) w := by
  have hn : n = l.length := by have := h.1; rw [bys_len] at this; omega
  subst hn
  rcases Joins.ownsRow_forms h with ⟨rfl, h0⟩ | ⟨g, cap, rfl⟩
  · obtain rfl : l = [] := List.length_eq_zero_iff.1 h0
    rw [run_convert_bytes_string w 57 9 5 none 0 0 (by kernel_rfl) (by kernel_rfl) (by kernel_rfl)]
    simp [Conv.bytesToString]
    rfl
  · refine run_convert_bytes_back w 57 9 5 ⟨g, 0, none⟩ cap l (by kernel_rfl) (by kernel_rfl) (by kernel_rfl) (fun j hj => ?_)
    have h1 := h.cells (g := g) rfl j (.int .u8 (l[j].toNat : Int)) (by unfold bys; rw [List.getElem?_map, List.getElem?_eq_getElem hj]; rfl)
    exact h1

theorem own_step {w1 : World} {B T : Nat} {v' : Value} {a e : List UInt8} (h : w1.ownsRow B T 1 v' (a.length + e.length) (bys a ++ bys e)) : w1.ownsRow B T 1 v' (a ++ e).length (bys (a ++ e)) := by
  rw [bys_app, List.length_append]; exact h

theorem below_grown {B : Nat} {w wr w1 : World} {o : Obj} {v : Value} {n : Nat} {xs : List Value} {T : Nat} (hb : Below B w wr) (hB : B ≤ wr.heap.size) (hown : wr.ownsRow B T 1 v n xs) (hg : (wr.alloc o).grownBy w1 v.ownBlock) : Below B w w1 :=
  (hb.alloc hB o).grown hg (by simp; omega) (fun j hj => (hown.lt j hj).1)

set_option maxHeartbeats 1600000 in
theorem quote_any (l : List UInt8) (hl : l.length ≤ 1000) (w : World) :
    Calls Tryd.prog 22 #[.string ⟨l.toArray⟩] w fun e w' => e = .returned (.string ⟨(quo l).toArray⟩) ∧ Below w.heap.size w w' := by
  obtain ⟨i0, hi, hz0, hz1, hz2⟩ := info_parts info5
  have HL := Lib.hid hl
  clear hl
  go_enter Tryd.func22, Tryd.ntmps22
  go_wp2_with fail
  go_loopw [3, 9] (fun v i wr => ∃ k : Nat, k ≤ l.length ∧ i = .int .i64 (k : Int) ∧ wr.ownsRow w.heap.size 5 1 v (qk l k).length (bys (qk l k)) ∧ Below w.heap.size w wr) (fun _ i _ => l.length - (intOf i).toNat)
  case atStart => exact ⟨0, by omega, by simp, World.ownsRow_lit w #[.int .u8 34] 1 (Nat.le_refl _) (by decide) rfl, (Below.refl _ _).alloc (Nat.le_refl _) _⟩
  case round =>
    obtain ⟨k, hk, rfl, hown, hb⟩ := hrel
    have HB := Lib.hid hb
    have LQ := Lib.hid (qk_len l k)
    clear hb
    by_cases hlt : k < l.length
    · have hb2 : ∀ (h : k < (ByteArray.mk l.toArray).size), (⟨l.toArray⟩ : ByteArray)[k]'h = l[k] := fun _ => rfl
      have hs : ∀ e, esc l[k] = e → qk l (k + 1) = qk l k ++ e := fun e h => by rw [← h]; exact qk_succ l k hlt
      have HSU := Lib.hid hs
      clear hs
      by_cases h1 : l[k].toNat = 34
      · have e1 : ((l[k].toNat : Int) == 34) = true := by simp; omega
        have HE := Lib.hid (show esc l[k] = [92, l[k]] from by unfold esc; rw [if_pos (Or.inl h1)])
        clear h1
        go_wp2_with (at_builtin; refine wpList_append_own _ rfl _ _ 57 rfl w.heap.size 5 i0 (.int .u8 0) 1 1 Tryd.underlying57 hi hz0 hz1 hz2 rfl (by decide) _ _ _ rfl (hown.alloc _) ⟨wr.heap.size, 0, none⟩ 2 2 [.int .u8 92, .int .u8 (l[k].toNat : Int)] rfl rfl ?c1 ?c2 ?c3 ?c4 ?c5 ?_)
        case c1 =>
          intro j u hj
          match j, hj with
          | 0, hj => simp at hj; subst hj; simp [Addr.add, go_sem]
          | 1, hj => simp at hj; subst hj; simp [Addr.add, go_sem]
        case c2 => intro u hu; simp at hu; first | (subst hu; rfl) | (rcases hu with hu | hu <;> subst hu <;> rfl)
        case c3 => have := LQ.out; have := HL.out; unfold maxLen; omega
        case c4 => have := LQ.out; have := HL.out; omega
        case c5 => have := HB.out.size; simp; omega
        intro v' w1 hown' hgrow _
        have R := own_step (e := [92, l[k]]) hown'
        have HB1 := Lib.hid (below_grown HB.out HB.out.size hown hgrow)
        clear hown' hgrow hown
        have R1 := Lib.hid (show w1.ownsRow w.heap.size 5 1 v' (qk l (k + 1)).length (bys (qk l (k + 1))) by rw [HSU.out _ (HE.out)]; exact R)
        clear R
        have hL := HL.out
        go_wp2
        go_roundw
        case rel => exact ⟨k + 1, by omega, by simp, R1.out, HB1.out⟩
        case measure => simp [intOf]; omega
      · by_cases h2 : l[k].toNat = 92
        · have e1 : ((l[k].toNat : Int) == 34) = false := by simp; omega
          have e2 : ((l[k].toNat : Int) == 92) = true := by simp; omega
          have HE := Lib.hid (show esc l[k] = [92, l[k]] from by unfold esc; rw [if_pos (Or.inr h2)])
          clear h1 h2
          go_wp2_with (at_builtin; refine wpList_append_own _ rfl _ _ 57 rfl w.heap.size 5 i0 (.int .u8 0) 1 1 Tryd.underlying57 hi hz0 hz1 hz2 rfl (by decide) _ _ _ rfl (hown.alloc _) ⟨wr.heap.size, 0, none⟩ 2 2 [.int .u8 92, .int .u8 (l[k].toNat : Int)] rfl rfl ?c1 ?c2 ?c3 ?c4 ?c5 ?_)
          case c1 =>
            intro j u hj
            match j, hj with
            | 0, hj => simp at hj; subst hj; simp [Addr.add, go_sem]
            | 1, hj => simp at hj; subst hj; simp [Addr.add, go_sem]
          case c2 => intro u hu; simp at hu; first | (subst hu; rfl) | (rcases hu with hu | hu <;> subst hu <;> rfl)
          case c3 => have := LQ.out; have := HL.out; unfold maxLen; omega
          case c4 => have := LQ.out; have := HL.out; omega
          case c5 => have := HB.out.size; simp; omega
          intro v' w1 hown' hgrow _
          have R := own_step (e := [92, l[k]]) hown'
          have HB1 := Lib.hid (below_grown HB.out HB.out.size hown hgrow)
          clear hown' hgrow hown
          have R1 := Lib.hid (show w1.ownsRow w.heap.size 5 1 v' (qk l (k + 1)).length (bys (qk l (k + 1))) by rw [HSU.out _ (HE.out)]; exact R)
          clear R
          have hL := HL.out
          go_wp2
          go_roundw
          case rel => exact ⟨k + 1, by omega, by simp, R1.out, HB1.out⟩
          case measure => simp [intOf]; omega
        · by_cases h3 : l[k].toNat = 10
          · have e1 : ((l[k].toNat : Int) == 34) = false := by simp; omega
            have e2 : ((l[k].toNat : Int) == 92) = false := by simp; omega
            have e3 : ((l[k].toNat : Int) == 10) = true := by simp; omega
            have HE := Lib.hid (show esc l[k] = [92, 110] from by unfold esc; rw [if_neg (by omega), if_pos h3])
            clear h1 h2 h3
            go_wp2_with (at_builtin; refine wpList_append_own _ rfl _ _ 57 rfl w.heap.size 5 i0 (.int .u8 0) 1 1 Tryd.underlying57 hi hz0 hz1 hz2 rfl (by decide) _ _ _ rfl (hown.alloc _) ⟨wr.heap.size, 0, none⟩ 2 2 [.int .u8 92, .int .u8 110] rfl rfl ?c1 ?c2 ?c3 ?c4 ?c5 ?_)
            case c1 =>
              intro j u hj
              match j, hj with
              | 0, hj => simp at hj; subst hj; simp [Addr.add, go_sem]
              | 1, hj => simp at hj; subst hj; simp [Addr.add, go_sem]
            case c2 => intro u hu; simp at hu; first | (subst hu; rfl) | (rcases hu with hu | hu <;> subst hu <;> rfl)
            case c3 => have := LQ.out; have := HL.out; unfold maxLen; omega
            case c4 => have := LQ.out; have := HL.out; omega
            case c5 => have := HB.out.size; simp; omega
            intro v' w1 hown' hgrow _
            have R := own_step (e := [92, 110]) hown'
            have HB1 := Lib.hid (below_grown HB.out HB.out.size hown hgrow)
            clear hown' hgrow hown
            have R1 := Lib.hid (show w1.ownsRow w.heap.size 5 1 v' (qk l (k + 1)).length (bys (qk l (k + 1))) by rw [HSU.out _ (HE.out)]; exact R)
            clear R
            have hL := HL.out
            go_wp2
            go_roundw
            case rel => exact ⟨k + 1, by omega, by simp, R1.out, HB1.out⟩
            case measure => simp [intOf]; omega
          · have e1 : ((l[k].toNat : Int) == 34) = false := by simp; omega
            have e2 : ((l[k].toNat : Int) == 92) = false := by simp; omega
            have e3 : ((l[k].toNat : Int) == 10) = false := by simp; omega
            have HE := Lib.hid (show esc l[k] = [l[k]] from by unfold esc; rw [if_neg (by omega), if_neg h3])
            clear h1 h2 h3
            go_wp2_with (at_builtin; refine wpList_append_own _ rfl _ _ 57 rfl w.heap.size 5 i0 (.int .u8 0) 1 1 Tryd.underlying57 hi hz0 hz1 hz2 rfl (by decide) _ _ _ rfl (hown.alloc _) ⟨wr.heap.size, 0, none⟩ 1 1 [.int .u8 (l[k].toNat : Int)] rfl rfl ?c1 ?c2 ?c3 ?c4 ?c5 ?_)
            case c1 =>
              intro j u hj
              match j, hj with
              | 0, hj => simp at hj; subst hj; simp [Addr.add, go_sem]
            case c2 => intro u hu; simp at hu; first | (subst hu; rfl) | (rcases hu with hu | hu <;> subst hu <;> rfl)
            case c3 => have := LQ.out; have := HL.out; unfold maxLen; omega
            case c4 => have := LQ.out; have := HL.out; omega
            case c5 => have := HB.out.size; simp; omega
            intro v' w1 hown' hgrow _
            have R := own_step (e := [l[k]]) hown'
            have HB1 := Lib.hid (below_grown HB.out HB.out.size hown hgrow)
            clear hown' hgrow hown
            have R1 := Lib.hid (show w1.ownsRow w.heap.size 5 1 v' (qk l (k + 1)).length (bys (qk l (k + 1))) by rw [HSU.out _ (HE.out)]; exact R)
            clear R
            have hL := HL.out
            go_wp2
            go_roundw
            case rel => exact ⟨k + 1, by omega, by simp, R1.out, HB1.out⟩
            case measure => simp [intOf]; omega
    · have ke : k = l.length := by omega
      subst ke
      go_wp2_with (at_builtin; refine wpList_append_own _ rfl _ _ 57 rfl w.heap.size 5 i0 (.int .u8 0) 1 1 Tryd.underlying57 hi hz0 hz1 hz2 rfl (by decide) _ _ _ rfl (hown.alloc _) ⟨wr.heap.size, 0, none⟩ 1 1 [.int .u8 34] rfl rfl ?c1 ?c2 ?c3 ?c4 ?c5 ?_)
      case c1 =>
        intro j u hj
        match j, hj with
        | 0, hj => simp at hj; subst hj; simp [Addr.add, go_sem]
      case c2 => intro u hu; simp at hu; first | (subst hu; rfl) | (rcases hu with hu | hu <;> subst hu <;> rfl)
      case c3 => have := LQ.out; have := HL.out; unfold maxLen; omega
      case c4 => have := LQ.out; have := HL.out; omega
      case c5 => have := HB.out.size; simp; omega
      intro v' w1 hown' hgrow _
      have R := own_step (e := [34]) hown'
      have HB1 := Lib.hid (below_grown HB.out HB.out.size hown hgrow)
      clear hown' hgrow hown
      rw [← qk_end] at R
      have cv := conv_own R
      clear R
      go_wp2
      go_ret
      exact ⟨rfl, HB1.out⟩
end Go.Proofs.YtblgfillaenemaaDoor.L2
