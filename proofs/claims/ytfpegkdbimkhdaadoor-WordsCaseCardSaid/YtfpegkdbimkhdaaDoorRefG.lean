/- The contracts of the reference's Tokens and Grams. -/
import Derived.Test.YtfpegkdbimkhdaaDoorRefS
namespace Go.Proofs.YtfpegkdbimkhdaaDoor
open Go.RowKit

theorem tokens_ref (t : List UInt8) (ht : t.length ≤ 1100) (w : World) :
    Calls Tryd.prog 15 #[str t] w (ListPost w (sortD (words t))) := by
  have C := Lib.hid (words_ref t ht w)
  have HL := Lib.hid (Nat.le_trans (words_len t) ht)
  go_enter Tryd.func15, Tryd.ntmps15
  go_wp2_with fail
  refine C.out.mono ?_
  rintro e1 w1 ⟨v, rfl, hs, hb⟩
  have HB := Lib.hid hb
  have D := Lib.hid (sorted_ref (words t) v w1 (by have := HL.out; omega) hs)
  clear hs hb C
  go_wp2_with fail
  refine D.out.mono ?_
  rintro e2 w2 ⟨u, rfl, hs, hb⟩
  have HS := Lib.hid hs
  have HB2 := Lib.hid (below_up HB.out hb HB.out.size)
  clear hs hb D
  go_wp2_with fail
  go_ret
  exact ⟨_, rfl, HS.out, HB2.out⟩

set_option maxRecDepth 100000 in
set_option maxHeartbeats 4000000 in
theorem grams_ref (t : List UInt8) (n : Int) (ht : t.length ≤ 1100) (w : World) :
    Calls Tryd.prog 17 #[str t, .int .i64 n] w (ListPost w (sortD (gramsT t n))) := by
  by_cases h1 : n < 1
  · have hg : gramsT t n = [] := if_pos (Or.inl h1)
    rw [hg]
    go_enter Tryd.func17, Tryd.ntmps17
    go_wp2_with fail
    go_ret
    exact ⟨_, rfl, strs_nil _, Below.refl _ _⟩
  · by_cases h2 : 8 < n
    · have hg : gramsT t n = [] := if_pos (Or.inr h2)
      rw [hg]
      go_enter Tryd.func17, Tryd.ntmps17
      go_wp2_with fail
      go_ret
      exact ⟨_, rfl, strs_nil _, Below.refl _ _⟩
    · obtain ⟨k, rfl⟩ : ∃ k : Nat, n = (k : Int) := ⟨n.toNat, by omega⟩
      have hg : gramsT t (k : Int) = parts (foldT t) k := by unfold gramsT; rw [if_neg (by omega)]; rfl
      rw [hg]
      have hfl := foldT_len t
      have C := Lib.hid (fold_ref t ht w)
      obtain ⟨s, hs⟩ : ∃ s, foldT t = s := ⟨_, rfl⟩
      rw [hs] at hfl C
      rw [hs]
      clear hs hg
      by_cases h0 : s = []
      · subst h0
        go_enter Tryd.func17, Tryd.ntmps17
        go_wp2_with fail
        refine C.out.mono ?_
        rintro e1 w1 ⟨rfl, hb⟩
        have HB := Lib.hid hb
        clear hb C
        go_wp2_with fail
        go_ret
        exact ⟨_, rfl, strs_nil _, HB.out⟩
      · have hem : s.isEmpty = false := by
          cases s with
          | nil => exact absurd rfl h0
          | cons x y => rfl
        by_cases h3 : s.length < k
        · have HP := Lib.hid (show sortD (parts s k) = [s] from by unfold parts; rw [if_neg h0, if_pos h3]; rfl)
          rw [HP.out]
          go_enter Tryd.func17, Tryd.ntmps17
          go_wp2_with fail
          refine C.out.mono ?_
          rintro e1 w1 ⟨rfl, hb⟩
          have HB := Lib.hid hb
          clear hb C
          go_wp2_with fail
          go_ret
          exact ⟨_, rfl, strs_one _ _ _, HB.out.alloc HB.out.size _⟩
        · have HP := Lib.hid (show parts s k = partsTo s k (s.length + 1 - k) from by unfold parts; rw [if_neg h0, if_neg h3])
          rw [HP.out]
          clear h0
          go_enter Tryd.func17, Tryd.ntmps17
          go_wp2_with fail
          refine C.out.mono ?_
          rintro e1 w1 ⟨rfl, hb⟩
          have HB := Lib.hid hb
          clear hb C
          go_wp2_with fail
          go_loopw [6, 7] (fun u i wr => ∃ (j : Nat), OwnS wr w1.heap.size u (partsTo s k j) ∧ i = .int .i64 (j : Int) ∧ j ≤ s.length + 1 - k ∧ Below w1.heap.size w1 wr)
            (fun _ i _ => s.length + 2 - (intOf i).toNat)
          case atStart => exact ⟨0, owns_nil _ _, by simp, by omega, Below.refl _ _⟩
          case round =>
            obtain ⟨j, hown, rfl, hj, hbr⟩ := hrel
            have HO := Lib.hid hown
            have HBR := Lib.hid hbr
            obtain ⟨B, cb, rfl, hcb⟩ := owns_slice hown
            clear hown hbr
            by_cases hlt : j + k ≤ s.length
            · have hx : (⟨s.toArray⟩ : ByteArray).extract j (j + k) = ⟨((s.drop j).take k).toArray⟩ := by rw [ext_eq, Nat.add_sub_cancel_left]
              have HPL := Lib.hid (partsTo_len s k j)
              go_wp2_with (at_builtin; refine wp_append rfl _ _ rfl w1.heap.size _ (partsTo s k j) rfl (HO.out.alloc _) _ [(s.drop j).take k] rfl (strs_one _ _ _) (by have := HPL.out; simp; omega) (by have := HBR.out.size; simp; omega) ?_)
              intro v' w2 hown' hg'
              have HB2 := Lib.hid (below_grown (HBR.out.alloc HBR.out.size _) (by have := HBR.out.size; simp; omega) (HO.out.alloc _) hg')
              have HO2 := Lib.hid hown'
              clear hown' hg'
              go_wp2_with fail
              go_roundw
              case rel => exact ⟨j + 1, HO2.out, by simp, by omega, HB2.out⟩
              case measure => simp [intOf]; omega
            · have HE := Lib.hid (show j = s.length + 1 - k by omega)
              have HPL := Lib.hid (partsTo_len s k j)
              have D := Lib.hid (sorted_ref (partsTo s k j) _ wr (by have := HPL.out; omega) (strs_own HO.out))
              go_wp2_with fail
              refine D.out.mono ?_
              rintro e2 w2 ⟨u, rfl, hs, hb⟩
              have HS := Lib.hid hs
              have HB2 := Lib.hid (below_up HB.out (below_up HBR.out hb HBR.out.size) HB.out.size)
              clear hs hb D
              go_wp2_with fail
              go_ret
              exact ⟨_, rfl, by rw [← HE.out]; exact HS.out, HB2.out⟩
end Go.Proofs.YtfpegkdbimkhdaaDoor
