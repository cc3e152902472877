/- The contract of the laws' fixed examples. -/
import Derived.Test.YtfpegkdbimkhdaaDoorRefG
import Derived.Test.YtfpegkdbimkhdaaDoorRefC
namespace Go.Proofs.YtfpegkdbimkhdaaDoor
open Go.RowKit

/-- A literal's list. -/
theorem strs_lit (w : World) (l : List (List UInt8)) (T : TypeId) : Strs (w.alloc (.cells (l.map str).toArray T)) (.slice (some ⟨w.heap.size, 0, none⟩) l.length l.length) l :=
  ⟨_, _, rfl, Nat.le_refl _, (fun e => by cases e), fun i hi => ⟨_, 0, rfl, by
    have h : (w.alloc (.cells (l.map str).toArray T)).heap[w.heap.size]? = some (.cells (l.map str).toArray T) := heap_alloc_new w _
    unfold World.cell?
    rw [h]
    simp [hi]⟩⟩

/-- Common of two literals. -/
theorem common_lits (X Y : List (List UInt8)) (k : Nat) (hX : X.length ≤ 4000) (hY : Y.length ≤ 4000) (hk : commonT X Y = k) (W : World) :
    Calls Tryd.prog 18 #[.slice (some ⟨W.heap.size, 0, none⟩) X.length X.length, .slice (some ⟨W.heap.size + 1, 0, none⟩) Y.length Y.length] ((W.alloc (.cells (X.map str).toArray 9)).alloc (.cells (Y.map str).toArray 9))
      fun e w' => e = .returned (.int .i64 (k : Int)) ∧ Below W.heap.size W w' := by
  have h2 := strs_lit (W.alloc (.cells (X.map str).toArray 9)) Y 9
  rw [World.size_alloc] at h2
  refine (common_any X Y _ _ _ hX hY ((strs_lit W X 9).below ((Below.refl _ _).alloc (Nat.le_refl _) _)) h2).mono ?_
  rintro e w1 ⟨rfl, hb⟩
  refine ⟨by rw [hk], below_next ((Below.refl _ _).alloc (Nat.le_refl _) _) (by simp) hb⟩

set_option maxRecDepth 100000 in
set_option maxHeartbeats 4000000 in
theorem head_any (w : World) : Calls Tryd.prog 10 #[] w fun e w' => e = .returned (.bool true) ∧ Below w.heap.size w w' := by
  go_enter Tryd.func10, Tryd.ntmps10
  go_wp2_with fail
  refine (fold_any [32, 32, 65, 110, 110, 45, 77, 97, 114, 105, 101, 32, 32, 79, 39, 78, 101, 105, 108, 32, 50, 32] (by decide) _).mono ?_
  rw [show foldT [32, 32, 65, 110, 110, 45, 77, 97, 114, 105, 101, 32, 32, 79, 39, 78, 101, 105, 108, 32, 50, 32] = [97, 110, 110, 32, 109, 97, 114, 105, 101, 32, 111, 32, 110, 101, 105, 108, 32, 50] from by decide +kernel]
  rintro e w1 ⟨rfl, hb⟩
  have HB1 := Lib.hid hb
  clear hb
  go_wp2_with fail
  refine (tokens_any [98, 32, 97, 32, 66] (by decide) _).mono ?_
  rw [show sortD (words [98, 32, 97, 32, 66]) = [[97], [98]] from by decide +kernel]
  rintro e w2 ⟨v, rfl, hs, hb⟩
  have HB2 := Lib.hid (below_up HB1.out hb HB1.out.size)
  have HS := Lib.hid hs
  clear hs hb
  go_wp2_with fail
  refine (same_ref [[97], [98]] [[97], [98]] v _ _ (by decide) (HS.out.below ((Below.refl _ _).alloc (Nat.le_refl _) _)) (strs_lit _ [[97], [98]] _)).mono ?_
  rintro e w3 ⟨rfl, hb⟩
  have HB3 := Lib.hid (below_next HB2.out HB2.out.size hb)
  clear hb HS
  go_wp2_with fail
  refine (grams_any [97, 98, 32, 99] 2 (by decide) _).mono ?_
  rw [show sortD (gramsT [97, 98, 32, 99] 2) = [[32, 99], [97, 98], [98, 32]] from by decide +kernel]
  rintro e w4 ⟨v, rfl, hs, hb⟩
  have HB4 := Lib.hid (below_up HB3.out hb HB3.out.size)
  have HS := Lib.hid hs
  clear hs hb
  go_wp2_with fail
  refine (same_ref [[32, 99], [97, 98], [98, 32]] [[32, 99], [97, 98], [98, 32]] v _ _ (by decide) (HS.out.below ((Below.refl _ _).alloc (Nat.le_refl _) _)) (strs_lit _ [[32, 99], [97, 98], [98, 32]] _)).mono ?_
  rintro e w5 ⟨rfl, hb⟩
  have HB5 := Lib.hid (below_next HB4.out HB4.out.size hb)
  clear hb HS
  go_wp2_with fail
  refine (grams_any [97] 3 (by decide) _).mono ?_
  rw [show sortD (gramsT [97] 3) = [[97]] from by decide +kernel]
  rintro e w6 ⟨v, rfl, hs, hb⟩
  have HB6 := Lib.hid (below_up HB5.out hb HB5.out.size)
  have HS := Lib.hid hs
  clear hs hb
  go_wp2_with fail
  refine (same_ref [[97]] [[97]] v _ _ (by decide) (HS.out.below ((Below.refl _ _).alloc (Nat.le_refl _) _)) (strs_lit _ [[97]] _)).mono ?_
  rintro e w7 ⟨rfl, hb⟩
  have HB7 := Lib.hid (below_next HB6.out HB6.out.size hb)
  clear hb HS
  go_wp2_with fail
  refine (grams_any [97] 0 (by decide) _).mono ?_
  rw [show sortD (gramsT [97] 0) = [] from by decide +kernel]
  rintro e w8 ⟨v, rfl, hs, hb⟩
  have HB8 := Lib.hid (below_up HB7.out hb HB7.out.size)
  obtain ⟨A, cap, rfl, _, _, _⟩ := hs
  clear hb
  go_wp2_with fail
  refine (common_lits [[97], [98], [100]] [[98], [99], [100]] 2 (by decide) (by decide) (by decide +kernel) w8).mono ?_
  rintro e w9 ⟨rfl, hb⟩
  have HB9 := Lib.hid (HB8.out.trans (hb.mono HB8.out.size))
  clear hb
  go_wp2_with fail
  refine (common_lits [[98], [97]] [[97]] 0 (by decide) (by decide) (by decide +kernel) w9).mono ?_
  rintro e w10 ⟨rfl, hb⟩
  have HB10 := Lib.hid (HB9.out.trans (hb.mono HB9.out.size))
  clear hb
  go_wp2_with fail
  go_ret
  exact ⟨rfl, HB10.out⟩
end Go.Proofs.YtfpegkdbimkhdaaDoor
