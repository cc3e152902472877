/- The walk of ValueShifts. -/
import Derived.Test.YtdoenjkebeidlaaDoorHead
namespace Go.Proofs.YtdoenjkebeidlaaDoor
open Go.RowKit

theorem test_num {x y : Int} (op add : Int) (h1 : -1000000000 ≤ x ∧ x ≤ 1000000000) (h2 : -1000000000 ≤ y ∧ y ≤ 1000000000) : testB 2 x [] op 2 y [] add = holdsB op (cmpI (x - y) add) := by
  have v1 : vldB 2 x [] = true := vldB_mk (Or.inr (Or.inr (Or.inl ⟨rfl, h1.1, h1.2, rfl⟩)))
  have v2 : vldB 2 y [] = true := vldB_mk (Or.inr (Or.inr (Or.inl ⟨rfl, h2.1, h2.2, rfl⟩)))
  unfold testB
  rw [v1, v2, if_pos (by simp)]
  congr 1
  unfold or2
  split
  · rename_i h; rw [cmpS_self, h]
  · rfl
theorem shift_less (d add : Int) : holdsB 3 (cmpI d add) = holdsB 4 (cmpI d (add - 1)) := by
  unfold holdsB
  rw [if_neg (by decide), if_neg (by decide), if_pos rfl, if_neg (by decide), if_neg (by decide), if_neg (by decide), if_pos rfl, Bool.eq_iff_iff, decide_eq_true_eq, decide_eq_true_eq]
  unfold cmpI
  split <;> split <;> (try split) <;> (try split) <;> omega
theorem shift_same (a b add : Int) : cmpI (a - (b + add)) 0 = cmpI (a - b) add := by
  unfold cmpI
  split <;> split <;> (try split) <;> (try split) <;> omega
theorem tmod_bound (a : Int) : -400000000 ≤ a.tmod 400000001 ∧ a.tmod 400000001 ≤ 400000000 := by
  have h1 := Int.tmod_lt_of_pos a (show (0 : Int) < 400000001 by decide)
  have h2 := Int.tmod_lt_of_pos (-a) (show (0 : Int) < 400000001 by decide)
  rw [Int.neg_tmod] at h2
  omega

set_option maxRecDepth 100000 in
set_option maxHeartbeats 1600000 in
theorem shifts_any (a b op add by_ : Int) (w : World) (he : Env w) :
    Calls Tryd.prog 9 #[.int .i64 a, .int .i64 b, .int .i64 op, .int .i64 add, .int .i64 by_] w fun e w' => e = .returned (.bool true) ∧ Below w.heap.size w w' := by
  have HE := Lib.hid he
  have HB := Lib.hid (Below.refl w.heap.size w)
  clear he
  go_enter Tryd.func9, Tryd.ntmps9
  go_wp2_with fail
  refine (head_any _ HE.out).mono ?_
  rintro e w1 ⟨rfl, hb⟩
  replace HE := Lib.hid (HE.out.below hb)
  replace HB := Lib.hid (below_up HB.out hb HB.out.size)
  clear hb
  go_wp2_with fail
  have bdx := tmod_bound a
  generalize a.tmod 400000001 = x at bdx ⊢
  obtain ⟨lx, ux⟩ := bdx
  have bdy := tmod_bound b
  generalize b.tmod 400000001 = y at bdy ⊢
  obtain ⟨ly, uy⟩ := bdy
  have bdp := tmod_bound add
  generalize add.tmod 400000001 = p at bdp ⊢
  obtain ⟨lp, up⟩ := bdp
  have bdq := tmod_bound by_
  generalize by_.tmod 400000001 = q at bdq ⊢
  obtain ⟨lq, uq⟩ := bdq
  obtain ⟨s, hs⟩ : ∃ s, holdsB op (cmpI (x - y) p) = s := ⟨_, rfl⟩
  obtain ⟨u, hu⟩ : ∃ u, holdsB 3 (cmpI (x - y) p) = u := ⟨_, rfl⟩
  have E1 := Lib.hid (show testB 2 x [] op 2 y [] p = s by rw [test_num _ _ (by omega) (by omega)]; exact hs)
  have E2 := Lib.hid (show testB 2 (x + q) [] op 2 (y + q) [] p = s by rw [test_num _ _ (by omega) (by omega), show x + q - (y + q) = x - y by omega]; exact hs)
  have E3 := Lib.hid (show testB 2 x [] op 2 (y + p) [] 0 = s by rw [test_num _ _ (by omega) (by omega), shift_same]; exact hs)
  have E4 := Lib.hid (show testB 2 x [] 3 2 y [] p = u by rw [test_num _ _ (by omega) (by omega)]; exact hu)
  have E5 := Lib.hid (show testB 2 x [] 4 2 y [] (p - 1) = u by rw [test_num _ _ (by omega) (by omega), ← shift_less]; exact hu)
  clear hs hu
  refine (number_any x _ ).mono ?_
  rintro e w2 ⟨rfl, hb⟩
  replace HE := Lib.hid (HE.out.below hb)
  replace HB := Lib.hid (below_up HB.out hb HB.out.size)
  clear hb
  go_wp2_with fail
  refine (number_any y _ ).mono ?_
  rintro e w3 ⟨rfl, hb⟩
  replace HE := Lib.hid (HE.out.below hb)
  replace HB := Lib.hid (below_up HB.out hb HB.out.size)
  clear hb
  go_wp2_with fail
  have C := fun W => test_any 2 x [] op 2 y [] p W
  rw [E1.out] at C
  refine (C _ ).mono ?_
  clear C
  rintro e w4 ⟨rfl, hb⟩
  replace HE := Lib.hid (HE.out.below hb)
  replace HB := Lib.hid (below_up HB.out hb HB.out.size)
  clear hb
  go_wp2_with fail
  refine (number_any (x + q) _ ).mono ?_
  rintro e w5 ⟨rfl, hb⟩
  replace HE := Lib.hid (HE.out.below hb)
  replace HB := Lib.hid (below_up HB.out hb HB.out.size)
  clear hb
  go_wp2_with fail
  refine (number_any (y + q) _ ).mono ?_
  rintro e w6 ⟨rfl, hb⟩
  replace HE := Lib.hid (HE.out.below hb)
  replace HB := Lib.hid (below_up HB.out hb HB.out.size)
  clear hb
  go_wp2_with fail
  have C := fun W => test_any 2 (x + q) [] op 2 (y + q) [] p W
  rw [E2.out] at C
  refine (C _ ).mono ?_
  clear C
  rintro e w7 ⟨rfl, hb⟩
  replace HE := Lib.hid (HE.out.below hb)
  replace HB := Lib.hid (below_up HB.out hb HB.out.size)
  clear hb
  go_wp2_with fail
  refine (number_any x _ ).mono ?_
  rintro e w8 ⟨rfl, hb⟩
  replace HE := Lib.hid (HE.out.below hb)
  replace HB := Lib.hid (below_up HB.out hb HB.out.size)
  clear hb
  go_wp2_with fail
  refine (number_any (y + p) _ ).mono ?_
  rintro e w9 ⟨rfl, hb⟩
  replace HE := Lib.hid (HE.out.below hb)
  replace HB := Lib.hid (below_up HB.out hb HB.out.size)
  clear hb
  go_wp2_with fail
  have C := fun W => test_any 2 x [] op 2 (y + p) [] 0 W
  rw [E3.out] at C
  refine (C _ ).mono ?_
  clear C
  rintro e w10 ⟨rfl, hb⟩
  replace HE := Lib.hid (HE.out.below hb)
  replace HB := Lib.hid (below_up HB.out hb HB.out.size)
  clear hb
  go_wp2_with fail
  refine (number_any x _ ).mono ?_
  rintro e w11 ⟨rfl, hb⟩
  replace HE := Lib.hid (HE.out.below hb)
  replace HB := Lib.hid (below_up HB.out hb HB.out.size)
  clear hb
  go_wp2_with fail
  refine (number_any y _ ).mono ?_
  rintro e w12 ⟨rfl, hb⟩
  replace HE := Lib.hid (HE.out.below hb)
  replace HB := Lib.hid (below_up HB.out hb HB.out.size)
  clear hb
  go_wp2_with fail
  have C := fun W => test_any 2 x [] 3 2 y [] p W
  rw [E4.out] at C
  refine (C _ ).mono ?_
  clear C
  rintro e w13 ⟨rfl, hb⟩
  replace HE := Lib.hid (HE.out.below hb)
  replace HB := Lib.hid (below_up HB.out hb HB.out.size)
  clear hb
  go_wp2_with fail
  refine (number_any x _ ).mono ?_
  rintro e w14 ⟨rfl, hb⟩
  replace HE := Lib.hid (HE.out.below hb)
  replace HB := Lib.hid (below_up HB.out hb HB.out.size)
  clear hb
  go_wp2_with fail
  refine (number_any y _ ).mono ?_
  rintro e w15 ⟨rfl, hb⟩
  replace HE := Lib.hid (HE.out.below hb)
  replace HB := Lib.hid (below_up HB.out hb HB.out.size)
  clear hb
  go_wp2_with fail
  have C := fun W => test_any 2 x [] 4 2 y [] (p - 1) W
  rw [E5.out] at C
  refine (C _ ).mono ?_
  clear C
  rintro e w16 ⟨rfl, hb⟩
  replace HE := Lib.hid (HE.out.below hb)
  replace HB := Lib.hid (below_up HB.out hb HB.out.size)
  clear hb
  go_wp2_with fail
  go_ret
  exact ⟨rfl, HB.out⟩
end Go.Proofs.YtdoenjkebeidlaaDoor
