/- WordsCommon in plain words: how many tokens two texts have in common. -/
import Derived.Test.YtfpegkdbimkhdaaDoorHead
namespace Go.Proofs.YtfpegkdbimkhdaaDoor
open Go.RowKit

set_option maxRecDepth 100000 in
theorem comlaw_l1 (a b : List UInt8) (w : World) (h : 500 < a.length) : Calls Tryd.prog 8 #[str a, str b] w fun e w' => e = .returned (.bool true) ∧ Below w.heap.size w w' := by
  go_enter Tryd.func8, Tryd.ntmps8
  go_wp2_with fail
  refine (head_any _).mono ?_
  rintro e1 w1 ⟨rfl, hb⟩
  have HB1 := Lib.hid hb
  clear hb
  go_wp2_with fail
  go_ret
  exact ⟨rfl, HB1.out⟩

set_option maxRecDepth 100000 in
theorem comlaw_l2 (a b : List UInt8) (w : World) (g : a.length ≤ 500) (h : 500 < b.length) : Calls Tryd.prog 8 #[str a, str b] w fun e w' => e = .returned (.bool true) ∧ Below w.heap.size w w' := by
  go_enter Tryd.func8, Tryd.ntmps8
  go_wp2_with fail
  refine (head_any _).mono ?_
  rintro e1 w1 ⟨rfl, hb⟩
  have HB1 := Lib.hid hb
  clear hb
  go_wp2_with fail
  go_ret
  exact ⟨rfl, HB1.out⟩

set_option maxRecDepth 100000 in
set_option maxHeartbeats 4000000 in
theorem comlaw_main (a b : List UInt8) (X Y U : List (List UInt8)) (n : Nat) (w : World) (ha : a.length ≤ 500) (hb : b.length ≤ 500) (FX : Hid (sortD (words a) = X)) (FY : Hid (sortD (words b) = Y)) (FU : Hid (sortD (X ++ Y) = U)) (hX : X.length ≤ 500) (hY : Y.length ≤ 500)
    (C1 : Hid (commonT X Y = n)) (C2 : Hid (commonT Y X = n)) (C3 : Hid (commonT X X = X.length)) (h1 : n ≤ X.length) (h2 : n ≤ Y.length) (h3 : n + U.length = X.length + Y.length) :
    Calls Tryd.prog 8 #[str a, str b] w fun e w' => e = .returned (.bool true) ∧ Below w.heap.size w w' := by
  have H1 := Lib.hid (show a.length ≤ 1100 by omega)
  have H2 := Lib.hid (show b.length ≤ 1100 by omega)
  have hmin : (n : Int) ≤ min (X.length : Int) (Y.length : Int) := by omega
  have D := Lib.hid (tokens_any a H1.out)
  rw [FX.out] at D
  go_enter Tryd.func8, Tryd.ntmps8
  go_wp2_with fail
  refine (head_any _).mono ?_
  rintro e1 w1 ⟨rfl, hb⟩
  have HB1 := Lib.hid hb
  clear hb
  go_wp2_with fail
  refine (D.out _).mono ?_
  rintro e2 w2 ⟨v2, rfl, hs, hb⟩
  have HS2 := Lib.hid hs
  have HB2 := Lib.hid (below_up HB1.out hb HB1.out.size)
  clear hs hb D
  have D := Lib.hid (tokens_any b H2.out)
  rw [FY.out] at D
  go_wp2_with fail
  refine (D.out _).mono ?_
  rintro e3 w3 ⟨v3, rfl, hs, hb⟩
  have HS3 := Lib.hid hs
  have HX3 := Lib.hid (HS2.out.below hb)
  have HB3 := Lib.hid (below_up HB2.out hb HB2.out.size)
  clear hs hb D
  obtain ⟨A, ca, rfl, _, _, _⟩ := HX3.out
  obtain ⟨B, cb, rfl, _, _, _⟩ := HS3.out
  go_wp2_with fail
  have HY3 := HS3
  refine (common_any X Y _ _ _ (by omega) (by omega) HX3.out HY3.out).mono ?_
  rw [C1.out]
  rintro e4 w4 ⟨rfl, hb⟩
  have HX4 := Lib.hid (HX3.out.below hb)
  have HY4 := Lib.hid (HY3.out.below hb)
  have HB4 := Lib.hid (below_up HB3.out hb HB3.out.size)
  clear hb
  have HX5 := Lib.hid (HX4.out.below ((Below.refl _ _).alloc (Nat.le_refl _) (.cells #[] 9)))
  go_wp2_with (at_builtin; refine wp_append rfl _ _ rfl w4.heap.size _ [] rfl (owns_fresh w4) _ X rfl HX5.out (by simp; omega) (by simp) ?_)
  intro v5 w5 ho hg
  have HO5 := Lib.hid ho
  have HC5 := Lib.hid (below_grown ((Below.refl _ _).alloc (Nat.le_refl _) _) (by simp) (owns_fresh w4) hg)
  have HY5 := Lib.hid (HY4.out.below HC5.out)
  clear ho hg
  go_wp2_with (at_builtin; refine wp_append rfl _ _ rfl w4.heap.size _ _ rfl HO5.out _ Y rfl HY5.out (by omega) HC5.out.size ?_)
  intro v6 w6 ho hg
  have HO6 := Lib.hid (strs_own ho)
  have HC6 := Lib.hid (below_grown HC5.out HC5.out.size HO5.out hg)
  have HX6 := Lib.hid (HX4.out.below HC6.out)
  have HY6 := Lib.hid (HY4.out.below HC6.out)
  have HB6 := Lib.hid (below_up HB4.out HC6.out HB4.out.size)
  clear ho hg HX5 HO5 HC5 HY5
  have D := Lib.hid (fun W (h : Strs W v6 (X ++ Y)) => sorted_ref (X ++ Y) v6 W (by simp; omega) h)
  rw [FU.out] at D
  go_wp2_with fail
  refine (D.out _ HO6.out).mono ?_
  rintro e7 w7 ⟨v7, rfl, hs, hb⟩
  have HX7 := Lib.hid (HX6.out.below hb)
  have HY7 := Lib.hid (HY6.out.below hb)
  have HB7 := Lib.hid (below_up HB6.out hb HB6.out.size)
  obtain ⟨E, ce, rfl, _, _, _⟩ := hs
  clear hb D
  go_wp2_with fail
  refine (common_any Y X _ _ _ (by omega) (by omega) HY7.out HX7.out).mono ?_
  rw [C2.out]
  rintro e8 w8 ⟨rfl, hb⟩
  have HX8 := Lib.hid (HX7.out.below hb)
  have HY8 := Lib.hid (HY7.out.below hb)
  have HB8 := Lib.hid (below_up HB7.out hb HB7.out.size)
  clear hb
  go_wp2_with fail
  refine (common_any X X _ _ _ (by omega) (by omega) HX8.out HX8.out).mono ?_
  rw [C3.out]
  rintro e9 w9 ⟨rfl, hb⟩
  have HX9 := Lib.hid (HX8.out.below hb)
  have HY9 := Lib.hid (HY8.out.below hb)
  have HB9 := Lib.hid (below_up HB8.out hb HB8.out.size)
  clear hb
  go_wp2_with fail
  go_ret
  exact ⟨rfl, HB9.out⟩

theorem comlaw_any (a b : List UInt8) (w : World) : Calls Tryd.prog 8 #[str a, str b] w fun e w' => e = .returned (.bool true) ∧ Below w.heap.size w w' := by
  by_cases h1 : 500 < a.length
  · exact comlaw_l1 a b w h1
  by_cases h2 : 500 < b.length
  · exact comlaw_l2 a b w (by omega) h2
  have h3 := sortD_len (words a)
  have h4 := words_len a
  have h5 := sortD_len (words b)
  have h6 := words_len b
  have h7 := comm_le (sortD (words a)) (sortD (words b))
  have h8 := comm_union _ _ (strict_sortD (words a)) (strict_sortD (words b))
  exact comlaw_main a b _ _ _ (comm (sortD (words a)) (sortD (words b))) w (by omega) (by omega) (Lib.hid rfl) (Lib.hid rfl) (Lib.hid rfl) (by omega) (by omega)
    (Lib.hid (commonT_sorted _ _)) (Lib.hid ((commonT_sorted _ _).trans (comm_sym _ _))) (Lib.hid ((commonT_sorted _ _).trans (comm_self _))) h7.1 h7.2 h8
end Go.Proofs.YtfpegkdbimkhdaaDoor
