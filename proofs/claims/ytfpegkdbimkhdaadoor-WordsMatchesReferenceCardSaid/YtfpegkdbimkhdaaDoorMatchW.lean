/- WordsMatchesReference in plain words: the program's functions agree with the reference's. -/
import Derived.Test.YtfpegkdbimkhdaaDoorHead
namespace Go.Proofs.YtfpegkdbimkhdaaDoor
open Go.RowKit


set_option maxRecDepth 100000 in
theorem match_l1 (t : List UInt8) (n : Int) (xs ys : List (List UInt8)) (v u : Value) (w : World) (h : 1000 < t.length) (hv : Strs w v xs) (hu : Strs w u ys) :
    Calls Tryd.prog 3 #[str t, .int .i64 n, v, u] w fun e w' => e = .returned (.bool true) ∧ Below w.heap.size w w' := by
  obtain ⟨A, ca, rfl, _, _, _⟩ := hv
  obtain ⟨B, cb, rfl, _, _, _⟩ := hu
  go_enter Tryd.func3, Tryd.ntmps3
  go_wp2_with fail
  refine (head_any _).mono ?_
  rintro e1 w1 ⟨rfl, hb⟩
  have HB1 := Lib.hid hb
  clear hb
  go_wp2_with fail
  go_ret
  exact ⟨rfl, HB1.out⟩

set_option maxRecDepth 100000 in
theorem match_l2 (t : List UInt8) (n : Int) (xs ys : List (List UInt8)) (v u : Value) (w : World) (g : t.length ≤ 1000) (h : 200 < xs.length) (hv : Strs w v xs) (hu : Strs w u ys) :
    Calls Tryd.prog 3 #[str t, .int .i64 n, v, u] w fun e w' => e = .returned (.bool true) ∧ Below w.heap.size w w' := by
  obtain ⟨A, ca, rfl, _, _, _⟩ := hv
  obtain ⟨B, cb, rfl, _, _, _⟩ := hu
  go_enter Tryd.func3, Tryd.ntmps3
  go_wp2_with fail
  refine (head_any _).mono ?_
  rintro e1 w1 ⟨rfl, hb⟩
  have HB1 := Lib.hid hb
  clear hb
  go_wp2_with fail
  go_ret
  exact ⟨rfl, HB1.out⟩

set_option maxRecDepth 100000 in
theorem match_l3 (t : List UInt8) (n : Int) (xs ys : List (List UInt8)) (v u : Value) (w : World) (g : t.length ≤ 1000) (g2 : xs.length ≤ 200) (h : 200 < ys.length) (hv : Strs w v xs) (hu : Strs w u ys) :
    Calls Tryd.prog 3 #[str t, .int .i64 n, v, u] w fun e w' => e = .returned (.bool true) ∧ Below w.heap.size w w' := by
  obtain ⟨A, ca, rfl, _, _, _⟩ := hv
  obtain ⟨B, cb, rfl, _, _, _⟩ := hu
  go_enter Tryd.func3, Tryd.ntmps3
  go_wp2_with fail
  refine (head_any _).mono ?_
  rintro e1 w1 ⟨rfl, hb⟩
  have HB1 := Lib.hid hb
  clear hb
  go_wp2_with fail
  go_ret
  exact ⟨rfl, HB1.out⟩

set_option maxRecDepth 100000 in
set_option maxHeartbeats 4000000 in
theorem match_main (t : List UInt8) (n : Int) (xs ys : List (List UInt8)) (v u : Value) (w : World) (ht : t.length ≤ 1000) (hx : xs.length ≤ 200) (hy : ys.length ≤ 200) (hv : Strs w v xs) (hu : Strs w u ys) :
    Calls Tryd.prog 3 #[str t, .int .i64 n, v, u] w fun e w' => e = .returned (.bool true) ∧ Below w.heap.size w w' := by
  have HV := Lib.hid hv
  have HU := Lib.hid hu
  obtain ⟨A, ca, rfl, _, _, _⟩ := hv
  obtain ⟨B, cb, rfl, _, _, _⟩ := hu
  have HT := Lib.hid (show t.length ≤ 1100 by omega)
  have L1 := Lib.hid (show (sortD (words t)).length ≤ 4000 by have := sortD_len (words t); have := words_len t; omega)
  have L2 := Lib.hid (show (sortD (gramsT t n)).length ≤ 4000 by
    refine Nat.le_trans (sortD_len _) ?_
    unfold gramsT
    split
    · simp
    · have h1 := parts_len (foldT t) n.toNat
      have h2 := foldT_len t
      omega)
  go_enter Tryd.func3, Tryd.ntmps3
  go_wp2_with fail
  refine (head_any _).mono ?_
  rintro e1 w1 ⟨rfl, hb⟩
  have HB1 := Lib.hid hb
  clear hb
  go_wp2_with fail
  refine (fold_any t HT.out _).mono ?_
  rintro e2 w2 ⟨rfl, hb⟩
  have HB2 := Lib.hid (below_up HB1.out hb HB1.out.size)
  clear hb
  go_wp2_with fail
  refine (fold_ref t HT.out _).mono ?_
  rintro e3 w3 ⟨rfl, hb⟩
  have HB3 := Lib.hid (below_up HB2.out hb HB2.out.size)
  clear hb
  go_wp2_with fail
  refine (tokens_any t HT.out _).mono ?_
  rintro e4 w4 ⟨v4, rfl, hs, hb⟩
  have HB4 := Lib.hid (below_up HB3.out hb HB3.out.size)
  clear hb
  have HS4 := Lib.hid hs
  clear hs
  go_wp2_with fail
  refine (tokens_ref t HT.out _).mono ?_
  rintro e5 w5 ⟨v5, rfl, hs, hb⟩
  have HK := Lib.hid (HS4.out.below hb)
  have HS5 := Lib.hid hs
  have HB5 := Lib.hid (below_up HB4.out hb HB4.out.size)
  clear hs hb
  go_wp2_with fail
  refine (same_ref (sortD (words t)) (sortD (words t)) v4 v5 _ L1.out HK.out HS5.out).mono ?_
  rintro e6 w6 ⟨rfl, hb⟩
  have HB6 := Lib.hid (below_up HB5.out hb HB5.out.size)
  clear hb
  clear HK
  go_wp2_with fail
  refine (grams_any t n HT.out _).mono ?_
  rintro e7 w7 ⟨v7, rfl, hs, hb⟩
  have HB7 := Lib.hid (below_up HB6.out hb HB6.out.size)
  clear hb
  have HS7 := Lib.hid hs
  clear hs
  go_wp2_with fail
  refine (grams_ref t n HT.out _).mono ?_
  rintro e8 w8 ⟨v8, rfl, hs, hb⟩
  have HK := Lib.hid (HS7.out.below hb)
  have HS8 := Lib.hid hs
  have HB8 := Lib.hid (below_up HB7.out hb HB7.out.size)
  clear hs hb
  go_wp2_with fail
  refine (same_ref (sortD (gramsT t n)) (sortD (gramsT t n)) v7 v8 _ L2.out HK.out HS8.out).mono ?_
  rintro e9 w9 ⟨rfl, hb⟩
  have HB9 := Lib.hid (below_up HB8.out hb HB8.out.size)
  clear hb
  clear HK
  go_wp2_with fail
  refine (common_any xs ys _ _ _ (by omega) (by omega) (HV.out.below HB9.out) (HU.out.below HB9.out)).mono ?_
  rintro e10 w10 ⟨rfl, hb⟩
  have HB10 := Lib.hid (below_up HB9.out hb HB9.out.size)
  clear hb
  go_wp2_with fail
  refine (common_ref xs ys _ _ _ (by omega) (by omega) (HV.out.below HB10.out) (HU.out.below HB10.out)).mono ?_
  rintro e11 w11 ⟨rfl, hb⟩
  have HB11 := Lib.hid (below_up HB10.out hb HB10.out.size)
  clear hb
  go_wp2_with fail
  go_ret
  exact ⟨rfl, HB11.out⟩

theorem match_any (t : List UInt8) (n : Int) (xs ys : List (List UInt8)) (v u : Value) (w : World) (hv : Strs w v xs) (hu : Strs w u ys) :
    Calls Tryd.prog 3 #[str t, .int .i64 n, v, u] w fun e w' => e = .returned (.bool true) ∧ Below w.heap.size w w' := by
  by_cases h1 : 1000 < t.length
  · exact match_l1 t n xs ys v u w h1 hv hu
  by_cases h2 : 200 < xs.length
  · exact match_l2 t n xs ys v u w (by omega) h2 hv hu
  by_cases h3 : 200 < ys.length
  · exact match_l3 t n xs ys v u w (by omega) (by omega) h3 hv hu
  exact match_main t n xs ys v u w (by omega) (by omega) (by omega) hv hu
end Go.Proofs.YtfpegkdbimkhdaaDoor
