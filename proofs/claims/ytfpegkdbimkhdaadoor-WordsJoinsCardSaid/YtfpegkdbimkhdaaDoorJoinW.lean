/- WordsJoins in plain words: two texts with another byte between them. -/
import Derived.Test.YtfpegkdbimkhdaaDoorHead
namespace Go.Proofs.YtfpegkdbimkhdaaDoor
open Go.RowKit

theorem owns_below {w w1 : World} {base : Nat} {v : Value} {l : List (List UInt8)} (h : OwnS w base v l) (hb : Below w.heap.size w w1) : OwnS w1 base v l := h.kept (grown_of_below hb none) (by cases v.ownBlock <;> simp)
theorem conv_one (c : UInt8) (W : World) : (convert 32 9 (.slice (some ⟨W.heap.size, 0, none⟩) 1 1)).run Tryd.prog (W.alloc (.cells #[.int .u8 (c.toNat : Int)] 5)) = .ok (.string ⟨#[c]⟩) (W.alloc (.cells #[.int .u8 (c.toNat : Int)] 5)) :=
  run_convert_bytes_back _ _ _ 5 ⟨W.heap.size, 0, none⟩ 1 [c] Tryd.underlying32 Tryd.underlying5 Tryd.underlying9 (fun j hj => by
    obtain rfl : j = 0 := by simpa using hj
    rw [add_none]
    exact cell_box (heap_alloc_new W _))

set_option maxRecDepth 100000 in
theorem join_l1 (a b : List UInt8) (c : UInt8) (w : World) (h : 500 < a.length) : Calls Tryd.prog 5 #[str a, str b, .int .u8 (c.toNat : Int)] w fun e w' => e = .returned (.bool true) ∧ Below w.heap.size w w' := by
  go_enter Tryd.func5, Tryd.ntmps5
  go_wp2_with fail
  refine (head_any _).mono ?_
  rintro e1 w1 ⟨rfl, hb⟩
  have HB1 := Lib.hid hb
  clear hb
  go_wp2_with fail
  go_ret
  exact ⟨rfl, HB1.out⟩

set_option maxRecDepth 100000 in
theorem join_l2 (a b : List UInt8) (c : UInt8) (w : World) (g : a.length ≤ 500) (h : 500 < b.length) : Calls Tryd.prog 5 #[str a, str b, .int .u8 (c.toNat : Int)] w fun e w' => e = .returned (.bool true) ∧ Below w.heap.size w w' := by
  go_enter Tryd.func5, Tryd.ntmps5
  go_wp2_with fail
  refine (head_any _).mono ?_
  rintro e1 w1 ⟨rfl, hb⟩
  have HB1 := Lib.hid hb
  clear hb
  go_wp2_with fail
  go_ret
  exact ⟨rfl, HB1.out⟩

set_option maxRecDepth 100000 in
theorem join_l3 (a b : List UInt8) (c : UInt8) (w : World) (g : a.length ≤ 500) (h : b.length ≤ 500) (hw : isW c = true) : Calls Tryd.prog 5 #[str a, str b, .int .u8 (c.toNat : Int)] w fun e w' => e = .returned (.bool true) ∧ Below w.heap.size w w' := by
  have C := Lib.hid (fun W => lower_ref c W)
  rw [show lowR c = low c from lowR_w hw] at C
  have hp := low_pos hw
  obtain ⟨m, hm⟩ : ∃ m, (low c).toNat = m := ⟨_, rfl⟩
  rw [hm] at C hp
  have hne : ((m : Int) != 0) = true := by simp; omega
  clear hm hp
  go_enter Tryd.func5, Tryd.ntmps5
  go_wp2_with fail
  refine (head_any _).mono ?_
  rintro e1 w1 ⟨rfl, hb⟩
  have HB1 := Lib.hid hb
  clear hb
  go_wp2_with fail
  refine (C.out _).mono ?_
  rintro e2 w2 ⟨rfl, rfl⟩
  go_wp2_with fail
  go_ret
  exact ⟨rfl, HB1.out⟩

set_option maxRecDepth 100000 in
set_option maxHeartbeats 4000000 in
theorem join_m1 (a b x y z q : List UInt8) (c : UInt8) (w : World) (ha : a.length ≤ 500) (hb : b.length ≤ 500) (HZL : Hid (z.length ≤ 1100)) (hC : Hid (lowR c = 0)) (FX : Hid (foldT a = x)) (FY : Hid (foldT b = y)) (FZ : Hid (foldT z = q)) (TZ : Hid (sortD (words z) = sortD (sortD (words a) ++ sortD (words b))))
    (hboth : ((⟨a.toArray⟩ : ByteArray) ++ ⟨#[c]⟩) ++ ⟨b.toArray⟩ = ⟨z.toArray⟩) (hx : x.length ≤ 500) (hy : y.length ≤ 500)
    (hxe : x.isEmpty = false) (hye : y.isEmpty = false) (hcat : ((⟨x.toArray⟩ : ByteArray) ++ ⟨#[32]⟩) ++ ⟨y.toArray⟩ = ⟨q.toArray⟩) :
    Calls Tryd.prog 5 #[str a, str b, .int .u8 (c.toNat : Int)] w fun e w' => e = .returned (.bool true) ∧ Below w.heap.size w w' := by
  have C := Lib.hid (fun W => lower_ref c W)
  rw [hC.out] at C
  have HT1 := Lib.hid (show a.length ≤ 1100 by omega)
  have HT2 := Lib.hid (show b.length ≤ 1100 by omega)
  have L1 := Lib.hid (show (sortD (words a)).length ≤ 500 by have := sortD_len (words a); have := words_len a; omega)
  have L2 := Lib.hid (show (sortD (words b)).length ≤ 500 by have := sortD_len (words b); have := words_len b; omega)
  have hcv := conv_one c
  go_enter Tryd.func5, Tryd.ntmps5
  go_wp2_with fail
  refine (head_any _).mono ?_
  rintro e1 w1 ⟨rfl, hb⟩
  have HB1 := Lib.hid hb
  clear hb
  go_wp2_with fail
  refine (C.out _).mono ?_
  rintro e2 w2 ⟨rfl, rfl⟩
  go_wp2_with fail
  have HB2 := HB1
  have D := Lib.hid (fold_any a HT1.out)
  rw [FX.out] at D
  refine (D.out _).mono ?_
  rintro e3 w3 ⟨rfl, hb⟩
  have HB3 := Lib.hid (below_up (HB2.out.alloc HB2.out.size _) hb (by have := HB2.out.size; simp <;> omega))
  clear hb
  clear D
  go_wp2_with fail
  have D := Lib.hid (fold_any b HT2.out)
  rw [FY.out] at D
  refine (D.out _).mono ?_
  rintro e4 w4 ⟨rfl, hb⟩
  have HB4 := Lib.hid (below_up HB3.out hb HB3.out.size)
  clear hb
  clear D
  go_wp2_with fail
  refine (tokens_any a HT1.out _).mono ?_
  rintro e5 w5 ⟨v5, rfl, hs, hb⟩
  have HS5 := Lib.hid hs
  have HO5 := Lib.hid (owns_below (owns_fresh w4) hb)
  have HC5 := Lib.hid (below_up ((Below.refl _ _).alloc (Nat.le_refl _) _) hb (by simp) : Below w4.heap.size w4 w5)
  clear hs hb
  go_wp2_with (at_builtin; refine wp_append rfl _ _ rfl w4.heap.size _ [] rfl HO5.out v5 (sortD (words a)) rfl HS5.out (by have := L1.out; simp; omega) HC5.out.size ?_)
  intro v6 w6 ho hg
  have HO6 := Lib.hid ho
  have HC6 := Lib.hid (below_grown HC5.out HC5.out.size HO5.out hg)
  clear ho hg HS5 HO5 HC5
  go_wp2_with fail
  refine (tokens_any b HT2.out _).mono ?_
  rintro e7 w7 ⟨v7, rfl, hs, hb⟩
  have HS7 := Lib.hid hs
  have HO7 := Lib.hid (owns_below HO6.out hb)
  have HC7 := Lib.hid (below_up HC6.out hb HC6.out.size)
  clear hs hb HO6 HC6
  go_wp2_with (at_builtin; refine wp_append rfl _ _ rfl w4.heap.size _ _ rfl HO7.out v7 (sortD (words b)) rfl HS7.out (by have := L1.out; have := L2.out; simp; omega) HC7.out.size ?_)
  intro v8 w8 ho hg
  have HO8 := Lib.hid (strs_own ho)
  have HB8 := Lib.hid (below_up HB4.out (below_grown HC7.out HC7.out.size HO7.out hg) HB4.out.size)
  clear ho hg HS7 HO7 HC7
  have D := Lib.hid (fold_any z HZL.out)
  rw [FZ.out] at D
  go_wp2_with fail
  refine (D.out _).mono ?_
  rintro e9 w9 ⟨rfl, hb⟩
  have HO9 := Lib.hid (HO8.out.below hb)
  have HB9 := Lib.hid (below_up HB8.out hb HB8.out.size)
  clear hb D
  go_wp2_with fail
  refine (tokens_any z HZL.out _).mono ?_
  rintro e10 w10 ⟨v10, rfl, hs, hb⟩
  have HS10 := Lib.hid hs
  rw [TZ.out] at HS10
  have HO10 := Lib.hid (HO9.out.below hb)
  have HB10 := Lib.hid (below_up HB9.out hb HB9.out.size)
  clear hs hb
  go_wp2_with fail
  refine (sorted_ref (sortD (words a) ++ sortD (words b)) v8 _ (by have := L1.out; have := L2.out; simp; omega) HO10.out).mono ?_
  rintro e11 w11 ⟨v11, rfl, hs, hb⟩
  have HS11 := Lib.hid hs
  have HK := Lib.hid (HS10.out.below hb)
  have HB11 := Lib.hid (below_up HB10.out hb HB10.out.size)
  clear hs hb
  go_wp2_with fail
  refine (same_ref _ _ v10 v11 _ (by have := L1.out; have := L2.out; have := sortD_len (sortD (words a) ++ sortD (words b)); simp at this; omega) HK.out HS11.out).mono ?_
  rintro e12 w12 ⟨rfl, hb⟩
  have HB12 := Lib.hid (below_up HB11.out hb HB11.out.size)
  clear hb
  go_wp2_with fail
  go_ret
  exact ⟨rfl, HB12.out⟩

set_option maxRecDepth 100000 in
set_option maxHeartbeats 4000000 in
theorem join_m2 (a b x y z q : List UInt8) (c : UInt8) (w : World) (ha : a.length ≤ 500) (hb : b.length ≤ 500) (HZL : Hid (z.length ≤ 1100)) (hC : Hid (lowR c = 0)) (FX : Hid (foldT a = x)) (FY : Hid (foldT b = y)) (FZ : Hid (foldT z = q)) (TZ : Hid (sortD (words z) = sortD (sortD (words a) ++ sortD (words b))))
    (hboth : ((⟨a.toArray⟩ : ByteArray) ++ ⟨#[c]⟩) ++ ⟨b.toArray⟩ = ⟨z.toArray⟩) (hx : x.length ≤ 500) (hy : y.length ≤ 500)
    (hxe : x.isEmpty = true) (hcat : (⟨x.toArray⟩ : ByteArray) ++ ⟨y.toArray⟩ = ⟨q.toArray⟩) :
    Calls Tryd.prog 5 #[str a, str b, .int .u8 (c.toNat : Int)] w fun e w' => e = .returned (.bool true) ∧ Below w.heap.size w w' := by
  have C := Lib.hid (fun W => lower_ref c W)
  rw [hC.out] at C
  have HT1 := Lib.hid (show a.length ≤ 1100 by omega)
  have HT2 := Lib.hid (show b.length ≤ 1100 by omega)
  have L1 := Lib.hid (show (sortD (words a)).length ≤ 500 by have := sortD_len (words a); have := words_len a; omega)
  have L2 := Lib.hid (show (sortD (words b)).length ≤ 500 by have := sortD_len (words b); have := words_len b; omega)
  have hcv := conv_one c
  go_enter Tryd.func5, Tryd.ntmps5
  go_wp2_with fail
  refine (head_any _).mono ?_
  rintro e1 w1 ⟨rfl, hb⟩
  have HB1 := Lib.hid hb
  clear hb
  go_wp2_with fail
  refine (C.out _).mono ?_
  rintro e2 w2 ⟨rfl, rfl⟩
  go_wp2_with fail
  have HB2 := HB1
  have D := Lib.hid (fold_any a HT1.out)
  rw [FX.out] at D
  refine (D.out _).mono ?_
  rintro e3 w3 ⟨rfl, hb⟩
  have HB3 := Lib.hid (below_up (HB2.out.alloc HB2.out.size _) hb (by have := HB2.out.size; simp <;> omega))
  clear hb
  clear D
  go_wp2_with fail
  have D := Lib.hid (fold_any b HT2.out)
  rw [FY.out] at D
  refine (D.out _).mono ?_
  rintro e4 w4 ⟨rfl, hb⟩
  have HB4 := Lib.hid (below_up HB3.out hb HB3.out.size)
  clear hb
  clear D
  go_wp2_with fail
  refine (tokens_any a HT1.out _).mono ?_
  rintro e5 w5 ⟨v5, rfl, hs, hb⟩
  have HS5 := Lib.hid hs
  have HO5 := Lib.hid (owns_below (owns_fresh w4) hb)
  have HC5 := Lib.hid (below_up ((Below.refl _ _).alloc (Nat.le_refl _) _) hb (by simp) : Below w4.heap.size w4 w5)
  clear hs hb
  go_wp2_with (at_builtin; refine wp_append rfl _ _ rfl w4.heap.size _ [] rfl HO5.out v5 (sortD (words a)) rfl HS5.out (by have := L1.out; simp; omega) HC5.out.size ?_)
  intro v6 w6 ho hg
  have HO6 := Lib.hid ho
  have HC6 := Lib.hid (below_grown HC5.out HC5.out.size HO5.out hg)
  clear ho hg HS5 HO5 HC5
  go_wp2_with fail
  refine (tokens_any b HT2.out _).mono ?_
  rintro e7 w7 ⟨v7, rfl, hs, hb⟩
  have HS7 := Lib.hid hs
  have HO7 := Lib.hid (owns_below HO6.out hb)
  have HC7 := Lib.hid (below_up HC6.out hb HC6.out.size)
  clear hs hb HO6 HC6
  go_wp2_with (at_builtin; refine wp_append rfl _ _ rfl w4.heap.size _ _ rfl HO7.out v7 (sortD (words b)) rfl HS7.out (by have := L1.out; have := L2.out; simp; omega) HC7.out.size ?_)
  intro v8 w8 ho hg
  have HO8 := Lib.hid (strs_own ho)
  have HB8 := Lib.hid (below_up HB4.out (below_grown HC7.out HC7.out.size HO7.out hg) HB4.out.size)
  clear ho hg HS7 HO7 HC7
  have D := Lib.hid (fold_any z HZL.out)
  rw [FZ.out] at D
  go_wp2_with fail
  refine (D.out _).mono ?_
  rintro e9 w9 ⟨rfl, hb⟩
  have HO9 := Lib.hid (HO8.out.below hb)
  have HB9 := Lib.hid (below_up HB8.out hb HB8.out.size)
  clear hb D
  go_wp2_with fail
  refine (tokens_any z HZL.out _).mono ?_
  rintro e10 w10 ⟨v10, rfl, hs, hb⟩
  have HS10 := Lib.hid hs
  rw [TZ.out] at HS10
  have HO10 := Lib.hid (HO9.out.below hb)
  have HB10 := Lib.hid (below_up HB9.out hb HB9.out.size)
  clear hs hb
  go_wp2_with fail
  refine (sorted_ref (sortD (words a) ++ sortD (words b)) v8 _ (by have := L1.out; have := L2.out; simp; omega) HO10.out).mono ?_
  rintro e11 w11 ⟨v11, rfl, hs, hb⟩
  have HS11 := Lib.hid hs
  have HK := Lib.hid (HS10.out.below hb)
  have HB11 := Lib.hid (below_up HB10.out hb HB10.out.size)
  clear hs hb
  go_wp2_with fail
  refine (same_ref _ _ v10 v11 _ (by have := L1.out; have := L2.out; have := sortD_len (sortD (words a) ++ sortD (words b)); simp at this; omega) HK.out HS11.out).mono ?_
  rintro e12 w12 ⟨rfl, hb⟩
  have HB12 := Lib.hid (below_up HB11.out hb HB11.out.size)
  clear hb
  go_wp2_with fail
  go_ret
  exact ⟨rfl, HB12.out⟩

set_option maxRecDepth 100000 in
set_option maxHeartbeats 4000000 in
theorem join_m3 (a b x y z q : List UInt8) (c : UInt8) (w : World) (ha : a.length ≤ 500) (hb : b.length ≤ 500) (HZL : Hid (z.length ≤ 1100)) (hC : Hid (lowR c = 0)) (FX : Hid (foldT a = x)) (FY : Hid (foldT b = y)) (FZ : Hid (foldT z = q)) (TZ : Hid (sortD (words z) = sortD (sortD (words a) ++ sortD (words b))))
    (hboth : ((⟨a.toArray⟩ : ByteArray) ++ ⟨#[c]⟩) ++ ⟨b.toArray⟩ = ⟨z.toArray⟩) (hx : x.length ≤ 500) (hy : y.length ≤ 500)
    (hxe : x.isEmpty = false) (hye : y.isEmpty = true) (hcat : (⟨x.toArray⟩ : ByteArray) ++ ⟨y.toArray⟩ = ⟨q.toArray⟩) :
    Calls Tryd.prog 5 #[str a, str b, .int .u8 (c.toNat : Int)] w fun e w' => e = .returned (.bool true) ∧ Below w.heap.size w w' := by
  have C := Lib.hid (fun W => lower_ref c W)
  rw [hC.out] at C
  have HT1 := Lib.hid (show a.length ≤ 1100 by omega)
  have HT2 := Lib.hid (show b.length ≤ 1100 by omega)
  have L1 := Lib.hid (show (sortD (words a)).length ≤ 500 by have := sortD_len (words a); have := words_len a; omega)
  have L2 := Lib.hid (show (sortD (words b)).length ≤ 500 by have := sortD_len (words b); have := words_len b; omega)
  have hcv := conv_one c
  go_enter Tryd.func5, Tryd.ntmps5
  go_wp2_with fail
  refine (head_any _).mono ?_
  rintro e1 w1 ⟨rfl, hb⟩
  have HB1 := Lib.hid hb
  clear hb
  go_wp2_with fail
  refine (C.out _).mono ?_
  rintro e2 w2 ⟨rfl, rfl⟩
  go_wp2_with fail
  have HB2 := HB1
  have D := Lib.hid (fold_any a HT1.out)
  rw [FX.out] at D
  refine (D.out _).mono ?_
  rintro e3 w3 ⟨rfl, hb⟩
  have HB3 := Lib.hid (below_up (HB2.out.alloc HB2.out.size _) hb (by have := HB2.out.size; simp <;> omega))
  clear hb
  clear D
  go_wp2_with fail
  have D := Lib.hid (fold_any b HT2.out)
  rw [FY.out] at D
  refine (D.out _).mono ?_
  rintro e4 w4 ⟨rfl, hb⟩
  have HB4 := Lib.hid (below_up HB3.out hb HB3.out.size)
  clear hb
  clear D
  go_wp2_with fail
  refine (tokens_any a HT1.out _).mono ?_
  rintro e5 w5 ⟨v5, rfl, hs, hb⟩
  have HS5 := Lib.hid hs
  have HO5 := Lib.hid (owns_below (owns_fresh w4) hb)
  have HC5 := Lib.hid (below_up ((Below.refl _ _).alloc (Nat.le_refl _) _) hb (by simp) : Below w4.heap.size w4 w5)
  clear hs hb
  go_wp2_with (at_builtin; refine wp_append rfl _ _ rfl w4.heap.size _ [] rfl HO5.out v5 (sortD (words a)) rfl HS5.out (by have := L1.out; simp; omega) HC5.out.size ?_)
  intro v6 w6 ho hg
  have HO6 := Lib.hid ho
  have HC6 := Lib.hid (below_grown HC5.out HC5.out.size HO5.out hg)
  clear ho hg HS5 HO5 HC5
  go_wp2_with fail
  refine (tokens_any b HT2.out _).mono ?_
  rintro e7 w7 ⟨v7, rfl, hs, hb⟩
  have HS7 := Lib.hid hs
  have HO7 := Lib.hid (owns_below HO6.out hb)
  have HC7 := Lib.hid (below_up HC6.out hb HC6.out.size)
  clear hs hb HO6 HC6
  go_wp2_with (at_builtin; refine wp_append rfl _ _ rfl w4.heap.size _ _ rfl HO7.out v7 (sortD (words b)) rfl HS7.out (by have := L1.out; have := L2.out; simp; omega) HC7.out.size ?_)
  intro v8 w8 ho hg
  have HO8 := Lib.hid (strs_own ho)
  have HB8 := Lib.hid (below_up HB4.out (below_grown HC7.out HC7.out.size HO7.out hg) HB4.out.size)
  clear ho hg HS7 HO7 HC7
  have D := Lib.hid (fold_any z HZL.out)
  rw [FZ.out] at D
  go_wp2_with fail
  refine (D.out _).mono ?_
  rintro e9 w9 ⟨rfl, hb⟩
  have HO9 := Lib.hid (HO8.out.below hb)
  have HB9 := Lib.hid (below_up HB8.out hb HB8.out.size)
  clear hb D
  go_wp2_with fail
  refine (tokens_any z HZL.out _).mono ?_
  rintro e10 w10 ⟨v10, rfl, hs, hb⟩
  have HS10 := Lib.hid hs
  rw [TZ.out] at HS10
  have HO10 := Lib.hid (HO9.out.below hb)
  have HB10 := Lib.hid (below_up HB9.out hb HB9.out.size)
  clear hs hb
  go_wp2_with fail
  refine (sorted_ref (sortD (words a) ++ sortD (words b)) v8 _ (by have := L1.out; have := L2.out; simp; omega) HO10.out).mono ?_
  rintro e11 w11 ⟨v11, rfl, hs, hb⟩
  have HS11 := Lib.hid hs
  have HK := Lib.hid (HS10.out.below hb)
  have HB11 := Lib.hid (below_up HB10.out hb HB10.out.size)
  clear hs hb
  go_wp2_with fail
  refine (same_ref _ _ v10 v11 _ (by have := L1.out; have := L2.out; have := sortD_len (sortD (words a) ++ sortD (words b)); simp at this; omega) HK.out HS11.out).mono ?_
  rintro e12 w12 ⟨rfl, hb⟩
  have HB12 := Lib.hid (below_up HB11.out hb HB11.out.size)
  clear hb
  go_wp2_with fail
  go_ret
  exact ⟨rfl, HB12.out⟩

theorem empty_of {l : List UInt8} (h : l ≠ []) : l.isEmpty = false := by
  cases l with
  | nil => exact absurd rfl h
  | cons x y => rfl
theorem join_any (a b : List UInt8) (c : UInt8) (w : World) : Calls Tryd.prog 5 #[str a, str b, .int .u8 (c.toNat : Int)] w fun e w' => e = .returned (.bool true) ∧ Below w.heap.size w w' := by
  by_cases h1 : 500 < a.length
  · exact join_l1 a b c w h1
  by_cases h2 : 500 < b.length
  · exact join_l2 a b c w (by omega) h2
  cases hw : isW c
  · have hz : (((⟨a.toArray⟩ : ByteArray) ++ ⟨#[c]⟩) ++ ⟨b.toArray⟩) = ⟨(a ++ c :: b).toArray⟩ := by
      rw [show (⟨#[c]⟩ : ByteArray) = ⟨[c].toArray⟩ from rfl, str_add, str_add, List.append_assoc]
      rfl
    have h3 : foldT (a ++ c :: b) = _ := foldT_join hw a b
    have hl : (a ++ c :: b).length ≤ 1100 := by simp; omega
    have hfa := foldT_len a
    have hfb := foldT_len b
    by_cases hx : foldT a = []
    · rw [if_pos (Or.inl hx)] at h3
      exact join_m2 a b _ _ _ _ c w (by omega) (by omega) (Lib.hid hl) (Lib.hid (lowR_s hw)) (Lib.hid rfl) (Lib.hid rfl) (Lib.hid h3) (Lib.hid (tokens_join hw a b)) hz (by omega) (by omega) (by rw [hx]; rfl) (str_add _ _)
    · by_cases hy : foldT b = []
      · rw [if_pos (Or.inr hy)] at h3
        exact join_m3 a b _ _ _ _ c w (by omega) (by omega) (Lib.hid hl) (Lib.hid (lowR_s hw)) (Lib.hid rfl) (Lib.hid rfl) (Lib.hid h3) (Lib.hid (tokens_join hw a b)) hz (by omega) (by omega) (empty_of hx) (by rw [hy]; rfl) (str_add _ _)
      · rw [if_neg (fun h => h.elim hx hy)] at h3
        exact join_m1 a b _ _ _ _ c w (by omega) (by omega) (Lib.hid hl) (Lib.hid (lowR_s hw)) (Lib.hid rfl) (Lib.hid rfl) (Lib.hid h3) (Lib.hid (tokens_join hw a b)) hz (by omega) (by omega) (empty_of hx) (empty_of hy) (by rw [show (⟨#[32]⟩ : ByteArray) = ⟨[32].toArray⟩ from rfl, str_add, str_add, List.append_assoc]; rfl)
  · exact join_l3 a b c w (by omega) (by omega) hw
end Go.Proofs.YtfpegkdbimkhdaaDoor
