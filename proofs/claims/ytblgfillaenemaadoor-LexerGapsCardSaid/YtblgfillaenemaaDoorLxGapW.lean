/- LexerGaps, walked. -/
import Derived.Test.YtblgfillaenemaaDoorLxPartW
import Derived.Test.YtblgfillaenemaaDoorLxHeadM
namespace Go.Proofs.YtblgfillaenemaaDoor
open Go.RowKit
open L7 (Tk lexT lx gap bare)

set_option maxRecDepth 100000 in
set_option maxHeartbeats 8000000 in
theorem gaps_long1 (t G : Txt) (a : Nat) (h : 1500 < t.length) (w : World) : Calls Tryd.prog 8 #[str t, str G, .int .u16 (a : Int)] w (fun e w' => e = .returned (.bool true) ∧ Below w.heap.size w w') := by
  have hs1 := sz t
  have hs2 := sz G
  have d : (1500 : Int) < (t.length : Int) := by omega
  clear h
  go_enter Tryd.func8, Tryd.ntmps8
  go_wp2_with fail
  refine (head_any _).mono ?_
  rintro e w1 ⟨rfl, hb1⟩
  have HB1 := Lib.hid hb1
  clear hb1
  go_wp2_with fail
  go_ret
  exact ⟨rfl, HB1.out⟩
set_option maxRecDepth 100000 in
set_option maxHeartbeats 8000000 in
theorem gaps_long2 (t G : Txt) (a : Nat) (h : ¬ 1500 < t.length) (h2 : 300 < G.length) (w : World) : Calls Tryd.prog 8 #[str t, str G, .int .u16 (a : Int)] w (fun e w' => e = .returned (.bool true) ∧ Below w.heap.size w w') := by
  have hs1 := sz t
  have hs2 := sz G
  have d : ¬ (1500 : Int) < (t.length : Int) := by omega
  have d2 : (300 : Int) < (G.length : Int) := by omega
  clear h h2
  go_enter Tryd.func8, Tryd.ntmps8
  go_wp2_with fail
  refine (head_any _).mono ?_
  rintro e w1 ⟨rfl, hb1⟩
  have HB1 := Lib.hid hb1
  clear hb1
  go_wp2_with fail
  go_ret
  exact ⟨rfl, HB1.out⟩
set_option maxRecDepth 100000 in
set_option maxHeartbeats 8000000 in
theorem gaps_none (t G : Txt) (a : Nat) (h : t.length ≤ 1500) (h2 : G.length ≤ 300) (hg : ¬ gap G = G.length) (w : World) : Calls Tryd.prog 8 #[str t, str G, .int .u16 (a : Int)] w (fun e w' => e = .returned (.bool true) ∧ Below w.heap.size w w') := by
  have hs1 := sz t
  have hs2 := sz G
  have d : ¬ (1500 : Int) < (t.length : Int) := by omega
  have d2 : ¬ (300 : Int) < (G.length : Int) := by omega
  have GG := Lib.hid (fun W => gaps_any G false (decide_eq_false hg) (by omega) W)
  clear hg
  go_enter Tryd.func8, Tryd.ntmps8
  go_wp2_with fail
  refine (head_any _).mono ?_
  rintro e w1 ⟨rfl, hb1⟩
  have HB1 := Lib.hid hb1
  clear hb1
  go_wp2_with (go_at_call 14; refine (GG.out _).mono ?_; rintro e1 w3 ⟨rfl, rfl⟩)
  go_ret
  exact ⟨rfl, HB1.out⟩
set_option maxRecDepth 100000 in
set_option maxHeartbeats 8000000 in
theorem gaps_bad (t G : Txt) (a : Nat) (h : t.length ≤ 1500) (h2 : G.length ≤ 300) (hg : gap G = G.length) (h0 : (lx t 0).2.1 ≠ 0) (w : World) : Calls Tryd.prog 8 #[str t, str G, .int .u16 (a : Int)] w (fun e w' => e = .returned (.bool true) ∧ Below w.heap.size w w') := by
  have hs1 := sz t
  have hs2 := sz G
  have d : ¬ (1500 : Int) < (t.length : Int) := by omega
  have d2 : ¬ (300 : Int) < (G.length : Int) := by omega
  have GG := Lib.hid (fun W => gaps_any G true (decide_eq_true hg) (by omega) W)
  have C := Lib.hid (fun W => hlx t _ (by omega) (lexT_err (by omega) h0) W)
  obtain ⟨⟨e1, a1⟩, hp1⟩ : ∃ y, (lx t 0).2 = y := ⟨_, rfl⟩
  rw [hp1] at C h0
  have e0 : ((e1 : Int) != 0) = true := by simpa using h0
  clear hg h0 hp1
  go_enter Tryd.func8, Tryd.ntmps8
  go_wp2_with fail
  refine (head_any _).mono ?_
  rintro e w1 ⟨rfl, hb1⟩
  have HB1 := Lib.hid hb1
  clear hb1
  go_wp2_with fail
  refine (GG.out _).mono ?_
  rintro e1 wg ⟨rfl, rfl⟩
  go_wp2_with fail
  refine (C.out _).mono ?_
  rintro e w2 ⟨v2, rfl, ht2, hb2⟩
  have HB2 := Lib.hid hb2
  clear hb2
  clear ht2
  go_wp2_with fail
  go_ret
  exact ⟨rfl, (below_up HB1.out HB2.out (HB1.out).size)⟩
set_option maxRecDepth 100000 in
set_option maxHeartbeats 8000000 in
theorem gaps_zero (t G : Txt) (a : Nat) (h : t.length ≤ 1500) (h2 : G.length ≤ 300) (hg : gap G = G.length) (h0 : (lx t 0).2.1 = 0) (hz : (lx t 0).1 = []) (w : World) : Calls Tryd.prog 8 #[str t, str G, .int .u16 (a : Int)] w (fun e w' => e = .returned (.bool true) ∧ Below w.heap.size w w') := by
  have hs1 := sz t
  have hs2 := sz G
  have d : ¬ (1500 : Int) < (t.length : Int) := by omega
  have d2 : ¬ (300 : Int) < (G.length : Int) := by omega
  have GG := Lib.hid (fun W => gaps_any G true (decide_eq_true hg) (by omega) W)
  have C := Lib.hid (fun W => hlx t _ (by omega) (lexT_ok (by omega) h0) W)
  obtain ⟨K, hK0⟩ : ∃ K, K = 0 := ⟨_, rfl⟩
  have hgm := L7.gaps_math (L7.lx_ok h0) hg K (.inl hK0)
  obtain ⟨hK, us, hus, hbare⟩ := hgm
  have E := Lib.hid (fun W => hlx (G ++ 10 :: (t.take K ++ 32 :: (G ++ 10 :: (t.drop K ++ 32 :: 10 :: G)))) _ (by simp; omega) (lexT_ok (by simp; omega) (by rw [hus])) W)
  rw [hus] at E
  have n1 := L7.lx_count t.length t 0 (Nat.le_refl _)
  have x1 : (⟨t.toArray⟩ : ByteArray).extract 0 K = ⟨(t.take K).toArray⟩ := by rw [ext_eq, List.drop_zero, Nat.sub_zero]
  have x2 : (⟨t.toArray⟩ : ByteArray).extract K t.length = ⟨(t.drop K).toArray⟩ := by rw [ext_eq, List.take_of_length_le (by simp)]
  have hp1 : (t.take K).length ≤ 1500 := by simp; omega
  have hp2 : (t.drop K).length ≤ 1500 := by simp; omega
  obtain ⟨P, hP⟩ : ∃ P, t.take K = P := ⟨_, rfl⟩
  obtain ⟨Q, hQ⟩ : ∃ Q, t.drop K = Q := ⟨_, rfl⟩
  rw [hP] at E x1 hp1
  rw [hQ] at E x2 hp2
  have s1 := sz P
  have s2 := sz Q
  have q1 : (9223372036854775807 < G.length + 1) = False := eq_false (by omega)
  have q2 : (9223372036854775807 < G.length + 1 + P.length) = False := eq_false (by omega)
  have q3 : (9223372036854775807 < G.length + 1 + P.length + 1) = False := eq_false (by omega)
  have q4 : (9223372036854775807 < G.length + 1 + P.length + 1 + (G.length + 1)) = False := eq_false (by omega)
  have q5 : (9223372036854775807 < G.length + 1 + P.length + 1 + (G.length + 1) + Q.length) = False := eq_false (by omega)
  have q6 : (9223372036854775807 < G.length + 1 + P.length + 1 + (G.length + 1) + Q.length + 1) = False := eq_false (by omega)
  have q7 : (9223372036854775807 < G.length + 1 + P.length + 1 + (G.length + 1) + Q.length + 1 + 1) = False := eq_false (by omega)
  have q8 : (9223372036854775807 < G.length + 1 + P.length + 1 + (G.length + 1) + Q.length + 1 + 1 + G.length) = False := eq_false (by omega)
  have z0 : (0 : Int) ≤ (K : Int) := by omega
  have z1 : (K : Int) ≤ (t.length : Int) := by omega
  obtain ⟨ts, hts⟩ : ∃ ts, (lx t 0).1 = ts := ⟨_, rfl⟩
  rw [hts] at C hbare n1
  have HBA := Lib.hid hbare
  have HN1 := Lib.hid n1
  rw [hz] at hts
  subst hts hK0
  rw [List.take_zero] at hP
  subst hP
  clear hg h0 hus hQ hbare n1 hz
  go_enter Tryd.func8, Tryd.ntmps8
  go_wp2_with fail
  refine (head_any _).mono ?_
  rintro e w1 ⟨rfl, hb1⟩
  have HB1 := Lib.hid hb1
  clear hb1
  go_wp2_with fail
  refine (GG.out _).mono ?_
  rintro e1 wg ⟨rfl, rfl⟩
  go_wp2_with fail
  refine (C.out _).mono ?_
  rintro e w2 ⟨v2, rfl, ht2, hb2⟩
  have HB2 := Lib.hid hb2
  clear hb2
  have HT2 := Lib.hid ht2
  clear ht2
  obtain ⟨A2, c2, rfl, hc2⟩ := Slc.form HT2.out
  go_wp2_with fail
  go_region_with (go_at_call 11; refine (calls_str (str_eq (by simp)) (E.out _)).mono ?_; rintro e w3 ⟨v3, rfl, ht3, hb3⟩; have HT3 := Lib.hid ht3; have HB3 := Lib.hid hb3; clear ht3 hb3)
  go_wp2_with fail
  have D3 := Lib.hid (show Below w2.heap.size w2 w3 from (below_drewN _ w2 1).trans HB3.out)
  refine (alike_true _ _ _ us (by simp) HBA.out.symm _ (HT2.out.below D3.out) HT3.out).mono ?_
  rintro e w4 ⟨rfl, hb4⟩
  have HB4 := Lib.hid hb4
  clear hb4
  go_wp2_with fail
  go_ret
  exact ⟨rfl, below_up HB1.out (below_up HB2.out (below_up D3.out HB4.out D3.out.size) HB2.out.size) HB1.out.size⟩
set_option maxRecDepth 100000 in
set_option maxHeartbeats 8000000 in
theorem gaps_text (t G : Txt) (a : Nat) (h : t.length ≤ 1500) (h2 : G.length ≤ 300) (ha : a < 65536) (hg : gap G = G.length) (h0 : (lx t 0).2.1 = 0) (hz : (lx t 0).1 ≠ []) (hk3 : ∀ (j : Nat) (hj : j < (lx t 0).1.length), a % (lx t 0).1.length = j → (lx t 0).1[j].kind = 3) (w : World) : Calls Tryd.prog 8 #[str t, str G, .int .u16 (a : Int)] w (fun e w' => e = .returned (.bool true) ∧ Below w.heap.size w w') := by
  have hs1 := sz t
  have hs2 := sz G
  have d : ¬ (1500 : Int) < (t.length : Int) := by omega
  have d2 : ¬ (300 : Int) < (G.length : Int) := by omega
  have GG := Lib.hid (fun W => gaps_any G true (decide_eq_true hg) (by omega) W)
  have C := Lib.hid (fun W => hlx t _ (by omega) (lexT_ok (by omega) h0) W)
  obtain ⟨K, hK0⟩ : ∃ K, K = 0 := ⟨_, rfl⟩
  have hgm := L7.gaps_math (L7.lx_ok h0) hg K (.inl hK0)
  obtain ⟨hK, us, hus, hbare⟩ := hgm
  have E := Lib.hid (fun W => hlx (G ++ 10 :: (t.take K ++ 32 :: (G ++ 10 :: (t.drop K ++ 32 :: 10 :: G)))) _ (by simp; omega) (lexT_ok (by simp; omega) (by rw [hus])) W)
  rw [hus] at E
  have n1 := L7.lx_count t.length t 0 (Nat.le_refl _)
  have x1 : (⟨t.toArray⟩ : ByteArray).extract 0 K = ⟨(t.take K).toArray⟩ := by rw [ext_eq, List.drop_zero, Nat.sub_zero]
  have x2 : (⟨t.toArray⟩ : ByteArray).extract K t.length = ⟨(t.drop K).toArray⟩ := by rw [ext_eq, List.take_of_length_le (by simp)]
  have hp1 : (t.take K).length ≤ 1500 := by simp; omega
  have hp2 : (t.drop K).length ≤ 1500 := by simp; omega
  obtain ⟨P, hP⟩ : ∃ P, t.take K = P := ⟨_, rfl⟩
  obtain ⟨Q, hQ⟩ : ∃ Q, t.drop K = Q := ⟨_, rfl⟩
  rw [hP] at E x1 hp1
  rw [hQ] at E x2 hp2
  have s1 := sz P
  have s2 := sz Q
  have q1 : (9223372036854775807 < G.length + 1) = False := eq_false (by omega)
  have q2 : (9223372036854775807 < G.length + 1 + P.length) = False := eq_false (by omega)
  have q3 : (9223372036854775807 < G.length + 1 + P.length + 1) = False := eq_false (by omega)
  have q4 : (9223372036854775807 < G.length + 1 + P.length + 1 + (G.length + 1)) = False := eq_false (by omega)
  have q5 : (9223372036854775807 < G.length + 1 + P.length + 1 + (G.length + 1) + Q.length) = False := eq_false (by omega)
  have q6 : (9223372036854775807 < G.length + 1 + P.length + 1 + (G.length + 1) + Q.length + 1) = False := eq_false (by omega)
  have q7 : (9223372036854775807 < G.length + 1 + P.length + 1 + (G.length + 1) + Q.length + 1 + 1) = False := eq_false (by omega)
  have q8 : (9223372036854775807 < G.length + 1 + P.length + 1 + (G.length + 1) + Q.length + 1 + 1 + G.length) = False := eq_false (by omega)
  have z0 : (0 : Int) ≤ (K : Int) := by omega
  have z1 : (K : Int) ≤ (t.length : Int) := by omega
  obtain ⟨ts, hts⟩ : ∃ ts, (lx t 0).1 = ts := ⟨_, rfl⟩
  rw [hts] at C hbare n1
  have HBA := Lib.hid hbare
  have HN1 := Lib.hid n1
  rw [hts] at hk3 hz
  subst hK0
  rw [List.take_zero] at hP
  subst hP
  have hn0 : 0 < ts.length := by
    cases ts with
    | nil => exact absurd rfl hz
    | cons x y => simp
  obtain ⟨n, hn⟩ : ∃ n, ts.length = n := ⟨_, rfl⟩
  have HN := Lib.hid hn
  rw [hn] at hn0
  obtain ⟨j, hj⟩ : ∃ j, a % n = j := ⟨_, rfl⟩
  have hjn : j < n := by rw [← hj]; exact Nat.mod_lt _ hn0
  have r1 : (a : Int) % (n : Int) = (j : Int) := by rw [← hj]; exact (Int.natCast_emod a n).symm
  have r2 : (a : Int).tmod (n : Int) = (j : Int) := by rw [Int.tmod_eq_emod_of_nonneg (by omega), r1]
  have r3 : IntKind.i64.wrap (a : Int) = (a : Int) := IntWalk.i64_in _ (by omega)
  have r4 : IntKind.i64.wrap (j : Int) = (j : Int) := IntWalk.i64_in _ (by omega)
  have m0 : (0 : Int) < (n : Int) := by omega
  have m1 : (0 : Int) ≤ (j : Int) := by omega
  have m2 : (j : Int) < (n : Int) := by omega
  have m3 : (0 : Int) ≤ (a : Int) := by omega
  have hjt : j < ts.length := by rw [hn]; exact hjn
  have hkd := hk3 j hjt (by rw [hn]; exact hj)
  obtain ⟨tx, htx⟩ : ∃ tx, ts[j].text = tx := ⟨_, rfl⟩
  obtain ⟨nn, hnn⟩ : ∃ nn, ts[j].n = nn := ⟨_, rfl⟩
  obtain ⟨z, hzz⟩ : ∃ z, ts[j].at_ = z := ⟨_, rfl⟩
  have HK := Lib.hid (show ts[j].kind = 3 ∧ ts[j].text = tx ∧ ts[j].n = nn ∧ ts[j].at_ = z from ⟨hkd, htx, hnn, hzz⟩)
  clear hg h0 hus hQ hbare n1 hts hn hj hk3 hz hkd htx hnn hzz
  go_enter Tryd.func8, Tryd.ntmps8
  go_wp2_with fail
  refine (head_any _).mono ?_
  rintro e w1 ⟨rfl, hb1⟩
  have HB1 := Lib.hid hb1
  clear hb1
  go_wp2_with fail
  refine (GG.out _).mono ?_
  rintro e1 wg ⟨rfl, rfl⟩
  go_wp2_with fail
  refine (C.out _).mono ?_
  rintro e w2 ⟨v2, rfl, ht2, hb2⟩
  have HB2 := Lib.hid hb2
  clear hb2
  have HT2 := Lib.hid ht2
  clear ht2
  obtain ⟨A2, c2, rfl, hc2⟩ := Slc.form HT2.out
  rw [HN.out] at HT2 hc2 ⊢
  obtain ⟨ba, oa, rfl⟩ := tk_at0 HT2.out (by rw [HN.out]; exact hn0)
  have ca := tk_at HT2.out j hjt
  rw [HK.out.1, HK.out.2.1, HK.out.2.2.1, HK.out.2.2.2] at ca
  obtain ⟨p0, p1, p2, p3⟩ := ca
  go_wp2_with fail
  go_region_with (go_at_call 11; refine (calls_str (str_eq (by simp)) (E.out _)).mono ?_; rintro e w3 ⟨v3, rfl, ht3, hb3⟩; have HT3 := Lib.hid ht3; have HB3 := Lib.hid hb3; clear ht3 hb3)
  go_wp2_with fail
  have D3 := Lib.hid (show Below w2.heap.size w2 w3 from below_up (below_box w2 (.cells #[.int .i64 3, .string ⟨tx.toArray⟩, .int .i64 nn, .int .i64 z] 30)) ((below_drewN _ _ 1).trans HB3.out) (by simp))
  refine (alike_true _ _ _ us (by have := HN1.out; omega) HBA.out.symm _ (HT2.out.below D3.out) HT3.out).mono ?_
  rintro e w4 ⟨rfl, hb4⟩
  have HB4 := Lib.hid hb4
  clear hb4
  go_wp2_with fail
  go_ret
  exact ⟨rfl, below_up HB1.out (below_up HB2.out (below_up D3.out HB4.out D3.out.size) HB2.out.size) HB1.out.size⟩
set_option maxRecDepth 100000 in
set_option maxHeartbeats 8000000 in
theorem gaps_some (t G : Txt) (a : Nat) (h : t.length ≤ 1500) (h2 : G.length ≤ 300) (ha : a < 65536) (hg : gap G = G.length) (h0 : (lx t 0).2.1 = 0) (hz : (lx t 0).1 ≠ []) (hk3 : ∀ (j : Nat) (hj : j < (lx t 0).1.length), a % (lx t 0).1.length = j → (lx t 0).1[j].kind ≠ 3) (w : World) : Calls Tryd.prog 8 #[str t, str G, .int .u16 (a : Int)] w (fun e w' => e = .returned (.bool true) ∧ Below w.heap.size w w') := by
  have hs1 := sz t
  have hs2 := sz G
  have d : ¬ (1500 : Int) < (t.length : Int) := by omega
  have d2 : ¬ (300 : Int) < (G.length : Int) := by omega
  have GG := Lib.hid (fun W => gaps_any G true (decide_eq_true hg) (by omega) W)
  have C := Lib.hid (fun W => hlx t _ (by omega) (lexT_ok (by omega) h0) W)
  obtain ⟨j, hj⟩ : ∃ j, a % (lx t 0).1.length = j := ⟨_, rfl⟩
  have hn0 : 0 < (lx t 0).1.length := by
    cases hq : (lx t 0).1 with
    | nil => exact absurd hq hz
    | cons x y => simp
  have hjt : j < (lx t 0).1.length := by rw [← hj]; exact Nat.mod_lt _ hn0
  have hne := hk3 j hjt hj
  have hat := L7.lx_at t.length t 0 (Nat.le_refl _) _ (List.getElem_mem hjt)
  obtain ⟨K, hK0⟩ : ∃ K : Nat, (lx t 0).1[j].at_ + ((lx t 0).1[j].text.length : Int) = (K : Int) := ⟨((lx t 0).1[j].at_ + ((lx t 0).1[j].text.length : Int)).toNat, by omega⟩
  have hgm := L7.gaps_math (L7.lx_ok h0) hg K (.inr ⟨j, hjt, hne, hK0⟩)
  obtain ⟨hK, us, hus, hbare⟩ := hgm
  have HK0 := Lib.hid hK0
  have HAT := Lib.hid hat
  have HNE := Lib.hid hne
  clear hk3 hne hat hK0
  have E := Lib.hid (fun W => hlx (G ++ 10 :: (t.take K ++ 32 :: (G ++ 10 :: (t.drop K ++ 32 :: 10 :: G)))) _ (by simp; omega) (lexT_ok (by simp; omega) (by rw [hus])) W)
  rw [hus] at E
  have n1 := L7.lx_count t.length t 0 (Nat.le_refl _)
  have x1 : (⟨t.toArray⟩ : ByteArray).extract 0 K = ⟨(t.take K).toArray⟩ := by rw [ext_eq, List.drop_zero, Nat.sub_zero]
  have x2 : (⟨t.toArray⟩ : ByteArray).extract K t.length = ⟨(t.drop K).toArray⟩ := by rw [ext_eq, List.take_of_length_le (by simp)]
  have hp1 : (t.take K).length ≤ 1500 := by simp; omega
  have hp2 : (t.drop K).length ≤ 1500 := by simp; omega
  obtain ⟨P, hP⟩ : ∃ P, t.take K = P := ⟨_, rfl⟩
  obtain ⟨Q, hQ⟩ : ∃ Q, t.drop K = Q := ⟨_, rfl⟩
  rw [hP] at E x1 hp1
  rw [hQ] at E x2 hp2
  have s1 := sz P
  have s2 := sz Q
  have q1 : (9223372036854775807 < G.length + 1) = False := eq_false (by omega)
  have q2 : (9223372036854775807 < G.length + 1 + P.length) = False := eq_false (by omega)
  have q3 : (9223372036854775807 < G.length + 1 + P.length + 1) = False := eq_false (by omega)
  have q4 : (9223372036854775807 < G.length + 1 + P.length + 1 + (G.length + 1)) = False := eq_false (by omega)
  have q5 : (9223372036854775807 < G.length + 1 + P.length + 1 + (G.length + 1) + Q.length) = False := eq_false (by omega)
  have q6 : (9223372036854775807 < G.length + 1 + P.length + 1 + (G.length + 1) + Q.length + 1) = False := eq_false (by omega)
  have q7 : (9223372036854775807 < G.length + 1 + P.length + 1 + (G.length + 1) + Q.length + 1 + 1) = False := eq_false (by omega)
  have q8 : (9223372036854775807 < G.length + 1 + P.length + 1 + (G.length + 1) + Q.length + 1 + 1 + G.length) = False := eq_false (by omega)
  have z0 : (0 : Int) ≤ (K : Int) := by omega
  have z1 : (K : Int) ≤ (t.length : Int) := by omega
  obtain ⟨ts, hts⟩ : ∃ ts, (lx t 0).1 = ts := ⟨_, rfl⟩
  rw [hts] at C hbare n1
  have HBA := Lib.hid hbare
  have HN1 := Lib.hid n1
  have hjt2 : j < ts.length := by rw [← hts]; exact hjt
  have HT0 := Lib.hid (show ∃ (kd z nn : Int) (tx : Txt), ts[j] = ⟨kd, tx, nn, z⟩ ∧ kd ≠ 3 ∧ z + (tx.length : Int) = (K : Int) ∧ 0 ≤ z from by
    subst hts
    exact ⟨_, _, _, _, rfl, HNE.out, HK0.out, HAT.out.1⟩)
  clear HNE HK0 HAT
  rw [hts] at hz hn0 hjt hj
  have hn0 : 0 < ts.length := by
    cases ts with
    | nil => exact absurd rfl hz
    | cons x y => simp
  obtain ⟨n, hn⟩ : ∃ n, ts.length = n := ⟨_, rfl⟩
  have HN := Lib.hid hn
  rw [hn] at hn0
  rw [hn] at hj
  have hjn : j < n := by rw [← hj]; exact Nat.mod_lt _ hn0
  have r1 : (a : Int) % (n : Int) = (j : Int) := by rw [← hj]; exact (Int.natCast_emod a n).symm
  have r2 : (a : Int).tmod (n : Int) = (j : Int) := by rw [Int.tmod_eq_emod_of_nonneg (by omega), r1]
  have r3 : IntKind.i64.wrap (a : Int) = (a : Int) := IntWalk.i64_in _ (by omega)
  have r4 : IntKind.i64.wrap (j : Int) = (j : Int) := IntWalk.i64_in _ (by omega)
  have m0 : (0 : Int) < (n : Int) := by omega
  have m1 : (0 : Int) ≤ (j : Int) := by omega
  have m2 : (j : Int) < (n : Int) := by omega
  have m3 : (0 : Int) ≤ (a : Int) := by omega
  obtain ⟨kd, z, nn, tx, htk, hne, hzk, hz0⟩ := HT0.out
  have e3 : ((kd : Int) != 3) = true := by simpa using hne
  have w1 : IntKind.i64.wrap (z + (tx.length : Int)) = (K : Int) := by rw [IntWalk.i64_in _ (by omega)]; exact hzk
  have hst := sz tx
  have HK := Lib.hid htk
  clear hg h0 hus hP hQ hbare n1 hts hn hj hz htk hne hzk HT0
  go_enter Tryd.func8, Tryd.ntmps8
  go_wp2_with fail
  refine (head_any _).mono ?_
  rintro e w1 ⟨rfl, hb1⟩
  have HB1 := Lib.hid hb1
  clear hb1
  go_wp2_with fail
  refine (GG.out _).mono ?_
  rintro e1 wg ⟨rfl, rfl⟩
  go_wp2_with fail
  refine (C.out _).mono ?_
  rintro e w2 ⟨v2, rfl, ht2, hb2⟩
  have HB2 := Lib.hid hb2
  clear hb2
  have HT2 := Lib.hid ht2
  clear ht2
  obtain ⟨A2, c2, rfl, hc2⟩ := Slc.form HT2.out
  rw [HN.out] at HT2 hc2 ⊢
  obtain ⟨ba, oa, rfl⟩ := tk_at0 HT2.out (by rw [HN.out]; exact hn0)
  have ca := tk_at HT2.out j hjt
  rw [HK.out] at ca
  obtain ⟨p0, p1, p2, p3⟩ := ca
  simp only at p0 p1 p2 p3
  go_wp2_with fail
  go_region_with (go_at_call 11; refine (calls_str (str_eq (by simp)) (E.out _)).mono ?_; rintro e w3 ⟨v3, rfl, ht3, hb3⟩; have HT3 := Lib.hid ht3; have HB3 := Lib.hid hb3; clear ht3 hb3)
  go_wp2_with fail
  have D3 := Lib.hid (show Below w2.heap.size w2 w3 from below_up (below_box w2 (.cells #[.int .i64 kd, .string ⟨tx.toArray⟩, .int .i64 nn, .int .i64 z] 30)) ((below_drewN _ _ 1).trans HB3.out) (by simp))
  refine (alike_true _ _ _ us (by have := HN1.out; omega) HBA.out.symm _ (HT2.out.below D3.out) HT3.out).mono ?_
  rintro e w4 ⟨rfl, hb4⟩
  have HB4 := Lib.hid hb4
  clear hb4
  go_wp2_with fail
  go_ret
  exact ⟨rfl, below_up HB1.out (below_up HB2.out (below_up D3.out HB4.out D3.out.size) HB2.out.size) HB1.out.size⟩
theorem gaps_law (t G : Txt) (a : Nat) (ha : a < 65536) (w : World) : Calls Tryd.prog 8 #[str t, str G, .int .u16 (a : Int)] w (fun e w' => e = .returned (.bool true) ∧ Below w.heap.size w w') := by
  by_cases h : 1500 < t.length
  · exact gaps_long1 t G a h w
  by_cases h2 : 300 < G.length
  · exact gaps_long2 t G a h h2 w
  by_cases hg : gap G = G.length
  · by_cases h0 : (lx t 0).2.1 = 0
    · by_cases hz : (lx t 0).1 = []
      · exact gaps_zero t G a (by omega) (by omega) hg h0 hz w
      · by_cases hk : ∃ (j : Nat) (hj : j < (lx t 0).1.length), a % (lx t 0).1.length = j ∧ (lx t 0).1[j].kind ≠ 3
        · obtain ⟨j, hj, e, hne⟩ := hk
          exact gaps_some t G a (by omega) (by omega) ha hg h0 hz (fun i hi e2 => by
            have e3 : i = j := e2.symm.trans e
            subst e3
            exact hne) w
        · exact gaps_text t G a (by omega) (by omega) ha hg h0 hz (fun i hi e2 => Classical.byContradiction fun q => hk ⟨i, hi, e2, q⟩) w
    · exact gaps_bad t G a (by omega) (by omega) hg h0 w
  · exact gaps_none t G a (by omega) (by omega) hg w
end Go.Proofs.YtblgfillaenemaaDoor
