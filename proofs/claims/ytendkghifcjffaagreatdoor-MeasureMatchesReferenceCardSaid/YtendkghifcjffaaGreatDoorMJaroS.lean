/- The contract of Jaro. -/
import Derived.Test.YtendkghifcjffaaGreatDoorMJaroR
namespace Go.Proofs.YtendkghifcjffaaGreatDoor
open Go.RowKit

theorem w64 {z : Int} (h1 : -9223372036854775808 ≤ z) (h2 : z ≤ 9223372036854775807) : wrap64 z = z := by simp only [wrap64]; omega
theorem w64p {z : Int} (h1 : 0 ≤ z) (h2 : z ≤ 100000000) : wrap64 z = z := w64 (by omega) (by omega)
theorem mul_nat {a b A B C : Nat} (h1 : a ≤ A) (h2 : b ≤ B) (hC : A * B ≤ C) : 0 ≤ (a : Int) * (b : Int) ∧ (a : Int) * (b : Int) ≤ (C : Int) := by
  rw [← Int.natCast_mul]
  have := Nat.mul_le_mul h1 h2
  omega
structure JW (m d x y : Nat) : Prop where
  a1 : 0 ≤ (x : Int) * y
  a2 : (x : Int) * y ≤ 100000000
  b1 : 0 ≤ 2 * (m : Int) * m
  b2 : 2 * (m : Int) * m ≤ 100000000
  c1 : 0 ≤ 2 * (m : Int) * m * ((x : Int) + y)
  c2 : 2 * (m : Int) * m * ((x : Int) + y) ≤ 32000000
  d1 : 0 ≤ (2 * (m : Int) - d) * ((x : Int) * y)
  d2 : (2 * (m : Int) - d) * ((x : Int) * y) ≤ 16000000
  e1 : 0 ≤ 6 * (m : Int) * ((x : Int) * y)
  e2 : 6 * (m : Int) * ((x : Int) * y) ≤ 100000000
theorem jw_all {m d x y : Nat} (h1 : m ≤ x) (h3 : d ≤ m) (h4 : x ≤ 200) (h5 : y ≤ 200) : JW m d x y := by
  obtain ⟨a1, a2⟩ := mul_nat (C := 100000000) h4 h5 (by decide)
  obtain ⟨b1, b2⟩ := mul_nat (C := 100000000) (show 2 * m ≤ 400 by omega) (show m ≤ 200 by omega) (by decide)
  obtain ⟨c1, c2⟩ := mul_nat (C := 32000000) (show 2 * m * m ≤ 80000 from Nat.mul_le_mul (show 2 * m ≤ 400 by omega) (show m ≤ 200 by omega)) (show x + y ≤ 400 by omega) (by decide)
  obtain ⟨d1, d2⟩ := mul_nat (C := 16000000) (show 2 * m - d ≤ 400 by omega) (show x * y ≤ 40000 from Nat.mul_le_mul h4 h5) (by decide)
  obtain ⟨e1, e2⟩ := mul_nat (C := 100000000) (show 6 * m ≤ 1200 by omega) (show x * y ≤ 40000 from Nat.mul_le_mul h4 h5) (by decide)
  have q1 : ((2 * m : Nat) : Int) * (m : Int) = 2 * (m : Int) * m := by simp
  have q2 : ((2 * m * m : Nat) : Int) * ((x + y : Nat) : Int) = 2 * (m : Int) * m * ((x : Int) + y) := by simp
  have q3 : ((2 * m - d : Nat) : Int) * ((x * y : Nat) : Int) = (2 * (m : Int) - d) * ((x : Int) * y) := by
    rw [Int.natCast_mul, show ((2 * m - d : Nat) : Int) = 2 * (m : Int) - d by omega]
  have q4 : ((6 * m : Nat) : Int) * ((x * y : Nat) : Int) = 6 * (m : Int) * ((x : Int) * y) := by simp
  rw [q1] at b1 b2
  rw [q2] at c1 c2
  rw [q3] at d1 d2
  rw [q4] at e1 e2
  exact ⟨a1, a2, b1, b2, c1, c2, d1, d2, e1, e2⟩
theorem jpw {m d x y : Nat} (h1 : m ≤ x) (h3 : d ≤ m) (h4 : x ≤ 200) (h5 : y ≤ 200) :
    wrap64 (wrap64 (wrap64 (2 * (m : Int) * m) * ((x : Int) + y)) + wrap64 ((2 * (m : Int) - d) * wrap64 ((x : Int) * y))) = jp m d x y := by
  have J := jw_all h1 h3 h4 h5
  rw [w64p J.a1 J.a2, w64p J.b1 J.b2, w64p J.c1 (Int.le_trans J.c2 (by decide)), w64p J.d1 (Int.le_trans J.d2 (by decide))]
  unfold jp
  exact w64p (Int.add_nonneg J.c1 J.d1) (Int.le_trans (Int.add_le_add J.c2 J.d2) (by decide))
theorem jqw {m x y : Nat} (h1 : m ≤ x) (h4 : x ≤ 200) (h5 : y ≤ 200) : wrap64 (6 * (m : Int) * wrap64 ((x : Int) * y)) = jq m x y := by
  have J := jw_all h1 (Nat.le_refl m) h4 h5
  rw [w64p J.a1 J.a2, w64p J.e1 J.e2]
  rfl

set_option maxRecDepth 100000 in
theorem jaro_main (a b : List UInt8) (ha : a.length ≤ 200) (hb : b.length ≤ 200) (hne : a.isEmpty = false) (h0 : jm a b ≠ 0) (w : World) :
    Calls Tryz.prog 16 #[str a, str b] w fun e w' => e = .returned (rat (jaroT a b)) ∧ Below w.heap.size w w' := by
  have HM := Lib.hid (matched_any a b ha hb)
  have HD := Lib.hid (fun u v => differences_any (IA a b (jw a b) a.length) (IB a b (jw a b)) u v (IA_IB_len a b (jw a b)) (Nat.le_trans (IA_le a b (jw a b)).1 ha))
  have HLE := Lib.hid (IA_IB_len a b (jw a b))
  obtain ⟨l1, l2⟩ := jm_le a b
  have l3 := ju_le a b
  have l4 : (jm a b : Int) ≤ 200 := by omega
  have HA := Lib.hid ha
  have HBb := Lib.hid hb
  obtain ⟨I, hI⟩ : ∃ I, IA a b (jw a b) a.length = I := ⟨_, rfl⟩
  obtain ⟨J, hJ⟩ : ∃ J, IB a b (jw a b) = J := ⟨_, rfl⟩
  have HJM : Hid (jm a b = I.length) := Lib.hid (by rw [← hI]; rfl)
  have HJU : Hid (ju a b = diffTo I J I.length) := Lib.hid (by rw [← hI, ← hJ]; rfl)
  rw [hI, hJ] at HM HD HLE
  clear hI hJ
  obtain ⟨m, hm⟩ : ∃ m, jm a b = m := ⟨_, rfl⟩
  obtain ⟨d, hd⟩ : ∃ d, ju a b = d := ⟨_, rfl⟩
  rw [hm] at HJM h0 l1 l2 l3 l4
  rw [hd] at HJU l3
  have HMM := Lib.hid hm
  have HDD := Lib.hid hd
  clear hm hd
  go_enter Tryz.func16, Tryz.ntmps16
  go_wp2_with fail
  refine (HM.out _).mono ?_
  rintro e w1 ⟨u, v, rfl, hu, hv, hb⟩
  have HU := Lib.hid (byts_own hu)
  have HV := Lib.hid (byts_own hv)
  have R1 := Lib.hid ((own2_new w 0 0 _).below hb)
  have HB1 := Lib.hid (below_up (below_box w _) hb (by simp))
  clear hb hu hv
  obtain ⟨A, cap, rfl, hcap, _⟩ := HU.out
  have hIm : I.length = m := HJM.out.symm
  have HJU2 := Lib.hid (show diffTo I J m = d by rw [HJU.out, hIm])
  rw [hIm] at HU hcap HD ⊢
  rw [HJU2.out] at HD
  go_wp2_with fail
  refine (HD.out _ _ _ HU.out HV.out).mono ?_
  rintro e w2 ⟨rfl, hb⟩
  have R2 := Lib.hid (R1.out.below hb)
  have HB2 := Lib.hid (below_up HB1.out hb HB1.out.size)
  clear hb
  go_wp2_with fail
  rw [jpw l1 l3 HA.out HBb.out, jqw l1 HA.out HBb.out]
  obtain ⟨p0, p1, p2, p3⟩ := jaro_bounds l1 l2 l3 HA.out HBb.out h0
  have HR := Lib.hid (show jaroT a b = shr (jp m d a.length b.length) (jq m a.length b.length) by
    unfold jaroT
    have h1 := HA.out
    have h2 := HBb.out
    rw [if_neg (by omega), if_neg (fun e => by rw [e.1] at hne; cases hne), HMM.out, HDD.out, if_neg h0])
  refine (share_any (jp m d a.length b.length) (jq m a.length b.length) (by omega) (by omega) (by omega) (by omega) _).mono ?_
  rw [← HR.out]
  rintro e w3 ⟨rfl, hb⟩
  have R3 := R2.out.below hb
  have HB3 := Lib.hid (below_up HB2.out hb HB2.out.size)
  have r0 := R3.c0
  have r1 := R3.c1
  have f0 := R3.f0
  have f1 := R3.f1
  obtain ⟨r, hr⟩ : ∃ r, jaroT a b = r := ⟨_, rfl⟩
  have HRR := Lib.hid hr
  rw [hr]
  clear hb R3 p0 p1 p2 p3 hr
  go_wp2_with fail
  refine bodyPost_ret (v := rat r) (by simp [results, Tryz.results16, go_sem, r0, r1]) rfl ?_
  exact ⟨rat_ret HRR.out.symm, below_two HB3.out (Nat.le_refl _)⟩
/-! ### Jaro's small cases. -/
set_option maxRecDepth 100000 in
theorem jaro_big1 (a b : List UInt8) (h : 200 < a.length) (w : World) :
    Calls Tryz.prog 16 #[str a, str b] w fun e w' => e = .returned (rat (jaroT a b)) ∧ Below w.heap.size w w' := by
  have HT := Lib.hid (show jaroT a b = (0, 1) by
    unfold jaroT
    rw [if_pos (Or.inl h)])
  go_enter Tryz.func16, Tryz.ntmps16
  go_wp2_with fail
  refine (share_any 0 1 (by decide) (by decide) (by decide) (by decide) _).mono ?_
  rw [shr_01]
  rintro e w1 ⟨rfl, hb⟩
  have R1 := (own2_new w 0 0 _).below hb
  have HB1 := Lib.hid (below_up (below_box w _) hb (by simp <;> omega))
  have r0 := R1.c0
  have r1 := R1.c1
  have f0 := R1.f0
  have f1 := R1.f1
  clear hb R1
  go_wp2_with fail
  refine bodyPost_ret (v := rat (0, 1)) (by simp [results, Tryz.results16, go_sem, r0, r1]) rfl ?_
  exact ⟨rat_ret HT.out.symm, below_two HB1.out (Nat.le_refl _)⟩

set_option maxRecDepth 100000 in
theorem jaro_big2 (a b : List UInt8) (h1 : a.length ≤ 200) (h : 200 < b.length) (w : World) :
    Calls Tryz.prog 16 #[str a, str b] w fun e w' => e = .returned (rat (jaroT a b)) ∧ Below w.heap.size w w' := by
  have HT := Lib.hid (show jaroT a b = (0, 1) by
    unfold jaroT
    rw [if_pos (Or.inr h)])
  go_enter Tryz.func16, Tryz.ntmps16
  go_wp2_with fail
  refine (share_any 0 1 (by decide) (by decide) (by decide) (by decide) _).mono ?_
  rw [shr_01]
  rintro e w1 ⟨rfl, hb⟩
  have R1 := (own2_new w 0 0 _).below hb
  have HB1 := Lib.hid (below_up (below_box w _) hb (by simp <;> omega))
  have r0 := R1.c0
  have r1 := R1.c1
  have f0 := R1.f0
  have f1 := R1.f1
  clear hb R1
  go_wp2_with fail
  refine bodyPost_ret (v := rat (0, 1)) (by simp [results, Tryz.results16, go_sem, r0, r1]) rfl ?_
  exact ⟨rat_ret HT.out.symm, below_two HB1.out (Nat.le_refl _)⟩

set_option maxRecDepth 100000 in
theorem jaro_nil (w : World) :
    Calls Tryz.prog 16 #[str [], str []] w fun e w' => e = .returned (rat (jaroT [] [])) ∧ Below w.heap.size w w' := by
  have HT := Lib.hid (show jaroT [] [] = (1, 1) by rfl)
  go_enter Tryz.func16, Tryz.ntmps16
  go_wp2_with fail
  refine (share_any 1 1 (by decide) (by decide) (by decide) (by decide) _).mono ?_
  rw [shr_11]
  rintro e w1 ⟨rfl, hb⟩
  have R1 := (own2_new w 0 0 _).below hb
  have HB1 := Lib.hid (below_up (below_box w _) hb (by simp <;> omega))
  have r0 := R1.c0
  have r1 := R1.c1
  have f0 := R1.f0
  have f1 := R1.f1
  clear hb R1
  go_wp2_with fail
  refine bodyPost_ret (v := rat (1, 1)) (by simp [results, Tryz.results16, go_sem, r0, r1]) rfl ?_
  exact ⟨rat_ret HT.out.symm, below_two HB1.out (Nat.le_refl _)⟩

set_option maxRecDepth 100000 in
theorem jaro_zero1 (a b : List UInt8) (ha : a.length ≤ 200) (hb : b.length ≤ 200) (hne : a.isEmpty = false) (h0 : jm a b = 0) (w : World) :
    Calls Tryz.prog 16 #[str a, str b] w fun e w' => e = .returned (rat (jaroT a b)) ∧ Below w.heap.size w w' := by
  have HT := Lib.hid (show jaroT a b = (0, 1) by
    unfold jaroT
    rw [if_neg (by omega), if_neg (fun e => by rw [e.1] at hne; cases hne), if_pos h0])
  have HM := Lib.hid (matched_any a b ha hb)
  have HD := Lib.hid (fun u v => differences_any (IA a b (jw a b) a.length) (IB a b (jw a b)) u v (IA_IB_len a b (jw a b)) (Nat.le_trans (IA_le a b (jw a b)).1 ha))
  have HLE := Lib.hid (IA_IB_len a b (jw a b))
  obtain ⟨l1, l2⟩ := jm_le a b
  have l3 := ju_le a b
  have l4 : (jm a b : Int) ≤ 200 := by omega
  have HA := Lib.hid ha
  have HBb := Lib.hid hb
  obtain ⟨I, hI⟩ : ∃ I, IA a b (jw a b) a.length = I := ⟨_, rfl⟩
  obtain ⟨J, hJ⟩ : ∃ J, IB a b (jw a b) = J := ⟨_, rfl⟩
  have HJM : Hid (jm a b = I.length) := Lib.hid (by rw [← hI]; rfl)
  have HJU : Hid (ju a b = diffTo I J I.length) := Lib.hid (by rw [← hI, ← hJ]; rfl)
  rw [hI, hJ] at HM HD HLE
  clear hI hJ
  obtain ⟨m, hm⟩ : ∃ m, jm a b = m := ⟨_, rfl⟩
  obtain ⟨d, hd⟩ : ∃ d, ju a b = d := ⟨_, rfl⟩
  rw [hm] at HJM h0 l1 l2 l3 l4
  subst h0
  rw [hd] at HJU l3
  have HMM := Lib.hid hm
  have HDD := Lib.hid hd
  clear hm hd
  go_enter Tryz.func16, Tryz.ntmps16
  go_wp2_with fail
  refine (HM.out _).mono ?_
  rintro e w1 ⟨u, v, rfl, hu, hv, hb⟩
  have HU := Lib.hid (byts_own hu)
  have HV := Lib.hid (byts_own hv)
  have R1 := Lib.hid ((own2_new w 0 0 _).below hb)
  have HB1 := Lib.hid (below_up (below_box w _) hb (by simp))
  clear hb hu hv
  obtain ⟨A, cap, rfl, hcap, _⟩ := HU.out
  have hIm : I.length = 0 := HJM.out.symm
  have HJU2 := Lib.hid (show diffTo I J 0 = d by rw [HJU.out, hIm])
  rw [hIm] at HU hcap HD ⊢
  rw [HJU2.out] at HD
  go_wp2_with fail
  refine (HD.out _ _ _ HU.out HV.out).mono ?_
  rintro e w2 ⟨rfl, hb⟩
  have R2 := Lib.hid (R1.out.below hb)
  have HB2 := Lib.hid (below_up HB1.out hb HB1.out.size)
  clear hb
  go_wp2_with fail
  refine (share_any 0 1 (by decide) (by decide) (by decide) (by decide) _).mono ?_
  rw [shr_01]
  rintro e w3 ⟨rfl, hb⟩
  have R3 := R2.out.below hb
  have HB3 := Lib.hid (below_up HB2.out hb HB2.out.size)
  have r0 := R3.c0
  have r1 := R3.c1
  have f0 := R3.f0
  have f1 := R3.f1
  clear hb R3
  go_wp2_with fail
  refine bodyPost_ret (v := rat (0, 1)) (by simp [results, Tryz.results16, go_sem, r0, r1]) rfl ?_
  exact ⟨rat_ret HT.out.symm, below_two HB3.out (Nat.le_refl _)⟩

set_option maxRecDepth 100000 in
theorem jaro_zero2 (a b : List UInt8) (ha : a.length ≤ 200) (hb : b.length ≤ 200) (hne0 : a.isEmpty = true) (hne : b.isEmpty = false) (h0 : jm a b = 0) (w : World) :
    Calls Tryz.prog 16 #[str a, str b] w fun e w' => e = .returned (rat (jaroT a b)) ∧ Below w.heap.size w w' := by
  have HT := Lib.hid (show jaroT a b = (0, 1) by
    unfold jaroT
    rw [if_neg (by omega), if_neg (fun e => by rw [e.2] at hne; cases hne), if_pos h0])
  have HM := Lib.hid (matched_any a b ha hb)
  have HD := Lib.hid (fun u v => differences_any (IA a b (jw a b) a.length) (IB a b (jw a b)) u v (IA_IB_len a b (jw a b)) (Nat.le_trans (IA_le a b (jw a b)).1 ha))
  have HLE := Lib.hid (IA_IB_len a b (jw a b))
  obtain ⟨l1, l2⟩ := jm_le a b
  have l3 := ju_le a b
  have l4 : (jm a b : Int) ≤ 200 := by omega
  have HA := Lib.hid ha
  have HBb := Lib.hid hb
  obtain ⟨I, hI⟩ : ∃ I, IA a b (jw a b) a.length = I := ⟨_, rfl⟩
  obtain ⟨J, hJ⟩ : ∃ J, IB a b (jw a b) = J := ⟨_, rfl⟩
  have HJM : Hid (jm a b = I.length) := Lib.hid (by rw [← hI]; rfl)
  have HJU : Hid (ju a b = diffTo I J I.length) := Lib.hid (by rw [← hI, ← hJ]; rfl)
  rw [hI, hJ] at HM HD HLE
  clear hI hJ
  obtain ⟨m, hm⟩ : ∃ m, jm a b = m := ⟨_, rfl⟩
  obtain ⟨d, hd⟩ : ∃ d, ju a b = d := ⟨_, rfl⟩
  rw [hm] at HJM h0 l1 l2 l3 l4
  subst h0
  rw [hd] at HJU l3
  have HMM := Lib.hid hm
  have HDD := Lib.hid hd
  clear hm hd
  go_enter Tryz.func16, Tryz.ntmps16
  go_wp2_with fail
  refine (HM.out _).mono ?_
  rintro e w1 ⟨u, v, rfl, hu, hv, hb⟩
  have HU := Lib.hid (byts_own hu)
  have HV := Lib.hid (byts_own hv)
  have R1 := Lib.hid ((own2_new w 0 0 _).below hb)
  have HB1 := Lib.hid (below_up (below_box w _) hb (by simp))
  clear hb hu hv
  obtain ⟨A, cap, rfl, hcap, _⟩ := HU.out
  have hIm : I.length = 0 := HJM.out.symm
  have HJU2 := Lib.hid (show diffTo I J 0 = d by rw [HJU.out, hIm])
  rw [hIm] at HU hcap HD ⊢
  rw [HJU2.out] at HD
  go_wp2_with fail
  refine (HD.out _ _ _ HU.out HV.out).mono ?_
  rintro e w2 ⟨rfl, hb⟩
  have R2 := Lib.hid (R1.out.below hb)
  have HB2 := Lib.hid (below_up HB1.out hb HB1.out.size)
  clear hb
  go_wp2_with fail
  refine (share_any 0 1 (by decide) (by decide) (by decide) (by decide) _).mono ?_
  rw [shr_01]
  rintro e w3 ⟨rfl, hb⟩
  have R3 := R2.out.below hb
  have HB3 := Lib.hid (below_up HB2.out hb HB2.out.size)
  have r0 := R3.c0
  have r1 := R3.c1
  have f0 := R3.f0
  have f1 := R3.f1
  clear hb R3
  go_wp2_with fail
  refine bodyPost_ret (v := rat (0, 1)) (by simp [results, Tryz.results16, go_sem, r0, r1]) rfl ?_
  exact ⟨rat_ret HT.out.symm, below_two HB3.out (Nat.le_refl _)⟩

theorem jaro_any (a b : List UInt8) (w : World) :
    Calls Tryz.prog 16 #[str a, str b] w fun e w' => e = .returned (rat (jaroT a b)) ∧ Below w.heap.size w w' := by
  by_cases h1 : 200 < a.length
  · exact jaro_big1 a b h1 w
  by_cases h2 : 200 < b.length
  · exact jaro_big2 a b (by omega) h2 w
  cases ha : a.isEmpty with
  | true =>
    cases hb : b.isEmpty with
    | true =>
      rw [List.isEmpty_iff] at ha hb
      subst ha hb
      exact jaro_nil w
    | false =>
      refine jaro_zero2 a b (by omega) (by omega) ha hb ?_ w
      have := (jm_le a b).1
      rw [List.isEmpty_iff] at ha
      rw [ha] at this ⊢
      simpa using this
  | false =>
    by_cases h0 : jm a b = 0
    · exact jaro_zero1 a b (by omega) (by omega) ha h0 w
    · exact jaro_main a b (by omega) (by omega) ha h0 w
end Go.Proofs.YtendkghifcjffaaGreatDoor
