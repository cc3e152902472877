/- SketchMatchesReference in plain words. -/
import Derived.Test.YtoifcfocffcmcaaDoorSkRefD
import Derived.Test.YtoifcfocffcmcaaDoorSkRefE
import Derived.Test.YtoifcfocffcmcaaDoorSkRefF
namespace Go.Proofs.YtoifcfocffcmcaaDoor
open Go.RowKit

set_option maxRecDepth 100000 in
theorem match_few (toks : List (List UInt8)) (n rows seed : Int) (v1 v2 v3 : Value) (w : World) (ht : Tab w) (h1 : Strs w v1 toks) (g1 : fewB toks = false) :
    Calls Tryd.prog 3 #[v1, .int .i64 n, v2, v3, .int .i64 rows, .int .i64 seed] w fun e w' => e = .returned (.bool true) ∧ Below w.heap.size w w' := by
  have F1 := Lib.hid (fun W (hw : Below w.heap.size w W) => few_any toks v1 W (h1.below hw))
  rw [g1] at F1
  go_enter Tryd.func3, Tryd.ntmps3
  go_wp2_with fail
  refine (head_any w ht).mono ?_
  rintro e w1 ⟨rfl, hb⟩
  go_wp2_with fail
  refine (F1.out _ hb).mono ?_
  rintro e w2 ⟨rfl, rfl⟩
  go_wp2_with fail
  go_ret
  exact ⟨rfl, hb⟩

set_option maxRecDepth 100000 in
theorem match_long (toks : List (List UInt8)) (n : Int) (a b : List Int) (rows seed : Int) (v1 v2 v3 : Value) (w : World) (ht : Tab w) (h1 : Strs w v1 toks) (h2 : Ints w v2 a) (h3 : Ints w v3 b) (g1 : fewB toks = true) (hl : 100 < a.length ∨ 100 < b.length) :
    Calls Tryd.prog 3 #[v1, .int .i64 n, v2, v3, .int .i64 rows, .int .i64 seed] w fun e w' => e = .returned (.bool true) ∧ Below w.heap.size w w' := by
  have F1 := Lib.hid (fun W (hw : Below w.heap.size w W) => few_any toks v1 W (h1.below hw))
  rw [g1] at F1
  obtain ⟨A, cap, ev, hca, _⟩ := h2
  obtain ⟨B, cbp, eu, hcb, _⟩ := h3
  subst ev eu
  by_cases ha : 100 < a.length
  · clear hl
    go_enter Tryd.func3, Tryd.ntmps3
    go_wp2_with fail
    refine (head_any w ht).mono ?_
    rintro e w1 ⟨rfl, hb⟩
    go_wp2_with fail
    refine (F1.out _ hb).mono ?_
    rintro e w2 ⟨rfl, rfl⟩
    go_wp2_with fail
    go_ret
    exact ⟨rfl, hb⟩
  · have hb2 : 100 < b.length := by omega
    clear hl
    go_enter Tryd.func3, Tryd.ntmps3
    go_wp2_with fail
    refine (head_any w ht).mono ?_
    rintro e w1 ⟨rfl, hb⟩
    go_wp2_with fail
    refine (F1.out _ hb).mono ?_
    rintro e w2 ⟨rfl, rfl⟩
    go_wp2_with fail
    go_ret
    exact ⟨rfl, hb⟩

set_option maxHeartbeats 6400000 in
set_option maxRecDepth 100000 in
theorem match_all (toks : List (List UInt8)) (n : Int) (a b : List Int) (rows seed : Int) (v1 v2 v3 : Value) (w : World) (ht : Tab w) (h1 : Strs w v1 toks) (h2 : Ints w v2 a) (h3 : Ints w v3 b) (g1 : fewB toks = true) (ha : a.length ≤ 100) (hb : b.length ≤ 100)
    (hr0 : -9223372036854775808 ≤ rows) (hr1 : rows ≤ 9223372036854775807) :
    Calls Tryd.prog 3 #[v1, .int .i64 n, v2, v3, .int .i64 rows, .int .i64 seed] w fun e w' => e = .returned (.bool true) ∧ Below w.heap.size w w' := by
  have F1 := Lib.hid (fun W (hw : Below w.heap.size w W) => few_any toks v1 W (h1.below hw))
  rw [g1] at F1
  obtain ⟨l1, m1⟩ := fewB_yes g1
  have HS := Lib.hid h1
  have HT := Lib.hid ht
  have HH1 := Lib.hid (fun t (ht : t ∈ toks) W => hash_any t seed (by have := m1 t ht; omega) W)
  have HH2 := Lib.hid (fun t (ht : t ∈ toks) W => hash_ref t seed (by have := m1 t ht; omega) W)
  have HM1 := Lib.hid (fun W (hw : Below w.heap.size w W) => make_any toks n v1 W (by omega) (fun t ht => by have := m1 t ht; omega) (h1.below hw))
  have HM2 := Lib.hid (fun W (hw : Below w.heap.size w W) => make_ref toks n v1 W (by omega) (fun t ht => by have := m1 t ht; omega) (h1.below hw))
  have HU1 := Lib.hid (fun W (hw : Below w.heap.size w W) => union_any a b v2 v3 W (by omega) (by omega) (h2.below hw) (h3.below hw))
  have HU2 := Lib.hid (fun W (hw : Below w.heap.size w W) => union_ref a b v2 v3 W (by omega) (by omega) (h2.below hw) (h3.below hw))
  have HE1 := Lib.hid (fun W (hw : Below w.heap.size w W) => est_any a b v2 v3 W (by omega) (by omega) (h2.below hw) (h3.below hw))
  have HE2 := Lib.hid (fun W (hw : Below w.heap.size w W) => est_ref a b v2 v3 W (by omega) (by omega) (h2.below hw) (h3.below hw))
  have HB1 := Lib.hid (fun W (hw : Below w.heap.size w W) => bands_any a rows v2 W (by omega) hr0 hr1 (h2.below hw) (HT.out.below hw))
  have HB2 := Lib.hid (fun W (hw : Below w.heap.size w W) => bands_ref a rows v2 W (by omega) hr0 hr1 (h2.below hw))
  have lM : (makeT toks n).1.length ≤ 4000 := by
    unfold makeT
    split
    · rename_i h
      rw [sk_len]
      omega
    · simp
  have lU : (unionT a b).1.length ≤ 4000 := by
    unfold unionT
    split
    · unfold uniS
      split
      · exact Nat.le_trans hb (by omega)
      · split
        · exact Nat.le_trans ha (by omega)
        · simp; omega
    · simp
  have lK : (bandsT a rows).1.length ≤ 4000 := by
    unfold bandsT
    split
    · split
      · simp
      · unfold keysT
        simp
        exact Nat.le_trans (Nat.div_le_self _ _) (by omega)
    · simp
  obtain ⟨⟨M, eM⟩, hM⟩ : ∃ M, makeT toks n = M := ⟨_, rfl⟩
  obtain ⟨⟨U, eU⟩, hU⟩ : ∃ M, unionT a b = M := ⟨_, rfl⟩
  obtain ⟨⟨R1, R2, eR⟩, hR⟩ : ∃ M, estT a b = M := ⟨_, rfl⟩
  obtain ⟨⟨K, eK⟩, hK⟩ : ∃ M, bandsT a rows = M := ⟨_, rfl⟩
  rw [hM] at HM1 HM2 lM
  rw [hU] at HU1 HU2 lU
  rw [hR] at HE1 HE2
  rw [hK] at HB1 HB2 lK
  have HIM := Lib.hid (fun (x y : Value) (W : World) (hx : Ints W x M) (hy : Ints W y M) => ints_ref M M x y W lM hx hy)
  have HIU := Lib.hid (fun (x y : Value) (W : World) (hx : Ints W x U) (hy : Ints W y U) => ints_ref U U x y W lU hx hy)
  have HIK := Lib.hid (fun (x y : Value) (W : World) (hx : Strs W x K) (hy : Strs W y K) => strings_ref K K x y W lK hx hy)
  rw [decide_eq_true rfl] at HIM HIU HIK
  obtain ⟨A1, cap1, ev1, hca1, _⟩ := h1
  obtain ⟨A2, cap2, ev2, hca2, _⟩ := h2
  obtain ⟨A3, cap3, ev3, hca3, _⟩ := h3
  subst ev1 ev2 ev3
  obtain ⟨q, hq⟩ : ∃ q, toks.length = q := ⟨_, rfl⟩
  have HQ := Lib.hid hq
  rw [hq] at F1 HS HM1 HM2 l1 hca1
  rw [hq]
  obtain ⟨la, hla⟩ : ∃ q, a.length = q := ⟨_, rfl⟩
  obtain ⟨lb, hlb⟩ : ∃ q, b.length = q := ⟨_, rfl⟩
  rw [hla] at HU1 HU2 HE1 HE2 HB1 HB2 hca2 ha
  rw [hlb] at HU1 HU2 HE1 HE2 hca3 hb
  rw [hla, hlb]
  have e1 : (eM == eM) = true := by simp
  have e2 : (eU == eU) = true := by simp
  have e3 : (eR == eR) = true := by simp
  have e4 : (eK == eK) = true := by simp
  have e5 : (R1 == R1) = true := by simp
  have e6 : (R2 == R2) = true := by simp
  clear hq hla hlb hM hU hR hK lM lU lK g1 m1 hr0 hr1
  go_enter Tryd.func3, Tryd.ntmps3
  go_wp2_with fail
  refine (head_any w HT.out).mono ?_
  rintro e w1 ⟨rfl, hb⟩
  go_wp2_with fail
  refine (F1.out _ hb).mono ?_
  rintro e w2 ⟨rfl, rfl⟩
  have HW := Lib.hid hb
  clear hb F1
  go_wp2_with fail
  refine (HM1.out _ HW.out).mono ?_
  rintro e w3 ⟨x, rfl, hx, hb⟩
  have HX := Lib.hid hx
  have HW := Lib.hid (below_up HW.out hb HW.out.size)
  clear hx hb
  go_wp2_with fail
  refine (HM2.out _ HW.out).mono ?_
  rintro e w4 ⟨y, rfl, hy, hb⟩
  have HX := Lib.hid (HX.out.below hb)
  have HY := Lib.hid hy
  have HW := Lib.hid (below_up HW.out hb HW.out.size)
  clear hy hb
  go_wp2_with fail
  refine (HU1.out _ HW.out).mono ?_
  rintro e w5 ⟨p, rfl, hp, hb⟩
  have HX := Lib.hid (HX.out.below hb)
  have HY := Lib.hid (HY.out.below hb)
  have HP := Lib.hid hp
  have HW := Lib.hid (below_up HW.out hb HW.out.size)
  clear hp hb
  go_wp2_with fail
  refine (HU2.out _ HW.out).mono ?_
  rintro e w6 ⟨p2, rfl, hp, hb⟩
  have HX := Lib.hid (HX.out.below hb)
  have HY := Lib.hid (HY.out.below hb)
  have HP := Lib.hid (HP.out.below hb)
  have HP2 := Lib.hid hp
  have HW := Lib.hid (below_up HW.out hb HW.out.size)
  clear hp hb
  go_wp2_with fail
  refine (HE1.out _ HW.out).mono ?_
  rintro e w7 ⟨rfl, hb⟩
  have HX := Lib.hid ((HX.out.below hb).below (below_box _ (Obj.cells #[.int .i64 R1, .int .i64 R2] 31)))
  have HY := Lib.hid ((HY.out.below hb).below (below_box _ (Obj.cells #[.int .i64 R1, .int .i64 R2] 31)))
  have HP := Lib.hid ((HP.out.below hb).below (below_box _ (Obj.cells #[.int .i64 R1, .int .i64 R2] 31)))
  have HP2 := Lib.hid ((HP2.out.below hb).below (below_box _ (Obj.cells #[.int .i64 R1, .int .i64 R2] 31)))
  have HW := Lib.hid (below_up HW.out hb HW.out.size)
  have HW := Lib.hid (HW.out.alloc HW.out.size (Obj.cells #[.int .i64 R1, .int .i64 R2] 31))
  have R := own2_new w7 R1 R2 31
  have HR := Lib.hid R
  clear hb R
  go_wp2_with fail
  refine (HE2.out _ HW.out).mono ?_
  rintro e w8 ⟨rfl, hb⟩
  have HX := Lib.hid ((HX.out.below hb).below (below_box _ (Obj.cells #[.int .i64 R1, .int .i64 R2] 31)))
  have HY := Lib.hid ((HY.out.below hb).below (below_box _ (Obj.cells #[.int .i64 R1, .int .i64 R2] 31)))
  have HP := Lib.hid ((HP.out.below hb).below (below_box _ (Obj.cells #[.int .i64 R1, .int .i64 R2] 31)))
  have HP2 := Lib.hid ((HP2.out.below hb).below (below_box _ (Obj.cells #[.int .i64 R1, .int .i64 R2] 31)))
  have HR := Lib.hid ((HR.out.below hb).below (below_box _ (Obj.cells #[.int .i64 R1, .int .i64 R2] 31)))
  have HW := Lib.hid (below_up HW.out hb HW.out.size)
  have HW := Lib.hid (HW.out.alloc HW.out.size (Obj.cells #[.int .i64 R1, .int .i64 R2] 31))
  have R := own2_new w8 R1 R2 31
  have HR2 := Lib.hid R
  clear hb R
  go_wp2_with fail
  refine (HB1.out _ HW.out).mono ?_
  rintro e w9 ⟨k1, rfl, hk, hb⟩
  have HX := Lib.hid (HX.out.below hb)
  have HY := Lib.hid (HY.out.below hb)
  have HP := Lib.hid (HP.out.below hb)
  have HP2 := Lib.hid (HP2.out.below hb)
  have HR := Lib.hid (HR.out.below hb)
  have HR2 := Lib.hid (HR2.out.below hb)
  have HK := Lib.hid hk
  have HW := Lib.hid (below_up HW.out hb HW.out.size)
  clear hb hk
  go_wp2_with fail
  refine (HB2.out _ HW.out).mono ?_
  rintro e w10 ⟨k2, rfl, hk, hb⟩
  have HX := Lib.hid (HX.out.below hb)
  have HY := Lib.hid (HY.out.below hb)
  have HP := Lib.hid (HP.out.below hb)
  have HP2 := Lib.hid (HP2.out.below hb)
  have HR := Lib.hid (HR.out.below hb)
  have HR2 := Lib.hid (HR2.out.below hb)
  have HK := Lib.hid (HK.out.below hb)
  have HK2 := Lib.hid hk
  have HW := Lib.hid (below_up HW.out hb HW.out.size)
  clear hb hk HM1 HM2 HU1 HU2 HE1 HE2 HB1 HB2
  go_wp2_with fail
  go_loopw [30] (fun i wr => ∃ j : Nat, i = .int .i64 (j : Int) ∧ j ≤ q ∧ Below w10.heap.size w10 wr) (fun i _ => q + 1 - (intOf i).toNat)
  case atStart => exact ⟨0, by simp, by omega, Below.refl _ _⟩
  case round =>
    obtain ⟨j, rfl, hj, hbw⟩ := hrel
    have HB := Lib.hid hbw
    clear hbw
    by_cases hlt : j < q
    · obtain ⟨-, -, b1, o1, rfl, hc⟩ := ((HS.out.below HW.out).below HB.out).spot (by have := HQ.out; omega)
      have c0 := hc j (by have := HQ.out; omega)
      have C1 := HH1.out (toks[j]'(by have := HQ.out; omega)) (List.getElem_mem _)
      have C2 := HH2.out (toks[j]'(by have := HQ.out; omega)) (List.getElem_mem _)
      obtain ⟨t, ht⟩ : ∃ t, toks[j]'(by have := HQ.out; omega) = t := ⟨_, rfl⟩
      rw [ht] at c0 C1 C2
      obtain ⟨z, hz⟩ : ∃ z, hashT t seed = z := ⟨_, rfl⟩
      rw [hz] at C1 C2
      have HC1 := Lib.hid C1
      have HC2 := Lib.hid C2
      have hzz : (z != z) = false := by simp
      clear ht hz C1 C2 hc
      go_wp2_with fail
      go_region_held3 (fun w' => w'.cell? ⟨b1, o1 + j, none⟩ = some (str t)) (go_keep)
        (first | (go_at_call 20; refine (HC1.out _).mono ?_; rintro e v1 ⟨rfl, hv1⟩; have kv1 := cellB ((below_drewN _ wr 1).trans hv1) c0) | (go_at_call 21; refine (HC2.out _).mono ?_; rintro e v2 ⟨rfl, hv2⟩; have kv2 := cellB hv2 kv1))
      have HV := Lib.hid (below_up (below_drewN _ wr 1) (hv1.trans (hv2.mono hv1.size)) (Nat.le_refl _))
      go_wp2_with fail
      go_roundw
      case rel => exact ⟨j + 1, by simp, by omega, below_up HB.out HV.out HB.out.size⟩
      case measure => simp [intOf]; omega
    · have HX := Lib.hid (HX.out.below HB.out)
      have HY := Lib.hid (HY.out.below HB.out)
      have HP := Lib.hid (HP.out.below HB.out)
      have HP2 := Lib.hid (HP2.out.below HB.out)
      have HR := Lib.hid (HR.out.below HB.out)
      have HR2 := Lib.hid (HR2.out.below HB.out)
      have HK := Lib.hid (HK.out.below HB.out)
      have HK2 := Lib.hid (HK2.out.below HB.out)
      have HW := Lib.hid (below_up HW.out HB.out HW.out.size)
      clear HB
      go_wp2_with fail
      refine (HIM.out _ _ _ HX.out HY.out).mono ?_
      rintro e w11 ⟨rfl, hb⟩
      have HP := Lib.hid (HP.out.below hb)
      have HP2 := Lib.hid (HP2.out.below hb)
      have HR := Lib.hid (HR.out.below hb)
      have HR2 := Lib.hid (HR2.out.below hb)
      have HK := Lib.hid (HK.out.below hb)
      have HK2 := Lib.hid (HK2.out.below hb)
      have HW := Lib.hid (below_up HW.out hb HW.out.size)
      clear hb
      go_wp2_with fail
      refine (HIU.out _ _ _ HP.out HP2.out).mono ?_
      rintro e w12 ⟨rfl, hb⟩
      have HR := HR.out.below hb
      have HR2 := HR2.out.below hb
      have HK := Lib.hid (HK.out.below hb)
      have HK2 := Lib.hid (HK2.out.below hb)
      have HW := Lib.hid (below_up HW.out hb HW.out.size)
      have r0 := HR.c0; have r1 := HR.c1; have s0 := HR2.c0; have s1 := HR2.c1
      clear hb HR HR2
      go_wp2_with fail
      refine (HIK.out _ _ _ HK.out HK2.out).mono ?_
      rintro e w13 ⟨rfl, hb⟩
      have HW := Lib.hid (below_up HW.out hb HW.out.size)
      clear hb
      go_wp2_with fail
      go_ret
      exact ⟨rfl, HW.out⟩

theorem match_law (toks : List (List UInt8)) (n : Int) (a b : List Int) (rows seed : Int) (v1 v2 v3 : Value) (w : World) (ht : Tab w) (h1 : Strs w v1 toks) (h2 : Ints w v2 a) (h3 : Ints w v3 b)
    (hr0 : -9223372036854775808 ≤ rows) (hr1 : rows ≤ 9223372036854775807) :
    Calls Tryd.prog 3 #[v1, .int .i64 n, v2, v3, .int .i64 rows, .int .i64 seed] w fun e w' => e = .returned (.bool true) ∧ Below w.heap.size w w' := by
  cases hf : fewB toks
  · exact match_few toks n rows seed v1 v2 v3 w ht h1 hf
  by_cases hl : 100 < a.length ∨ 100 < b.length
  · exact match_long toks n a b rows seed v1 v2 v3 w ht h1 h2 h3 hf hl
  · exact match_all toks n a b rows seed v1 v2 v3 w ht h1 h2 h3 hf (by omega) (by omega) hr0 hr1
end Go.Proofs.YtoifcfocffcmcaaDoor
