/- The contracts of the reference's Add, Sub, Mul, Div, Cmp. -/
import Derived.Test.YtpmggfmhkjafkaaDoorRef
import Derived.Test.YtpmggfmhkjafkaaDoorCmp
import Derived.Test.YtpmggfmhkjafkaaDoorRefM
import Derived.Deep.DeepFit
namespace Go.Proofs.YtpmggfmhkjafkaaDoor
open Go.RowKit

/-- 'of' at numbers that are spelled as ints. -/
theorem refof_int (neg : Bool) (x y : Int) (hx : 0 ≤ x ∧ x < 18446744073709551616) (hy : 0 ≤ y ∧ y < 18446744073709551616) (w : World) :
    Calls Tryd.prog 33 #[.bool neg, .int .u64 x, .int .u64 y] w (RatioPost w (rof neg x.toNat y.toNat)) := by
  have h := refof_any neg x.toNat y.toNat (by omega) (by omega) w
  rw [Int.toNat_of_nonneg hx.1, Int.toNat_of_nonneg hy.1] at h
  exact h

set_option linter.unusedVariables false

theorem refadd_bad (an ad bn bd : Int) (w : World) (h : (vldB an ad && vldB bn bd) = false) :
    Calls Tryd.prog 16 #[.agg #[.int .i64 an, .int .i64 ad], .agg #[.int .i64 bn, .int .i64 bd]] w (RatioPost w (0, 0, 1)) := by
  by_cases hva : vldB an ad = true
  · have hvb : vldB bn bd = false := by simpa [hva] using h
    clear h
    go_enter Tryd.func16, Tryd.ntmps16
    go_wp2_with fail
    refine (refvalid_any an ad _).mono ?_
    rintro e w1 ⟨rfl, hb1⟩
    have R1 : Own2 w1 (w.heap.size + 1 + 1) 0 0 := Own2.below ⟨⟨by simp [go_sem], by simp [go_sem]⟩, by simp [go_sem], by simp [go_sem]⟩ hb1
    have A1 : Rat2 w1 w.heap.size an ad := Rat2.below ⟨by simp [go_sem], by simp [go_sem]⟩ hb1
    have B1 : Rat2 w1 (w.heap.size + 1) bn bd := Rat2.below ⟨by simp [go_sem], by simp [go_sem]⟩ hb1
    have HB := below_up (boxes3 w _ _ _) hb1 (by simp; omega)
    clear hb1
    have c0 := B1.c0; have c1 := B1.c1
    go_wp2_with fail
    refine (refvalid_any bn bd _).mono ?_
    rintro e w2 ⟨rfl, hb2⟩
    replace R1 := R1.below hb2; replace A1 := A1.below hb2; replace B1 := B1.below hb2
    replace HB := below_up HB hb2 HB.size
    clear hb2 c0 c1
    have r0 := R1.c0; have r1 := R1.c1; have f0 := R1.f0; have f1 := R1.f1
    go_wp2_with fail
    refine bodyPost_ret (v := .tuple #[.agg #[.int .i64 0, .int .i64 0], .int .i64 1]) (by simp [results, Tryd.results16, go_sem, r0, r1]) rfl ?_
    exact ⟨rfl, (HB.setCell (show w.heap.size ≤ w.heap.size + 1 + 1 by omega) _).setCell (show w.heap.size ≤ w.heap.size + 1 + 1 by omega) _⟩
  · have hva' : vldB an ad = false := by simpa using hva
    clear h hva
    go_enter Tryd.func16, Tryd.ntmps16
    go_wp2_with fail
    refine (refvalid_any an ad _).mono ?_
    rintro e w1 ⟨rfl, hb1⟩
    have R1 : Own2 w1 (w.heap.size + 1 + 1) 0 0 := Own2.below ⟨⟨by simp [go_sem], by simp [go_sem]⟩, by simp [go_sem], by simp [go_sem]⟩ hb1
    have A1 : Rat2 w1 w.heap.size an ad := Rat2.below ⟨by simp [go_sem], by simp [go_sem]⟩ hb1
    have B1 : Rat2 w1 (w.heap.size + 1) bn bd := Rat2.below ⟨by simp [go_sem], by simp [go_sem]⟩ hb1
    have HB := below_up (boxes3 w _ _ _) hb1 (by simp; omega)
    clear hb1
    have r0 := R1.c0; have r1 := R1.c1; have f0 := R1.f0; have f1 := R1.f1
    go_wp2_with fail
    refine bodyPost_ret (v := .tuple #[.agg #[.int .i64 0, .int .i64 0], .int .i64 1]) (by simp [results, Tryd.results16, go_sem, r0, r1]) rfl ?_
    exact ⟨rfl, (HB.setCell (show w.heap.size ≤ w.heap.size + 1 + 1 by omega) _).setCell (show w.heap.size ≤ w.heap.size + 1 + 1 by omega) _⟩

theorem refadd_ok (an ad bn bd : Int) (w : World) (ha : vldB an ad = true) (hb : vldB bn bd = true) :
    Calls Tryd.prog 16 #[.agg #[.int .i64 an, .int .i64 ad], .agg #[.int .i64 bn, .int .i64 bd]] w (RatioPost w (mk (an * bd + bn * ad) (ad * bd))) := by
  have P := prods (vldB_true ha) (vldB_true hb)
  go_enter Tryd.func16, Tryd.ntmps16
  go_wp2_with fail
  refine (refvalid_any an ad _).mono ?_
  rintro e w1 ⟨rfl, hb1⟩
  have R1 : Own2 w1 (w.heap.size + 1 + 1) 0 0 := Own2.below ⟨⟨by simp [go_sem], by simp [go_sem]⟩, by simp [go_sem], by simp [go_sem]⟩ hb1
  have A1 : Rat2 w1 w.heap.size an ad := Rat2.below ⟨by simp [go_sem], by simp [go_sem]⟩ hb1
  have B1 : Rat2 w1 (w.heap.size + 1) bn bd := Rat2.below ⟨by simp [go_sem], by simp [go_sem]⟩ hb1
  have HB := below_up (boxes3 w _ _ _) hb1 (by simp; omega)
  clear hb1
  have c0 := B1.c0; have c1 := B1.c1
  go_wp2_with fail
  refine (refvalid_any bn bd _).mono ?_
  rintro e w2 ⟨rfl, hb2⟩
  replace R1 := R1.below hb2; replace A1 := A1.below hb2; replace B1 := B1.below hb2
  replace HB := below_up HB hb2 HB.size
  clear hb2 c0 c1
  have a0 := A1.c0; have a1 := A1.c1; have b0 := B1.c0; have b1 := B1.c1
  obtain ⟨p1, p2, p3, _, _⟩ := P
  go_wp2_with fail
  refine (refmake_any (an * bd + bn * ad) (ad * bd) _ ?_ ?_ ?_ ?_).mono ?_
  iterate 4 omega
  rintro e w3 ⟨rfl, hb3⟩
  replace R1 := R1.below hb3
  replace HB := below_up HB hb3 HB.size
  clear hb3 a0 a1 b0 b1
  have r0 := R1.c0; have r1 := R1.c1; have f0 := R1.f0; have f1 := R1.f1
  go_wp2_with fail
  refine bodyPost_ret (v := .tuple #[.agg #[.int .i64 (mk (an * bd + bn * ad) (ad * bd)).1, .int .i64 (mk (an * bd + bn * ad) (ad * bd)).2.1], .int .i64 (mk (an * bd + bn * ad) (ad * bd)).2.2]) (by simp [results, Tryd.results16, go_sem, r0, r1]) rfl ?_
  exact ⟨rfl, (HB.setCell (show w.heap.size ≤ w.heap.size + 1 + 1 by omega) _).setCell (show w.heap.size ≤ w.heap.size + 1 + 1 by omega) _⟩

theorem refsub_bad (an ad bn bd : Int) (w : World) (h : (vldB an ad && vldB bn bd) = false) :
    Calls Tryd.prog 18 #[.agg #[.int .i64 an, .int .i64 ad], .agg #[.int .i64 bn, .int .i64 bd]] w (RatioPost w (0, 0, 1)) := by
  by_cases hva : vldB an ad = true
  · have hvb : vldB bn bd = false := by simpa [hva] using h
    clear h
    go_enter Tryd.func18, Tryd.ntmps18
    go_wp2_with fail
    refine (refvalid_any an ad _).mono ?_
    rintro e w1 ⟨rfl, hb1⟩
    have R1 : Own2 w1 (w.heap.size + 1 + 1) 0 0 := Own2.below ⟨⟨by simp [go_sem], by simp [go_sem]⟩, by simp [go_sem], by simp [go_sem]⟩ hb1
    have A1 : Rat2 w1 w.heap.size an ad := Rat2.below ⟨by simp [go_sem], by simp [go_sem]⟩ hb1
    have B1 : Rat2 w1 (w.heap.size + 1) bn bd := Rat2.below ⟨by simp [go_sem], by simp [go_sem]⟩ hb1
    have HB := below_up (boxes3 w _ _ _) hb1 (by simp; omega)
    clear hb1
    have c0 := B1.c0; have c1 := B1.c1
    go_wp2_with fail
    refine (refvalid_any bn bd _).mono ?_
    rintro e w2 ⟨rfl, hb2⟩
    replace R1 := R1.below hb2; replace A1 := A1.below hb2; replace B1 := B1.below hb2
    replace HB := below_up HB hb2 HB.size
    clear hb2 c0 c1
    have r0 := R1.c0; have r1 := R1.c1; have f0 := R1.f0; have f1 := R1.f1
    go_wp2_with fail
    refine bodyPost_ret (v := .tuple #[.agg #[.int .i64 0, .int .i64 0], .int .i64 1]) (by simp [results, Tryd.results18, go_sem, r0, r1]) rfl ?_
    exact ⟨rfl, (HB.setCell (show w.heap.size ≤ w.heap.size + 1 + 1 by omega) _).setCell (show w.heap.size ≤ w.heap.size + 1 + 1 by omega) _⟩
  · have hva' : vldB an ad = false := by simpa using hva
    clear h hva
    go_enter Tryd.func18, Tryd.ntmps18
    go_wp2_with fail
    refine (refvalid_any an ad _).mono ?_
    rintro e w1 ⟨rfl, hb1⟩
    have R1 : Own2 w1 (w.heap.size + 1 + 1) 0 0 := Own2.below ⟨⟨by simp [go_sem], by simp [go_sem]⟩, by simp [go_sem], by simp [go_sem]⟩ hb1
    have A1 : Rat2 w1 w.heap.size an ad := Rat2.below ⟨by simp [go_sem], by simp [go_sem]⟩ hb1
    have B1 : Rat2 w1 (w.heap.size + 1) bn bd := Rat2.below ⟨by simp [go_sem], by simp [go_sem]⟩ hb1
    have HB := below_up (boxes3 w _ _ _) hb1 (by simp; omega)
    clear hb1
    have r0 := R1.c0; have r1 := R1.c1; have f0 := R1.f0; have f1 := R1.f1
    go_wp2_with fail
    refine bodyPost_ret (v := .tuple #[.agg #[.int .i64 0, .int .i64 0], .int .i64 1]) (by simp [results, Tryd.results18, go_sem, r0, r1]) rfl ?_
    exact ⟨rfl, (HB.setCell (show w.heap.size ≤ w.heap.size + 1 + 1 by omega) _).setCell (show w.heap.size ≤ w.heap.size + 1 + 1 by omega) _⟩

theorem refsub_ok (an ad bn bd : Int) (w : World) (ha : vldB an ad = true) (hb : vldB bn bd = true) :
    Calls Tryd.prog 18 #[.agg #[.int .i64 an, .int .i64 ad], .agg #[.int .i64 bn, .int .i64 bd]] w (RatioPost w (mk (an * bd - bn * ad) (ad * bd))) := by
  have P := prods (vldB_true ha) (vldB_true hb)
  go_enter Tryd.func18, Tryd.ntmps18
  go_wp2_with fail
  refine (refvalid_any an ad _).mono ?_
  rintro e w1 ⟨rfl, hb1⟩
  have R1 : Own2 w1 (w.heap.size + 1 + 1) 0 0 := Own2.below ⟨⟨by simp [go_sem], by simp [go_sem]⟩, by simp [go_sem], by simp [go_sem]⟩ hb1
  have A1 : Rat2 w1 w.heap.size an ad := Rat2.below ⟨by simp [go_sem], by simp [go_sem]⟩ hb1
  have B1 : Rat2 w1 (w.heap.size + 1) bn bd := Rat2.below ⟨by simp [go_sem], by simp [go_sem]⟩ hb1
  have HB := below_up (boxes3 w _ _ _) hb1 (by simp; omega)
  clear hb1
  have c0 := B1.c0; have c1 := B1.c1
  go_wp2_with fail
  refine (refvalid_any bn bd _).mono ?_
  rintro e w2 ⟨rfl, hb2⟩
  replace R1 := R1.below hb2; replace A1 := A1.below hb2; replace B1 := B1.below hb2
  replace HB := below_up HB hb2 HB.size
  clear hb2 c0 c1
  have a0 := A1.c0; have a1 := A1.c1; have b0 := B1.c0; have b1 := B1.c1
  obtain ⟨p1, p2, p3, _, _⟩ := P
  go_wp2_with fail
  refine (refmake_any (an * bd - bn * ad) (ad * bd) _ ?_ ?_ ?_ ?_).mono ?_
  iterate 4 omega
  rintro e w3 ⟨rfl, hb3⟩
  replace R1 := R1.below hb3
  replace HB := below_up HB hb3 HB.size
  clear hb3 a0 a1 b0 b1
  have r0 := R1.c0; have r1 := R1.c1; have f0 := R1.f0; have f1 := R1.f1
  go_wp2_with fail
  refine bodyPost_ret (v := .tuple #[.agg #[.int .i64 (mk (an * bd - bn * ad) (ad * bd)).1, .int .i64 (mk (an * bd - bn * ad) (ad * bd)).2.1], .int .i64 (mk (an * bd - bn * ad) (ad * bd)).2.2]) (by simp [results, Tryd.results18, go_sem, r0, r1]) rfl ?_
  exact ⟨rfl, (HB.setCell (show w.heap.size ≤ w.heap.size + 1 + 1 by omega) _).setCell (show w.heap.size ≤ w.heap.size + 1 + 1 by omega) _⟩

theorem refmul_bad (an ad bn bd : Int) (w : World) (h : (vldB an ad && vldB bn bd) = false) :
    Calls Tryd.prog 20 #[.agg #[.int .i64 an, .int .i64 ad], .agg #[.int .i64 bn, .int .i64 bd]] w (RatioPost w (0, 0, 1)) := by
  by_cases hva : vldB an ad = true
  · have hvb : vldB bn bd = false := by simpa [hva] using h
    clear h
    go_enter Tryd.func20, Tryd.ntmps20
    go_wp2_with fail
    refine (refvalid_any an ad _).mono ?_
    rintro e w1 ⟨rfl, hb1⟩
    have R1 : Own2 w1 (w.heap.size + 1 + 1) 0 0 := Own2.below ⟨⟨by simp [go_sem], by simp [go_sem]⟩, by simp [go_sem], by simp [go_sem]⟩ hb1
    have A1 : Rat2 w1 w.heap.size an ad := Rat2.below ⟨by simp [go_sem], by simp [go_sem]⟩ hb1
    have B1 : Rat2 w1 (w.heap.size + 1) bn bd := Rat2.below ⟨by simp [go_sem], by simp [go_sem]⟩ hb1
    have HB := below_up (boxes3 w _ _ _) hb1 (by simp; omega)
    clear hb1
    have c0 := B1.c0; have c1 := B1.c1
    go_wp2_with fail
    refine (refvalid_any bn bd _).mono ?_
    rintro e w2 ⟨rfl, hb2⟩
    replace R1 := R1.below hb2; replace A1 := A1.below hb2; replace B1 := B1.below hb2
    replace HB := below_up HB hb2 HB.size
    clear hb2 c0 c1
    have r0 := R1.c0; have r1 := R1.c1; have f0 := R1.f0; have f1 := R1.f1
    go_wp2_with fail
    refine bodyPost_ret (v := .tuple #[.agg #[.int .i64 0, .int .i64 0], .int .i64 1]) (by simp [results, Tryd.results20, go_sem, r0, r1]) rfl ?_
    exact ⟨rfl, (HB.setCell (show w.heap.size ≤ w.heap.size + 1 + 1 by omega) _).setCell (show w.heap.size ≤ w.heap.size + 1 + 1 by omega) _⟩
  · have hva' : vldB an ad = false := by simpa using hva
    clear h hva
    go_enter Tryd.func20, Tryd.ntmps20
    go_wp2_with fail
    refine (refvalid_any an ad _).mono ?_
    rintro e w1 ⟨rfl, hb1⟩
    have R1 : Own2 w1 (w.heap.size + 1 + 1) 0 0 := Own2.below ⟨⟨by simp [go_sem], by simp [go_sem]⟩, by simp [go_sem], by simp [go_sem]⟩ hb1
    have A1 : Rat2 w1 w.heap.size an ad := Rat2.below ⟨by simp [go_sem], by simp [go_sem]⟩ hb1
    have B1 : Rat2 w1 (w.heap.size + 1) bn bd := Rat2.below ⟨by simp [go_sem], by simp [go_sem]⟩ hb1
    have HB := below_up (boxes3 w _ _ _) hb1 (by simp; omega)
    clear hb1
    have r0 := R1.c0; have r1 := R1.c1; have f0 := R1.f0; have f1 := R1.f1
    go_wp2_with fail
    refine bodyPost_ret (v := .tuple #[.agg #[.int .i64 0, .int .i64 0], .int .i64 1]) (by simp [results, Tryd.results20, go_sem, r0, r1]) rfl ?_
    exact ⟨rfl, (HB.setCell (show w.heap.size ≤ w.heap.size + 1 + 1 by omega) _).setCell (show w.heap.size ≤ w.heap.size + 1 + 1 by omega) _⟩

set_option maxHeartbeats 800000 in
theorem refmul_big (an ad bn bd : Int) (w : World) (ha : vldB an ad = true) (hb : vldB bn bd = true) (g h p q u v : Nat) (hg : Nat.gcd an.natAbs bd.natAbs = g) (hh : Nat.gcd bn.natAbs ad.natAbs = h) (g0 : 0 < g) (h0 : 0 < h) (gm : g ≤ 1000000000) (hm : h ≤ 1000000000) (hp : (an.natAbs : Int) / (g : Int) = (p : Int)) (hq : (bn.natAbs : Int) / (h : Int) = (q : Int)) (hu : (ad.natAbs : Int) / (h : Int) = (u : Int)) (hv : (bd.natAbs : Int) / (g : Int) = (v : Int)) (pm : p ≤ 1000000000) (qm : q ≤ 1000000000) (um : u ≤ 1000000000) (vm : v ≤ 1000000000) (p0 : 0 < p) (r : Nat) (hr : (1000000000 : Int) / (p : Int) = (r : Int)) (hc : r < q) :
    Calls Tryd.prog 20 #[.agg #[.int .i64 an, .int .i64 ad], .agg #[.int .i64 bn, .int .i64 bd]] w (RatioPost w (0, 0, 2)) := by
  obtain ⟨i1, i2, i3, i4⟩ := vld_ints (vldB_true ha)
  obtain ⟨j1, j2, j3, j4⟩ := vld_ints (vldB_true hb)
  have HG := Lib.hid hg; have HH := Lib.hid hh; have HP := Lib.hid hp; have HQ := Lib.hid hq; have HU := Lib.hid hu; have HV := Lib.hid hv
  have X1 := Lib.hid (show an.natAbs < 18446744073709551616 by omega); have X2 := Lib.hid (show bd.natAbs < 18446744073709551616 by omega); have X3 := Lib.hid (show bn.natAbs < 18446744073709551616 by omega); have X4 := Lib.hid (show ad.natAbs < 18446744073709551616 by omega)
  clear hg hh hp hq hu hv
  go_enter Tryd.func20, Tryd.ntmps20
  go_wp2_with fail
  refine (refvalid_any an ad _).mono ?_
  rintro e w1 ⟨rfl, hb1⟩
  have R1 : Own2 w1 (w.heap.size + 1 + 1) 0 0 := Own2.below ⟨⟨by simp [go_sem], by simp [go_sem]⟩, by simp [go_sem], by simp [go_sem]⟩ hb1
  have A1 : Rat2 w1 w.heap.size an ad := Rat2.below ⟨by simp [go_sem], by simp [go_sem]⟩ hb1
  have B1 : Rat2 w1 (w.heap.size + 1) bn bd := Rat2.below ⟨by simp [go_sem], by simp [go_sem]⟩ hb1
  have HB := below_up (boxes3 w _ _ _) hb1 (by simp; omega)
  clear hb1
  have c0 := B1.c0; have c1 := B1.c1
  go_wp2_with fail
  refine (refvalid_any bn bd _).mono ?_
  rintro e w2 ⟨rfl, hb2⟩
  replace R1 := R1.below hb2; replace A1 := A1.below hb2; replace B1 := B1.below hb2
  replace HB := below_up HB hb2 HB.size
  clear hb2 c0 c1
  have a0 := A1.c0; have a1 := A1.c1; have b0 := B1.c0; have b1 := B1.c1
  go_wp2_with fail
  go_quiet ((first | (go_at_call_of 34 (Value.int IntKind.i64 an); exact Calls.quiet_of_same (size_same an (by omega) (by omega) _)) | (go_at_call_of 34 (Value.int IntKind.i64 bd); exact Calls.quiet_of_same (size_same bd (by omega) (by omega) _)) | (go_at_call 29; exact Calls.quiet_of (refgcd_any an.natAbs bd.natAbs X1.out X2.out _))))
  rw [HG.out]
  replace R1 := R1.below (below_drewN _ w2 nq); replace A1 := A1.below (below_drewN _ w2 nq); replace B1 := B1.below (below_drewN _ w2 nq)
  replace HB := dN HB nq
  clear a0 a1 b0 b1
  generalize w2.drewN nq = w3 at *
  have a0 := A1.c0; have a1 := A1.c1; have b0 := B1.c0; have b1 := B1.c1
  go_wp2_with fail
  go_quiet ((first | (go_at_call_of 34 (Value.int IntKind.i64 bn); exact Calls.quiet_of_same (size_same bn (by omega) (by omega) _)) | (go_at_call_of 34 (Value.int IntKind.i64 ad); exact Calls.quiet_of_same (size_same ad (by omega) (by omega) _)) | (go_at_call 29; exact Calls.quiet_of (refgcd_any bn.natAbs ad.natAbs X3.out X4.out _))))
  rw [HH.out]
  replace R1 := R1.below (below_drewN _ w3 nq); replace A1 := A1.below (below_drewN _ w3 nq); replace B1 := B1.below (below_drewN _ w3 nq)
  replace HB := dN HB nq
  clear a0 a1 b0 b1
  generalize w3.drewN nq = w4 at *
  have a0 := A1.c0; have a1 := A1.c1; have b0 := B1.c0; have b1 := B1.c1
  have zg : ((g : Int) == 0) = false := by rw [beq_eq_false_iff_ne]; omega
  have zh : ((h : Int) == 0) = false := by rw [beq_eq_false_iff_ne]; omega
  go_wp2_with fail
  refine (size_any an (by omega) (by omega) _).mono ?_
  rintro e w' ⟨rfl, rfl⟩
  have ep := HP.out
  go_wp2_with fail
  clear ep
  refine (size_any bn (by omega) (by omega) _).mono ?_
  rintro e w' ⟨rfl, rfl⟩
  have eq := HQ.out
  have zp : ((p : Int) == 0) = false := by rw [beq_eq_false_iff_ne]; omega
  have r0 := R1.c0; have r1 := R1.c1; have f0 := R1.f0; have f1 := R1.f1
  go_wp2_with fail
  refine bodyPost_ret (v := .tuple #[.agg #[.int .i64 0, .int .i64 0], .int .i64 2]) (by simp [results, Tryd.results20, go_sem, r0, r1]) rfl ?_
  exact ⟨rfl, (HB.setCell (show w.heap.size ≤ w.heap.size + 1 + 1 by omega) _).setCell (show w.heap.size ≤ w.heap.size + 1 + 1 by omega) _⟩

set_option maxHeartbeats 1600000 in
theorem refmul_zero (an ad bn bd : Int) (w : World) (ha : vldB an ad = true) (hb : vldB bn bd = true) (g h p q u v : Nat) (hg : Nat.gcd an.natAbs bd.natAbs = g) (hh : Nat.gcd bn.natAbs ad.natAbs = h) (g0 : 0 < g) (h0 : 0 < h) (gm : g ≤ 1000000000) (hm : h ≤ 1000000000) (hp : (an.natAbs : Int) / (g : Int) = (p : Int)) (hq : (bn.natAbs : Int) / (h : Int) = (q : Int)) (hu : (ad.natAbs : Int) / (h : Int) = (u : Int)) (hv : (bd.natAbs : Int) / (g : Int) = (v : Int)) (pm : p ≤ 1000000000) (qm : q ≤ 1000000000) (um : u ≤ 1000000000) (vm : v ≤ 1000000000) (p0 : ¬ 0 < p) (res : Int × Int × Int) (hres : rof (decide (an < 0) != decide (bn < 0)) ((p : Int) * (q : Int)).toNat ((u : Int) * (v : Int)).toNat = res) :
    Calls Tryd.prog 20 #[.agg #[.int .i64 an, .int .i64 ad], .agg #[.int .i64 bn, .int .i64 bd]] w (RatioPost w res) := by
  have HM := Lib.hid hres
  clear hres
  have Q1 := Lib.hid (nat_prod pm qm); have Q2 := Lib.hid (nat_prod um vm)
  obtain ⟨i1, i2, i3, i4⟩ := vld_ints (vldB_true ha)
  obtain ⟨j1, j2, j3, j4⟩ := vld_ints (vldB_true hb)
  have HG := Lib.hid hg; have HH := Lib.hid hh; have HP := Lib.hid hp; have HQ := Lib.hid hq; have HU := Lib.hid hu; have HV := Lib.hid hv
  have X1 := Lib.hid (show an.natAbs < 18446744073709551616 by omega); have X2 := Lib.hid (show bd.natAbs < 18446744073709551616 by omega); have X3 := Lib.hid (show bn.natAbs < 18446744073709551616 by omega); have X4 := Lib.hid (show ad.natAbs < 18446744073709551616 by omega)
  clear hg hh hp hq hu hv
  go_enter Tryd.func20, Tryd.ntmps20
  go_wp2_with fail
  refine (refvalid_any an ad _).mono ?_
  rintro e w1 ⟨rfl, hb1⟩
  have R1 : Own2 w1 (w.heap.size + 1 + 1) 0 0 := Own2.below ⟨⟨by simp [go_sem], by simp [go_sem]⟩, by simp [go_sem], by simp [go_sem]⟩ hb1
  have A1 : Rat2 w1 w.heap.size an ad := Rat2.below ⟨by simp [go_sem], by simp [go_sem]⟩ hb1
  have B1 : Rat2 w1 (w.heap.size + 1) bn bd := Rat2.below ⟨by simp [go_sem], by simp [go_sem]⟩ hb1
  have HB := below_up (boxes3 w _ _ _) hb1 (by simp; omega)
  clear hb1
  have c0 := B1.c0; have c1 := B1.c1
  go_wp2_with fail
  refine (refvalid_any bn bd _).mono ?_
  rintro e w2 ⟨rfl, hb2⟩
  replace R1 := R1.below hb2; replace A1 := A1.below hb2; replace B1 := B1.below hb2
  replace HB := below_up HB hb2 HB.size
  clear hb2 c0 c1
  have a0 := A1.c0; have a1 := A1.c1; have b0 := B1.c0; have b1 := B1.c1
  go_wp2_with fail
  go_quiet ((first | (go_at_call_of 34 (Value.int IntKind.i64 an); exact Calls.quiet_of_same (size_same an (by omega) (by omega) _)) | (go_at_call_of 34 (Value.int IntKind.i64 bd); exact Calls.quiet_of_same (size_same bd (by omega) (by omega) _)) | (go_at_call 29; exact Calls.quiet_of (refgcd_any an.natAbs bd.natAbs X1.out X2.out _))))
  rw [HG.out]
  replace R1 := R1.below (below_drewN _ w2 nq); replace A1 := A1.below (below_drewN _ w2 nq); replace B1 := B1.below (below_drewN _ w2 nq)
  replace HB := dN HB nq
  clear a0 a1 b0 b1
  generalize w2.drewN nq = w3 at *
  have a0 := A1.c0; have a1 := A1.c1; have b0 := B1.c0; have b1 := B1.c1
  go_wp2_with fail
  go_quiet ((first | (go_at_call_of 34 (Value.int IntKind.i64 bn); exact Calls.quiet_of_same (size_same bn (by omega) (by omega) _)) | (go_at_call_of 34 (Value.int IntKind.i64 ad); exact Calls.quiet_of_same (size_same ad (by omega) (by omega) _)) | (go_at_call 29; exact Calls.quiet_of (refgcd_any bn.natAbs ad.natAbs X3.out X4.out _))))
  rw [HH.out]
  replace R1 := R1.below (below_drewN _ w3 nq); replace A1 := A1.below (below_drewN _ w3 nq); replace B1 := B1.below (below_drewN _ w3 nq)
  replace HB := dN HB nq
  clear a0 a1 b0 b1
  generalize w3.drewN nq = w4 at *
  have a0 := A1.c0; have a1 := A1.c1; have b0 := B1.c0; have b1 := B1.c1
  have zg : ((g : Int) == 0) = false := by rw [beq_eq_false_iff_ne]; omega
  have zh : ((h : Int) == 0) = false := by rw [beq_eq_false_iff_ne]; omega
  go_wp2_with fail
  refine (size_any an (by omega) (by omega) _).mono ?_
  rintro e w' ⟨rfl, rfl⟩
  have ep := HP.out
  go_wp2_with fail
  clear ep
  refine (size_any bn (by omega) (by omega) _).mono ?_
  rintro e w' ⟨rfl, rfl⟩
  have eq := HQ.out
  have e1 : IntKind.u64.wrap ((p : Int) * (q : Int)) = (p : Int) * (q : Int) := by simp only [IntKind.wrap_u64]; have := Q1.out; omega
  have e2 : IntKind.u64.wrap ((u : Int) * (v : Int)) = (u : Int) * (v : Int) := by simp only [IntKind.wrap_u64]; have := Q2.out; omega
  have n1 : (w.heap.size + 1 + 1 = w.heap.size) = False := eq_false (by omega)
  have n2 : (w.heap.size = w.heap.size + 1 + 1) = False := eq_false (by omega)
  have R2 : Own2 (w4.drewN 1) (w.heap.size + 1 + 1) 0 0 := R1.below (below_drewN _ w4 1)
  have A2 : Rat2 (w4.drewN 1) w.heap.size an ad := A1.below (below_drewN _ w4 1)
  have B2 : Rat2 (w4.drewN 1) (w.heap.size + 1) bn bd := B1.below (below_drewN _ w4 1)
  go_wp2_with fail
  clear eq
  have ng : (g = 0) = False := eq_false (by omega)
  have nh : (h = 0) = False := eq_false (by omega)
  have tu : (ad.natAbs : Int).tdiv (h : Int) = (u : Int) := by rw [Int.tdiv_eq_ediv_of_nonneg (by omega)]; exact HU.out
  have tv : (bd.natAbs : Int).tdiv (g : Int) = (v : Int) := by rw [Int.tdiv_eq_ediv_of_nonneg (by omega)]; exact HV.out
  have wu : IntKind.u64.wrap (u : Int) = (u : Int) := by simp only [IntKind.wrap_u64]; omega
  have wv : IntKind.u64.wrap (v : Int) = (v : Int) := by simp only [IntKind.wrap_u64]; omega
  go_region_held3 (fun w' => w'.cell? ⟨w.heap.size, 0, none⟩ = some (.int .i64 an) ∧ w'.cell? ⟨w.heap.size, 1, none⟩ = some (.int .i64 ad) ∧ w'.cell? ⟨w.heap.size + 1, 0, none⟩ = some (.int .i64 bn) ∧ w'.cell? ⟨w.heap.size + 1, 1, none⟩ = some (.int .i64 bd)) (go_keep)
    (first | (go_at_call 34; refine (size_any _ ?_ ?_ _).mono ?_; omega; omega; rintro e w' ⟨rfl, rfl⟩) | (go_at_call 33; have K := fun W => refof_int (decide (an < 0) != decide (bn < 0)) ((p : Int) * (q : Int)) ((u : Int) * (v : Int)) Q1.out Q2.out W; rw [HM.out] at K; go_fit (K (w4.drewN 1)); clear K; rintro e w5 ⟨rfl, hb5⟩; have R3 := R2.below hb5; have A3 := A2.below hb5; have B3 := B2.below hb5; have x0 := A3.c0; have x1 := A3.c1; have x2 := B3.c0; have x3 := B3.c1; have y0 := R3.c0; have y1 := R3.c1; have y2 := R3.f0; have y3 := R3.f1))
  have hb6 := (below_drewN w4.heap.size w4 1).trans hb5
  replace HB := below_up HB hb6 HB.size
  go_wp2_with fail
  refine bodyPost_ret (v := .tuple #[.agg #[.int .i64 res.1, .int .i64 res.2.1], .int .i64 res.2.2]) (by simp [results, Tryd.results20, go_sem, y0, y1]) rfl ?_
  exact ⟨rfl, (HB.setCell (show w.heap.size ≤ w.heap.size + 1 + 1 by omega) _).setCell (show w.heap.size ≤ w.heap.size + 1 + 1 by omega) _⟩

set_option maxHeartbeats 1600000 in
theorem refmul_fit (an ad bn bd : Int) (w : World) (ha : vldB an ad = true) (hb : vldB bn bd = true) (g h p q u v : Nat) (hg : Nat.gcd an.natAbs bd.natAbs = g) (hh : Nat.gcd bn.natAbs ad.natAbs = h) (g0 : 0 < g) (h0 : 0 < h) (gm : g ≤ 1000000000) (hm : h ≤ 1000000000) (hp : (an.natAbs : Int) / (g : Int) = (p : Int)) (hq : (bn.natAbs : Int) / (h : Int) = (q : Int)) (hu : (ad.natAbs : Int) / (h : Int) = (u : Int)) (hv : (bd.natAbs : Int) / (g : Int) = (v : Int)) (pm : p ≤ 1000000000) (qm : q ≤ 1000000000) (um : u ≤ 1000000000) (vm : v ≤ 1000000000) (p0 : 0 < p) (r : Nat) (hr : (1000000000 : Int) / (p : Int) = (r : Int)) (hc : q ≤ r) (res : Int × Int × Int) (hres : rof (decide (an < 0) != decide (bn < 0)) ((p : Int) * (q : Int)).toNat ((u : Int) * (v : Int)).toNat = res) :
    Calls Tryd.prog 20 #[.agg #[.int .i64 an, .int .i64 ad], .agg #[.int .i64 bn, .int .i64 bd]] w (RatioPost w res) := by
  have HM := Lib.hid hres
  clear hres
  have Q1 := Lib.hid (nat_prod pm qm); have Q2 := Lib.hid (nat_prod um vm)
  obtain ⟨i1, i2, i3, i4⟩ := vld_ints (vldB_true ha)
  obtain ⟨j1, j2, j3, j4⟩ := vld_ints (vldB_true hb)
  have HG := Lib.hid hg; have HH := Lib.hid hh; have HP := Lib.hid hp; have HQ := Lib.hid hq; have HU := Lib.hid hu; have HV := Lib.hid hv
  have X1 := Lib.hid (show an.natAbs < 18446744073709551616 by omega); have X2 := Lib.hid (show bd.natAbs < 18446744073709551616 by omega); have X3 := Lib.hid (show bn.natAbs < 18446744073709551616 by omega); have X4 := Lib.hid (show ad.natAbs < 18446744073709551616 by omega)
  clear hg hh hp hq hu hv
  go_enter Tryd.func20, Tryd.ntmps20
  go_wp2_with fail
  refine (refvalid_any an ad _).mono ?_
  rintro e w1 ⟨rfl, hb1⟩
  have R1 : Own2 w1 (w.heap.size + 1 + 1) 0 0 := Own2.below ⟨⟨by simp [go_sem], by simp [go_sem]⟩, by simp [go_sem], by simp [go_sem]⟩ hb1
  have A1 : Rat2 w1 w.heap.size an ad := Rat2.below ⟨by simp [go_sem], by simp [go_sem]⟩ hb1
  have B1 : Rat2 w1 (w.heap.size + 1) bn bd := Rat2.below ⟨by simp [go_sem], by simp [go_sem]⟩ hb1
  have HB := below_up (boxes3 w _ _ _) hb1 (by simp; omega)
  clear hb1
  have c0 := B1.c0; have c1 := B1.c1
  go_wp2_with fail
  refine (refvalid_any bn bd _).mono ?_
  rintro e w2 ⟨rfl, hb2⟩
  replace R1 := R1.below hb2; replace A1 := A1.below hb2; replace B1 := B1.below hb2
  replace HB := below_up HB hb2 HB.size
  clear hb2 c0 c1
  have a0 := A1.c0; have a1 := A1.c1; have b0 := B1.c0; have b1 := B1.c1
  go_wp2_with fail
  go_quiet ((first | (go_at_call_of 34 (Value.int IntKind.i64 an); exact Calls.quiet_of_same (size_same an (by omega) (by omega) _)) | (go_at_call_of 34 (Value.int IntKind.i64 bd); exact Calls.quiet_of_same (size_same bd (by omega) (by omega) _)) | (go_at_call 29; exact Calls.quiet_of (refgcd_any an.natAbs bd.natAbs X1.out X2.out _))))
  rw [HG.out]
  replace R1 := R1.below (below_drewN _ w2 nq); replace A1 := A1.below (below_drewN _ w2 nq); replace B1 := B1.below (below_drewN _ w2 nq)
  replace HB := dN HB nq
  clear a0 a1 b0 b1
  generalize w2.drewN nq = w3 at *
  have a0 := A1.c0; have a1 := A1.c1; have b0 := B1.c0; have b1 := B1.c1
  go_wp2_with fail
  go_quiet ((first | (go_at_call_of 34 (Value.int IntKind.i64 bn); exact Calls.quiet_of_same (size_same bn (by omega) (by omega) _)) | (go_at_call_of 34 (Value.int IntKind.i64 ad); exact Calls.quiet_of_same (size_same ad (by omega) (by omega) _)) | (go_at_call 29; exact Calls.quiet_of (refgcd_any bn.natAbs ad.natAbs X3.out X4.out _))))
  rw [HH.out]
  replace R1 := R1.below (below_drewN _ w3 nq); replace A1 := A1.below (below_drewN _ w3 nq); replace B1 := B1.below (below_drewN _ w3 nq)
  replace HB := dN HB nq
  clear a0 a1 b0 b1
  generalize w3.drewN nq = w4 at *
  have a0 := A1.c0; have a1 := A1.c1; have b0 := B1.c0; have b1 := B1.c1
  have zg : ((g : Int) == 0) = false := by rw [beq_eq_false_iff_ne]; omega
  have zh : ((h : Int) == 0) = false := by rw [beq_eq_false_iff_ne]; omega
  go_wp2_with fail
  refine (size_any an (by omega) (by omega) _).mono ?_
  rintro e w' ⟨rfl, rfl⟩
  have ep := HP.out
  go_wp2_with fail
  clear ep
  refine (size_any bn (by omega) (by omega) _).mono ?_
  rintro e w' ⟨rfl, rfl⟩
  have eq := HQ.out
  have zp : ((p : Int) == 0) = false := by rw [beq_eq_false_iff_ne]; omega
  have e1 : IntKind.u64.wrap ((p : Int) * (q : Int)) = (p : Int) * (q : Int) := by simp only [IntKind.wrap_u64]; have := Q1.out; omega
  have e2 : IntKind.u64.wrap ((u : Int) * (v : Int)) = (u : Int) * (v : Int) := by simp only [IntKind.wrap_u64]; have := Q2.out; omega
  have n1 : (w.heap.size + 1 + 1 = w.heap.size) = False := eq_false (by omega)
  have n2 : (w.heap.size = w.heap.size + 1 + 1) = False := eq_false (by omega)
  have R2 : Own2 (w4.drewN 1) (w.heap.size + 1 + 1) 0 0 := R1.below (below_drewN _ w4 1)
  have A2 : Rat2 (w4.drewN 1) w.heap.size an ad := A1.below (below_drewN _ w4 1)
  have B2 : Rat2 (w4.drewN 1) (w.heap.size + 1) bn bd := B1.below (below_drewN _ w4 1)
  go_wp2_with fail
  clear eq
  have ng : (g = 0) = False := eq_false (by omega)
  have nh : (h = 0) = False := eq_false (by omega)
  have tu : (ad.natAbs : Int).tdiv (h : Int) = (u : Int) := by rw [Int.tdiv_eq_ediv_of_nonneg (by omega)]; exact HU.out
  have tv : (bd.natAbs : Int).tdiv (g : Int) = (v : Int) := by rw [Int.tdiv_eq_ediv_of_nonneg (by omega)]; exact HV.out
  have wu : IntKind.u64.wrap (u : Int) = (u : Int) := by simp only [IntKind.wrap_u64]; omega
  have wv : IntKind.u64.wrap (v : Int) = (v : Int) := by simp only [IntKind.wrap_u64]; omega
  go_region_held3 (fun w' => w'.cell? ⟨w.heap.size, 0, none⟩ = some (.int .i64 an) ∧ w'.cell? ⟨w.heap.size, 1, none⟩ = some (.int .i64 ad) ∧ w'.cell? ⟨w.heap.size + 1, 0, none⟩ = some (.int .i64 bn) ∧ w'.cell? ⟨w.heap.size + 1, 1, none⟩ = some (.int .i64 bd)) (go_keep)
    (first | (go_at_call 34; refine (size_any _ ?_ ?_ _).mono ?_; omega; omega; rintro e w' ⟨rfl, rfl⟩) | (go_at_call 33; have K := fun W => refof_int (decide (an < 0) != decide (bn < 0)) ((p : Int) * (q : Int)) ((u : Int) * (v : Int)) Q1.out Q2.out W; rw [HM.out] at K; go_fit (K (w4.drewN 1)); clear K; rintro e w5 ⟨rfl, hb5⟩; have R3 := R2.below hb5; have A3 := A2.below hb5; have B3 := B2.below hb5; have x0 := A3.c0; have x1 := A3.c1; have x2 := B3.c0; have x3 := B3.c1; have y0 := R3.c0; have y1 := R3.c1; have y2 := R3.f0; have y3 := R3.f1))
  have hb6 := (below_drewN w4.heap.size w4 1).trans hb5
  replace HB := below_up HB hb6 HB.size
  go_wp2_with fail
  refine bodyPost_ret (v := .tuple #[.agg #[.int .i64 res.1, .int .i64 res.2.1], .int .i64 res.2.2]) (by simp [results, Tryd.results20, go_sem, y0, y1]) rfl ?_
  exact ⟨rfl, (HB.setCell (show w.heap.size ≤ w.heap.size + 1 + 1 by omega) _).setCell (show w.heap.size ≤ w.heap.size + 1 + 1 by omega) _⟩

theorem refdiv_bad (an ad bn bd : Int) (w : World) (h : (vldB an ad && vldB bn bd) = false) :
    Calls Tryd.prog 22 #[.agg #[.int .i64 an, .int .i64 ad], .agg #[.int .i64 bn, .int .i64 bd]] w (RatioPost w (0, 0, 1)) := by
  by_cases hva : vldB an ad = true
  · have hvb : vldB bn bd = false := by simpa [hva] using h
    clear h
    go_enter Tryd.func22, Tryd.ntmps22
    go_wp2_with fail
    refine (refvalid_any an ad _).mono ?_
    rintro e w1 ⟨rfl, hb1⟩
    have R1 : Own2 w1 (w.heap.size + 1 + 1) 0 0 := Own2.below ⟨⟨by simp [go_sem], by simp [go_sem]⟩, by simp [go_sem], by simp [go_sem]⟩ hb1
    have A1 : Rat2 w1 w.heap.size an ad := Rat2.below ⟨by simp [go_sem], by simp [go_sem]⟩ hb1
    have B1 : Rat2 w1 (w.heap.size + 1) bn bd := Rat2.below ⟨by simp [go_sem], by simp [go_sem]⟩ hb1
    have HB := below_up (boxes3 w _ _ _) hb1 (by simp; omega)
    clear hb1
    have c0 := B1.c0; have c1 := B1.c1
    go_wp2_with fail
    refine (refvalid_any bn bd _).mono ?_
    rintro e w2 ⟨rfl, hb2⟩
    replace R1 := R1.below hb2; replace A1 := A1.below hb2; replace B1 := B1.below hb2
    replace HB := below_up HB hb2 HB.size
    clear hb2 c0 c1
    have r0 := R1.c0; have r1 := R1.c1; have f0 := R1.f0; have f1 := R1.f1
    go_wp2_with fail
    refine bodyPost_ret (v := .tuple #[.agg #[.int .i64 0, .int .i64 0], .int .i64 1]) (by simp [results, Tryd.results22, go_sem, r0, r1]) rfl ?_
    exact ⟨rfl, (HB.setCell (show w.heap.size ≤ w.heap.size + 1 + 1 by omega) _).setCell (show w.heap.size ≤ w.heap.size + 1 + 1 by omega) _⟩
  · have hva' : vldB an ad = false := by simpa using hva
    clear h hva
    go_enter Tryd.func22, Tryd.ntmps22
    go_wp2_with fail
    refine (refvalid_any an ad _).mono ?_
    rintro e w1 ⟨rfl, hb1⟩
    have R1 : Own2 w1 (w.heap.size + 1 + 1) 0 0 := Own2.below ⟨⟨by simp [go_sem], by simp [go_sem]⟩, by simp [go_sem], by simp [go_sem]⟩ hb1
    have A1 : Rat2 w1 w.heap.size an ad := Rat2.below ⟨by simp [go_sem], by simp [go_sem]⟩ hb1
    have B1 : Rat2 w1 (w.heap.size + 1) bn bd := Rat2.below ⟨by simp [go_sem], by simp [go_sem]⟩ hb1
    have HB := below_up (boxes3 w _ _ _) hb1 (by simp; omega)
    clear hb1
    have r0 := R1.c0; have r1 := R1.c1; have f0 := R1.f0; have f1 := R1.f1
    go_wp2_with fail
    refine bodyPost_ret (v := .tuple #[.agg #[.int .i64 0, .int .i64 0], .int .i64 1]) (by simp [results, Tryd.results22, go_sem, r0, r1]) rfl ?_
    exact ⟨rfl, (HB.setCell (show w.heap.size ≤ w.heap.size + 1 + 1 by omega) _).setCell (show w.heap.size ≤ w.heap.size + 1 + 1 by omega) _⟩

theorem refdiv_ok (an ad bn bd : Int) (w : World) (ha : vldB an ad = true) (hb : vldB bn bd = true) :
    Calls Tryd.prog 22 #[.agg #[.int .i64 an, .int .i64 ad], .agg #[.int .i64 bn, .int .i64 bd]] w (RatioPost w (mk (an * bd) (ad * bn))) := by
  have va := vldB_true ha
  have vb := vldB_true hb
  have HM := Lib.hid (rof_div va vb)
  obtain ⟨q1, q2⟩ := abs_prods va vb
  obtain ⟨i1, i2, i3, i4⟩ := vld_ints va
  obtain ⟨j1, j2, j3, j4⟩ := vld_ints vb
  have e1 : IntKind.u64.wrap ((an.natAbs : Int) * (bd.natAbs : Int)) = (an.natAbs : Int) * (bd.natAbs : Int) := by simp only [IntKind.wrap_u64]; omega
  have e2 : IntKind.u64.wrap ((ad.natAbs : Int) * (bn.natAbs : Int)) = (ad.natAbs : Int) * (bn.natAbs : Int) := by simp only [IntKind.wrap_u64]; omega
  have Q1 := Lib.hid q1; have Q2 := Lib.hid q2
  clear q1 q2 va vb
  go_enter Tryd.func22, Tryd.ntmps22
  go_wp2_with fail
  refine (refvalid_any an ad _).mono ?_
  rintro e w1 ⟨rfl, hb1⟩
  have R1 : Own2 w1 (w.heap.size + 1 + 1) 0 0 := Own2.below ⟨⟨by simp [go_sem], by simp [go_sem]⟩, by simp [go_sem], by simp [go_sem]⟩ hb1
  have A1 : Rat2 w1 w.heap.size an ad := Rat2.below ⟨by simp [go_sem], by simp [go_sem]⟩ hb1
  have B1 : Rat2 w1 (w.heap.size + 1) bn bd := Rat2.below ⟨by simp [go_sem], by simp [go_sem]⟩ hb1
  have HB := below_up (boxes3 w _ _ _) hb1 (by simp; omega)
  clear hb1
  have c0 := B1.c0; have c1 := B1.c1
  go_wp2_with fail
  refine (refvalid_any bn bd _).mono ?_
  rintro e w2 ⟨rfl, hb2⟩
  replace R1 := R1.below hb2; replace A1 := A1.below hb2; replace B1 := B1.below hb2
  replace HB := below_up HB hb2 HB.size
  clear hb2 c0 c1
  have a0 := A1.c0; have a1 := A1.c1; have b0 := B1.c0; have b1 := B1.c1
  have R2 : Own2 (w2.drewN 1) (w.heap.size + 1 + 1) 0 0 := R1.below (below_drewN _ w2 1)
  have A2 : Rat2 (w2.drewN 1) w.heap.size an ad := A1.below (below_drewN _ w2 1)
  have B2 : Rat2 (w2.drewN 1) (w.heap.size + 1) bn bd := B1.below (below_drewN _ w2 1)
  have n1 : (w.heap.size + 1 + 1 = w.heap.size) = False := eq_false (by omega)
  have n2 : (w.heap.size = w.heap.size + 1 + 1) = False := eq_false (by omega)
  go_wp2_with fail
  go_region_held3 (fun w' => w'.cell? ⟨w.heap.size, 0, none⟩ = some (.int .i64 an) ∧ w'.cell? ⟨w.heap.size, 1, none⟩ = some (.int .i64 ad) ∧ w'.cell? ⟨w.heap.size + 1, 0, none⟩ = some (.int .i64 bn) ∧ w'.cell? ⟨w.heap.size + 1, 1, none⟩ = some (.int .i64 bd)) (go_keep)
    (first | (go_at_call 34; refine (size_any _ ?_ ?_ _).mono ?_; omega; omega; rintro e w' ⟨rfl, rfl⟩) | (go_at_call 33; have K := fun W => refof_int (decide (an < 0) != decide (bn < 0)) ((an.natAbs : Int) * (bd.natAbs : Int)) ((ad.natAbs : Int) * (bn.natAbs : Int)) Q1.out Q2.out W; rw [HM.out] at K; refine (K (w2.drewN 1)).mono ?_; clear K; rintro e w3 ⟨rfl, hb3⟩; have R3 := R2.below hb3; have A3 := A2.below hb3; have B3 := B2.below hb3; have x0 := A3.c0; have x1 := A3.c1; have x2 := B3.c0; have x3 := B3.c1; have y0 := R3.c0; have y1 := R3.c1; have y2 := R3.f0; have y3 := R3.f1))
  have hb4 := (below_drewN w2.heap.size w2 1).trans hb3
  replace HB := below_up HB hb4 HB.size
  go_wp2_with fail
  refine bodyPost_ret (v := .tuple #[.agg #[.int .i64 (mk (an * bd) (ad * bn)).1, .int .i64 (mk (an * bd) (ad * bn)).2.1], .int .i64 (mk (an * bd) (ad * bn)).2.2]) (by simp [results, Tryd.results22, go_sem, y0, y1]) rfl ?_
  exact ⟨rfl, (HB.setCell (show w.heap.size ≤ w.heap.size + 1 + 1 by omega) _).setCell (show w.heap.size ≤ w.heap.size + 1 + 1 by omega) _⟩

end Go.Proofs.YtpmggfmhkjafkaaDoor
