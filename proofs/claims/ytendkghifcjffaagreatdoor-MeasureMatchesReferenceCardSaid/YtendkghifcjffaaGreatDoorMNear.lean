/- The contracts of isTolerance, least and Near. -/
import Derived.Test.YtendkghifcjffaaGreatDoorMShare
namespace Go.Proofs.YtendkghifcjffaaGreatDoor
open Go.RowKit

theorem okTol_any (t : Int) (w : World) : Calls Tryz.prog 35 #[.int .i64 t] w fun e w' => e = .returned (.bool (okTol t)) ∧ Below w.heap.size w w' := by
  have HO := Lib.hid (@okTol_iff t)
  go_enter Tryz.func35, Tryz.ntmps35
  go_wp2_with fail
  all_goals
    go_ret
    refine ⟨bool_ret ?_, by go_grown⟩
    rw [Bool.eq_iff_iff, HO.out]
    simp
    try omega

theorem leastU_one (x y : Int) (b : Nat) (w : World) (c0 : w.cell? ⟨b, 0, none⟩ = some (.int .u64 y)) :
    Calls Tryz.prog 41 #[.int .u64 x, .slice (some ⟨b, 0, none⟩) 1 1] w fun e w' => e = .returned (.int .u64 (min x y)) ∧ w' = w := by
  go_enter Tryz.func41, Tryz.ntmps41
  go_wp2_with fail
  go_loopw [0, 9] (fun v i wr => ∃ (k : Nat) (m : Int), k ≤ 1 ∧ i = .int .i64 (k : Int) ∧ wr = w ∧ v = .int .u64 m ∧ (k = 0 → m = x) ∧ (k = 1 → m = min x y)) (fun _ i _ => 3 - (intOf i).toNat)
  case atStart => exact ⟨0, x, by omega, by simp, rfl, rfl, fun _ => rfl, by omega⟩
  case round =>
    obtain ⟨k, m, hk, rfl, rfl, rfl, h0, h1⟩ := hrel
    rcases (by omega : k = 0 ∨ k = 1) with rfl | rfl
    · obtain rfl := h0 rfl
      clear h0 h1
      by_cases hx : y < m
      · go_wp2_with fail
        go_roundw
        case rel => exact ⟨1, y, by omega, by simp, trivial, rfl, by omega, by omega⟩
        case measure => simp [intOf]
      · go_wp2_with fail
        go_roundw
        case rel => exact ⟨1, m, by omega, by simp, trivial, rfl, by omega, by omega⟩
        case measure => simp [intOf]
    · obtain h1 := h1 rfl
      clear h0
      go_wp2_with fail
      go_ret
      exact ⟨ret_int (by first | rfl | exact h1), rfl⟩
theorem leastU_new (W : World) (x y : Int) :
    Calls Tryz.prog 41 #[.int .u64 x, .slice (some ⟨W.heap.size, 0, none⟩) 1 1] (W.alloc (Obj.cells #[.int .u64 y] 70)) fun e w' => e = .returned (.int .u64 (min x y)) ∧ w' = W.alloc (Obj.cells #[.int .u64 y] 70) :=
  leastU_one x y W.heap.size _ (by simp [go_sem])

theorem shr_01 : shr 0 1 = (0, 1) := shr_nil (by decide)

set_option maxRecDepth 100000 in
theorem near_bad (a b t : Int) (h : okTol t = false) (w : World) :
    Calls Tryz.prog 18 #[.int .i64 a, .int .i64 b, .int .i64 t] w fun e w' => e = .returned (rat (0, 1)) ∧ Below w.heap.size w w' := by
  have HO := Lib.hid h
  clear h
  go_enter Tryz.func18, Tryz.ntmps18
  go_wp2_with fail
  refine (okTol_any t _).mono ?_
  rw [HO.out]
  rintro e w1 ⟨rfl, hb⟩
  have R := Lib.hid ((own2_new w 0 0 _).below hb)
  have HB := Lib.hid (below_up (below_box w _) hb (by simp))
  clear hb
  go_wp2_with fail
  refine (share_any 0 1 (by decide) (by decide) (by decide) (by decide) _).mono ?_
  rw [shr_01]
  rintro e w2 ⟨rfl, hb⟩
  have R2 := R.out.below hb
  have HB2 := Lib.hid (below_up HB.out hb HB.out.size)
  have r0 := R2.c0
  have r1 := R2.c1
  have f0 := R2.f0
  have f1 := R2.f1
  clear hb R2
  go_wp2_with fail
  refine bodyPost_ret (v := rat (0, 1)) (by simp [results, Tryz.results18, go_sem, r0, r1]) rfl ?_
  exact ⟨rfl, below_two HB2.out (Nat.le_refl _)⟩

set_option maxRecDepth 100000 in
set_option maxHeartbeats 800000 in
theorem near_ok (a b t : Int) (h : okTol t = true) (ha0 : -9223372036854775808 ≤ a) (ha1 : a ≤ 9223372036854775807) (hb0 : -9223372036854775808 ≤ b) (hb1 : b ≤ 9223372036854775807) (w : World) :
    Calls Tryz.prog 18 #[.int .i64 a, .int .i64 b, .int .i64 t] w fun e w' => e = .returned (rat (shr (t + 1 - min (gap a b) (t + 1)) (t + 1))) ∧ Below w.heap.size w w' := by
  have HO := Lib.hid h
  obtain ⟨t0, t1⟩ := okTol_iff.1 h
  clear h
  have g0 := gap_nonneg a b
  have g1 : gap a b < 18446744073709551616 := by unfold gap; omega
  obtain ⟨m, hm⟩ : ∃ m, min (gap a b) (t + 1) = m := ⟨_, rfl⟩
  have HM := Lib.hid hm
  have m0 : 0 ≤ m := by omega
  have m1 : m ≤ t + 1 := by omega
  rw [hm]
  clear hm
  rcases Int.lt_trichotomy a b with hab | hab | hab
  · have hw : IntKind.u64.wrap (IntKind.u64.wrap b - IntKind.u64.wrap a) = gap a b := by simp only [IntKind.wrap_u64]; unfold gap; omega
    have ht : IntKind.u64.wrap (t + 1) = t + 1 := by simp only [IntKind.wrap_u64]; omega
    clear ha0 ha1 hb0 hb1
    go_enter Tryz.func18, Tryz.ntmps18
    go_wp2_with fail
    refine (okTol_any t _).mono ?_
    rw [HO.out]
    rintro e w1 ⟨rfl, hb⟩
    have R := Lib.hid ((own2_new w 0 0 _).below hb)
    have HB := Lib.hid (below_up (below_box w _) hb (by simp))
    clear hb
    go_wp2_with fail
    refine (leastU_new _ _ _).mono ?_
    rintro e w2 ⟨rfl, hw2⟩
    have hb : Below w1.heap.size w1 w2 := by rw [hw2]; go_grown
    have R := Lib.hid (R.out.below hb)
    have HB := Lib.hid (below_up HB.out hb HB.out.size)
    clear hb hw2
    rw [HM.out]
    go_wp2_with fail
    refine (share_any (t + 1 - m) (t + 1) (by omega) (by omega) (by omega) (by omega) _).mono ?_
    rintro e w3 ⟨rfl, hb⟩
    have R2 := R.out.below hb
    have HB2 := Lib.hid (below_up HB.out hb HB.out.size)
    have r0 := R2.c0
    have r1 := R2.c1
    have f0 := R2.f0
    have f1 := R2.f1
    clear hb R2
    obtain ⟨r, hr⟩ : ∃ r, shr (t + 1 - m) (t + 1) = r := ⟨_, rfl⟩
    rw [hr]
    go_wp2_with fail
    refine bodyPost_ret (v := rat r) (by simp [results, Tryz.results18, go_sem, r0, r1]) rfl ?_
    exact ⟨rat_ret hr.symm, below_two HB2.out (Nat.le_refl _)⟩
  · subst hab
    replace HM := Lib.hid (show min 0 (t + 1) = m by rw [← gap_self a]; exact HM.out)
    have hw : IntKind.u64.wrap (IntKind.u64.wrap a - IntKind.u64.wrap a) = gap a a := by simp only [IntKind.wrap_u64]; unfold gap; omega
    have ht : IntKind.u64.wrap (t + 1) = t + 1 := by simp only [IntKind.wrap_u64]; omega
    clear ha0 ha1 hb0 hb1
    go_enter Tryz.func18, Tryz.ntmps18
    go_wp2_with fail
    refine (okTol_any t _).mono ?_
    rw [HO.out]
    rintro e w1 ⟨rfl, hb⟩
    have R := Lib.hid ((own2_new w 0 0 _).below hb)
    have HB := Lib.hid (below_up (below_box w _) hb (by simp))
    clear hb
    go_wp2_with fail
    refine (leastU_new _ _ _).mono ?_
    rintro e w2 ⟨rfl, hw2⟩
    have hb : Below w1.heap.size w1 w2 := by rw [hw2]; go_grown
    have R := Lib.hid (R.out.below hb)
    have HB := Lib.hid (below_up HB.out hb HB.out.size)
    clear hb hw2
    rw [HM.out]
    go_wp2_with fail
    refine (share_any (t + 1 - m) (t + 1) (by omega) (by omega) (by omega) (by omega) _).mono ?_
    rintro e w3 ⟨rfl, hb⟩
    have R2 := R.out.below hb
    have HB2 := Lib.hid (below_up HB.out hb HB.out.size)
    have r0 := R2.c0
    have r1 := R2.c1
    have f0 := R2.f0
    have f1 := R2.f1
    clear hb R2
    obtain ⟨r, hr⟩ : ∃ r, shr (t + 1 - m) (t + 1) = r := ⟨_, rfl⟩
    rw [hr]
    go_wp2_with fail
    refine bodyPost_ret (v := rat r) (by simp [results, Tryz.results18, go_sem, r0, r1]) rfl ?_
    exact ⟨rat_ret hr.symm, below_two HB2.out (Nat.le_refl _)⟩
  · have hw : IntKind.u64.wrap (IntKind.u64.wrap a - IntKind.u64.wrap b) = gap a b := by simp only [IntKind.wrap_u64]; unfold gap; omega
    have ht : IntKind.u64.wrap (t + 1) = t + 1 := by simp only [IntKind.wrap_u64]; omega
    clear ha0 ha1 hb0 hb1
    go_enter Tryz.func18, Tryz.ntmps18
    go_wp2_with fail
    refine (okTol_any t _).mono ?_
    rw [HO.out]
    rintro e w1 ⟨rfl, hb⟩
    have R := Lib.hid ((own2_new w 0 0 _).below hb)
    have HB := Lib.hid (below_up (below_box w _) hb (by simp))
    clear hb
    go_wp2_with fail
    refine (leastU_new _ _ _).mono ?_
    rintro e w2 ⟨rfl, hw2⟩
    have hb : Below w1.heap.size w1 w2 := by rw [hw2]; go_grown
    have R := Lib.hid (R.out.below hb)
    have HB := Lib.hid (below_up HB.out hb HB.out.size)
    clear hb hw2
    rw [HM.out]
    go_wp2_with fail
    refine (share_any (t + 1 - m) (t + 1) (by omega) (by omega) (by omega) (by omega) _).mono ?_
    rintro e w3 ⟨rfl, hb⟩
    have R2 := R.out.below hb
    have HB2 := Lib.hid (below_up HB.out hb HB.out.size)
    have r0 := R2.c0
    have r1 := R2.c1
    have f0 := R2.f0
    have f1 := R2.f1
    clear hb R2
    obtain ⟨r, hr⟩ : ∃ r, shr (t + 1 - m) (t + 1) = r := ⟨_, rfl⟩
    rw [hr]
    go_wp2_with fail
    refine bodyPost_ret (v := rat r) (by simp [results, Tryz.results18, go_sem, r0, r1]) rfl ?_
    exact ⟨rat_ret hr.symm, below_two HB2.out (Nat.le_refl _)⟩

theorem near_any (a b t : Int) (ha0 : -9223372036854775808 ≤ a) (ha1 : a ≤ 9223372036854775807) (hb0 : -9223372036854775808 ≤ b) (hb1 : b ≤ 9223372036854775807) (w : World) :
    Calls Tryz.prog 18 #[.int .i64 a, .int .i64 b, .int .i64 t] w fun e w' => e = .returned (rat (nearT a b t)) ∧ Below w.heap.size w w' := by
  unfold nearT
  cases h : okTol t
  · exact near_bad a b t h w
  · exact near_ok a b t h ha0 ha1 hb0 hb1 w
end Go.Proofs.YtendkghifcjffaaGreatDoor
