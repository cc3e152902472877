/- The contracts of least, isSketch, isEmpty, areAlike, Union, Estimate. -/
import Derived.Test.YtoifcfocffcmcaaDoorSkBase
import Derived.Test.YtoifcfocffcmcaaDoorRMake
import Derived.StillTailTactics
namespace Go.Proofs.YtoifcfocffcmcaaDoor
open Go.RowKit

theorem least_any (l : List Int) (v : Value) (w : World) (hl : l.length ≤ 4000) (h : Ints w v l) :
    Calls Tryd.prog 24 #[v] w fun e w' => e = .returned (.int .i64 (least l)) ∧ w' = w := by
  by_cases h0 : l = []
  · subst h0
    obtain ⟨A, cap, rfl, _⟩ := h
    go_enter Tryd.func24, Tryd.ntmps24
    go_wp2_with fail
    go_ret
    exact ⟨rfl, rfl⟩
  · have hp : 0 < l.length := List.length_pos_iff.2 h0
    have C := min_any l v w hp hl h
    rw [least_minOf h0] at C
    obtain ⟨m, hm⟩ : ∃ m, least l = m := ⟨_, rfl⟩
    rw [hm] at C
    rw [hm]
    have HC := Lib.hid C
    clear hm C
    obtain ⟨A, cap, rfl, _⟩ := h
    obtain ⟨k, hk⟩ : ∃ k, l.length = k := ⟨_, rfl⟩
    rw [hk] at hp HC hl
    rw [hk]
    clear hk
    go_enter Tryd.func24, Tryd.ntmps24
    go_wp2_with fail
    refine HC.out.mono ?_
    rintro e w1 ⟨rfl, rfl⟩
    go_wp2_with fail
    go_ret
    exact ⟨rfl, rfl⟩

theorem isSketch_any (l : List Int) (v : Value) (w : World) (hl : l.length ≤ 4000) (h : Ints w v l) :
    Calls Tryd.prog 31 #[v] w fun e w' => e = .returned (.bool (isSk l)) ∧ Below w.heap.size w w' := by
  by_cases hs : l.length < 1 ∨ 64 < l.length
  · rw [isSk_short hs]
    obtain ⟨A, cap, rfl, _⟩ := h
    obtain ⟨k, hk⟩ : ∃ k, l.length = k := ⟨_, rfl⟩
    rw [hk] at hs hl
    rw [hk]
    clear hk
    rcases hs with hs | hs
    · go_enter Tryd.func31, Tryd.ntmps31
      go_wp2_with fail
      go_ret
      exact ⟨rfl, Below.refl _ _⟩
    · go_enter Tryd.func31, Tryd.ntmps31
      go_wp2_with fail
      go_ret
      exact ⟨rfl, Below.refl _ _⟩
  · have h1 : 1 ≤ l.length := by omega
    have h2 : l.length ≤ 64 := by omega
    have C1 := fun W (hb : Below w.heap.size w W) => min_any l v W h1 hl (h.below hb)
    have C2 := fun W (hb : Below w.heap.size w W) => max_any l v W h1 hl (h.below hb)
    have HE := isSk_minmax h1 h2
    obtain ⟨r, hr⟩ : ∃ r, isSk l = r := ⟨_, rfl⟩
    obtain ⟨lo, hlo⟩ : ∃ m, Lib.minOf l = m := ⟨_, rfl⟩
    obtain ⟨hi, hhi⟩ : ∃ m, Lib.maxOf l = m := ⟨_, rfl⟩
    rw [hr, hlo, hhi] at HE
    rw [hlo] at C1
    rw [hhi] at C2
    rw [hr]
    have HC1 := Lib.hid C1
    have HC2 := Lib.hid C2
    have HE' := Lib.hid HE
    clear hr hlo hhi C1 C2 HE
    obtain ⟨A, cap, rfl, _⟩ := h
    obtain ⟨k, hk⟩ : ∃ k, l.length = k := ⟨_, rfl⟩
    rw [hk] at HC1 HC2 hl h1 h2
    rw [hk]
    clear hk hs
    go_enter Tryd.func31, Tryd.ntmps31
    go_wp2_with fail
    refine (HC1.out _ (Below.refl _ _)).mono ?_
    rintro e w1 ⟨rfl, rfl⟩
    go_wp2_with fail
    refine (HC2.out _ (Below.refl _ _)).mono ?_
    rintro e w2 ⟨rfl, rfl⟩
    go_wp2_with fail
    all_goals go_ret
    all_goals exact ⟨bool_ret (by rw [HE'.out, Bool.eq_iff_iff]; simp only [Bool.or_eq_true, Bool.and_eq_true, decide_eq_true_eq, beq_iff_eq, Bool.false_eq_true, eq_self, true_iff, false_iff]; omega), Below.refl _ _⟩

theorem isEmpty_any (l : List Int) (v : Value) (w : World) (h0 : 0 < l.length) (h : Ints w v l) :
    Calls Tryd.prog 26 #[v] w fun e w' => e = .returned (.bool (emp l)) ∧ w' = w := by
  obtain ⟨b, off, cap, rfl, hc, hx⟩ := h.block h0
  have c0 := hx 0 h0
  have HE := Lib.hid (show (l[0] == (-1 : Int)) = emp l by unfold emp; rw [headD_get h0]; rfl)
  rw [Nat.add_zero] at c0
  go_enter Tryd.func26, Tryd.ntmps26
  go_wp2_with fail
  go_ret
  exact ⟨bool_ret HE.out, rfl⟩

theorem areAlike_any (a b : List Int) (v u : Value) (w : World) (ha : a.length ≤ 4000) (hb : b.length ≤ 4000) (h : Ints w v a) (k : Ints w u b) :
    Calls Tryd.prog 25 #[v, u] w fun e w' => e = .returned (.bool (alike a b)) ∧ Below w.heap.size w w' := by
  have HA := Lib.hid (isSketch_any a v w ha h)
  have HK := Lib.hid k
  have HB := Lib.hid (fun W (hw : Below w.heap.size w W) => isSketch_any b u W hb (k.below hw))
  have HE : alike a b = (isSk a && (isSk b && decide (a.length = b.length))) := rfl
  obtain ⟨r, hr⟩ : ∃ r, alike a b = r := ⟨_, rfl⟩
  rw [hr] at HE
  rw [hr]
  clear hr
  obtain ⟨A, cap, rfl, _⟩ := h
  obtain ⟨B, cbp, rfl, _⟩ := k
  obtain ⟨x, hx⟩ : ∃ x, isSk a = x := ⟨_, rfl⟩
  obtain ⟨y, hy⟩ : ∃ x, isSk b = x := ⟨_, rfl⟩
  rw [hx] at HA HE
  rw [hy] at HB HE
  have HE' := Lib.hid HE
  clear HE
  go_enter Tryd.func25, Tryd.ntmps25
  go_wp2_with fail
  refine HA.out.mono ?_
  rintro e w1 ⟨rfl, hb1⟩
  cases x
  · go_wp2_with fail
    go_ret
    exact ⟨bool_ret (by rw [HE'.out]; rfl), hb1⟩
  · go_wp2_with fail
    refine (HB.out _ hb1).mono ?_
    rintro e w2 ⟨rfl, hb2⟩
    have HW := Lib.hid (below_up hb1 hb2 hb1.size)
    cases y
    · go_wp2_with fail
      go_ret
      exact ⟨bool_ret (by rw [HE'.out]; rfl), HW.out⟩
    · go_wp2_with fail
      go_ret
      exact ⟨bool_ret (by rw [HE'.out, Bool.eq_iff_iff]; simp only [Bool.true_and, beq_iff_eq, decide_eq_true_eq]; omega), HW.out⟩

/-- The reply of 'areAlike', if it is yes. -/
theorem alike_yes {a b : List Int} (h : alike a b = true) : isSk a = true ∧ isSk b = true ∧ a.length = b.length := by
  unfold alike at h
  simpa using h

theorem cells_two (w : World) (x y : Value) (T : TypeId) : (w.alloc (.cells #[x, y] T)).cell? ⟨w.heap.size, 0, none⟩ = some x ∧ (w.alloc (.cells #[x, y] T)).cell? ⟨w.heap.size, 1, none⟩ = some y := ⟨by simp [go_sem], by simp [go_sem]⟩
theorem least_two (x y : Int) (b : Nat) (w : World) (h0 : w.cell? ⟨b, 0, none⟩ = some (.int .i64 x)) (h1 : w.cell? ⟨b, 1, none⟩ = some (.int .i64 y)) :
    Calls Tryd.prog 24 #[.slice (some ⟨b, 0, none⟩) 2 2] w fun e w' => e = .returned (.int .i64 (min x y)) ∧ w' = w :=
  least_any [x, y] _ w (by simp) ⟨_, 2, rfl, Nat.le_refl _, (fun e => by cases e), fun i hi => ⟨b, 0, rfl, by
    rcases (show i = 0 ∨ i = 1 by simp at hi; omega) with rfl | rfl
    · exact h0
    · exact h1⟩⟩

theorem union_any (a b : List Int) (v u : Value) (w : World) (ha : a.length ≤ 4000) (hb : b.length ≤ 4000) (h : Ints w v a) (k : Ints w u b) :
    Calls Tryd.prog 14 #[v, u] w (ListPost w (unionT a b)) := by
  have HA := Lib.hid h
  have HK := Lib.hid k
  have HC := Lib.hid (areAlike_any a b v u w ha hb h k)
  cases hal : alike a b
  · have e : unionT a b = ([], 1) := by unfold unionT; rw [hal]; rfl
    rw [e]
    rw [hal] at HC
    go_enter Tryd.func14, Tryd.ntmps14
    go_wp2_with fail
    refine HC.out.mono ?_
    rintro e w1 ⟨rfl, hb1⟩
    go_wp2_with fail
    go_returns
    exact ⟨_, rfl, ints_nil _, hb1⟩
  · obtain ⟨sa, sb, hlen⟩ := alike_yes hal
    obtain ⟨la, _⟩ := isSk_len sa
    obtain ⟨lb, _⟩ := isSk_len sb
    have e : unionT a b = (uniS a b, 0) := by unfold unionT; rw [hal]; rfl
    rw [e]
    rw [hal] at HC
    have HEA := Lib.hid (fun W (hw : Below w.heap.size w W) => isEmpty_any a v W la (h.below hw))
    have HEB := Lib.hid (fun W (hw : Below w.heap.size w W) => isEmpty_any b u W lb (k.below hw))
    cases hea : emp a
    · rw [hea] at HEA
      cases heb : emp b
      · rw [heb] at HEB
        have HU := Lib.hid (show uniS a b = List.zipWith min a b by unfold uniS; rw [hea, heb]; rfl)
        obtain ⟨n, hn⟩ : ∃ n, a.length = n := ⟨_, rfl⟩
        have hnb : b.length = n := by omega
        obtain ⟨A, cap, ev, hca, _⟩ := h
        obtain ⟨B, cbp, eu, hcb, _⟩ := k
        subst ev eu
        have HN := Lib.hid hn
        have HNB := Lib.hid hnb
        rw [hn] at HA HC HEA hca la ha
        rw [hnb] at HK HC HEB hcb lb hb
        rw [hn, hnb]
        clear hn hnb hlen e hal
        obtain ⟨i0, hi, hz0, hz1, hz2⟩ := info_parts infoInt
        go_enter Tryd.func14, Tryd.ntmps14
        go_wp2_with fail
        refine HC.out.mono ?_
        rintro e w1 ⟨rfl, hb1⟩
        go_wp2_with fail
        refine (HEA.out _ hb1).mono ?_
        rintro e w2 ⟨rfl, rfl⟩
        go_wp2_with fail
        refine (HEB.out _ hb1).mono ?_
        rintro e w2 ⟨rfl, rfl⟩
        go_wp2_with (at_make; refine wpList_make_full _ rfl _ _ 23 rfl w2.heap.size 3 i0 (.int .i64 0) 1 Tryd.underlying23 hi hz0 hz1 .i64 .i64 _ _ n rfl rfl rfl rfl (by rw [hz2]; omega) (by unfold maxLen; omega) (Nat.le_refl _) ?_)
        intro w3 hown hg3
        have HO := Lib.hid (row_made ((List.zipWith min a b).map (Value.int .i64)) hown).1
        have HC3 := Lib.hid (below_up hb1 ((Below.refl w2.heap.size w2).grown hg3 (Nat.le_refl _) (fun k e => by cases e)) hb1.size)
        have hgs := Lib.hid hb1.size
        clear hown hg3 hi hz0 hz1 hz2 hb1 HC HEA HEB
        obtain ⟨g, hgg⟩ : ∃ g, w2.heap.size = g := ⟨_, rfl⟩
        rw [hgg] at HO hgs
        rw [hgg]
        clear hgg
        go_wp2_with fail
        go_loopw [25] (fun x wr => ∃ j : Nat, x = .int .i64 (j : Int) ∧ j ≤ n ∧ Row wr 3 g n (fillT ((List.zipWith min a b).map (Value.int .i64)) (.int .i64 0) j) ∧ Below w.heap.size w wr) (fun x _ => n + 1 - (intOf x).toNat)
        case atStart => exact ⟨0, by simp, by omega, HO.out, HC3.out⟩
        case round =>
          clear HO HC3
          obtain ⟨j, rfl, hj, ho, hbw⟩ := hrel
          have HO := Lib.hid ho
          have HW := Lib.hid hbw
          clear ho hbw
          by_cases hlt : j < n
          · obtain ⟨-, -, b1, o1, rfl, x1⟩ := (HA.out.below HW.out).spot (by have := HN.out; omega)
            obtain ⟨-, -, b2, o2, rfl, x2⟩ := (HK.out.below HW.out).spot (by have := HNB.out; omega)
            have c1 := x1 j (by have := HN.out; omega)
            have c2 := x2 j (by have := HNB.out; omega)
            clear x1 x2
            have hz : ((List.zipWith min a b).map (Value.int .i64))[j]'(by simp; have := HN.out; have := HNB.out; omega) = .int .i64 (min (a[j]'(by have := HN.out; omega)) (b[j]'(by have := HNB.out; omega))) := by simp
            obtain ⟨x, hx⟩ : ∃ x, a[j]'(by have := HN.out; omega) = x := ⟨_, rfl⟩
            obtain ⟨y, hy⟩ : ∃ y, b[j]'(by have := HNB.out; omega) = y := ⟨_, rfl⟩
            rw [hx] at c1
            rw [hy] at c2
            rw [hx, hy] at hz
            have HZ := Lib.hid hz
            clear hx hy hz
            have f0 : ∀ (k : Nat) (o : Obj), ((wr.drewN k).alloc o).frozen? ⟨g, j, none⟩ = false := fun k o => ((HO.out.below (below_drewN _ wr k)).below (below_box _ o)).free j
            have c0 : ∀ (k : Nat) (o : Obj), ((wr.drewN k).alloc o).cell? ⟨g, j, none⟩ = some (fillT ((List.zipWith min a b).map (Value.int .i64)) (.int .i64 0) j j) := fun k o => ((HO.out.below (below_drewN _ wr k)).below (below_box _ o)).cell hlt
            have HS := Lib.hid (fun (W : World) (hW : Below wr.heap.size wr W) => show Row (W.setCell ⟨g, j, none⟩ (.int .i64 (min x y))) 3 g n (fillT ((List.zipWith min a b).map (Value.int .i64)) (.int .i64 0) (j + 1)) from by rw [← HZ.out]; exact (HO.out.below hW).fill (by simp; have := HN.out; have := HNB.out; omega))
            have L : ∀ (k : Nat), Calls Tryd.prog 24 #[.slice (some ⟨wr.heap.size, 0, none⟩) 2 2] ((wr.drewN k).alloc (.cells #[.int .i64 x, .int .i64 y] 3)) fun e w' => e = .returned (.int .i64 (min x y)) ∧ w' = (wr.drewN k).alloc (.cells #[.int .i64 x, .int .i64 y] 3) :=
              fun k => least_two x y _ _ (cells_two (wr.drewN k) _ _ _).1 (cells_two (wr.drewN k) _ _ _).2
            go_wp2_with fail
            go_region_with (go_at_call 24; refine (L _).mono ?_; rintro e w4 ⟨rfl, rfl⟩)
            all_goals
              go_wp2_with fail
              go_roundw
              case rel => exact ⟨j + 1, by simp, by omega, HS.out _ ((dN (Below.refl _ wr) 1).alloc (Nat.le_refl _) _), ((dN HW.out 1).alloc HW.out.size _).setCell hgs.out _⟩
              case measure => simp [intOf]; omega
          · have hjn : j = n := by omega
            subst hjn
            go_wp2_with fail
            go_returns
            exact ⟨_, rfl, by rw [HU.out]; exact HO.out.ints (by simp; have := HN.out; have := HNB.out; omega), HW.out⟩
      · rw [heb] at HEB
        have HU := Lib.hid (show uniS a b = a by unfold uniS; rw [hea, heb]; rfl)
        have HL := Lib.hid (fun W (hw : Below w.heap.size w W) => clone_any a v W la ha (h.below hw))
        go_enter Tryd.func14, Tryd.ntmps14
        go_wp2_with fail
        refine HC.out.mono ?_
        rintro e w1 ⟨rfl, hb1⟩
        go_wp2_with fail
        refine (HEA.out _ hb1).mono ?_
        rintro e w2 ⟨rfl, rfl⟩
        go_wp2_with fail
        refine (HEB.out _ hb1).mono ?_
        rintro e w2 ⟨rfl, rfl⟩
        go_wp2_with fail
        refine (HL.out _ hb1).mono ?_
        rintro e w3 ⟨v', rfl, hi, hb3⟩
        go_wp2_with fail
        go_returns
        exact ⟨_, rfl, by rw [HU.out]; exact hi, below_up hb1 hb3 hb1.size⟩
    · rw [hea] at HEA
      have HU := Lib.hid (show uniS a b = b by unfold uniS; rw [hea]; rfl)
      have HL := Lib.hid (fun W (hw : Below w.heap.size w W) => clone_any b u W lb hb (k.below hw))
      go_enter Tryd.func14, Tryd.ntmps14
      go_wp2_with fail
      refine HC.out.mono ?_
      rintro e w1 ⟨rfl, hb1⟩
      go_wp2_with fail
      refine (HEA.out _ hb1).mono ?_
      rintro e w2 ⟨rfl, rfl⟩
      go_wp2_with fail
      refine (HL.out _ hb1).mono ?_
      rintro e w3 ⟨v', rfl, hi, hb3⟩
      go_wp2_with fail
      go_returns
      exact ⟨_, rfl, by rw [HU.out]; exact hi, below_up hb1 hb3 hb1.size⟩
end Go.Proofs.YtoifcfocffcmcaaDoor
