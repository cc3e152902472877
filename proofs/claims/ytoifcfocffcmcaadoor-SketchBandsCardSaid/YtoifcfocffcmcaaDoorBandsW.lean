/- SketchBands in plain words. -/
import Derived.Test.YtoifcfocffcmcaaDoorSkOne
import Derived.Test.YtoifcfocffcmcaaDoorSkKeys
namespace Go.Proofs.YtoifcfocffcmcaaDoor
open Go.RowKit

theorem bands_no {s : List Int} {rows : Int} (h : okB s rows = false) : bandsT s rows = ([], 1) := by unfold bandsT; rw [h]; rfl
/-- The keys of a sketch: none for the empty one. -/
def ks (s : List Int) (n : Nat) : List (List UInt8) := if emp s = true then [] else keysT s n
theorem bands_yes {s : List Int} {n : Nat} (h : okB s (n : Int) = true) : bandsT s (n : Int) = (ks s n, 0) := by unfold bandsT ks; rw [if_pos h, Int.toNat_natCast]

theorem bands_long (a b : List Int) (v u : Value) (rows : Int) (w : World) (ht : Tab w) (h : Ints w v a) (k : Ints w u b) (hl : 100 < a.length) :
    Calls Tryd.prog 7 #[v, u, .int .i64 rows] w fun e w' => e = .returned (.bool true) ∧ Below w.heap.size w w' := by
  obtain ⟨A, cap, ev, hca, _⟩ := h
  obtain ⟨B, cbp, eu, hcb, _⟩ := k
  subst ev eu
  go_enter Tryd.func7, Tryd.ntmps7
  go_wp2_with fail
  refine (head_any w ht).mono ?_
  rintro e w1 ⟨rfl, hb⟩
  go_wp2_with fail
  go_ret
  exact ⟨rfl, hb⟩

theorem bands_apart (a b : List Int) (v u : Value) (rows : Int) (w : World) (ht : Tab w) (h : Ints w v a) (k : Ints w u b) (hl : a.length ≤ 100) (hne : a.length ≠ b.length) :
    Calls Tryd.prog 7 #[v, u, .int .i64 rows] w fun e w' => e = .returned (.bool true) ∧ Below w.heap.size w w' := by
  obtain ⟨A, cap, ev, hca, _⟩ := h
  obtain ⟨B, cbp, eu, hcb, _⟩ := k
  subst ev eu
  have hb1 : ((a.length : Int) != (b.length : Int)) = true := by rw [bne_iff_ne]; omega
  go_enter Tryd.func7, Tryd.ntmps7
  go_wp2_with fail
  refine (head_any w ht).mono ?_
  rintro e w1 ⟨rfl, hb⟩
  go_wp2_with fail
  go_ret
  exact ⟨rfl, hb⟩

theorem bands_bad (a b : List Int) (v u : Value) (rows : Int) (w : World) (ht : Tab w) (h : Ints w v a) (k : Ints w u b) (hr0 : -9223372036854775808 ≤ rows) (hr1 : rows ≤ 9223372036854775807) (hl : a.length ≤ 100) (hle : a.length = b.length) (ha : okB a rows = false) :
    Calls Tryd.prog 7 #[v, u, .int .i64 rows] w fun e w' => e = .returned (.bool true) ∧ Below w.heap.size w w' := by
  have HX := Lib.hid (fun W (hw : Below w.heap.size w W) => bands_any a rows v W (by omega) hr0 hr1 (h.below hw) (ht.below hw))
  have HY := Lib.hid (fun W (hw : Below w.heap.size w W) => bands_any b rows u W (by omega) hr0 hr1 (k.below hw) (ht.below hw))
  rw [bands_no ha] at HX
  obtain ⟨A, cap, ev, hca, _⟩ := h
  obtain ⟨B, cbp, eu, hcb, _⟩ := k
  subst ev eu
  have HLE := Lib.hid hle
  rw [← hle] at HY
  rw [← hle]
  rw [← hle] at hcb
  obtain ⟨m, hm⟩ : ∃ m, a.length = m := ⟨_, rfl⟩
  rw [hm] at HX HY hl hca hcb
  rw [hm]
  clear hm ha
  go_enter Tryd.func7, Tryd.ntmps7
  go_wp2_with fail
  refine (head_any w ht).mono ?_
  rintro e w1 ⟨rfl, hb⟩
  go_wp2_with fail
  refine (HX.out _ hb).mono ?_
  rintro e w2 ⟨x, rfl, hx, hb2⟩
  have HW := Lib.hid (below_up hb hb2 hb.size)
  clear hb hb2
  go_wp2_with fail
  refine (HY.out _ HW.out).mono ?_
  rintro e w3 ⟨y, rfl, hy, hb3⟩
  have HW2 := Lib.hid (below_up HW.out hb3 HW.out.size)
  have HXX := Lib.hid (hx.below hb3)
  have HYY := Lib.hid hy
  clear hx hy hb3
  obtain ⟨A2, c2, ex, hc2, _⟩ := HXX.out
  subst ex
  go_wp2_with fail
  go_ret
  exact ⟨rfl, HW2.out⟩

theorem bands_half (a b : List Int) (v u : Value) (rows : Int) (w : World) (ht : Tab w) (h : Ints w v a) (k : Ints w u b) (hr0 : -9223372036854775808 ≤ rows) (hr1 : rows ≤ 9223372036854775807) (hl : a.length ≤ 100) (hle : a.length = b.length) (ha : okB a rows = true) (hb : okB b rows = false) :
    Calls Tryd.prog 7 #[v, u, .int .i64 rows] w fun e w' => e = .returned (.bool true) ∧ Below w.heap.size w w' := by
  obtain ⟨_, hr, _⟩ := okB_yes ha
  obtain ⟨n, hn⟩ : ∃ n : Nat, rows = (n : Int) := ⟨rows.toNat, by omega⟩
  subst hn
  have HX := Lib.hid (fun W (hw : Below w.heap.size w W) => bands_any a (n : Int) v W (by omega) hr0 hr1 (h.below hw) (ht.below hw))
  have HY := Lib.hid (fun W (hw : Below w.heap.size w W) => bands_any b (n : Int) u W (by omega) hr0 hr1 (k.below hw) (ht.below hw))
  rw [bands_yes ha] at HX
  rw [bands_no hb] at HY
  obtain ⟨A, cap, ev, hca, _⟩ := h
  obtain ⟨B, cbp, eu, hcb, _⟩ := k
  subst ev eu
  have HLE := Lib.hid hle
  rw [← hle] at HY
  rw [← hle]
  rw [← hle] at hcb
  obtain ⟨m, hm⟩ : ∃ m, a.length = m := ⟨_, rfl⟩
  rw [hm] at HX HY hl hca hcb
  rw [hm]
  clear hm ha hb
  go_enter Tryd.func7, Tryd.ntmps7
  go_wp2_with fail
  refine (head_any w ht).mono ?_
  rintro e w1 ⟨rfl, hb⟩
  go_wp2_with fail
  refine (HX.out _ hb).mono ?_
  rintro e w2 ⟨x, rfl, hx, hb2⟩
  have HW := Lib.hid (below_up hb hb2 hb.size)
  clear hb hb2
  go_wp2_with fail
  refine (HY.out _ HW.out).mono ?_
  rintro e w3 ⟨y, rfl, hy, hb3⟩
  have HW2 := Lib.hid (below_up HW.out hb3 HW.out.size)
  have HXX := Lib.hid (hx.below hb3)
  have HYY := Lib.hid hy
  clear hx hy hb3
  go_wp2_with fail
  go_ret
  exact ⟨rfl, HW2.out⟩

theorem bands_empty (a b : List Int) (v u : Value) (rows : Int) (w : World) (ht : Tab w) (h : Ints w v a) (k : Ints w u b) (hr0 : -9223372036854775808 ≤ rows) (hr1 : rows ≤ 9223372036854775807) (hl : a.length ≤ 100) (hle : a.length = b.length) (ha : okB a rows = true) (hb : okB b rows = true) (he : emp a = true) :
    Calls Tryd.prog 7 #[v, u, .int .i64 rows] w fun e w' => e = .returned (.bool true) ∧ Below w.heap.size w w' := by
  obtain ⟨sa, hr, hma⟩ := okB_yes ha
  obtain ⟨sb, _, _⟩ := okB_yes hb
  obtain ⟨n, hn⟩ : ∃ n : Nat, rows = (n : Int) := ⟨rows.toNat, by omega⟩
  subst hn
  have HX := Lib.hid (fun W (hw : Below w.heap.size w W) => bands_any a (n : Int) v W (by omega) hr0 hr1 (h.below hw) (ht.below hw))
  have HY := Lib.hid (fun W (hw : Below w.heap.size w W) => bands_any b (n : Int) u W (by omega) hr0 hr1 (k.below hw) (ht.below hw))
  rw [bands_yes ha] at HX
  rw [bands_yes hb] at HY
  have hka : ks a n = [] := by unfold ks; rw [he]; rfl
  rw [hka] at HX
  obtain ⟨l1, l2⟩ := isSk_len sa
  obtain ⟨b0, o0, cp0, e0, _, x0⟩ := h.block l1
  subst e0
  have c0 := x0 0 l1
  have h0 : a[0] = -1 := by unfold emp at he; rw [headD_get l1] at he; exact of_decide_eq_true he
  rw [h0, Nat.add_zero] at c0
  have HC := Lib.hid c0
  clear x0 c0 h0
  obtain ⟨A, cap, ev, hca, _⟩ := h
  obtain ⟨B, cbp, eu, hcb, _⟩ := k
  subst eu
  injection ev with e1 e2 e3
  subst e1 e3
  clear e2
  rw [← hle] at HY
  rw [← hle]
  obtain ⟨m, hm⟩ : ∃ m, a.length = m := ⟨_, rfl⟩
  rw [hm] at HX HY hl l1
  rw [hm]
  have hm0 : ((m : Int) == 0) = false := by rw [beq_eq_false_iff_ne]; omega
  clear hm ha hb hma hka he l2 hca
  go_enter Tryd.func7, Tryd.ntmps7
  go_wp2_with fail
  refine (head_any w ht).mono ?_
  rintro e w1 ⟨rfl, hb⟩
  go_wp2_with fail
  refine (HX.out _ hb).mono ?_
  rintro e w2 ⟨x, rfl, hx, hb2⟩
  have HW := Lib.hid (below_up hb hb2 hb.size)
  clear hb hb2
  go_wp2_with fail
  refine (HY.out _ HW.out).mono ?_
  rintro e w3 ⟨y, rfl, hy, hb3⟩
  have HW2 := Lib.hid (below_up HW.out hb3 HW.out.size)
  have HXX := Lib.hid (hx.below hb3)
  have HYY := Lib.hid hy
  clear hx hy hb3
  obtain ⟨A2, c2, ex, hc2, _⟩ := HXX.out
  subst ex
  have c0 := cellB HW2.out HC.out
  go_wp2_with fail
  go_loopw [12] (fun x wr => x = .int .i64 0 ∧ Below w.heap.size w wr) (fun _ _ => 0)
  case atStart => exact ⟨by simp, HW2.out⟩
  case round =>
    obtain ⟨rfl, hbw⟩ := hrel
    go_wp2_with fail
    go_ret
    exact ⟨rfl, hbw⟩

/-- What the keys of the second sketch are, against those of the first one. -/
theorem ks_facts {a b : List Int} {n k : Nat} (hn : 0 < n) (ha : a.length = k * n) (hle : a.length = b.length) (pa : ∀ x ∈ a, 0 ≤ x) (sb : isSk b = true) :
    (ks b n).length ≤ k ∧ ∀ i j (_ : i < k) (hj : j < (ks b n).length), (bandK a n i == (ks b n)[j]) = (decide (i = j) && decide ((a.drop (i * n)).take n = (b.drop (j * n)).take n)) := by
  unfold ks
  cases he : emp b
  · rw [if_neg (by decide)]
    have hl := keys_len b hn (by rw [← hle]; exact ha)
    refine ⟨Nat.le_of_eq hl, fun i j hi hj => ?_⟩
    rw [keys_get, ← Bool.decide_and, Bool.eq_iff_iff]
    simp only [beq_iff_eq, decide_eq_true_eq]
    exact (band_eq ha (by rw [← hle]; exact ha) pa (fun x hx => (emp_no sb he x hx).1) hi (by omega))
  · rw [if_pos rfl]
    exact ⟨Nat.zero_le _, fun i j _ hj => absurd hj (by simp)⟩

set_option maxHeartbeats 4000000 in
set_option maxRecDepth 100000 in
theorem bands_full (a b : List Int) (v u : Value) (rows : Int) (w : World) (ht : Tab w) (h : Ints w v a) (k : Ints w u b) (hr0 : -9223372036854775808 ≤ rows) (hr1 : rows ≤ 9223372036854775807) (hl : a.length ≤ 100) (hle : a.length = b.length) (ha : okB a rows = true) (hb : okB b rows = true) (he : emp a = false) :
    Calls Tryd.prog 7 #[v, u, .int .i64 rows] w fun e w' => e = .returned (.bool true) ∧ Below w.heap.size w w' := by
  obtain ⟨sa, hr, hma⟩ := okB_yes ha
  obtain ⟨sb, _, _⟩ := okB_yes hb
  obtain ⟨n, hn⟩ : ∃ n : Nat, rows = (n : Int) := ⟨rows.toNat, by omega⟩
  subst hn
  have HX := Lib.hid (fun W (hw : Below w.heap.size w W) => bands_any a (n : Int) v W (by omega) hr0 hr1 (h.below hw) (ht.below hw))
  have HY := Lib.hid (fun W (hw : Below w.heap.size w W) => bands_any b (n : Int) u W (by omega) hr0 hr1 (k.below hw) (ht.below hw))
  rw [bands_yes ha] at HX
  rw [bands_yes hb] at HY
  have hka : ks a n = keysT a n := by unfold ks; rw [he]; rfl
  rw [hka] at HX
  obtain ⟨l1, l2⟩ := isSk_len sa
  obtain ⟨k0, hk0⟩ : ∃ k0, a.length / n = k0 := ⟨_, rfl⟩
  have hmn : a.length = k0 * n := by
    have h1 : a.length % n = 0 := by exact_mod_cast hma
    have := Nat.div_add_mod a.length n
    rw [h1, hk0, Nat.mul_comm] at this
    omega
  have hq : (a.length : Int) / (n : Int) = (k0 : Int) := by rw [← hk0]; rfl
  have hkm : k0 ≤ a.length := by rw [hmn]; exact Nat.le_mul_of_pos_right k0 (by omega)
  have pa := fun x hx => (emp_no sa he x hx).1
  have hn0 : 0 < n := by omega
  have HKF := Lib.hid (ks_facts hn0 hmn hle pa sb).2
  have HQL := (ks_facts hn0 hmn hle pa sb).1
  have HKS := Lib.hid (fun i j (hi : i < k0) (hj : j < k0) => band_eq hmn hmn pa pa hi hj)
  have HKL := Lib.hid (keys_len a hn0 hmn)
  have hk1 : 1 ≤ k0 := by
    rcases Nat.eq_zero_or_pos k0 with h | h
    · subst h; omega
    · exact h
  obtain ⟨b0, o0, cp0, e0, _, x0⟩ := h.block l1
  subst e0
  have c0 := x0 0 l1
  have p0 := pa _ (List.getElem_mem l1)
  obtain ⟨z0, hz0⟩ : ∃ z, a[0] = z := ⟨_, rfl⟩
  rw [hz0] at c0 p0
  rw [Nat.add_zero] at c0
  have HC := Lib.hid c0
  have HAX := Lib.hid x0
  have HA := Lib.hid h
  have HB := Lib.hid k
  clear x0 c0 hz0 pa
  obtain ⟨A, cap, ev, hca, _⟩ := h
  obtain ⟨B, cbp, eu, hcb, _⟩ := k
  subst eu
  injection ev with e1 e2 e3
  subst e1 e3
  clear e2
  have HLE := Lib.hid hle
  rw [← hle] at HY HB hcb
  rw [← hle]
  obtain ⟨m, hm⟩ : ∃ m, a.length = m := ⟨_, rfl⟩
  have HML := Lib.hid hm
  rw [hm] at HX HY HA HB hl l1 l2 hmn hq hkm hca hcb
  rw [hm]
  have hm0 : ((m : Int) == 0) = false := by rw [beq_eq_false_iff_ne]; omega
  have hk2 : ((k0 : Int) == 0) = false := by rw [beq_eq_false_iff_ne]; omega
  have hk3 : ((k0 : Int) != (k0 : Int)) = false := by simp
  have hz1 : decide (z0 < 0) = false := decide_eq_false (by omega)
  obtain ⟨q, hqq⟩ : ∃ q, (ks b n).length = q := ⟨_, rfl⟩
  have HQQ := Lib.hid hqq
  rw [hqq] at HQL
  have HMN := Lib.hid hmn
  clear hqq hm ha hb hma hka he hk0 hmn hle sa sb
  go_enter Tryd.func7, Tryd.ntmps7
  go_wp2_with fail
  refine (head_any w ht).mono ?_
  rintro e w1 ⟨rfl, hb⟩
  go_wp2_with fail
  refine (HX.out _ hb).mono ?_
  rintro e w2 ⟨x, rfl, hx, hb2⟩
  have HW := Lib.hid (below_up hb hb2 hb.size)
  clear hb hb2
  go_wp2_with fail
  refine (HY.out _ HW.out).mono ?_
  rintro e w3 ⟨y, rfl, hy, hb3⟩
  have HW2 := Lib.hid (below_up HW.out hb3 HW.out.size)
  have HXX := Lib.hid (hx.below hb3)
  have HYY := Lib.hid hy
  clear hx hy hb3
  obtain ⟨A2, c2, ex, hc2, _⟩ := HXX.out
  rw [HKL.out] at ex hc2
  subst ex
  obtain ⟨A3, c3, ey, hc3, _⟩ := HYY.out
  rw [HQQ.out] at ey hc3
  subst ey
  have c0 := cellB HW2.out HC.out
  go_wp2_with fail
  clear c0
  go_loopw [12] (fun x wr => ∃ j : Nat, x = .int .i64 (j : Int) ∧ j ≤ k0 ∧ Below w3.heap.size w3 wr) (fun x _ => k0 + 1 - (intOf x).toNat)
  case atStart => exact ⟨0, by simp, by omega, Below.refl _ _⟩
  case round =>
    obtain ⟨j, rfl, hj, hbw⟩ := hrel
    by_cases hlt : j < k0
    · go_wp2_with fail
      obtain ⟨wo, rfl⟩ : ∃ wo, wo = wr := ⟨_, rfl⟩
      go_loopw [13] (fun x wr => ∃ i : Nat, x = .int .i64 (i : Int) ∧ i ≤ q ∧ Below w3.heap.size w3 wr) (fun x _ => q + 1 - (intOf x).toNat)
      case atStart => exact ⟨0, by simp, by omega, hbw⟩
      case round =>
        clear hbw
        obtain ⟨i, rfl, hi, hbw⟩ := hrel
        have HR := Lib.hid hbw
        by_cases hiq : i < q
        · obtain ⟨-, -, bx, ox, rfl, x1⟩ := (HXX.out.below hbw).spot (by have := HKL.out; omega)
          obtain ⟨-, -, by', oy, rfl, y1⟩ := (HYY.out.below hbw).spot (by have := HQQ.out; omega)
          have cx := x1 j (by have := HKL.out; omega)
          have cy := y1 i (by have := HQQ.out; omega)
          have hk := HKF.out j i hlt (by have := HQQ.out; omega)
          rw [keys_get] at cx
          obtain ⟨X, hX⟩ : ∃ X, bandK a n j = X := ⟨_, rfl⟩
          obtain ⟨Y, hY⟩ : ∃ Y, (ks b n)[i]'(by have := HQQ.out; omega) = Y := ⟨_, rfl⟩
          rw [hX] at cx hk
          rw [hY] at cy hk
          clear x1 y1 hX hY hbw
          by_cases hji : j = i
          · subst hji
            rw [decide_eq_true rfl, Bool.true_and] at hk
            obtain ⟨-, -, bb, ob, rfl, bxx⟩ := HB.out.spot (by have := HML.out; have := HLE.out; omega)
            obtain ⟨t, ht⟩ : ∃ t, j * n = t := ⟨_, rfl⟩
            have htm : t + n ≤ m := by
              have : (j + 1) * n ≤ k0 * n := Nat.mul_le_mul_right n hlt
              rw [Nat.add_mul, Nat.one_mul, ht, ← HMN.out] at this
              exact this
            have he1 : (j : Int) * (n : Int) = (t : Int) := by rw [← ht]; simp
            have he2 : ((j : Int) + 1) * (n : Int) = ((t + n : Nat) : Int) := by rw [Int.add_mul, Int.one_mul, he1]; simp
            rw [ht] at hk
            have HI := Lib.hid (fun (ca cb : Nat) (ha : n ≤ ca) (hb : n ≤ cb) (W : World) (hw : Below wr.heap.size wr W) => ints_ref_q ((a.drop t).take n) ((b.drop t).take n) (.slice (some ⟨b0, o0 + t, none⟩) n ca) (.slice (some ⟨bb, ob + t, none⟩) n cb) W (by simp; have := HML.out; omega)
              ((((Ints.part HAX.out (by have := HML.out; omega) ha).below HW2.out).below HR.out).below hw) ((((Ints.part bxx (by have := HML.out; have := HLE.out; omega) hb).below HW2.out).below HR.out).below hw))
            clear bxx
            obtain ⟨sm, hsm⟩ : ∃ s, decide ((a.drop t).take n = (b.drop t).take n) = s := ⟨_, rfl⟩
            rw [hsm] at hk HI
            have hjj : ((j : Int) == (j : Int)) = true := by simp
            clear ht hsm
            go_wp2_with fail
            go_quiet ((go_at_call 22; exact Calls.quiet_of (HI.out _ _ (by omega) (by omega) _ (by first | exact dN (Below.refl _ _) _ | exact Below.refl _ _))))
            go_wp2_with fail
            cases sm
            all_goals
              go_region
              go_wp2_with fail
              go_roundw
              case rel => exact ⟨j + 1, by simp, by omega, by first | exact dN HR.out _ | exact dN (dN HR.out _) _⟩
              case measure => simp [intOf]; omega
          · have hjj : ((j : Int) == (i : Int)) = false := by rw [beq_eq_false_iff_ne]; omega
            rw [decide_eq_false hji, Bool.false_and] at hk
            go_wp2_with fail
            go_quiet (fail)
            go_wp2_with fail
            go_region
            go_wp2_with fail
            go_roundw
            case rel => exact ⟨i + 1, by simp, by omega, by first | exact dN HR.out _ | exact dN (dN HR.out _) _⟩
            case measure => simp [intOf]; omega
        · go_wp2_with fail
          obtain ⟨wo, rfl⟩ : ∃ wo, wo = wr := ⟨_, rfl⟩
          go_loopw [15] (fun x wr => ∃ i2 : Nat, x = .int .i64 (i2 : Int) ∧ i2 ≤ j ∧ Below w3.heap.size w3 wr) (fun x _ => j + 1 - (intOf x).toNat)
          case atStart => exact ⟨0, by simp, by omega, hbw⟩
          case round =>
            clear hbw HR
            obtain ⟨i2, rfl, hi2, hbw⟩ := hrel
            by_cases hij : i2 < j
            · obtain ⟨-, -, bx, ox, rfl, x1⟩ := (HXX.out.below hbw).spot (by have := HKL.out; omega)
              have cx := x1 j (by have := HKL.out; omega)
              have cy := x1 i2 (by have := HKL.out; omega)
              have hk := HKS.out j i2 hlt (by omega)
              rw [keys_get] at cx cy
              obtain ⟨X, hX⟩ : ∃ X, bandK a n j = X := ⟨_, rfl⟩
              obtain ⟨Y, hY⟩ : ∃ Y, bandK a n i2 = Y := ⟨_, rfl⟩
              rw [hX] at cx hk
              rw [hY] at cy hk
              have hxy : (X == Y) = false := by rw [beq_eq_false_iff_ne]; intro e; have := (hk.1 e).1; omega
              have HR := Lib.hid hbw
              clear x1 hX hY hk hbw
              go_wp2_with fail
              go_region
              go_wp2_with fail
              go_roundw
              case rel => exact ⟨i2 + 1, by simp, by omega, dN HR.out 1⟩
              case measure => simp [intOf]; omega
            · go_wp2_with fail
              go_roundw
              case rel => exact ⟨j + 1, by simp, by omega, hbw⟩
              case measure => simp [intOf]; omega
    · go_wp2_with fail
      go_ret
      exact ⟨rfl, below_up HW2.out hbw HW2.out.size⟩

theorem bands_law (a b : List Int) (v u : Value) (rows : Int) (w : World) (ht : Tab w) (h : Ints w v a) (k : Ints w u b) (hr0 : -9223372036854775808 ≤ rows) (hr1 : rows ≤ 9223372036854775807) :
    Calls Tryd.prog 7 #[v, u, .int .i64 rows] w fun e w' => e = .returned (.bool true) ∧ Below w.heap.size w w' := by
  by_cases hl : 100 < a.length
  · exact bands_long a b v u rows w ht h k hl
  by_cases hne : a.length = b.length
  · cases ha : okB a rows
    · exact bands_bad a b v u rows w ht h k hr0 hr1 (by omega) hne ha
    cases hb : okB b rows
    · exact bands_half a b v u rows w ht h k hr0 hr1 (by omega) hne ha hb
    cases he : emp a
    · exact bands_full a b v u rows w ht h k hr0 hr1 (by omega) hne ha hb he
    · exact bands_empty a b v u rows w ht h k hr0 hr1 (by omega) hne ha hb he
  · exact bands_apart a b v u rows w ht h k (by omega) hne
end Go.Proofs.YtoifcfocffcmcaaDoor
