/- The reference's divisor and Estimate. -/
import Derived.Test.YtoifcfocffcmcaaDoorSkRefB
namespace Go.Proofs.YtoifcfocffcmcaaDoor
open Go.RowKit

theorem divisor_ref (a b : Nat) (ha : a ≤ 1000) (hb : b ≤ 1000) (w : World) :
    Calls Tryd.prog 30 #[.int .i64 (a : Int), .int .i64 (b : Int)] w fun e w' => e = .returned (.int .i64 (Nat.gcd a b : Int)) ∧ Below w.heap.size w w' := by
  obtain ⟨g, hg⟩ : ∃ g, Nat.gcd a b = g := ⟨_, rfl⟩
  rw [hg]
  have HG := Lib.hid hg
  clear hg
  go_enter Tryd.func30, Tryd.ntmps30
  go_wp2_with fail
  go_loopw [0, 1] (fun d n wr => ∃ e m : Nat, d = .int .i64 (e : Int) ∧ n = .int .i64 (m : Int) ∧ Nat.gcd e m = g ∧ e ≤ 1000 ∧ m ≤ 1000 ∧ ∃ q, wr = w.drewN q) (fun d _ _ => (intOf d).toNat)
  case atStart => exact ⟨a, b, rfl, rfl, HG.out, ha, hb, 0, rfl⟩
  case round =>
    obtain ⟨e, m, rfl, rfl, hg, he, hm, q2, rfl⟩ := hrel
    have HG := Lib.hid hg
    clear hg
    by_cases h0 : e = 0
    · subst h0
      go_wp2_with fail
      go_ret
      exact ⟨ret_int (by rw [← HG.out]; simp), below_drewN _ _ _⟩
    · have hp : 0 < e := by omega
      have hml : m % e < e := Nat.mod_lt m hp
      have HS := Lib.hid (show Nat.gcd (m % e) e = g from (Nat.gcd_rec e m).symm.trans HG.out)
      have htm : (m : Int).tmod (e : Int) = ((m % e : Nat) : Int) := by rw [Int.tmod_eq_emod_of_nonneg (by omega)]; simp
      obtain ⟨r, hr⟩ : ∃ r, m % e = r := ⟨_, rfl⟩
      rw [hr] at hml HS htm
      clear hr h0
      go_wp2_with fail
      go_roundw
      case rel => exact ⟨r, e, rfl, rfl, HS.out, by omega, by omega, _, rfl⟩
      case measure => simp [intOf]; omega
/-- What an estimate is. -/
theorem est_parts {a b : List Int} (h : alike a b = true) {g : Nat} (hg : Nat.gcd (eqN a b) a.length = g) : estT a b = (((eqN a b / g : Nat) : Int), ((a.length / g : Nat) : Int), 0) := by
  obtain ⟨sa, sb, hl⟩ := alike_yes h
  obtain ⟨l1, l2⟩ := isSk_len sa
  have hle : eqN a b ≤ a.length := eqK_le a b a.length
  unfold estT
  rw [if_pos h]
  unfold L1.mk
  rw [if_neg (by omega)]
  simp only [Int.natAbs_natCast, hg]
  have h1 : eqN a b / g ≤ 64 := Nat.le_trans (Nat.div_le_self _ _) (by omega)
  have h2 : a.length / g ≤ 64 := Nat.le_trans (Nat.div_le_self _ _) l2
  rw [if_pos (by omega), if_pos (by omega)]

set_option maxHeartbeats 3200000 in
theorem est_ref (a b : List Int) (v u : Value) (w : World) (ha : a.length ≤ 4000) (hb : b.length ≤ 4000) (h : Ints w v a) (k : Ints w u b) :
    Calls Tryd.prog 17 #[v, u] w (L1.RatioPost w (estT a b)) := by
  have HA := Lib.hid h
  have HK := Lib.hid k
  have HVA := Lib.hid (fun W (hw : Below w.heap.size w W) => valid_ref a v W ha (h.below hw))
  have HVB := Lib.hid (fun W (hw : Below w.heap.size w W) => valid_ref b u W hb (k.below hw))
  have HE : alike a b = (isSk a && (isSk b && decide (a.length = b.length))) := rfl
  obtain ⟨A, cap, ev, hca, _⟩ := h
  obtain ⟨B, cbp, eu, hcb, _⟩ := k
  subst ev eu
  cases hal : alike a b
  · have e : estT a b = (0, 0, 1) := by unfold estT; rw [hal]; rfl
    rw [e]
    rw [hal] at HE
    cases sa : isSk a
    · rw [sa] at HVA
      clear HE e
      go_enter Tryd.func17, Tryd.ntmps17
      go_wp2_with fail
      refine (HVA.out _ (below_box _ _)).mono ?_
      rintro e w1 ⟨rfl, hb1⟩
      have R := (own2_new w 0 0 _).below hb1
      have HB := Lib.hid (below_up (below_box w _) hb1 (by simp))
      have r0 := R.c0; have r1 := R.c1; have f0 := R.f0; have f1 := R.f1
      clear hb1 R
      go_wp2_with fail
      refine bodyPost_ret (v := .tuple #[.agg #[.int .i64 0, .int .i64 0], .int .i64 1]) (by simp [results, Tryd.results17, go_sem, r0, r1]) rfl ?_
      exact ⟨rfl, below_two HB.out (Nat.le_refl _)⟩
    have hrest : isSk b = false ∨ (isSk b = true ∧ ((a.length : Int) != (b.length : Int)) = true) := by
      cases sb : isSk b
      · exact Or.inl rfl
      · refine Or.inr ⟨rfl, ?_⟩
        rw [sa, sb] at HE
        have : a.length ≠ b.length := by simpa using HE.symm
        rw [bne_iff_ne]; omega
    rw [sa] at HVA
    clear HE e
    rcases hrest with sb | ⟨sb, hne⟩
    · rw [sb] at HVB
      go_enter Tryd.func17, Tryd.ntmps17
      go_wp2_with fail
      refine (HVA.out _ (below_box _ _)).mono ?_
      rintro e w1 ⟨rfl, hb1⟩
      have HR := Lib.hid ((own2_new w 0 0 _).below hb1)
      have HB := Lib.hid (below_up (below_box w _) hb1 (by simp))
      clear hb1
      go_wp2_with fail
      refine (HVB.out _ HB.out).mono ?_
      rintro e w2 ⟨rfl, hb2⟩
      have R := HR.out.below hb2
      have HB2 := Lib.hid (below_up HB.out hb2 HB.out.size)
      have r0 := R.c0; have r1 := R.c1; have f0 := R.f0; have f1 := R.f1
      clear hb2 R
      go_wp2_with fail
      refine bodyPost_ret (v := .tuple #[.agg #[.int .i64 0, .int .i64 0], .int .i64 1]) (by simp [results, Tryd.results17, go_sem, r0, r1]) rfl ?_
      exact ⟨rfl, below_two HB2.out (Nat.le_refl _)⟩
    · rw [sb] at HVB
      go_enter Tryd.func17, Tryd.ntmps17
      go_wp2_with fail
      refine (HVA.out _ (below_box _ _)).mono ?_
      rintro e w1 ⟨rfl, hb1⟩
      have HR := Lib.hid ((own2_new w 0 0 _).below hb1)
      have HB := Lib.hid (below_up (below_box w _) hb1 (by simp))
      clear hb1
      go_wp2_with fail
      refine (HVB.out _ HB.out).mono ?_
      rintro e w2 ⟨rfl, hb2⟩
      have R := HR.out.below hb2
      have HB2 := Lib.hid (below_up HB.out hb2 HB.out.size)
      have r0 := R.c0; have r1 := R.c1; have f0 := R.f0; have f1 := R.f1
      clear hb2 R
      go_wp2_with fail
      refine bodyPost_ret (v := .tuple #[.agg #[.int .i64 0, .int .i64 0], .int .i64 1]) (by simp [results, Tryd.results17, go_sem, r0, r1]) rfl ?_
      exact ⟨rfl, below_two HB2.out (Nat.le_refl _)⟩
  · obtain ⟨sa, sb, hlen⟩ := alike_yes hal
    obtain ⟨la, la2⟩ := isSk_len sa
    obtain ⟨g, hg⟩ : ∃ g, Nat.gcd (eqN a b) a.length = g := ⟨_, rfl⟩
    have gp : 0 < g := by rw [← hg]; exact Nat.gcd_pos_of_pos_right _ la
    have hq : eqN a b ≤ a.length := eqK_le a b a.length
    have HR := Lib.hid (est_parts hal hg)
    have HD := Lib.hid (fun W => divisor_ref (eqN a b) a.length (by omega) (by omega) W)
    rw [hg] at HD
    rw [sa] at HVA
    rw [sb] at HVB
    have HQ := Lib.hid (show eqN a b = eqK a b a.length from rfl)
    obtain ⟨n, hn⟩ : ∃ n, a.length = n := ⟨_, rfl⟩
    have hnb : b.length = n := by omega
    have hbne : ((n : Int) != (n : Int)) = false := by simp
    have HN := Lib.hid hn
    have HNB := Lib.hid hnb
    rw [hn] at HA HVA HR HD HQ hca la la2 ha hq
    rw [hnb] at HK HVB hcb hb
    rw [hn, hnb]
    clear hn hnb hlen hal sa sb HE hg
    go_enter Tryd.func17, Tryd.ntmps17
    go_wp2_with fail
    refine (HVA.out _ (below_box _ _)).mono ?_
    rintro e w1 ⟨rfl, hb1⟩
    have HO := Lib.hid ((own2_new w 0 0 _).below hb1)
    have HB := Lib.hid (below_up (below_box w _) hb1 (by simp))
    clear hb1
    go_wp2_with fail
    refine (HVB.out _ HB.out).mono ?_
    rintro e w2 ⟨rfl, hb2⟩
    have HO2 := Lib.hid (HO.out.below hb2)
    have HB2 := Lib.hid (below_up HB.out hb2 HB.out.size)
    clear hb2 HO HB
    go_wp2_with fail
    go_loopw [6, 7] (fun c x wr => ∃ j : Nat, x = .int .i64 (j : Int) ∧ c = .int .i64 (eqK a b j : Int) ∧ j ≤ n ∧ Own2 wr w.heap.size 0 0 ∧ Below w.heap.size w wr) (fun _ x _ => n + 1 - (intOf x).toNat)
    case atStart => exact ⟨0, by simp, by simp [eqK_zero], by omega, HO2.out, HB2.out⟩
    case round =>
      clear HO2 HB2
      obtain ⟨j, rfl, rfl, hj, ho, hbw⟩ := hrel
      have HO := Lib.hid ho
      have HB := Lib.hid hbw
      clear ho hbw
      by_cases hlt : j < n
      · obtain ⟨-, -, b1, o1, rfl, x1⟩ := (HA.out.below HB.out).spot (by have := HN.out; omega)
        obtain ⟨-, -, b2, o2, rfl, x2⟩ := (HK.out.below HB.out).spot (by have := HNB.out; omega)
        have c1 := x1 j (by have := HN.out; omega)
        have c2 := x2 j (by have := HNB.out; omega)
        clear x1 x2
        have hq := eqK_succ a b j
        have hle := eqK_le a b j
        rw [show a.getD j 0 = a[j]'(by have := HN.out; omega) by simp [List.getD, show j < a.length by have := HN.out; omega], show b.getD j 0 = b[j]'(by have := HNB.out; omega) by simp [List.getD, show j < b.length by have := HNB.out; omega]] at hq
        obtain ⟨x, hx⟩ : ∃ x, a[j]'(by have := HN.out; omega) = x := ⟨_, rfl⟩
        obtain ⟨y, hy⟩ : ∃ y, b[j]'(by have := HNB.out; omega) = y := ⟨_, rfl⟩
        rw [hx] at c1
        rw [hy] at c2
        rw [hx, hy] at hq
        have HQ2 := Lib.hid hq
        clear hx hy hq
        obtain ⟨q, hqq⟩ : ∃ q, eqK a b j = q := ⟨_, rfl⟩
        rw [hqq] at HQ2 hle
        rw [hqq]
        clear hqq
        by_cases hxy : x = y
        · subst hxy
          go_wp2_with fail
          go_region
          go_wp2_with fail
          go_roundw
          case rel => exact ⟨j + 1, by simp, by rw [HQ2.out]; simp, by omega, HO.out.below (below_drewN _ _ 1), dN HB.out 1⟩
          case measure => simp [intOf]; omega
        · have hb1 : (x == y) = false := by simpa using hxy
          go_wp2_with fail
          go_region
          go_wp2_with fail
          go_roundw
          case rel => exact ⟨j + 1, by simp, by rw [HQ2.out, if_neg hxy]; simp, by omega, HO.out.below (below_drewN _ _ 1), dN HB.out 1⟩
          case measure => simp [intOf]; omega
      · have hjn : j = n := by omega
        subst hjn
        rw [← HQ.out]
        obtain ⟨q, hqq⟩ : ∃ q, eqN a b = q := ⟨_, rfl⟩
        rw [hqq] at HD HR hq
        rw [hqq]
        have t1 : (q : Int).tdiv (g : Int) = ((q / g : Nat) : Int) := by rw [Int.tdiv_eq_ediv_of_nonneg (by omega)]; simp
        have t2 : (j : Int).tdiv (g : Int) = ((j / g : Nat) : Int) := by rw [Int.tdiv_eq_ediv_of_nonneg (by omega)]; simp
        have d1 : q / g ≤ 64 := Nat.le_trans (Nat.div_le_self _ _) (by omega)
        have d2 : j / g ≤ 64 := Nat.le_trans (Nat.div_le_self _ _) (by omega)
        obtain ⟨s, hs⟩ : ∃ s, q / g = s := ⟨_, rfl⟩
        obtain ⟨t, ht⟩ : ∃ s, j / g = s := ⟨_, rfl⟩
        rw [hs] at t1 d1 HR
        rw [ht] at t2 d2 HR
        clear hs ht hqq HQ
        go_wp2_with fail
        refine (HD.out _).mono ?_
        rintro e w3 ⟨rfl, hb3⟩
        have R2 := HO.out.below hb3
        have HB2 := below_up HB.out hb3 HB.out.size
        have r0 := R2.c0; have r1 := R2.c1; have f0 := R2.f0; have f1 := R2.f1
        clear hb3 R2
        go_wp2_with fail
        go_region
        go_wp2_with fail
        refine bodyPost_ret (v := .tuple #[.agg #[.int .i64 (s : Int), .int .i64 (t : Int)], .int .i64 0]) (by simp [results, Tryd.results17, go_sem, r0, r1]) rfl ?_
        exact ⟨by rw [HR.out], below_two (dN HB2 1) (Nat.le_refl _)⟩
end Go.Proofs.YtoifcfocffcmcaaDoor
