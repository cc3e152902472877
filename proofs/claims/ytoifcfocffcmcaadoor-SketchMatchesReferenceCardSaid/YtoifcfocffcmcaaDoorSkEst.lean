/- The contract of Estimate. -/
import Derived.Test.YtoifcfocffcmcaaDoorSkUnion
namespace Go.Proofs.YtoifcfocffcmcaaDoor
open Go.RowKit

/-- What Estimate returns. -/
def estT (a b : List Int) : Int × Int × Int := if alike a b = true then L1.mk (eqN a b : Int) (a.length : Int) else (0, 0, 1)

set_option maxHeartbeats 1600000 in
theorem est_any (a b : List Int) (v u : Value) (w : World) (ha : a.length ≤ 4000) (hb : b.length ≤ 4000) (h : Ints w v a) (k : Ints w u b) :
    Calls Tryd.prog 16 #[v, u] w (L1.RatioPost w (estT a b)) := by
  have HA := Lib.hid h
  have HK := Lib.hid k
  have HC := Lib.hid (fun W (hw : Below w.heap.size w W) => areAlike_any a b v u W ha hb (h.below hw) (k.below hw))
  cases hal : alike a b
  · have e : estT a b = (0, 0, 1) := by unfold estT; rw [hal]; rfl
    rw [e]
    rw [hal] at HC
    go_enter Tryd.func16, Tryd.ntmps16
    go_wp2_with fail
    refine (HC.out _ (below_box _ _)).mono ?_
    rintro e w1 ⟨rfl, hb1⟩
    have R := (own2_new w 0 0 _).below hb1
    have HB := Lib.hid (below_up (below_box w _) hb1 (by simp))
    have r0 := R.c0; have r1 := R.c1; have f0 := R.f0; have f1 := R.f1
    clear hb1 R
    go_wp2_with fail
    refine bodyPost_ret (v := .tuple #[.agg #[.int .i64 0, .int .i64 0], .int .i64 1]) (by simp [results, Tryd.results16, go_sem, r0, r1]) rfl ?_
    exact ⟨rfl, below_two HB.out (Nat.le_refl _)⟩
  · obtain ⟨sa, sb, hlen⟩ := alike_yes hal
    obtain ⟨la, la2⟩ := isSk_len sa
    have HM := Lib.hid (fun W => L1.make_any (eqN a b : Int) (a.length : Int) W (by omega) (by have := eqK_le a b a.length; unfold eqN; omega) (by omega) (by omega))
    have e : estT a b = L1.mk (eqN a b : Int) (a.length : Int) := by unfold estT; rw [hal]; rfl
    rw [e]
    rw [hal] at HC
    obtain ⟨r, hr⟩ : ∃ r, L1.mk (eqN a b : Int) (a.length : Int) = r := ⟨_, rfl⟩
    rw [hr] at HM ⊢
    have HE := Lib.hid (show eqN a b = eqK a b a.length from rfl)
    obtain ⟨n, hn⟩ : ∃ n, a.length = n := ⟨_, rfl⟩
    have hnb : b.length = n := by omega
    obtain ⟨A, cap, ev, hca, _⟩ := h
    obtain ⟨B, cbp, eu, hcb, _⟩ := k
    subst ev eu
    have HN := Lib.hid hn
    have HNB := Lib.hid hnb
    rw [hn] at HA HC HM HE hca la la2 ha
    rw [hnb] at HK HC hcb hb
    rw [hn, hnb]
    clear hn hnb hlen e hal hr sa sb
    go_enter Tryd.func16, Tryd.ntmps16
    go_wp2_with fail
    refine (HC.out _ (below_box _ _)).mono ?_
    rintro e w1 ⟨rfl, hb1⟩
    have HR := Lib.hid ((own2_new w 0 0 _).below hb1)
    have HB := Lib.hid (below_up (below_box w _) hb1 (by simp))
    clear hb1
    go_wp2_with fail
    go_loopw [6, 15] (fun c x wr => ∃ j : Nat, x = .int .i64 (j : Int) ∧ c = .int .i64 (eqK a b j : Int) ∧ j ≤ n ∧ Own2 wr w.heap.size 0 0 ∧ Below w.heap.size w wr) (fun _ x _ => n + 1 - (intOf x).toNat)
    case atStart => exact ⟨0, by simp, by simp [eqK_zero], by omega, HR.out, HB.out⟩
    case round =>
      clear HR HB
      obtain ⟨j, rfl, rfl, hj, ho, hbw⟩ := hrel
      have HR := Lib.hid ho
      have HB := Lib.hid hbw
      clear ho hbw
      by_cases hlt : j < n
      · obtain ⟨-, -, b1, o1, rfl, x1⟩ := (HA.out.below HB.out).spot (by have := HN.out; omega)
        obtain ⟨-, -, b2, o2, rfl, x2⟩ := (HK.out.below HB.out).spot (by have := HNB.out; omega)
        have c1 := x1 j (by have := HN.out; omega)
        have c2 := x2 j (by have := HNB.out; omega)
        clear x1 x2
        have hq := eqK_succ a b j
        have hle := eqK_le a b j
        rw [show a.getD j 0 = a[j]'(by have := HN.out; omega) by simp [List.getD, show j < a.length by have := HN.out; omega], show b.getD j 0 = b[j]'(by have := HNB.out; omega) by simp [List.getD, show j < b.length by have := HNB.out; omega]] at hq
        obtain ⟨x, hx⟩ : ∃ x, a[j]'(by have := HN.out; omega) = x := ⟨_, rfl⟩
        obtain ⟨y, hy⟩ : ∃ y, b[j]'(by have := HNB.out; omega) = y := ⟨_, rfl⟩
        rw [hx] at c1
        rw [hy] at c2
        rw [hx, hy] at hq
        have HQ := Lib.hid hq
        clear hx hy hq
        obtain ⟨q, hqq⟩ : ∃ q, eqK a b j = q := ⟨_, rfl⟩
        rw [hqq] at HQ hle
        rw [hqq]
        clear hqq
        by_cases hxy : x = y
        · subst hxy
          go_wp2_with fail
          go_region
          go_wp2_with fail
          go_roundw
          case rel => exact ⟨j + 1, by simp, by rw [HQ.out]; simp, by omega, HR.out.below (below_drewN _ _ 1), dN HB.out 1⟩
          case measure => simp [intOf]; omega
        · have hb1 : (x == y) = false := by simpa using hxy
          go_wp2_with fail
          go_region
          go_wp2_with fail
          go_roundw
          case rel => exact ⟨j + 1, by simp, by rw [HQ.out, if_neg hxy]; simp, by omega, HR.out.below (below_drewN _ _ 1), dN HB.out 1⟩
          case measure => simp [intOf]; omega
      · have hjn : j = n := by omega
        subst hjn
        rw [HE.out] at HM
        go_wp2_with fail
        refine (HM.out _).mono ?_
        rintro e w2 ⟨rfl, hb2⟩
        have R2 := HR.out.below hb2
        have HB2 := below_up HB.out hb2 HB.out.size
        have r0 := R2.c0; have r1 := R2.c1; have f0 := R2.f0; have f1 := R2.f1
        clear hb2 R2
        go_wp2_with fail
        refine bodyPost_ret (v := .tuple #[.agg #[.int .i64 r.1, .int .i64 r.2.1], .int .i64 r.2.2]) (by simp [results, Tryd.results16, go_sem, r0, r1]) rfl ?_
        exact ⟨rfl, below_two HB2 (Nat.le_refl _)⟩
end Go.Proofs.YtoifcfocffcmcaaDoor
