import Derived.Test.YtendkghifcjffaaGreatDoorMShare
import Derived.Test.YtendkghifcjffaaGreatDoorRRef
import Derived.Test.YtendkghifcjffaaGreatDoorMEditE
/- The contract of the reference's share. -/
namespace Go.Proofs.YtendkghifcjffaaGreatDoor
open Go.RowKit

theorem share_ref (p q : Int) (hp0 : -9223372036854775808 ≤ p) (hp1 : p ≤ 9223372036854775807) (hq0 : -9223372036854775808 ≤ q) (hq1 : q ≤ 9223372036854775807) (w : World) :
    Calls Tryz.prog 30 #[.int .i64 p, .int .i64 q] w fun e w' => e = .returned (rat (shr p q)) ∧ Below w.heap.size w w' := by
  have C := L1.refmake_any p q
  have hs : shr p q = if (L1.mk p q).2.2 = 0 then ((L1.mk p q).1, (L1.mk p q).2.1) else (0, 1) := rfl
  obtain ⟨r, hr⟩ : ∃ r, shr p q = r := ⟨_, rfl⟩
  rw [hr] at hs
  rw [hr]
  clear hr
  obtain ⟨⟨n, d, x⟩, hm⟩ : ∃ m, L1.mk p q = m := ⟨_, rfl⟩
  rw [hm] at C hs
  clear hm
  have HC := Lib.hid (C · hp0 hp1 hq0 hq1)
  clear C
  by_cases hx : x = 0
  · subst hx
    have hr : r = (n, d) := hs
    clear hs
    subst hr
    go_enter Tryz.func30, Tryz.ntmps30
    go_wp2_with fail
    refine (HC.out _).mono ?_
    rintro e w1 ⟨rfl, hb⟩
    have R := (own2_new w 0 0 _).below hb
    have HB := Lib.hid (below_up (below_box w _) hb (by simp))
    have r0 := fun o => (R.alloc o).c0
    have r1 := fun o => (R.alloc o).c1
    have f0 := fun o => (R.alloc o).f0
    have f1 := fun o => (R.alloc o).f1
    clear hb R
    go_wp2_with fail
    refine bodyPost_ret (v := rat (n, d)) (by simp [results, Tryz.results30, go_sem, r0, r1]) rfl ?_
    exact ⟨rfl, below_two (HB.out.alloc HB.out.size _) (Nat.le_refl _)⟩
  · have hr : r = (0, 1) := by rw [hs, if_neg hx]
    clear hs
    subst hr
    go_enter Tryz.func30, Tryz.ntmps30
    go_wp2_with fail
    refine (HC.out _).mono ?_
    rintro e w1 ⟨rfl, hb⟩
    have R := (own2_new w 0 0 _).below hb
    have HB := Lib.hid (below_up (below_box w _) hb (by simp))
    have r0 := fun o => (R.alloc o).c0
    have r1 := fun o => (R.alloc o).c1
    have f0 := fun o => (R.alloc o).f0
    have f1 := fun o => (R.alloc o).f1
    clear hb R
    go_wp2_with fail
    refine bodyPost_ret (v := rat (0, 1)) (by simp [results, Tryz.results30, go_sem, r0, r1]) rfl ?_
    exact ⟨rfl, below_two (HB.out.alloc HB.out.size _) (Nat.le_refl _)⟩

end Go.Proofs.YtendkghifcjffaaGreatDoor

/- The contract of the reference's Edit. -/
namespace Go.Proofs.YtendkghifcjffaaGreatDoor
open Go.RowKit

theorem rmin_if (a b : Int) : (if b < a then b else a) = min a b := by split <;> omega
theorem run_min3 {P : Program} (ts : Array TypeId) (t : TypeId) (a b c : Int) (w : World) :
    (Builtin.min_ ts t #[.int .i64 a, .int .i64 b, .int .i64 c]).run P w = .ok (.int .i64 (min (min a b) c)) w := by
  simp [Builtin.min_, Builtin.min2, rmin_if]
/-- What the next row of the table holds when k places are filled. -/
def fresh (A B : List UInt8) (i k x : Nat) : Int := if x < k then (dist A B (i + 1) x : Int) else 0
theorem fresh_step {A B : List UInt8} {i j : Nat} {v : Int} (hv : v = (dist A B (i + 1) (j + 1) : Int)) (x : Nat) : (if x = j + 1 then v else fresh A B i (j + 1) x) = fresh A B i (j + 2) x := by
  unfold fresh
  by_cases h : x = j + 1
  · rw [if_pos h, if_pos (by omega), h, hv]
  · rw [if_neg h]
    by_cases g : x < j + 1
    · rw [if_pos g, if_pos (by omega)]
    · rw [if_neg g, if_neg (by omega)]

set_option maxRecDepth 100000 in
set_option maxHeartbeats 3200000 in
theorem edit_ref (a b : List UInt8) (ha : a.length ≤ 1000) (hb : b.length ≤ 1000) (w : World) :
    Calls Tryz.prog 9 #[str a, str b] w fun e w' => e = .returned (.int .i64 (lev a b : Nat)) ∧ Below w.heap.size w w' := by
  obtain ⟨i0, hi, hz0, hz1, hz2⟩ := info_parts infoInt
  have HI := Lib.hid (And.intro hi (And.intro hz0 (And.intro hz1 hz2)))
  have HA := Lib.hid ha
  have HBL := Lib.hid hb
  obtain ⟨N, hN⟩ : ∃ N, b.length + 1 = N := ⟨_, rfl⟩
  have hNi : (b.length : Int) + 1 = (N : Int) := by omega
  have HN := Lib.hid hN
  have hNl : N ≤ 1001 := by omega
  clear hN ha hb
  go_enter Tryz.func9, Tryz.ntmps9
  go_wp2_with (at_make; refine wpList_make_full _ rfl _ _ 49 rfl w.heap.size 3 i0 (.int .i64 0) 1 Tryz.underlying49 hi hz0 hz1 .i64 .i64 _ _ N rfl rfl rfl rfl (by rw [hz2]; omega) (by unfold maxLen; omega) (Nat.le_refl _) ?_)
  intro w3 hown hg3
  have HO := Lib.hid (nums_made hown).1
  have HC3 := Lib.hid ((Below.refl w.heap.size w).grown hg3 (Nat.le_refl _) (fun k e => by cases e))
  clear hown hg3 hi hz0 hz1 hz2
  obtain ⟨g, hgg⟩ : ∃ g, w.heap.size = g := ⟨_, rfl⟩
  have HG := Lib.hid hgg
  rw [hgg] at HO
  rw [hgg]
  clear hgg
  go_wp2_with fail
  go_loopw [6] (fun i wr => ∃ j : Nat, i = .int .i64 (j : Int) ∧ j ≤ N ∧ Nums wr g N (upto j) ∧ Below g w wr) (fun i _ => N + 1 - (intOf i).toNat)
  case atStart =>
    exact ⟨0, by simp, by omega, HO.out.congr (fun k _ => (if_neg (by omega)).symm), by rw [← HG.out]; exact HC3.out⟩
  case round =>
    clear HO HC3
    obtain ⟨j, rfl, hj, ho, hbr⟩ := hrel
    have HO := Lib.hid ho
    have HR3 := Lib.hid hbr
    clear ho hbr
    by_cases hlt : j < N
    · have c0 := HO.out.cell hlt
      have f0 := HO.out.free j
      have hjb : (j : Int) ≤ (b.length : Int) := by omega
      have HS := Lib.hid ((HO.out.set j (j : Int)).congr (f' := upto (j + 1)) (fun k _ => by
        unfold upto
        by_cases q : k = j
        · rw [if_pos q, if_pos (by omega), q]
        · rw [if_neg q]
          by_cases q2 : k < j
          · rw [if_pos q2, if_pos (by omega)]
          · rw [if_neg q2, if_neg (by omega)]))
      go_wp2_with fail
      go_roundw
      case rel => exact ⟨j + 1, by simp, by omega, HS.out, HR3.out.setCell (Nat.le_refl _) _⟩
      case measure => simp [intOf]; omega
    · have HO2 : Hid (Nums wr g N (fun x => (dist a b 0 x : Int))) := Lib.hid (HO.out.congr (fun k hk => by
        unfold upto
        rw [if_pos (by omega), dist_zero_l a b (by have := HN.out; omega)]))
      have HR4 : Hid (Below w.heap.size w wr) := Lib.hid (by rw [HG.out]; exact HR3.out)
      have HGl : Hid (w.heap.size ≤ g) := Lib.hid (by rw [HG.out]; exact Nat.le_refl _)
      have hjb : ¬ (j : Int) ≤ (b.length : Int) := by omega
      clear HO HR3 HG
      go_wp2_with fail
      obtain ⟨wo, rfl⟩ : ∃ wo, wo = wr := ⟨_, rfl⟩
      clear hlt hjb hj
      go_loopw [5, 7] (fun r i wr => ∃ (j h : Nat), r = .slice (some ⟨h, 0, none⟩) N N ∧ i = .int .i64 (j : Int) ∧ j ≤ a.length ∧ Nums wr h N (fun x => (dist a b j x : Int)) ∧ w.heap.size ≤ h ∧ Below w.heap.size w wr) (fun _ i _ => a.length + 1 - (intOf i).toNat)
      case atStart => exact ⟨0, g, rfl, by simp, by omega, HO2.out, HGl.out, HR4.out⟩
      case round =>
        clear HO2 HR4 HGl
        obtain ⟨i, g1, rfl, rfl, hiA, ho, hgl, hbr⟩ := hrel
        have HO := Lib.hid ho
        have HR3 := Lib.hid hbr
        have HGl := Lib.hid hgl
        clear ho hbr hgl
        by_cases hlt : i < a.length
        · have hA := HA.out
          have hiA2 : (i : Int) ≤ 1000 := by omega
          obtain ⟨c, hc⟩ : ∃ c, a[i] = c := ⟨_, rfl⟩
          have HCA := Lib.hid hc
          have ec : ∀ h, (⟨a.toArray⟩ : ByteArray)[i]'h = c := fun _ => hc
          clear hc hA
          obtain ⟨hi, hz0, hz1, hz2⟩ := HI.out
          go_wp2_with (at_make; refine wpList_make_full _ rfl _ _ 49 rfl wr.heap.size 3 i0 (.int .i64 0) 1 Tryz.underlying49 hi hz0 hz1 .i64 .i64 _ _ N rfl rfl rfl rfl (by rw [hz2]; omega) (by unfold maxLen; omega) (Nat.le_refl _) ?_)
          intro w4 hown hg4
          have HM := Lib.hid (nums_made hown).1
          have HC4 := Lib.hid ((Below.refl wr.heap.size wr).grown hg4 (Nat.le_refl _) (fun k e => by cases e))
          clear hown hg4 hi hz0 hz1 hz2
          have m0 := HM.out.cell (k := 0) (by have := HN.out; omega)
          have n0 := HM.out.free 0
          have HZ := Lib.hid ((HM.out.set 0 ((i : Int) + 1)).congr (f' := fresh a b i 1) (fun k _ => by
            unfold fresh
            by_cases q : k = 0
            · rw [if_pos q, if_pos (by omega), q, dist_zero_r a b (by omega)]
              omega
            · rw [if_neg q, if_neg (by omega)]))
          have hN0 : 0 < N := by have := HN.out; omega
          obtain ⟨g2, hg2⟩ : ∃ g2, wr.heap.size = g2 := ⟨_, rfl⟩
          have HG2 := Lib.hid hg2
          rw [hg2] at m0 n0 HZ
          rw [hg2]
          clear HM hg2
          go_wp2_with fail
          obtain ⟨w5, hw5⟩ : ∃ w5, w5 = w4.setCell ⟨g2, 0, none⟩ (.int .i64 ((i : Int) + 1)) := ⟨_, rfl⟩
          rw [← hw5] at HZ ⊢
          have HC5 : Hid (Below g2 wr w5) := Lib.hid (by rw [hw5, ← HG2.out]; exact HC4.out.setCell (Nat.le_refl _) _)
          clear hw5 HC4 m0 n0
          obtain ⟨wo2, rfl⟩ : ∃ wo2, wo2 = wr := ⟨_, rfl⟩
          go_loopw [9] (fun v wr => ∃ j : Nat, v = .int .i64 (j : Int) ∧ j ≤ b.length ∧ Nums wr g2 N (fresh a b i (j + 1)) ∧ Below g2 wo2 wr) (fun v _ => b.length + 1 - (intOf v).toNat)
          case atStart => exact ⟨0, by simp, by omega, HZ.out, HC5.out⟩
          case round =>
            clear HZ HC5
            obtain ⟨j, rfl, hjB, ho, hbr⟩ := hrel
            have HF := Lib.hid ho
            have HR5 := Lib.hid hbr
            clear ho hbr
            have HOr : Hid (Nums wr g1 N (fun x => (dist a b i x : Int))) := Lib.hid (HO.out.below (by rw [HG2.out]; exact HR5.out))
            by_cases hlj : j < b.length
            · have c1 := HOr.out.cell (k := j) (by have := HN.out; omega)
              have c2 := HOr.out.cell (k := j + 1) (by have := HN.out; omega)
              have c3 := HF.out.cell (k := j) (by have := HN.out; omega)
              have c4 := HF.out.cell (k := j + 1) (by have := HN.out; omega)
              have f4 := HF.out.free (j + 1)
              have HST := Lib.hid (dist_step a b hlt hlj)
              rw [HCA.out] at HST
              have q0 := dist_le a b i j
              have q1 := dist_le a b i (j + 1)
              have q2 := dist_le a b (i + 1) j
              have hA := HA.out
              have hBL := HBL.out
              rw [show fresh a b i (j + 1) j = (dist a b (i + 1) j : Int) from if_pos (by omega)] at c3
              have hjN : j + 1 < N := by have := HN.out; omega
              have HSet : Hid (∀ (W : World) (v : Int), Below wr.heap.size wr W → v = (dist a b (i + 1) (j + 1) : Int) → Nums (W.setCell ⟨g2, j + 1, none⟩ (.int .i64 v)) g2 N (fresh a b i (j + 1 + 1))) :=
                Lib.hid (fun W v hW hv => ((HF.out.below hW).set (j + 1) v).congr (fun x _ => fresh_step hv x))
              obtain ⟨q, hq⟩ : ∃ q, dist a b i (j + 1) = q := ⟨_, rfl⟩
              obtain ⟨p, hp⟩ : ∃ p, dist a b i j = p := ⟨_, rfl⟩
              obtain ⟨r, hr⟩ : ∃ r, dist a b (i + 1) j = r := ⟨_, rfl⟩
              obtain ⟨o, ho⟩ : ∃ o, fresh a b i (j + 1) (j + 1) = o := ⟨_, rfl⟩
              rw [hq, hp, hr] at HST
              rw [hp] at q0 c1
              rw [hq] at q1 c2
              rw [hr] at q2 c3
              rw [ho] at c4
              have p0 : (p : Int) ≤ 1001 := by omega
              have p1 : (q : Int) ≤ 1001 := by omega
              have p2 : (r : Int) ≤ 1001 := by omega
              have p3 : (j : Int) ≤ 1000 := by omega
              clear hq hp hr ho q0 q1 q2 hA hBL
              obtain ⟨d, hd⟩ : ∃ d, b[j] = d := ⟨_, rfl⟩
              rw [hd] at HST
              have ed : ∀ h, (⟨b.toArray⟩ : ByteArray)[j]'h = d := fun _ => hd
              clear hd
              have d1 : ∀ m, (wr.drewN m).cell? ⟨g1, j, none⟩ = some (.int .i64 (p : Int)) := fun _ => c1
              have d2 : ∀ m, (wr.drewN m).cell? ⟨g1, j + 1, none⟩ = some (.int .i64 (q : Int)) := fun _ => c2
              have d3 : ∀ m, (wr.drewN m).cell? ⟨g2, j, none⟩ = some (.int .i64 (r : Int)) := fun _ => c3
              have d4 : ∀ m, (wr.drewN m).cell? ⟨g2, j + 1, none⟩ = some (.int .i64 o) := fun _ => c4
              have d5 : ∀ m, (wr.drewN m).frozen? ⟨g2, j + 1, none⟩ = false := fun _ => f4
              by_cases hcd : c = d
              · have hne : ((c.toNat : Int) != (d.toNat : Int)) = false := by rw [hcd]; simp
                have HV := Lib.hid (show min (min (p : Int) ((q : Int) + 1)) ((r : Int) + 1) = (dist a b (i + 1) (j + 1) : Int) by rw [HST.out, hcd, neq_self]; omega)
                obtain ⟨v, hv⟩ : ∃ v, min (min (p : Int) ((q : Int) + 1)) ((r : Int) + 1) = v := ⟨_, rfl⟩
                have mn : ∀ ts t (W : World), (Builtin.min_ ts t #[.int .i64 (p : Int), .int .i64 ((q : Int) + 1), .int .i64 ((r : Int) + 1)]).run Tryz.prog W = .ok (.int .i64 v) W := fun ts t W => by rw [run_min3, hv]
                rw [hv] at HV
                clear hcd hv
                go_wp2_with fail
                go_quiet (fail)
                go_wp2_with fail
                go_region
                go_wp2_with fail
                go_roundw
                case rel => exact ⟨j + 1, by simp, by omega, HSet.out _ _ (below_drewN _ _ _) HV.out, (dN HR5.out _).setCell (Nat.le_refl _) _⟩
                case measure => simp [intOf]; omega
              · have hne : ((c.toNat : Int) != (d.toNat : Int)) = true := by
                  rw [bne_iff_ne]
                  intro e
                  exact hcd (UInt8.toNat_inj.1 (by omega))
                have HV := Lib.hid (show min (min ((p : Int) + 1) ((q : Int) + 1)) ((r : Int) + 1) = (dist a b (i + 1) (j + 1) : Int) by rw [HST.out]; unfold neq; rw [if_neg hcd]; omega)
                obtain ⟨v, hv⟩ : ∃ v, min (min ((p : Int) + 1) ((q : Int) + 1)) ((r : Int) + 1) = v := ⟨_, rfl⟩
                have mn : ∀ ts t (W : World), (Builtin.min_ ts t #[.int .i64 ((p : Int) + 1), .int .i64 ((q : Int) + 1), .int .i64 ((r : Int) + 1)]).run Tryz.prog W = .ok (.int .i64 v) W := fun ts t W => by rw [run_min3, hv]
                rw [hv] at HV
                clear hcd hv
                go_wp2_with fail
                go_quiet (fail)
                go_wp2_with fail
                go_region
                go_wp2_with fail
                go_roundw
                case rel => exact ⟨j + 1, by simp, by omega, HSet.out _ _ (below_drewN _ _ _) HV.out, (dN HR5.out _).setCell (Nat.le_refl _) _⟩
                case measure => simp [intOf]; omega
            · have HS : Hid (Nums wr g2 N (fun x => (dist a b (i + 1) x : Int))) := Lib.hid (HF.out.congr (fun k hk => by
                unfold fresh
                rw [if_pos (by have := HN.out; omega)]))
              have HGo : Hid (w.heap.size ≤ g2) := Lib.hid (by rw [← HG2.out]; exact HR3.out.size)
              go_wp2_with fail
              go_roundw
              case rel => exact ⟨i + 1, g2, rfl, by simp, by omega, HS.out, HGo.out, HR3.out.trans (HR5.out.mono HGo.out)⟩
              case measure => simp [intOf]; omega
        · have c0 := HO.out.cell (k := b.length) (by have := HN.out; omega)
          have HE : Hid (dist a b i b.length = lev a b) := Lib.hid (by rw [show i = a.length by omega, dist_end])
          have hnb : (b.length : Int) ≤ 1000 := by have := HBL.out; omega
          have hNn : b.length < N := by have := HN.out; omega
          go_wp2_with fail
          go_ret
          exact ⟨ret_int (by rw [HE.out]), HR3.out⟩
end Go.Proofs.YtendkghifcjffaaGreatDoor

/- The contract of the reference's Alike. -/
namespace Go.Proofs.YtendkghifcjffaaGreatDoor
open Go.RowKit

set_option maxRecDepth 100000 in
theorem alike_ref (a b : List UInt8) (ha : a.length ≤ 1000) (hb : b.length ≤ 1000) (w : World) :
    Calls Tryz.prog 11 #[str a, str b] w fun e w' => e = .returned (rat (alikeT a b)) ∧ Below w.heap.size w w' := by
  have HE := Lib.hid (edit_ref a b ha hb)
  have HT := Lib.hid (show alikeT a b = if max a.length b.length = 0 then (1, 1) else shr ((max a.length b.length : Nat) - (lev a b : Nat)) (max a.length b.length : Nat) from rfl)
  have HL := (lev_len a b).2.2
  have hm : max (a.length : Int) (b.length : Int) = ((max a.length b.length : Nat) : Int) := by omega
  have hml : max a.length b.length ≤ 1000 := by omega
  obtain ⟨r, hr⟩ : ∃ r, alikeT a b = r := ⟨_, rfl⟩
  rw [hr] at HT ⊢
  obtain ⟨m, hmm⟩ : ∃ m, max a.length b.length = m := ⟨_, rfl⟩
  rw [hmm] at HT hm hml HL
  clear hr hmm ha hb
  by_cases h0 : m = 0
  · subst h0
    have hr : r = (1, 1) := by rw [HT.out, if_pos rfl]
    subst hr
    go_enter Tryz.func11, Tryz.ntmps11
    go_wp2_with fail
    refine bodyPost_ret (v := rat (1, 1)) (by simp [results, Tryz.results11, go_sem]) rfl ?_
    exact ⟨rfl, below_box _ _⟩
  · have hr : r = shr ((m : Nat) - (lev a b : Nat)) (m : Nat) := by rw [HT.out, if_neg h0]
    clear HT
    obtain ⟨l, hl⟩ : ∃ l, lev a b = l := ⟨_, rfl⟩
    rw [hl] at hr HE HL
    have HR := Lib.hid hr
    clear hl hr
    by_cases hab : a.length < b.length
    · obtain rfl : m = b.length := by omega
      go_enter Tryz.func11, Tryz.ntmps11
      go_wp2_with fail
      refine (HE.out _).mono ?_
      rintro e w1 ⟨rfl, hb⟩
      have R := Lib.hid ((own2_new w 0 0 _).below hb)
      have HB := Lib.hid (below_up (below_box w _) hb (by simp))
      clear hb
      go_wp2_with fail
      refine (share_ref ((b.length : Int) - l) b.length (by omega) (by omega) (by omega) (by omega) _).mono ?_
      rintro e w2 ⟨rfl, hb⟩
      rw [← HR.out]
      have R2 := R.out.below hb
      have HB2 := Lib.hid (below_up HB.out hb HB.out.size)
      have r0 := R2.c0
      have r1 := R2.c1
      have f0 := R2.f0
      have f1 := R2.f1
      clear hb R2
      go_wp2_with fail
      refine bodyPost_ret (v := rat r) (by simp [results, Tryz.results11, go_sem, r0, r1]) rfl ?_
      exact ⟨rfl, below_two HB2.out (Nat.le_refl _)⟩
    · obtain rfl : m = a.length := by omega
      go_enter Tryz.func11, Tryz.ntmps11
      go_wp2_with fail
      refine (HE.out _).mono ?_
      rintro e w1 ⟨rfl, hb⟩
      have R := Lib.hid ((own2_new w 0 0 _).below hb)
      have HB := Lib.hid (below_up (below_box w _) hb (by simp))
      clear hb
      go_wp2_with fail
      refine (share_ref ((a.length : Int) - l) a.length (by omega) (by omega) (by omega) (by omega) _).mono ?_
      rintro e w2 ⟨rfl, hb⟩
      rw [← HR.out]
      have R2 := R.out.below hb
      have HB2 := Lib.hid (below_up HB.out hb HB.out.size)
      have r0 := R2.c0
      have r1 := R2.c1
      have f0 := R2.f0
      have f1 := R2.f1
      clear hb R2
      go_wp2_with fail
      refine bodyPost_ret (v := rat r) (by simp [results, Tryz.results11, go_sem, r0, r1]) rfl ?_
      exact ⟨rfl, below_two HB2.out (Nat.le_refl _)⟩
end Go.Proofs.YtendkghifcjffaaGreatDoor

/- The contracts of the reference's apart and Near. -/
namespace Go.Proofs.YtendkghifcjffaaGreatDoor
open Go.RowKit

theorem apart_up (a b l : Int) (hab : a ≤ b) (l0 : 0 ≤ l) (l1 : l ≤ 1000000000) (ha0 : -9223372036854775808 ≤ a) (ha1 : a ≤ 9223372036854775807) (hb0 : -9223372036854775808 ≤ b) (hb1 : b ≤ 9223372036854775807) (w : World) :
    Calls Tryz.prog 42 #[.int .i64 a, .int .i64 b, .int .i64 l] w fun e w' => e = .returned (.int .i64 (min (gap a b) l)) ∧ Below w.heap.size w w' := by
  have hw : IntKind.u64.wrap (IntKind.u64.wrap b - IntKind.u64.wrap a) = gap a b := by simp only [IntKind.wrap_u64]; unfold gap; omega
  have ht : IntKind.u64.wrap l = l := by simp only [IntKind.wrap_u64]; omega
  have g0 := gap_nonneg a b
  have hab2 : ¬ b < a := by omega
  obtain ⟨g, hg⟩ : ∃ g, gap a b = g := ⟨_, rfl⟩
  rw [hg] at hw g0 ⊢
  clear hg ha0 ha1 hb0 hb1
  by_cases hl : l < g
  · have HM := Lib.hid (show min g l = l by omega)
    go_enter Tryz.func42, Tryz.ntmps42
    go_wp2_with fail
    go_ret
    exact ⟨ret_int HM.out.symm, Below.refl _ _⟩
  · have HM := Lib.hid (show min g l = g by omega)
    go_enter Tryz.func42, Tryz.ntmps42
    go_wp2_with fail
    go_ret
    exact ⟨ret_int HM.out.symm, Below.refl _ _⟩
theorem apart_ref (a b l : Int) (l0 : 0 ≤ l) (l1 : l ≤ 1000000000) (ha0 : -9223372036854775808 ≤ a) (ha1 : a ≤ 9223372036854775807) (hb0 : -9223372036854775808 ≤ b) (hb1 : b ≤ 9223372036854775807) (w : World) :
    Calls Tryz.prog 42 #[.int .i64 a, .int .i64 b, .int .i64 l] w fun e w' => e = .returned (.int .i64 (min (gap a b) l)) ∧ Below w.heap.size w w' := by
  by_cases hab : a ≤ b
  · exact apart_up a b l hab l0 l1 ha0 ha1 hb0 hb1 w
  · have C := Lib.hid (apart_up b a l (by omega) l0 l1 hb0 hb1 ha0 ha1)
    rw [gap_sym]
    have hba : b < a := by omega
    clear ha0 ha1 hb0 hb1 hab
    go_enter Tryz.func42, Tryz.ntmps42
    go_wp2_with fail
    refine (C.out _).mono ?_
    rintro e w1 ⟨rfl, hb⟩
    have HB := Lib.hid hb
    clear hb
    go_wp2_with fail
    go_ret
    exact ⟨rfl, HB.out⟩

set_option maxRecDepth 100000 in
theorem near_ref (a b t : Int) (ha0 : -9223372036854775808 ≤ a) (ha1 : a ≤ 9223372036854775807) (hb0 : -9223372036854775808 ≤ b) (hb1 : b ≤ 9223372036854775807) (w : World) :
    Calls Tryz.prog 19 #[.int .i64 a, .int .i64 b, .int .i64 t] w fun e w' => e = .returned (rat (nearT a b t)) ∧ Below w.heap.size w w' := by
  have R := own2_new w 0 0 32
  by_cases h0 : t < 0
  · have HT := Lib.hid (show nearT a b t = (0, 1) by unfold nearT; rw [if_neg (by rw [okTol_iff]; omega)])
    clear ha0 ha1 hb0 hb1
    go_enter Tryz.func19, Tryz.ntmps19
    go_wp2_with fail
    refine bodyPost_ret (v := rat (0, 1)) (by simp [results, Tryz.results19, go_sem]) rfl ?_
    exact ⟨rat_ret HT.out.symm, below_box _ _⟩
  by_cases h9 : 999999999 < t
  · have HT := Lib.hid (show nearT a b t = (0, 1) by unfold nearT; rw [if_neg (by rw [okTol_iff]; omega)])
    clear ha0 ha1 hb0 hb1
    go_enter Tryz.func19, Tryz.ntmps19
    go_wp2_with fail
    refine bodyPost_ret (v := rat (0, 1)) (by simp [results, Tryz.results19, go_sem]) rfl ?_
    exact ⟨rat_ret HT.out.symm, below_box _ _⟩
  have HT := Lib.hid (show nearT a b t = shr (t + 1 - min (gap a b) (t + 1)) (t + 1) by unfold nearT; rw [if_pos (by rw [okTol_iff]; omega)])
  have C := Lib.hid (apart_ref a b (t + 1) (by omega) (by omega) ha0 ha1 hb0 hb1)
  have g0 := gap_nonneg a b
  obtain ⟨m, hm⟩ : ∃ m, min (gap a b) (t + 1) = m := ⟨_, rfl⟩
  have m0 : 0 ≤ m := by omega
  have m1 : m ≤ t + 1 := by omega
  rw [hm] at HT C
  clear ha0 ha1 hb0 hb1 g0 hm
  go_enter Tryz.func19, Tryz.ntmps19
  go_wp2_with fail
  refine (C.out _).mono ?_
  rintro e w1 ⟨rfl, hb⟩
  have R1 := Lib.hid (R.below hb)
  have HB := Lib.hid (below_up (below_box w _) hb (by simp))
  clear hb R
  go_wp2_with fail
  refine (share_ref (t + 1 - m) (t + 1) (by omega) (by omega) (by omega) (by omega) _).mono ?_
  rintro e w2 ⟨rfl, hb⟩
  rw [← HT.out]
  have R2 := R1.out.below hb
  have HB2 := Lib.hid (below_up HB.out hb HB.out.size)
  have r0 := R2.c0
  have r1 := R2.c1
  have f0 := R2.f0
  have f1 := R2.f1
  clear hb R2
  obtain ⟨r, hr⟩ : ∃ r, nearT a b t = r := ⟨_, rfl⟩
  have HRR := Lib.hid hr
  rw [hr]
  clear hr
  go_wp2_with fail
  refine bodyPost_ret (v := rat r) (by simp [results, Tryz.results19, go_sem, r0, r1]) rfl ?_
  exact ⟨rat_ret HRR.out.symm, below_two HB2.out (Nat.le_refl _)⟩
end Go.Proofs.YtendkghifcjffaaGreatDoor

/- The contracts of the reference's in and Jaccard. -/
namespace Go.Proofs.YtendkghifcjffaaGreatDoor
open Go.RowKit

set_option maxRecDepth 100000 in
theorem in_ref (l : List (List UInt8)) (n : Nat) (s : List UInt8) (v : Value) (w : World) (hl : l.length ≤ 4000) (hn : n ≤ l.length) (hs : Strs w v l) :
    Calls Tryz.prog 32 #[v, .int .i64 (n : Int), str s] w fun e w' => e = .returned (.bool (decide (s ∈ l.take n))) ∧ Below w.heap.size w w' := by
  have HS := Lib.hid hs
  obtain ⟨A, cap, rfl, hcap, _, _⟩ := hs
  go_enter Tryz.func32, Tryz.ntmps32
  go_wp2_with fail
  go_loopw [7] (fun i wr => ∃ j : Nat, i = .int .i64 (j : Int) ∧ j ≤ n ∧ s ∉ l.take j ∧ Below w.heap.size w wr) (fun i _ => n + 1 - (intOf i).toNat)
  case atStart => exact ⟨0, by simp, by omega, by simp, Below.refl _ _⟩
  case round =>
    obtain ⟨j, rfl, hj, hno, hb⟩ := hrel
    have HB := Lib.hid hb
    have HN := Lib.hid hno
    clear hb hno
    have hj2 : (j : Int) ≤ 4000 := by omega
    by_cases hlt : j < n
    · obtain ⟨A', cap', e, _, _, hc⟩ := HS.out.below HB.out
      cases e
      obtain ⟨b, off, rfl, c0⟩ := hc j (by omega)
      clear hc
      have hT := Lib.hid (show l.take (j + 1) = l.take j ++ [l[j]] from List.take_succ_eq_append_getElem (by omega))
      have hM := Lib.hid (show l[j] ∈ l.take n from by rw [List.mem_take_iff_getElem]; exact ⟨j, by omega, rfl⟩)
      obtain ⟨x, hx⟩ : ∃ x, l[j] = x := ⟨_, rfl⟩
      rw [hx] at c0 hT hM
      clear hx
      by_cases hxs : x = s
      · subst hxs
        have hxx : (x == x) = true := by simp
        have HR := Lib.hid (decide_eq_true hM.out)
        go_wp2_with fail
        go_ret
        exact ⟨bool_ret HR.out.symm, HB.out⟩
      · have hxx : (x == s) = false := by rw [beq_eq_false_iff_ne]; exact hxs
        have HN2 := Lib.hid (show s ∉ l.take (j + 1) from by rw [hT.out, List.mem_append, List.mem_singleton]; exact fun h => h.elim HN.out (fun e => hxs e.symm))
        clear hxs
        go_wp2_with fail
        go_roundw
        case rel => exact ⟨j + 1, by simp, by omega, HN2.out, HB.out⟩
        case measure => simp [intOf]; omega
    · obtain rfl : j = n := by omega
      have HR := Lib.hid (decide_eq_false HN.out)
      go_wp2_with fail
      go_ret
      exact ⟨bool_ret HR.out.symm, HB.out⟩

theorem in_all (l : List (List UInt8)) (s : List UInt8) (v : Value) (w : World) (hl : l.length ≤ 4000) (hs : Strs w v l) :
    Calls Tryz.prog 32 #[v, .int .i64 (l.length : Int), str s] w fun e w' => e = .returned (.bool (decide (s ∈ l))) ∧ Below w.heap.size w w' := by
  have h := in_ref l l.length s v w hl (Nat.le_refl _) hs
  rw [List.take_length] at h
  exact h

set_option maxRecDepth 100000 in
set_option maxHeartbeats 1600000 in
theorem jaccard_ref (xs ys : List (List UInt8)) (v u : Value) (w : World) (hl : xs.length ≤ 4000) (hl2 : ys.length ≤ 4000) (hs : Strs w v xs) (hs2 : Strs w u ys) :
    Calls Tryz.prog 13 #[v, u] w fun e w' => e = .returned (rat (jacT xs ys)) ∧ Below w.heap.size w w' := by
  have HS := Lib.hid hs
  have HS2 := Lib.hid hs2
  have I1 := Lib.hid (fun W n s (hn : n ≤ xs.length) (h : Strs W v xs) => in_ref xs n s v W hl hn h)
  have I2 := Lib.hid (fun W n s (hn : n ≤ ys.length) (h : Strs W u ys) => in_ref ys n s u W hl2 hn h)
  have A1 := Lib.hid (fun W s (h : Strs W v xs) => in_all xs s v W hl h)
  have A2 := Lib.hid (fun W s (h : Strs W u ys) => in_all ys s u W hl2 h)
  obtain ⟨A, cap, rfl, hcap, _, _⟩ := hs
  obtain ⟨A2', cap2, rfl, hcap2, _, _⟩ := hs2
  have HR0 := Lib.hid (own2_new w 0 0 32)
  have HC := Lib.hid (below_box w (.cells #[.int .i64 0, .int .i64 0] 32))
  go_enter Tryz.func13, Tryz.ntmps13
  go_wp2_with fail
  go_loopw [5, 6, 7] (fun p q i wr => ∃ j : Nat, i = .int .i64 (j : Int) ∧ j ≤ xs.length ∧ p = .int .i64 (cnt (fun x => decide (x ∈ ys)) (xs.take j) : Nat) ∧ q = .int .i64 ((dd (xs.take j)).length : Nat) ∧ Own2 wr w.heap.size 0 0 ∧ Below w.heap.size w wr) (fun _ _ i _ => xs.length + 1 - (intOf i).toNat)
  case atStart => exact ⟨0, by simp, by omega, by simp [cnt, dd], by simp [dd], HR0.out, HC.out⟩
  case round =>
    clear HR0 HC
    obtain ⟨j, rfl, hj, rfl, rfl, hR, hb⟩ := hrel
    have HB := Lib.hid hb
    have HR := Lib.hid hR
    have d1 := dd_len (xs.take j)
    have d2 := cnt_le (fun x => decide (x ∈ ys)) (xs.take j)
    rw [List.length_take] at d1
    clear hb hR
    by_cases hlt : j < xs.length
    · obtain ⟨A', cap', e, _, _, hc⟩ := HS.out.below HB.out
      cases e
      obtain ⟨b, off, rfl, c0⟩ := hc j hlt
      clear hc
      have hT : xs.take (j + 1) = xs.take j ++ [xs[j]] := List.take_succ_eq_append_getElem hlt
      obtain ⟨x, hx⟩ : ∃ x, xs[j] = x := ⟨_, rfl⟩
      rw [hx] at c0 hT
      clear hx
      by_cases hin : x ∈ xs.take j
      · have HN1 := Lib.hid (show cnt (fun x => decide (x ∈ ys)) (xs.take (j + 1)) = cnt (fun x => decide (x ∈ ys)) (xs.take j) by rw [hT, cnt_old hin])
        have HN2 := Lib.hid (show (dd (xs.take (j + 1))).length = (dd (xs.take j)).length by rw [hT, dd_old hin])
        have HI := Lib.hid (decide_eq_true hin)
        obtain ⟨p, hp⟩ : ∃ p, cnt (fun x => decide (x ∈ ys)) (xs.take j) = p := ⟨_, rfl⟩
        obtain ⟨q, hq⟩ : ∃ q, (dd (xs.take j)).length = q := ⟨_, rfl⟩
        rw [hp] at HN1 d2 ⊢
        rw [hq] at HN2 d1 d2 ⊢
        clear hT hp hq hin
        go_wp2_with fail
        refine (I1.out _ j x (by omega) (HS.out.below HB.out)).mono ?_
        rw [HI.out]
        rintro e w1 ⟨rfl, hb⟩
        have HR1 := Lib.hid (HR.out.below hb)
        have HB1 := Lib.hid (below_up HB.out hb HB.out.size)
        clear hb
        go_wp2_with fail
        go_roundw
        case rel => exact ⟨j + 1, by simp, by omega, by rw [HN1.out], by rw [HN2.out], HR1.out, HB1.out⟩
        case measure => simp [intOf]; omega
      · have HN2 := Lib.hid (show (dd (xs.take (j + 1))).length = (dd (xs.take j)).length + 1 by rw [hT, dd_new hin, List.length_append]; rfl)
        have HI := Lib.hid (decide_eq_false hin)
        have h1 : cnt (fun x => decide (x ∈ ys)) (xs.take (j + 1)) = cnt (fun x => decide (x ∈ ys)) (xs.take j) + (if decide (x ∈ ys) = true then 1 else 0) := by rw [hT, cnt_new hin]
        obtain ⟨p, hp⟩ : ∃ p, cnt (fun x => decide (x ∈ ys)) (xs.take j) = p := ⟨_, rfl⟩
        obtain ⟨q, hq⟩ : ∃ q, (dd (xs.take j)).length = q := ⟨_, rfl⟩
        rw [hp] at h1 d2 ⊢
        rw [hq] at HN2 d1 d2 ⊢
        have HH := Lib.hid h1
        have d3 : (p : Int) ≤ 4000 := by omega
        have d4 : (q : Int) ≤ 4000 := by omega
        clear hT hp hq hin h1 d1 d2
        by_cases hiy : x ∈ ys
        · have HI2 := Lib.hid (decide_eq_true hiy)
          have HN1 := Lib.hid (show cnt (fun x => decide (x ∈ ys)) (xs.take (j + 1)) = p + 1 by rw [HH.out, if_pos HI2.out])
          go_wp2_with fail
          refine (I1.out _ j x (by omega) (HS.out.below HB.out)).mono ?_
          rw [HI.out]
          rintro e w1 ⟨rfl, hb⟩
          have HR1 := Lib.hid (HR.out.below hb)
          have HB1 := Lib.hid (below_up HB.out hb HB.out.size)
          have c1 := cellB hb c0
          clear hb c0
          go_wp2_with fail
          refine (A2.out _ x (HS2.out.below HB1.out)).mono ?_
          rw [HI2.out]
          rintro e w2 ⟨rfl, hb⟩
          have HR2 := Lib.hid (HR1.out.below hb)
          have HB2 := Lib.hid (below_up HB1.out hb HB1.out.size)
          clear hb
          go_wp2_with fail
          go_roundw
          case rel => exact ⟨j + 1, by simp, by omega, by rw [HN1.out]; simp, by rw [HN2.out]; simp, HR2.out, HB2.out⟩
          case measure => simp [intOf]; omega
        · have HI2 := Lib.hid (decide_eq_false hiy)
          have HN1 := Lib.hid (show cnt (fun x => decide (x ∈ ys)) (xs.take (j + 1)) = p by rw [HH.out, if_neg (by rw [HI2.out]; decide)]; rfl)
          go_wp2_with fail
          refine (I1.out _ j x (by omega) (HS.out.below HB.out)).mono ?_
          rw [HI.out]
          rintro e w1 ⟨rfl, hb⟩
          have HR1 := Lib.hid (HR.out.below hb)
          have HB1 := Lib.hid (below_up HB.out hb HB.out.size)
          have c1 := cellB hb c0
          clear hb c0
          go_wp2_with fail
          refine (A2.out _ x (HS2.out.below HB1.out)).mono ?_
          rw [HI2.out]
          rintro e w2 ⟨rfl, hb⟩
          have HR2 := Lib.hid (HR1.out.below hb)
          have HB2 := Lib.hid (below_up HB1.out hb HB1.out.size)
          clear hb
          go_wp2_with fail
          go_roundw
          case rel => exact ⟨j + 1, by simp, by omega, by rw [HN1.out], by rw [HN2.out]; simp, HR2.out, HB2.out⟩
          case measure => simp [intOf]; omega
    · have hJ : xs.take j = xs := List.take_of_length_le (by omega)
      rw [hJ] at d1 d2 ⊢
      have HBo := Lib.hid (show both xs ys = cnt (fun x => decide (x ∈ ys)) xs from rfl)
      have HUn := Lib.hid (show uni xs ys = (dd xs).length + cnt (fun x => !decide (x ∈ xs)) ys from rfl)
      obtain ⟨k, hk⟩ : ∃ k, cnt (fun x => decide (x ∈ ys)) xs = k := ⟨_, rfl⟩
      obtain ⟨o, ho⟩ : ∃ o, (dd xs).length = o := ⟨_, rfl⟩
      rw [hk] at HBo d2 ⊢
      rw [ho] at HUn d1 d2 ⊢
      have d3 : (k : Int) ≤ 4000 := by omega
      have d4 : (o : Int) ≤ 4000 := by omega
      clear hk ho hJ d1 d2
      go_wp2_with fail
      obtain ⟨wo, rfl⟩ : ∃ wo, wo = wr := ⟨_, rfl⟩
      go_loopw [6, 8] (fun q i wr => ∃ j : Nat, i = .int .i64 (j : Int) ∧ j ≤ ys.length ∧ q = .int .i64 ((o : Int) + (cnt (fun x => !decide (x ∈ xs)) (ys.take j) : Nat)) ∧ Own2 wr w.heap.size 0 0 ∧ Below w.heap.size w wr) (fun _ i _ => ys.length + 1 - (intOf i).toNat)
      case atStart => exact ⟨0, by simp, by omega, by simp [cnt, dd], HR.out, HB.out⟩
      case round =>
        clear HR HB hj hlt
        obtain ⟨j, rfl, hj, rfl, hR, hb⟩ := hrel
        have HB := Lib.hid hb
        have HR := Lib.hid hR
        have d1 := dd_len (ys.take j)
        have d2 := cnt_le (fun x => !decide (x ∈ xs)) (ys.take j)
        rw [List.length_take] at d1
        clear hb hR
        by_cases hlt : j < ys.length
        · obtain ⟨A', cap', e, _, _, hc⟩ := HS2.out.below HB.out
          cases e
          obtain ⟨b, off, rfl, c0⟩ := hc j hlt
          clear hc
          have hT : ys.take (j + 1) = ys.take j ++ [ys[j]] := List.take_succ_eq_append_getElem hlt
          obtain ⟨x, hx⟩ : ∃ x, ys[j] = x := ⟨_, rfl⟩
          rw [hx] at c0 hT
          clear hx
          by_cases hin : x ∈ ys.take j
          · have HN1 := Lib.hid (show cnt (fun x => !decide (x ∈ xs)) (ys.take (j + 1)) = cnt (fun x => !decide (x ∈ xs)) (ys.take j) by rw [hT, cnt_old hin])
            have HI := Lib.hid (decide_eq_true hin)
            obtain ⟨p, hp⟩ : ∃ p, cnt (fun x => !decide (x ∈ xs)) (ys.take j) = p := ⟨_, rfl⟩
            rw [hp] at HN1 d2 ⊢
            have d5 : (p : Int) ≤ 4000 := by omega
            clear hT hp hin d1 d2
            go_wp2_with fail
            refine (I2.out _ j x (by omega) (HS2.out.below HB.out)).mono ?_
            rw [HI.out]
            rintro e w1 ⟨rfl, hb⟩
            have HR1 := Lib.hid (HR.out.below hb)
            have HB1 := Lib.hid (below_up HB.out hb HB.out.size)
            clear hb
            go_wp2_with fail
            go_roundw
            case rel => exact ⟨j + 1, by simp, by omega, by rw [HN1.out], HR1.out, HB1.out⟩
            case measure => simp [intOf]; omega
          · have HI := Lib.hid (decide_eq_false hin)
            have h1 : cnt (fun x => !decide (x ∈ xs)) (ys.take (j + 1)) = cnt (fun x => !decide (x ∈ xs)) (ys.take j) + (if (!decide (x ∈ xs)) = true then 1 else 0) := by rw [hT, cnt_new hin]
            obtain ⟨p, hp⟩ : ∃ p, cnt (fun x => !decide (x ∈ xs)) (ys.take j) = p := ⟨_, rfl⟩
            rw [hp] at h1 d2 ⊢
            have HH := Lib.hid h1
            have d5 : (p : Int) ≤ 4000 := by omega
            clear hT hp hin h1 d1 d2
            by_cases hiy : x ∈ xs
            · have HI2 := Lib.hid (decide_eq_true hiy)
              have HN1 := Lib.hid (show cnt (fun x => !decide (x ∈ xs)) (ys.take (j + 1)) = p by rw [HH.out, if_neg (by rw [HI2.out]; decide)]; rfl)
              go_wp2_with fail
              refine (I2.out _ j x (by omega) (HS2.out.below HB.out)).mono ?_
              rw [HI.out]
              rintro e w1 ⟨rfl, hb⟩
              have HR1 := Lib.hid (HR.out.below hb)
              have HB1 := Lib.hid (below_up HB.out hb HB.out.size)
              have c1 := cellB hb c0
              clear hb c0
              go_wp2_with fail
              refine (A1.out _ x (HS.out.below HB1.out)).mono ?_
              rw [HI2.out]
              rintro e w2 ⟨rfl, hb⟩
              have HR2 := Lib.hid (HR1.out.below hb)
              have HB2 := Lib.hid (below_up HB1.out hb HB1.out.size)
              clear hb
              go_wp2_with fail
              go_roundw
              case rel => exact ⟨j + 1, by simp, by omega, by rw [HN1.out], HR2.out, HB2.out⟩
              case measure => simp [intOf]; omega
            · have HI2 := Lib.hid (decide_eq_false hiy)
              have HN1 := Lib.hid (show cnt (fun x => !decide (x ∈ xs)) (ys.take (j + 1)) = p + 1 by rw [HH.out, if_pos (by rw [HI2.out]; decide)])
              go_wp2_with fail
              refine (I2.out _ j x (by omega) (HS2.out.below HB.out)).mono ?_
              rw [HI.out]
              rintro e w1 ⟨rfl, hb⟩
              have HR1 := Lib.hid (HR.out.below hb)
              have HB1 := Lib.hid (below_up HB.out hb HB.out.size)
              have c1 := cellB hb c0
              clear hb c0
              go_wp2_with fail
              refine (A1.out _ x (HS.out.below HB1.out)).mono ?_
              rw [HI2.out]
              rintro e w2 ⟨rfl, hb⟩
              have HR2 := Lib.hid (HR1.out.below hb)
              have HB2 := Lib.hid (below_up HB1.out hb HB1.out.size)
              clear hb
              go_wp2_with fail
              go_roundw
              case rel => exact ⟨j + 1, by simp, by omega, by rw [HN1.out]; simp; omega, HR2.out, HB2.out⟩
              case measure => simp [intOf]; omega
        · have hJ : ys.take j = ys := List.take_of_length_le (by omega)
          rw [hJ] at d1 d2 ⊢
          obtain ⟨q, hq⟩ : ∃ q, cnt (fun x => !decide (x ∈ xs)) ys = q := ⟨_, rfl⟩
          rw [hq] at HUn d2 ⊢
          have d5 : (q : Int) ≤ 4000 := by omega
          have HJ := Lib.hid (show jacT xs ys = if uni xs ys = 0 then (1, 1) else shr (both xs ys) (uni xs ys) from rfl)
          rw [HUn.out, HBo.out] at HJ
          obtain ⟨r, hr⟩ : ∃ r, jacT xs ys = r := ⟨_, rfl⟩
          rw [hr] at HJ
          have HRR := Lib.hid hr
          have hR := HR.out
          have r0 := hR.c0
          have r1 := hR.c1
          have f0 := hR.f0
          have f1 := hR.f1
          clear hJ hq d1 d2 hr hR
          by_cases h0 : o + q = 0
          · obtain rfl : r = (1, 1) := by rw [HJ.out, if_pos h0]
            have h0' : (((o : Int) + (q : Int)) == 0) = true := by rw [beq_iff_eq]; omega
            go_wp2_with fail
            refine bodyPost_ret (v := rat (1, 1)) (by simp [results, Tryz.results13, go_sem, r0, r1]) rfl ?_
            exact ⟨rat_ret HRR.out.symm, below_two HB.out (Nat.le_refl _)⟩
          · have hr : shr (k : Int) ((o + q : Nat) : Int) = r := by rw [HJ.out, if_neg h0]
            have h0' : (((o : Int) + (q : Int)) == 0) = false := by rw [beq_eq_false_iff_ne]; omega
            rw [show ((o + q : Nat) : Int) = (o : Int) + (q : Int) by omega] at hr
            have HR3 := Lib.hid hr
            clear hr r0 r1 f0 f1
            go_wp2_with fail
            refine (share_ref (k : Int) ((o : Int) + (q : Int)) (by omega) (by omega) (by omega) (by omega) _).mono ?_
            rw [HR3.out]
            rintro e w3 ⟨rfl, hb⟩
            have R2 := HR.out.below hb
            have HB2 := Lib.hid (below_up HB.out hb HB.out.size)
            have r0 := R2.c0
            have r1 := R2.c1
            have f0 := R2.f0
            have f1 := R2.f1
            clear hb R2
            go_wp2_with fail
            refine bodyPost_ret (v := rat r) (by simp [results, Tryz.results13, go_sem, r0, r1]) rfl ?_
            exact ⟨rat_ret HRR.out.symm, below_two HB2.out (Nat.le_refl _)⟩
end Go.Proofs.YtendkghifcjffaaGreatDoor

