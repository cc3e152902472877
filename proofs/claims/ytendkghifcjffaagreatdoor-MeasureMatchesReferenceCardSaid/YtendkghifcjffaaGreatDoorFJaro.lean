/- The contract of the reference's Jaro. -/
import Derived.Test.YtendkghifcjffaaGreatDoorFRef
import Derived.Test.YtendkghifcjffaaGreatDoorMJaroS
namespace Go.Proofs.YtendkghifcjffaaGreatDoor
open Go.RowKit

theorem diffTo_congr (x : List UInt8) {y z : List UInt8} : ∀ k, (∀ i < k, y[i]? = z[i]?) → diffTo x y k = diffTo x z k
  | 0, _ => rfl
  | k + 1, h => by rw [diffTo, diffTo, diffTo_congr x k (fun i hi => h i (by omega)), h k (by omega)]
theorem diffTo_snoc (x J : List UInt8) (d : UInt8) : diffTo x (J ++ [d]) (J.length + 1) = diffTo x J J.length + (if x[J.length]? = some d then 0 else 1) := by
  rw [diffTo, diffTo_congr x J.length (fun i hi => List.getElem?_append_left hi), List.getElem?_append_right (Nat.le_refl _)]
  simp
theorem selTo_mono (l : List UInt8) (p : Nat → Bool) {j k : Nat} (h : j ≤ k) : (selTo l p j).length ≤ (selTo l p k).length := by
  induction k with
  | zero => rw [show j = 0 by omega]; exact Nat.le_refl _
  | succ k ih =>
    rcases Nat.lt_or_ge j (k + 1) with q | q
    · refine Nat.le_trans (ih (by omega)) ?_
      rw [selTo, List.length_append]
      omega
    · rw [show j = k + 1 by omega]
      exact Nat.le_refl _
theorem Own2.at {w w1 : World} {B b : Nat} {n d : Int} (h : Own2 w b n d) (hb : Below B w w1) (hB : b < B) : Own2 w1 b n d :=
  ⟨(hb.cell (p := ⟨b, 0, none⟩) hB).trans h.c0, (hb.cell (p := ⟨b, 1, none⟩) hB).trans h.c1, (hb.frozen (p := ⟨b, 0, none⟩) hB).trans h.f0, (hb.frozen (p := ⟨b, 1, none⟩) hB).trans h.f1⟩

set_option maxRecDepth 100000 in
theorem jaro_ref_big1 (a b : List UInt8) (h : 200 < a.length) (w : World) :
    Calls Tryz.prog 17 #[str a, str b] w fun e w' => e = .returned (rat (jaroT a b)) ∧ Below w.heap.size w w' := by
  have HT := Lib.hid (show jaroT a b = (0, 1) by
    unfold jaroT; rw [if_pos (Or.inl h)])
  go_enter Tryz.func17, Tryz.ntmps17
  go_wp2_with fail
  refine bodyPost_ret (v := rat (0, 1)) (by simp [results, Tryz.results17, go_sem]) rfl ?_
  exact ⟨rat_ret HT.out.symm, below_box _ _⟩

set_option maxRecDepth 100000 in
theorem jaro_ref_big2 (a b : List UInt8) (h1 : a.length ≤ 200) (h : 200 < b.length) (w : World) :
    Calls Tryz.prog 17 #[str a, str b] w fun e w' => e = .returned (rat (jaroT a b)) ∧ Below w.heap.size w w' := by
  have HT := Lib.hid (show jaroT a b = (0, 1) by
    unfold jaroT; rw [if_pos (Or.inr h)])
  go_enter Tryz.func17, Tryz.ntmps17
  go_wp2_with fail
  refine bodyPost_ret (v := rat (0, 1)) (by simp [results, Tryz.results17, go_sem]) rfl ?_
  exact ⟨rat_ret HT.out.symm, below_box _ _⟩

set_option maxRecDepth 100000 in
theorem jaro_ref_nil (w : World) :
    Calls Tryz.prog 17 #[str [], str []] w fun e w' => e = .returned (rat (jaroT [] [])) ∧ Below w.heap.size w w' := by
  have HT := Lib.hid (show jaroT [] [] = (1, 1) by
    rfl)
  go_enter Tryz.func17, Tryz.ntmps17
  go_wp2_with fail
  refine bodyPost_ret (v := rat (1, 1)) (by simp [results, Tryz.results17, go_sem]) rfl ?_
  exact ⟨rat_ret HT.out.symm, below_box _ _⟩

set_option maxRecDepth 100000 in
set_option maxHeartbeats 3200000 in
theorem jaro_ref_main (a b : List UInt8) (ha : a.length ≤ 200) (hb : b.length ≤ 200) (hne : ¬ a.length = 0) (w : World) :
    Calls Tryz.prog 17 #[str a, str b] w fun e w' => e = .returned (rat (jaroT a b)) ∧ Below w.heap.size w w' := by
  have hqa : ((a.length : Int) == 0) = false := by rw [beq_eq_false_iff_ne]; omega
  obtain ⟨i0, hi, hz0, hz1, hz2⟩ := info_parts infoBool
  have HJT : Hid (jaroT a b = if jm a b = 0 then (0, 1) else shr (jp (jm a b) (ju a b) a.length b.length) (jq (jm a b) a.length b.length)) := Lib.hid (by
    unfold jaroT
    rw [if_neg (by omega), if_neg (fun e => by obtain ⟨e1, e2⟩ := e; subst e1 e2; exact hne rfl)])
  have HJM := Lib.hid (show jm a b = (IA a b (jw a b) a.length).length from rfl)
  have HJU := Lib.hid (show ju a b = diffTo (IA a b (jw a b) a.length) (IB a b (jw a b)) (jm a b) from rfl)
  have HLE := Lib.hid (IA_IB_len a b (jw a b))
  have HJL := Lib.hid (And.intro (jm_le a b) (ju_le a b))
  obtain ⟨n, hn⟩ : ∃ n, max a.length b.length = n := ⟨_, rfl⟩
  have hm1 : max (a.length : Int) (b.length : Int) = (n : Int) := by omega
  have hn2 : (n : Int) ≤ 200 := by omega
  have hm2 : max ((n : Int) / 2 - 1) 0 = (jw a b : Int) := by unfold jw; rw [hn]; omega
  obtain ⟨k, hk⟩ : ∃ k, jw a b = k := ⟨_, rfl⟩
  rw [hk] at hm2 HJM HJU HLE
  have HA := Lib.hid ha
  have HBb := Lib.hid hb
  have hk2 : (k : Int) ≤ 200 := by rw [← hm2]; omega
  have HR0 := Lib.hid (own2_new w 0 0 32)
  have HW := Lib.hid (below_box w (.cells #[.int .i64 0, .int .i64 0] 32))
  clear hn hk ha hb
  have mx := fun (x y : Int) (W : World) => run_max2 (P := Tryz.prog) #[3, 3] 3 x y W
  go_enter Tryz.func17, Tryz.ntmps17
  go_wp2_with (at_make; refine wpList_make_full _ rfl _ _ 69 rfl (w.heap.size + 1) 4 i0 (.bool false) 1 Tryz.underlying69 hi hz0 hz1 .i64 .i64 _ _ b.length rfl rfl rfl rfl (by rw [hz2]; have := HBb.out; omega) (by have := HBb.out; unfold maxLen; omega) (by simp) ?_)
  intro w1 hown hg1
  have HO := Lib.hid (bools_made hown).1
  have HC := Lib.hid ((Below.refl (w.heap.size + 1) (w.alloc (.cells #[.int .i64 0, .int .i64 0] 32))).grown hg1 (by simp) (fun k e => by cases e))
  clear hown hg1 hi hz0 hz1 hz2
  have hsz : (w.alloc (.cells #[.int .i64 0, .int .i64 0] 32)).heap.size = w.heap.size + 1 := by simp
  obtain ⟨W0, hW0⟩ : ∃ W0, w.alloc (.cells #[.int .i64 0, .int .i64 0] 32) = W0 := ⟨_, rfl⟩
  rw [hW0] at HR0 HW HC hsz
  try rw [hW0]
  try rw [hsz]
  have HZ : Hid (w.heap.size + 1 < w1.heap.size) := Lib.hid (Array.getElem?_eq_some_iff.1 HO.out).1
  have HW0 := Lib.hid hsz
  clear hW0 hsz
  obtain ⟨g, hgg⟩ : ∃ g, w.heap.size + 1 = g := ⟨_, rfl⟩
  have HG := Lib.hid hgg
  rw [hgg] at HO HC HZ HW0 ⊢
  clear hgg
  obtain ⟨b1, hb1⟩ : ∃ b1, w1.heap.size = b1 := ⟨_, rfl⟩
  rw [hb1] at HZ
  have HB1 := Lib.hid hb1
  clear hb1
  go_wp2_with fail
  obtain ⟨i1, hi1, hy0, hy1, hy2⟩ := info_parts infoByte
  go_loopw [7, 8] (fun u x wr => ∃ i : Nat, x = .int .i64 (i : Int) ∧ i ≤ a.length ∧ OwnY wr b1 u (IA a b k i) ∧ Bools wr g (tk a b k i) ∧ Below g W0 wr ∧ b1 ≤ wr.heap.size) (fun _ x _ => a.length + 1 - (intOf x).toNat)
  case atStart => exact ⟨0, by simp, by omega, World.ownsRow_nil _ _ _ _, HO.out, HC.out, Nat.le_of_eq HB1.out.symm⟩
  case round =>
    clear HO HC HB1
    obtain ⟨i, rfl, hi, hown, ho, hbr, hsz⟩ := hrel
    have HU := Lib.hid hown
    have HO := Lib.hid ho
    have HR := Lib.hid hbr
    have HS := Lib.hid hsz
    clear hown ho hbr hsz
    have hA := HA.out
    have hi2 : (i : Int) ≤ 200 := by omega
    by_cases hlt : i < a.length
    · have hm3 : max (0 : Int) ((i : Int) - (k : Int)) = ((i - k : Nat) : Int) := by omega
      obtain ⟨c, hc⟩ : ∃ c, a[i] = c := ⟨_, rfl⟩
      have ec : ∀ h, (⟨a.toArray⟩ : ByteArray)[i]'h = c := fun _ => hc
      have HH := Lib.hid (show hitA a b k i = hit b k i c (tk a b k i) by rw [hitA_at hlt, hc])
      have HSel := Lib.hid (fun (h : (hitA a b k i).isSome = true) => show IA a b k (i + 1) = IA a b k i ++ [c] from by unfold IA; rw [selTo_yes hlt h, hc])
      have HSelN := Lib.hid (fun (h : hitA a b k i = none) => show IA a b k (i + 1) = IA a b k i from by unfold IA; rw [selTo_no (by unfold fa; rw [h]; rfl)])
      have HTK := Lib.hid (tk_succ a b k i)
      have HL := Lib.hid (tk_len a b k i)
      have HIL : Hid ((IA a b k i).length ≤ 200) := Lib.hid (Nat.le_trans (selTo_len _ _ _) (by omega))
      obtain ⟨T, hT⟩ : ∃ T, tk a b k i = T := ⟨_, rfl⟩
      rw [hT] at HO HH HTK HL
      obtain ⟨I, hI⟩ : ∃ I, IA a b k i = I := ⟨_, rfl⟩
      rw [hI] at HU HSel HSelN HIL
      have hBb := HBb.out
      clear hc hT hI
      go_wp2_with fail
      obtain ⟨u0, hu0⟩ : ∃ u0, u7 = u0 := ⟨_, rfl⟩
      rw [hu0] at HU ⊢
      clear hu0
      obtain ⟨wo, rfl⟩ : ∃ wo, wo = wr := ⟨_, rfl⟩
      go_loopw [7, 9] (fun u x wr => ∃ j : Nat, x = .int .i64 (j : Int) ∧ u0 = u ∧ i - k ≤ j ∧ j ≤ 402 ∧ (∀ y < j, mayHit b k i c T y = false) ∧ OwnY wr b1 u0 I ∧ Bools wr g T ∧ Below g W0 wr ∧ b1 ≤ wr.heap.size) (fun _ x _ => 500 - (intOf x).toNat)
      case atStart =>
        refine ⟨i - k, rfl, rfl, Nat.le_refl _, by omega, fun y hy => ?_, HU.out, HO.out, HR.out, HS.out⟩
        cases e : mayHit b k i c T y with
        | false => rfl
        | true =>
          have := (mayHit_iff.1 e).2.2.1
          omega
      case round =>
        clear HU HO HR HS
        obtain ⟨j, rfl, rfl, hj0, hj1, hno, hown, ho, hbr, hsz⟩ := hrel
        have HU := Lib.hid hown
        have HO := Lib.hid ho
        have HR := Lib.hid hbr
        have HS := Lib.hid hsz
        have HN := Lib.hid hno
        clear hown ho hbr hsz hno
        have hj2 : (j : Int) ≤ 402 := by omega
        have hj3 : 0 ≤ (j : Int) := by omega
        by_cases hjl : j < b.length
        · by_cases hjw : j ≤ i + k
          · obtain ⟨d, hd⟩ : ∃ d, b[j] = d := ⟨_, rfl⟩
            have ed : ∀ h, (⟨b.toArray⟩ : ByteArray)[j]'h = d := fun _ => hd
            have HD : Hid (b[j]? = some d) := Lib.hid (by rw [List.getElem?_eq_getElem hjl, hd])
            have c0 := HO.out.cell (k := j) (by rw [HL.out]; exact hjl)
            have f0 := HO.out.free j
            obtain ⟨tb, htb⟩ : ∃ tb, T[j]'(by rw [HL.out]; exact hjl) = tb := ⟨_, rfl⟩
            rw [htb] at c0
            have HTB : Hid (T[j]? = some tb) := Lib.hid (by rw [List.getElem?_eq_getElem (by rw [HL.out]; exact hjl), htb])
            clear hd htb
            have HMH := Lib.hid (@mayHit_iff b k i c T j)
            rw [HTB.out, HD.out] at HMH
            cases tb
            · by_cases hcd : c = d
              · subst hcd
                have HIT : Hid (hitA a b k i = some j) := Lib.hid (by rw [HH.out]; exact hit_some hjl (HMH.out.2 ⟨rfl, rfl, by omega, hjw⟩) HN.out)
                have HSet := Lib.hid (HO.out.set j)
                have HN1 := Lib.hid (HSel.out (by rw [HIT.out]; rfl))
                have HN2 : Hid (tk a b k (i + 1) = T.set j true) := Lib.hid (by rw [HTK.out, HIT.out]; rfl)
                have HU5 := Lib.hid (fun m => show OwnY ((wr.drewN m).setCell ⟨g, j, none⟩ (.bool true)) b1 u0 I from ownsRow_setCell_below (w := wr.drewN m) HU.out (a := ⟨g, j, none⟩) HZ.out (.bool true))
                have HO5 := Lib.hid (fun m => show Bools ((wr.drewN m).setCell ⟨g, j, none⟩ (.bool true)) g (T.set j true) from Bools.set (w := wr.drewN m) HO.out j)
                have HR5 := Lib.hid (fun m => show Below g W0 ((wr.drewN m).setCell ⟨g, j, none⟩ (.bool true)) from (dN HR.out m).setCell (Nat.le_refl _) _)
                have HS5 := Lib.hid (fun m => show b1 ≤ ((wr.drewN m).setCell ⟨g, j, none⟩ (.bool true)).heap.size by simp; exact HS.out)
                go_wp2_with fail
                go_quiet (fail)
                go_wp2_with (at_builtin; refine wpList_append_own _ rfl _ _ 65 rfl b1 5 i1 (.int .u8 0) 1 1 Tryz.underlying65 hi1 hy0 hy1 hy2 rfl (by decide) _ _ _ rfl ((HU5.out _).alloc _) ⟨wr.heap.size, 0, none⟩ 1 1 [.int .u8 (c.toNat : Int)] rfl rfl ?c1 ?c2 ?c3 ?c4 ?c5 ?_)
                case c1 =>
                  intro j u hj
                  match j, hj with
                  | 0, hj => simp at hj; subst hj; simp [Addr.add, go_sem]
                case c2 => intro u hu; simp at hu; subst hu; rfl
                case c3 => have := HIL.out; unfold maxLen; omega
                case c4 => have := HIL.out; omega
                case c5 => have := HS.out; simp <;> omega
                intro v' w7 hown' hgrow _
                have R7 := Lib.hid (own_one hown')
                have HB7 := Lib.hid (below_app (HR5.out _) (Nat.le_trans (Nat.le_of_lt HZ.out) (HS5.out _)) (Nat.le_of_lt HZ.out) (HU5.out _) hgrow)
                have HO7 := Lib.hid (bools_own (bools_alloc (HO5.out _) _) ((HU5.out _).alloc _) HZ.out hgrow)
                have HS7 : Hid (b1 ≤ w7.heap.size) := Lib.hid (by have h1 := hgrow.size; have h2 := HS.out; simp at h1; omega)
                clear hown' hgrow
                go_wp2_with fail
                go_roundw
                case rel => exact ⟨i + 1, by simp, by omega, by rw [HN1.out]; exact R7.out, by rw [HN2.out]; exact HO7.out, HB7.out, HS7.out⟩
                case measure => simp [intOf]; omega
              · have hne : ((c.toNat : Int) == (d.toNat : Int)) = false := byte_ne hcd
                have HM : Hid (∀ y < j + 1, mayHit b k i c T y = false) := Lib.hid (fun y hy => by
                  rcases Nat.lt_or_ge y j with q | q
                  · exact HN.out y q
                  · rw [show y = j by omega]
                    cases e : mayHit b k i c T j with
                    | false => rfl
                    | true =>
                      have := (HMH.out.1 e).2.1
                      exact absurd (Option.some.inj this).symm hcd)
                go_wp2_with fail
                go_quiet (fail)
                go_wp2_with fail
                go_roundw
                case rel => exact ⟨j + 1, by simp, rfl, by omega, by omega, HM.out, HU.out, HO.out, dN HR.out _, HS.out⟩
                case measure => simp [intOf]; omega
            · have HM : Hid (∀ y < j + 1, mayHit b k i c T y = false) := Lib.hid (fun y hy => by
                rcases Nat.lt_or_ge y j with q | q
                · exact HN.out y q
                · rw [show y = j by omega]
                  cases e : mayHit b k i c T j with
                  | false => rfl
                  | true =>
                    have := (HMH.out.1 e).1
                    cases this)
              go_wp2_with fail
              go_quiet (fail)
              go_wp2_with fail
              go_roundw
              case rel => exact ⟨j + 1, by simp, rfl, by omega, by omega, HM.out, HU.out, HO.out, dN HR.out _, HS.out⟩
              case measure => simp [intOf]; omega
          · have HIT : Hid (hitA a b k i = none) := Lib.hid (by
              rw [HH.out]
              refine hit_none (fun y hy => ?_)
              rcases Nat.lt_or_ge y j with q | q
              · exact HN.out y q
              · cases e : mayHit b k i c T y with
                | false => rfl
                | true =>
                  have := (mayHit_iff.1 e).2.2.2
                  omega)
            have HN1 := Lib.hid (HSelN.out HIT.out)
            have HN2 : Hid (tk a b k (i + 1) = T) := Lib.hid (by rw [HTK.out, HIT.out]; rfl)
            go_wp2_with fail
            go_roundw
            case rel => exact ⟨i + 1, by simp, by omega, by rw [HN1.out]; exact HU.out, by rw [HN2.out]; exact HO.out, HR.out, HS.out⟩
            case measure => simp [intOf]; omega
        · have HIT : Hid (hitA a b k i = none) := Lib.hid (by
            rw [HH.out]
            exact hit_none (fun y hy => HN.out y (by omega)))
          have HN1 := Lib.hid (HSelN.out HIT.out)
          have HN2 : Hid (tk a b k (i + 1) = T) := Lib.hid (by rw [HTK.out, HIT.out]; rfl)
          go_wp2_with fail
          go_roundw
          case rel => exact ⟨i + 1, by simp, by omega, by rw [HN1.out]; exact HU.out, by rw [HN2.out]; exact HO.out, HR.out, HS.out⟩
          case measure => simp [intOf]; omega
    · obtain rfl : i = a.length := by omega
      have HL := Lib.hid (tk_len a b k a.length)
      have HIB := Lib.hid (show IB a b k = selTo b (tb (tk a b k a.length)) b.length from rfl)
      obtain ⟨T, hT⟩ : ∃ T, tk a b k a.length = T := ⟨_, rfl⟩
      rw [hT] at HO HL HIB
      obtain ⟨I, hI⟩ : ∃ I, IA a b k a.length = I := ⟨_, rfl⟩
      rw [hI] at HU HJM HJU HLE
      obtain ⟨J, hJ⟩ : ∃ J, IB a b k = J := ⟨_, rfl⟩
      rw [hJ] at HJU HLE HIB
      clear hT hI hJ
      obtain ⟨m, hm⟩ : ∃ m, jm a b = m := ⟨_, rfl⟩
      obtain ⟨d, hd⟩ : ∃ d, ju a b = d := ⟨_, rfl⟩
      rw [hm] at HJT HJM HJU HJL
      rw [hd] at HJT HJU HJL
      clear hm hd
      have hIm : I.length = m := HJM.out.symm
      have HY := Lib.hid (byts_own HU.out)
      obtain ⟨A, cap, e, hcap, _⟩ := HY.out
      subst e
      have HRR := Lib.hid (HR0.out.at HR.out (by have := HG.out; omega))
      have HBW := Lib.hid (below_up HW.out HR.out (by have := HG.out; omega))
      obtain ⟨⟨l1, l2⟩, l3⟩ := HJL.out
      have hm200 : (m : Int) ≤ 200 := by omega
      rw [hIm] at hcap ⊢
      by_cases h0 : m = 0
      · have HT := Lib.hid (show jaroT a b = (0, 1) by rw [HJT.out, if_pos h0])
        subst h0
        have R := HRR.out
        have r0 := R.c0
        have r1 := R.c1
        have f0 := R.f0
        have f1 := R.f1
        clear R
        go_wp2_with fail
        refine bodyPost_ret (v := rat (0, 1)) (by simp [results, Tryz.results17, go_sem, r0, r1]) rfl ?_
        exact ⟨rat_ret HT.out.symm, below_two HBW.out (Nat.le_refl _)⟩
      · have HT := Lib.hid (show jaroT a b = shr (jp m d a.length b.length) (jq m a.length b.length) by rw [HJT.out, if_neg h0])
        have h0' : ((m : Int) == 0) = false := by rw [beq_eq_false_iff_ne]; omega
        go_wp2_with fail
        obtain ⟨wo, rfl⟩ : ∃ wo, wo = wr := ⟨_, rfl⟩
        go_loopw [11, 12, 13] (fun u q x wr => ∃ j : Nat, x = .int .i64 (j : Int) ∧ j ≤ b.length ∧ q = .int .i64 ((selTo b (tb T) j).length : Nat) ∧ u = .int .i64 (diffTo I (selTo b (tb T) j) (selTo b (tb T) j).length : Nat) ∧ Below wo.heap.size wo wr) (fun _ _ x _ => b.length + 1 - (intOf x).toNat)
        case atStart => exact ⟨0, by simp, by omega, by simp [selTo], by simp [selTo, diffTo], Below.refl _ _⟩
        case round =>
          obtain ⟨j, rfl, hj, rfl, rfl, hb2⟩ := hrel
          have HB2 := Lib.hid hb2
          clear hb2
          have hBb := HBb.out
          have hq1 := selTo_len b (tb T) j
          have hq2 := diffTo_le I (selTo b (tb T) j) (selTo b (tb T) j).length
          have hq3 := selTo_mono b (tb T) (j := j + 1) (k := b.length)
          have hq4 : (selTo b (tb T) b.length).length = m := by rw [← HIB.out, ← HLE.out, hIm]
          by_cases hlj : j < b.length
          · have o2 := HO.out.below HB2.out
            have c0 := o2.cell (k := j) (by rw [HL.out]; exact hlj)
            have hq5 := hq3 (by omega)
            rw [hq4] at hq5
            obtain ⟨x, hx⟩ : ∃ x, T[j]'(by rw [HL.out]; exact hlj) = x := ⟨_, rfl⟩
            rw [hx] at c0
            have HTB : Hid (tb T j = x) := Lib.hid (by unfold tb; rw [List.getElem?_eq_getElem (by rw [HL.out]; exact hlj), hx]; cases x <;> rfl)
            clear hx o2 hq3 hq4
            cases x
            · have HN1 := Lib.hid (selTo_no (l := b) HTB.out)
              obtain ⟨q, hq⟩ : ∃ q, selTo b (tb T) j = q := ⟨_, rfl⟩
              rw [hq] at HN1 hq1 hq2 ⊢
              obtain ⟨z, hz⟩ : ∃ z, diffTo I q q.length = z := ⟨_, rfl⟩
              have HZZ := Lib.hid hz
              rw [hz] at hq2 ⊢
              clear hq hz hq5
              go_wp2_with fail
              go_roundw
              case rel => exact ⟨j + 1, by simp, by omega, by rw [HN1.out], by rw [HN1.out, HZZ.out], HB2.out⟩
              case measure => simp [intOf]; omega
            · obtain ⟨c, hc⟩ : ∃ c, b[j] = c := ⟨_, rfl⟩
              have ec : ∀ h, (⟨b.toArray⟩ : ByteArray)[j]'h = c := fun _ => hc
              have hn1 : selTo b (tb T) (j + 1) = selTo b (tb T) j ++ [c] := by rw [selTo_yes hlj HTB.out, hc]
              rw [hn1, List.length_append] at hq5
              have hn2 := diffTo_snoc I (selTo b (tb T) j) c
              have HN1 := Lib.hid hn1
              have HN2 := Lib.hid hn2
              obtain ⟨q, hq⟩ : ∃ q, selTo b (tb T) j = q := ⟨_, rfl⟩
              rw [hq] at HN1 HN2 hq1 hq2 hq5 ⊢
              obtain ⟨z, hz⟩ : ∃ z, diffTo I q q.length = z := ⟨_, rfl⟩
              rw [hz] at HN2 hq2 ⊢
              have HLEN : Hid ((selTo b (tb T) (j + 1)).length = q.length + 1) := Lib.hid (by rw [HN1.out, List.length_append]; rfl)
              obtain ⟨p, hp⟩ : ∃ p, q.length = p := ⟨_, rfl⟩
              rw [hp] at HN2 HLEN hq1 hq2 hq5 ⊢
              have hpI : p < I.length := by simp at hq5; omega
              have HN3 : Hid (diffTo I (selTo b (tb T) (j + 1)) (p + 1) = z + (if I[p]? = some c then 0 else 1)) := Lib.hid (by rw [HN1.out]; exact HN2.out)
              have hp2 : (p : Int) ≤ 200 := by omega
              have hz2 : (z : Int) ≤ 200 := by omega
              obtain ⟨A', cap', e, _, hcc⟩ := HY.out.below HB2.out
              cases e
              obtain ⟨bb, off, rfl, c1⟩ := hcc p hpI
              clear hcc hq hz hp hc hn1 hn2 hq5 hq1 hq2 HN2
              rw [List.getElem?_eq_getElem hpI] at HN3
              obtain ⟨f, hf⟩ : ∃ f, I[p] = f := ⟨_, rfl⟩
              rw [hf] at c1 HN3
              clear hf
              by_cases hcf : c = f
              · subst hcf
                have HN4 : Hid (diffTo I (selTo b (tb T) (j + 1)) (p + 1) = z) := Lib.hid (by rw [HN3.out, if_pos rfl, Nat.add_zero])
                go_wp2_with fail
                go_region
                go_wp2_with fail
                go_roundw
                case rel => exact ⟨j + 1, by simp, by omega, by rw [HLEN.out]; simp, by rw [HLEN.out, HN4.out], HB2.out.drew⟩
                case measure => simp [intOf]; omega
              · have hne : ((c.toNat : Int) == (f.toNat : Int)) = false := byte_ne hcf
                have hne2 : ((c.toNat : Int) != (f.toNat : Int)) = true := by rw [bne, hne]; rfl
                have HN4 : Hid (diffTo I (selTo b (tb T) (j + 1)) (p + 1) = z + 1) := Lib.hid (by rw [HN3.out, if_neg (fun e => hcf (Option.some.inj e).symm)])
                go_wp2_with fail
                go_region
                go_wp2_with fail
                go_roundw
                case rel => exact ⟨j + 1, by simp, by omega, by rw [HLEN.out]; simp, by rw [HLEN.out, HN4.out]; simp, HB2.out.drew⟩
                case measure => simp [intOf]; omega
          · obtain rfl : j = b.length := by omega
            have HDU : Hid (diffTo I (selTo b (tb T) b.length) m = d) := Lib.hid (by rw [← HIB.out, HJU.out])
            obtain ⟨q, hq⟩ : ∃ q, selTo b (tb T) b.length = q := ⟨_, rfl⟩
            rw [hq] at HDU hq4 ⊢
            rw [hq4, HDU.out]
            have HRR2 := Lib.hid (HRR.out.below HB2.out)
            have HBW2 := Lib.hid (below_up HBW.out HB2.out HBW.out.size)
            clear hq hq1 hq2 hq3 hq4
            have hd200 : (d : Int) ≤ 200 := by omega
            go_wp2_with fail
            rw [jpw l1 l3 HA.out HBb.out, jqw l1 HA.out HBb.out]
            obtain ⟨p0, p1, p2, p3⟩ := jaro_bounds l1 l2 l3 HA.out HBb.out h0
            refine (share_ref (jp m d a.length b.length) (jq m a.length b.length) (by omega) (by omega) (by omega) (by omega) _).mono ?_
            rw [← HT.out]
            rintro e w3 ⟨rfl, hb⟩
            have R3 := HRR2.out.below hb
            have HB3 := Lib.hid (below_up HBW2.out hb HBW2.out.size)
            have r0 := R3.c0
            have r1 := R3.c1
            have f0 := R3.f0
            have f1 := R3.f1
            obtain ⟨r, hr⟩ : ∃ r, jaroT a b = r := ⟨_, rfl⟩
            have HR2 := Lib.hid hr
            rw [hr]
            clear hb R3 p0 p1 p2 p3 hr
            go_wp2_with fail
            refine bodyPost_ret (v := rat r) (by simp [results, Tryz.results17, go_sem, r0, r1]) rfl ?_
            exact ⟨rat_ret HR2.out.symm, below_two HB3.out (Nat.le_refl _)⟩

set_option maxRecDepth 100000 in
set_option maxHeartbeats 3200000 in
theorem jaro_ref_left (a b : List UInt8) (ha : a.length ≤ 200) (hb : b.length ≤ 200) (h0 : a.length = 0) (hne : ¬ b.length = 0) (w : World) :
    Calls Tryz.prog 17 #[str a, str b] w fun e w' => e = .returned (rat (jaroT a b)) ∧ Below w.heap.size w w' := by
  have hqa : ((a.length : Int) == 0) = true := by rw [h0]; rfl
  have hqb : ((b.length : Int) == 0) = false := by rw [beq_eq_false_iff_ne]; omega
  obtain ⟨i0, hi, hz0, hz1, hz2⟩ := info_parts infoBool
  have HJT : Hid (jaroT a b = if jm a b = 0 then (0, 1) else shr (jp (jm a b) (ju a b) a.length b.length) (jq (jm a b) a.length b.length)) := Lib.hid (by
    unfold jaroT
    rw [if_neg (by omega), if_neg (fun e => by obtain ⟨e1, e2⟩ := e; subst e1 e2; exact hne rfl)])
  have HJM := Lib.hid (show jm a b = (IA a b (jw a b) a.length).length from rfl)
  have HJU := Lib.hid (show ju a b = diffTo (IA a b (jw a b) a.length) (IB a b (jw a b)) (jm a b) from rfl)
  have HLE := Lib.hid (IA_IB_len a b (jw a b))
  have HJL := Lib.hid (And.intro (jm_le a b) (ju_le a b))
  obtain ⟨n, hn⟩ : ∃ n, max a.length b.length = n := ⟨_, rfl⟩
  have hm1 : max (a.length : Int) (b.length : Int) = (n : Int) := by omega
  have hn2 : (n : Int) ≤ 200 := by omega
  have hm2 : max ((n : Int) / 2 - 1) 0 = (jw a b : Int) := by unfold jw; rw [hn]; omega
  obtain ⟨k, hk⟩ : ∃ k, jw a b = k := ⟨_, rfl⟩
  rw [hk] at hm2 HJM HJU HLE
  have HA := Lib.hid ha
  have HBb := Lib.hid hb
  have hk2 : (k : Int) ≤ 200 := by rw [← hm2]; omega
  have HR0 := Lib.hid (own2_new w 0 0 32)
  have HW := Lib.hid (below_box w (.cells #[.int .i64 0, .int .i64 0] 32))
  clear hn hk ha hb
  have mx := fun (x y : Int) (W : World) => run_max2 (P := Tryz.prog) #[3, 3] 3 x y W
  go_enter Tryz.func17, Tryz.ntmps17
  go_wp2_with (at_make; refine wpList_make_full _ rfl _ _ 69 rfl (w.heap.size + 1) 4 i0 (.bool false) 1 Tryz.underlying69 hi hz0 hz1 .i64 .i64 _ _ b.length rfl rfl rfl rfl (by rw [hz2]; have := HBb.out; omega) (by have := HBb.out; unfold maxLen; omega) (by simp) ?_)
  intro w1 hown hg1
  have HO := Lib.hid (bools_made hown).1
  have HC := Lib.hid ((Below.refl (w.heap.size + 1) (w.alloc (.cells #[.int .i64 0, .int .i64 0] 32))).grown hg1 (by simp) (fun k e => by cases e))
  clear hown hg1 hi hz0 hz1 hz2
  have hsz : (w.alloc (.cells #[.int .i64 0, .int .i64 0] 32)).heap.size = w.heap.size + 1 := by simp
  obtain ⟨W0, hW0⟩ : ∃ W0, w.alloc (.cells #[.int .i64 0, .int .i64 0] 32) = W0 := ⟨_, rfl⟩
  rw [hW0] at HR0 HW HC hsz
  try rw [hW0]
  try rw [hsz]
  have HZ : Hid (w.heap.size + 1 < w1.heap.size) := Lib.hid (Array.getElem?_eq_some_iff.1 HO.out).1
  have HW0 := Lib.hid hsz
  clear hW0 hsz
  obtain ⟨g, hgg⟩ : ∃ g, w.heap.size + 1 = g := ⟨_, rfl⟩
  have HG := Lib.hid hgg
  rw [hgg] at HO HC HZ HW0 ⊢
  clear hgg
  obtain ⟨b1, hb1⟩ : ∃ b1, w1.heap.size = b1 := ⟨_, rfl⟩
  rw [hb1] at HZ
  have HB1 := Lib.hid hb1
  clear hb1
  go_wp2_with fail
  obtain ⟨i1, hi1, hy0, hy1, hy2⟩ := info_parts infoByte
  go_loopw [7, 8] (fun u x wr => ∃ i : Nat, x = .int .i64 (i : Int) ∧ i ≤ a.length ∧ OwnY wr b1 u (IA a b k i) ∧ Bools wr g (tk a b k i) ∧ Below g W0 wr ∧ b1 ≤ wr.heap.size) (fun _ x _ => a.length + 1 - (intOf x).toNat)
  case atStart => exact ⟨0, by simp, by omega, World.ownsRow_nil _ _ _ _, HO.out, HC.out, Nat.le_of_eq HB1.out.symm⟩
  case round =>
    clear HO HC HB1
    obtain ⟨i, rfl, hi, hown, ho, hbr, hsz⟩ := hrel
    have HU := Lib.hid hown
    have HO := Lib.hid ho
    have HR := Lib.hid hbr
    have HS := Lib.hid hsz
    clear hown ho hbr hsz
    have hA := HA.out
    have hi2 : (i : Int) ≤ 200 := by omega
    by_cases hlt : i < a.length
    · exact absurd hlt (by omega)
    · obtain rfl : i = a.length := by omega
      have HL := Lib.hid (tk_len a b k a.length)
      have HIB := Lib.hid (show IB a b k = selTo b (tb (tk a b k a.length)) b.length from rfl)
      obtain ⟨T, hT⟩ : ∃ T, tk a b k a.length = T := ⟨_, rfl⟩
      rw [hT] at HO HL HIB
      obtain ⟨I, hI⟩ : ∃ I, IA a b k a.length = I := ⟨_, rfl⟩
      rw [hI] at HU HJM HJU HLE
      obtain ⟨J, hJ⟩ : ∃ J, IB a b k = J := ⟨_, rfl⟩
      rw [hJ] at HJU HLE HIB
      clear hT hI hJ
      obtain ⟨m, hm⟩ : ∃ m, jm a b = m := ⟨_, rfl⟩
      obtain ⟨d, hd⟩ : ∃ d, ju a b = d := ⟨_, rfl⟩
      rw [hm] at HJT HJM HJU HJL
      rw [hd] at HJT HJU HJL
      clear hm hd
      have hIm : I.length = m := HJM.out.symm
      have HY := Lib.hid (byts_own HU.out)
      obtain ⟨A, cap, e, hcap, _⟩ := HY.out
      subst e
      have HRR := Lib.hid (HR0.out.at HR.out (by have := HG.out; omega))
      have HBW := Lib.hid (below_up HW.out HR.out (by have := HG.out; omega))
      obtain ⟨⟨l1, l2⟩, l3⟩ := HJL.out
      have hm200 : (m : Int) ≤ 200 := by omega
      rw [hIm] at hcap ⊢
      by_cases h0 : m = 0
      · have HT := Lib.hid (show jaroT a b = (0, 1) by rw [HJT.out, if_pos h0])
        subst h0
        have R := HRR.out
        have r0 := R.c0
        have r1 := R.c1
        have f0 := R.f0
        have f1 := R.f1
        clear R
        go_wp2_with fail
        refine bodyPost_ret (v := rat (0, 1)) (by simp [results, Tryz.results17, go_sem, r0, r1]) rfl ?_
        exact ⟨rat_ret HT.out.symm, below_two HBW.out (Nat.le_refl _)⟩
      · exact absurd l1 (by omega)

theorem jaro_ref (a b : List UInt8) (w : World) :
    Calls Tryz.prog 17 #[str a, str b] w fun e w' => e = .returned (rat (jaroT a b)) ∧ Below w.heap.size w w' := by
  by_cases h1 : 200 < a.length
  · exact jaro_ref_big1 a b h1 w
  by_cases h2 : 200 < b.length
  · exact jaro_ref_big2 a b (by omega) h2 w
  by_cases h3 : a.length = 0
  · by_cases h4 : b.length = 0
    · rw [List.length_eq_zero_iff] at h3 h4
      subst h3 h4
      exact jaro_ref_nil w
    · exact jaro_ref_left a b (by omega) (by omega) h3 h4 w
  · exact jaro_ref_main a b (by omega) (by omega) h3 w
end Go.Proofs.YtendkghifcjffaaGreatDoor
