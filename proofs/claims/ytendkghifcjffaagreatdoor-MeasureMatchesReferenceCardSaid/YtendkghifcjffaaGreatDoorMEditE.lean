/- The contract of Edit. -/
import Derived.Test.YtendkghifcjffaaGreatDoorMEdit
namespace Go.Proofs.YtendkghifcjffaaGreatDoor
open Go.RowKit

theorem least_new (W : World) (x y z : Int) :
    Calls Tryz.prog 28 #[.int .i64 x, .slice (some ⟨W.heap.size, 0, none⟩) 2 2] (W.alloc (Obj.cells #[.int .i64 y, .int .i64 z] 3)).drew fun e w' => e = .returned (.int .i64 (min x (min y z))) ∧ w' = (W.alloc (Obj.cells #[.int .i64 y, .int .i64 z] 3)).drew :=
  least_two x y z W.heap.size _ (by simp [go_sem]) (by simp [go_sem])
def upto (j x : Nat) : Int := if x < j then (x : Int) else 0
/-- What a row of the table holds while it is turned: k places are new. -/
def part (A B : List UInt8) (i k x : Nat) : Int := if x < k then (dist A B (i + 1) x : Int) else (dist A B i x : Int)
theorem part_step {A B : List UInt8} {i j : Nat} {v : Int} (hv : v = (dist A B (i + 1) (j + 1) : Int)) (x : Nat) : (if x = j + 1 then v else part A B i (j + 1) x) = part A B i (j + 2) x := by
  unfold part
  by_cases h : x = j + 1
  · rw [if_pos h, if_pos (by omega), h, hv]
  · rw [if_neg h]
    by_cases g : x < j + 1
    · rw [if_pos g, if_pos (by omega)]
    · rw [if_neg g, if_neg (by omega)]
theorem nums_alloc {w : World} {g n : Nat} {f : Nat → Int} (h : Nums w g n f) (o : Obj) : Nums (w.alloc o) g n f := h.below ((Below.refl _ _).alloc (Nat.le_refl _) _)
theorem nums_drew {w : World} {g n : Nat} {f : Nat → Int} (h : Nums w g n f) : Nums w.drew g n f := h.below (Below.refl _ _).drew

set_option maxRecDepth 100000 in
set_option maxHeartbeats 3200000 in
theorem edit_any (a b : List UInt8) (ha : a.length ≤ 1000) (hb : b.length ≤ 1000) (w : World) :
    Calls Tryz.prog 8 #[str a, str b] w fun e w' => e = .returned (.int .i64 (lev a b : Nat)) ∧ Below w.heap.size w w' := by
  obtain ⟨i0, hi, hz0, hz1, hz2⟩ := info_parts infoInt
  go_enter Tryz.func8, Tryz.ntmps8
  go_wp2_with fail
  refine (trim_any a b ha hb _).mono ?_
  rintro e w1 ⟨a1, b1, rfl, hl, h1, h2, hb1⟩
  have HL := Lib.hid hl
  have HB1 := Lib.hid hb1
  clear hl hb1
  by_cases hsw : a1.length < b1.length
  · have HA := Lib.hid (show b1.length ≤ 1000 by omega)
    have HBL := Lib.hid (show a1.length ≤ 1000 by omega)
    have HR := Lib.hid (show lev b1 a1 = lev a b from by rw [lev_sym]; exact HL.out)
    clear HL
    clear h1 h2 ha hb
    obtain ⟨N, hN⟩ : ∃ N, a1.length + 1 = N := ⟨_, rfl⟩
    have hNi : (a1.length : Int) + 1 = (N : Int) := by omega
    have HN := Lib.hid hN
    clear hN
    have hNl : N ≤ 1001 := by have := HN.out; have := HBL.out; omega
    obtain ⟨w2, hw2⟩ : ∃ w2, w2 = w1 := ⟨_, rfl⟩
    rw [← hw2]
    have HB2 : Hid (Below w.heap.size w w2) := Lib.hid (by rw [hw2]; exact HB1.out)
    clear hw2 HB1
    go_wp2_with (at_make; refine wpList_make_full _ rfl _ _ 49 rfl w2.heap.size 3 i0 (.int .i64 0) 1 Tryz.underlying49 hi hz0 hz1 .i64 .i64 _ _ N rfl rfl rfl rfl (by rw [hz2]; omega) (by unfold maxLen; omega) (Nat.le_refl _) ?_)
    intro w3 hown hg3
    have HO := Lib.hid (nums_made hown).1
    have HC3 := Lib.hid ((Below.refl w2.heap.size w2).grown hg3 (Nat.le_refl _) (fun k e => by cases e))
    clear hown hg3 hi hz0 hz1 hz2 hsw
    obtain ⟨g, hgg⟩ : ∃ g, w2.heap.size = g := ⟨_, rfl⟩
    have HG := Lib.hid hgg
    rw [hgg] at HO
    rw [hgg]
    clear hgg
    go_wp2_with fail
    go_loopw [30] (fun i wr => ∃ j : Nat, i = .int .i64 (j : Int) ∧ j ≤ N ∧ Nums wr g N (upto j) ∧ Below g w2 wr) (fun i _ => N + 1 - (intOf i).toNat)
    case atStart =>
      exact ⟨0, by simp, by omega, HO.out.congr (fun k _ => (if_neg (by omega)).symm), by rw [← HG.out]; exact HC3.out⟩
    case round =>
      clear HO HC3
      obtain ⟨j, rfl, hj, ho, hbr⟩ := hrel
      have HO := Lib.hid ho
      have HR3 := Lib.hid hbr
      clear ho hbr
      by_cases hlt : j < N
      · have c0 := HO.out.cell hlt
        have f0 := HO.out.free j
        have HS := Lib.hid ((HO.out.set j (j : Int)).congr (f' := upto (j + 1)) (fun k _ => by
          unfold upto
          by_cases q : k = j
          · rw [if_pos q, if_pos (by omega), q]
          · rw [if_neg q]
            by_cases q2 : k < j
            · rw [if_pos q2, if_pos (by omega)]
            · rw [if_neg q2, if_neg (by omega)]))
        go_wp2_with fail
        go_roundw
        case rel => exact ⟨j + 1, by simp, by omega, HS.out, HR3.out.setCell (Nat.le_refl _) _⟩
        case measure => simp [intOf]; omega
      · have HO2 : Hid (Nums wr g N (fun x => (dist b1 a1 0 x : Int))) := Lib.hid (HO.out.congr (fun k hk => by
          unfold upto
          rw [if_pos (by omega), dist_zero_l b1 a1 (by have := HN.out; omega)]))
        clear HO
        go_wp2_with fail
        obtain ⟨wo, rfl⟩ : ∃ wo, wo = wr := ⟨_, rfl⟩
        go_loopw [40] (fun i wr => ∃ j : Nat, i = .int .i64 (j : Int) ∧ j ≤ b1.length ∧ Nums wr g N (fun x => (dist b1 a1 j x : Int)) ∧ Below g w2 wr) (fun i _ => b1.length + 1 - (intOf i).toNat)
        case atStart => exact ⟨0, by simp, by omega, HO2.out, HR3.out⟩
        case round =>
          clear HO2 HR3 hlt
          obtain ⟨i, rfl, hiA, ho, hbr⟩ := hrel
          have HO := Lib.hid ho
          have HR3 := Lib.hid hbr
          clear ho hbr
          by_cases hlt : i < b1.length
          · have c0 := HO.out.cell (k := 0) (by have := HN.out; omega)
            have f0 := HO.out.free 0
            obtain ⟨p, hp⟩ : ∃ p, dist b1 a1 i 0 = p := ⟨_, rfl⟩
            have HS := Lib.hid ((HO.out.set 0 ((i : Int) + 1)).congr (f' := part b1 a1 i 1) (fun k _ => by
              unfold part
              by_cases q : k = 0
              · rw [if_pos q, if_pos (by omega), q, dist_zero_r b1 a1 (by omega)]
                omega
              · rw [if_neg q, if_neg (by omega)]))
            rw [hp] at c0
            have HP := Lib.hid hp
            clear hp
            have hiA2 : (i : Int) ≤ 1000 := by have := HA.out; omega
            obtain ⟨c, hc⟩ : ∃ c, b1[i] = c := ⟨_, rfl⟩
            have HCA := Lib.hid hc
            have ec : ∀ h, (⟨b1.toArray⟩ : ByteArray)[i]'h = c := fun _ => hc
            clear hc
            go_wp2_with fail
            obtain ⟨w5, hw5⟩ : ∃ w5, w5 = wr.setCell ⟨g, 0, none⟩ (.int .i64 ((i : Int) + 1)) := ⟨_, rfl⟩
            rw [← hw5] at HS ⊢
            have HR5 : Hid (Below g w2 w5) := Lib.hid (by rw [hw5]; exact HR3.out.setCell (Nat.le_refl _) _)
            clear hw5 HR3 HO c0 f0
            go_loopw [8, 52] (fun u v wr => ∃ j : Nat, v = .int .i64 (j : Int) ∧ u = .int .i64 (dist b1 a1 i j : Int) ∧ j ≤ a1.length ∧ Nums wr g N (part b1 a1 i (j + 1)) ∧ Below g w2 wr) (fun _ v _ => a1.length + 1 - (intOf v).toNat)
            case atStart => exact ⟨0, by simp, by rw [HP.out], by omega, HS.out, HR5.out⟩
            case round =>
              clear HS HR5 HP
              obtain ⟨j, rfl, rfl, hjB, ho, hbr⟩ := hrel
              have HO := Lib.hid ho
              have HR3 := Lib.hid hbr
              clear ho hbr
              by_cases hlj : j < a1.length
              · have c1 := HO.out.cell (k := j) (by have := HN.out; omega)
                have c2 := HO.out.cell (k := j + 1) (by have := HN.out; omega)
                have f2 := HO.out.free (j + 1)
                have HST := Lib.hid (dist_step b1 a1 hlt hlj)
                rw [HCA.out] at HST
                have q0 := dist_le b1 a1 i j
                have q1 := dist_le b1 a1 i (j + 1)
                have q2 := dist_le b1 a1 (i + 1) j
                have hA := HA.out
                have hBL := HBL.out
                rw [show part b1 a1 i (j + 1) j = (dist b1 a1 (i + 1) j : Int) from if_pos (by omega)] at c1
                rw [show part b1 a1 i (j + 1) (j + 1) = (dist b1 a1 i (j + 1) : Int) from if_neg (by omega)] at c2
                have HSet : ∀ (W : World) (v : Int), Below wr.heap.size wr W → v = (dist b1 a1 (i + 1) (j + 1) : Int) → Nums (W.setCell ⟨g, j + 1, none⟩ (.int .i64 v)) g N (part b1 a1 i (j + 1 + 1)) :=
                  fun W v hW hv => ((HO.out.below hW).set (j + 1) v).congr (fun x _ => part_step hv x)
                replace HSet := Lib.hid HSet
                have HEnd : Hid ((dist b1 a1 i (j + 1) : Int) = (dist b1 a1 i (j + 1) : Int)) := Lib.hid rfl
                obtain ⟨q, hq⟩ : ∃ q, dist b1 a1 i (j + 1) = q := ⟨_, rfl⟩
                obtain ⟨p, hp⟩ : ∃ p, dist b1 a1 i j = p := ⟨_, rfl⟩
                obtain ⟨r, hr⟩ : ∃ r, dist b1 a1 (i + 1) j = r := ⟨_, rfl⟩
                have HQ := Lib.hid hq
                rw [hq, hp, hr] at HST
                rw [hp] at q0 ⊢
                rw [hq] at q1 c2
                rw [hr] at q2 c1
                have p0 : (p : Int) ≤ 1001 := by omega
                have p1 : (q : Int) ≤ 1001 := by omega
                have p2 : (r : Int) ≤ 1001 := by omega
                have p3 : (j : Int) ≤ 1000 := by omega
                clear hq hp hr q0 q1 q2 hA hBL HEnd
                obtain ⟨d, hd⟩ : ∃ d, a1[j] = d := ⟨_, rfl⟩
                rw [hd] at HST
                have ed : ∀ h, (⟨a1.toArray⟩ : ByteArray)[j]'h = d := fun _ => hd
                clear hd
                by_cases hcd : c = d
                · have hne : ((c.toNat : Int) != (d.toNat : Int)) = false := by rw [hcd]; simp
                  have HV := Lib.hid (show min (p : Int) (min ((r : Int) + 1) ((q : Int) + 1)) = (dist b1 a1 (i + 1) (j + 1) : Int) by rw [HST.out, hcd, neq_self]; omega)
                  clear hcd
                  go_wp2_with fail
                  go_region
                  go_wp2_with fail
                  refine (least_new _ _ _ _).mono ?_
                  rintro e w6 ⟨rfl, hw6⟩
                  rw [HV.out]
                  have h6 : Below wr.heap.size wr w6 := by rw [hw6]; go_grown
                  have H6 := Lib.hid h6
                  have d2 := cellB h6 c2
                  have e2 := frozenB h6 c2 f2
                  clear hw6 h6 c1 c2 f2
                  go_wp2_with fail
                  go_roundw
                  case rel => exact ⟨j + 1, by simp, by rw [HQ.out], by omega, HSet.out _ _ H6.out rfl, (below_up HR3.out H6.out (by rw [← HG.out]; exact HR3.out.size)).setCell (Nat.le_refl _) _⟩
                  case measure => simp [intOf]; omega
                · have hne : ((c.toNat : Int) != (d.toNat : Int)) = true := by
                    rw [bne_iff_ne]
                    intro e
                    exact hcd (UInt8.toNat_inj.1 (by omega))
                  have HV := Lib.hid (show min ((p : Int) + 1) (min ((r : Int) + 1) ((q : Int) + 1)) = (dist b1 a1 (i + 1) (j + 1) : Int) by rw [HST.out]; unfold neq; rw [if_neg hcd]; omega)
                  clear hcd
                  go_wp2_with fail
                  go_region
                  go_wp2_with fail
                  refine (least_new _ _ _ _).mono ?_
                  rintro e w6 ⟨rfl, hw6⟩
                  rw [HV.out]
                  have h6 : Below wr.heap.size wr w6 := by rw [hw6]; go_grown
                  have H6 := Lib.hid h6
                  have d2 := cellB h6 c2
                  have e2 := frozenB h6 c2 f2
                  clear hw6 h6 c1 c2 f2
                  go_wp2_with fail
                  go_roundw
                  case rel => exact ⟨j + 1, by simp, by rw [HQ.out], by omega, HSet.out _ _ H6.out rfl, (below_up HR3.out H6.out (by rw [← HG.out]; exact HR3.out.size)).setCell (Nat.le_refl _) _⟩
                  case measure => simp [intOf]; omega
              · have HS : Hid (Nums wr g N (fun x => (dist b1 a1 (i + 1) x : Int))) := Lib.hid (HO.out.congr (fun k hk => by
                  unfold part
                  rw [if_pos (by have := HN.out; omega)]))
                go_wp2_with fail
                go_roundw
                case rel => exact ⟨i + 1, by simp, by omega, HS.out, HR3.out⟩
                case measure => simp [intOf]; omega
          · have c0 := HO.out.cell (k := a1.length) (by have := HN.out; omega)
            have HE : Hid (dist b1 a1 i a1.length = lev a b) := Lib.hid (by rw [show i = b1.length by omega, dist_end, HR.out])
            have hnb : (a1.length : Int) ≤ 1000 := by have := HBL.out; omega
            have hNn : a1.length < N := by have := HN.out; omega
            go_wp2_with fail
            go_ret
            exact ⟨ret_int (by rw [HE.out]), below_up HB2.out HR3.out (by rw [← HG.out]; exact HB2.out.size)⟩
  · have HA := Lib.hid (show a1.length ≤ 1000 by omega)
    have HBL := Lib.hid (show b1.length ≤ 1000 by omega)
    have HR := Lib.hid (show lev a1 b1 = lev a b from HL.out)
    clear HL
    clear h1 h2 ha hb
    obtain ⟨N, hN⟩ : ∃ N, b1.length + 1 = N := ⟨_, rfl⟩
    have hNi : (b1.length : Int) + 1 = (N : Int) := by omega
    have HN := Lib.hid hN
    clear hN
    have hNl : N ≤ 1001 := by have := HN.out; have := HBL.out; omega
    obtain ⟨w2, hw2⟩ : ∃ w2, w2 = w1 := ⟨_, rfl⟩
    rw [← hw2]
    have HB2 : Hid (Below w.heap.size w w2) := Lib.hid (by rw [hw2]; exact HB1.out)
    clear hw2 HB1
    go_wp2_with (at_make; refine wpList_make_full _ rfl _ _ 49 rfl w2.heap.size 3 i0 (.int .i64 0) 1 Tryz.underlying49 hi hz0 hz1 .i64 .i64 _ _ N rfl rfl rfl rfl (by rw [hz2]; omega) (by unfold maxLen; omega) (Nat.le_refl _) ?_)
    intro w3 hown hg3
    have HO := Lib.hid (nums_made hown).1
    have HC3 := Lib.hid ((Below.refl w2.heap.size w2).grown hg3 (Nat.le_refl _) (fun k e => by cases e))
    clear hown hg3 hi hz0 hz1 hz2 hsw
    obtain ⟨g, hgg⟩ : ∃ g, w2.heap.size = g := ⟨_, rfl⟩
    have HG := Lib.hid hgg
    rw [hgg] at HO
    rw [hgg]
    clear hgg
    go_wp2_with fail
    go_loopw [30] (fun i wr => ∃ j : Nat, i = .int .i64 (j : Int) ∧ j ≤ N ∧ Nums wr g N (upto j) ∧ Below g w2 wr) (fun i _ => N + 1 - (intOf i).toNat)
    case atStart =>
      exact ⟨0, by simp, by omega, HO.out.congr (fun k _ => (if_neg (by omega)).symm), by rw [← HG.out]; exact HC3.out⟩
    case round =>
      clear HO HC3
      obtain ⟨j, rfl, hj, ho, hbr⟩ := hrel
      have HO := Lib.hid ho
      have HR3 := Lib.hid hbr
      clear ho hbr
      by_cases hlt : j < N
      · have c0 := HO.out.cell hlt
        have f0 := HO.out.free j
        have HS := Lib.hid ((HO.out.set j (j : Int)).congr (f' := upto (j + 1)) (fun k _ => by
          unfold upto
          by_cases q : k = j
          · rw [if_pos q, if_pos (by omega), q]
          · rw [if_neg q]
            by_cases q2 : k < j
            · rw [if_pos q2, if_pos (by omega)]
            · rw [if_neg q2, if_neg (by omega)]))
        go_wp2_with fail
        go_roundw
        case rel => exact ⟨j + 1, by simp, by omega, HS.out, HR3.out.setCell (Nat.le_refl _) _⟩
        case measure => simp [intOf]; omega
      · have HO2 : Hid (Nums wr g N (fun x => (dist a1 b1 0 x : Int))) := Lib.hid (HO.out.congr (fun k hk => by
          unfold upto
          rw [if_pos (by omega), dist_zero_l a1 b1 (by have := HN.out; omega)]))
        clear HO
        go_wp2_with fail
        obtain ⟨wo, rfl⟩ : ∃ wo, wo = wr := ⟨_, rfl⟩
        go_loopw [40] (fun i wr => ∃ j : Nat, i = .int .i64 (j : Int) ∧ j ≤ a1.length ∧ Nums wr g N (fun x => (dist a1 b1 j x : Int)) ∧ Below g w2 wr) (fun i _ => a1.length + 1 - (intOf i).toNat)
        case atStart => exact ⟨0, by simp, by omega, HO2.out, HR3.out⟩
        case round =>
          clear HO2 HR3 hlt
          obtain ⟨i, rfl, hiA, ho, hbr⟩ := hrel
          have HO := Lib.hid ho
          have HR3 := Lib.hid hbr
          clear ho hbr
          by_cases hlt : i < a1.length
          · have c0 := HO.out.cell (k := 0) (by have := HN.out; omega)
            have f0 := HO.out.free 0
            obtain ⟨p, hp⟩ : ∃ p, dist a1 b1 i 0 = p := ⟨_, rfl⟩
            have HS := Lib.hid ((HO.out.set 0 ((i : Int) + 1)).congr (f' := part a1 b1 i 1) (fun k _ => by
              unfold part
              by_cases q : k = 0
              · rw [if_pos q, if_pos (by omega), q, dist_zero_r a1 b1 (by omega)]
                omega
              · rw [if_neg q, if_neg (by omega)]))
            rw [hp] at c0
            have HP := Lib.hid hp
            clear hp
            have hiA2 : (i : Int) ≤ 1000 := by have := HA.out; omega
            obtain ⟨c, hc⟩ : ∃ c, a1[i] = c := ⟨_, rfl⟩
            have HCA := Lib.hid hc
            have ec : ∀ h, (⟨a1.toArray⟩ : ByteArray)[i]'h = c := fun _ => hc
            clear hc
            go_wp2_with fail
            obtain ⟨w5, hw5⟩ : ∃ w5, w5 = wr.setCell ⟨g, 0, none⟩ (.int .i64 ((i : Int) + 1)) := ⟨_, rfl⟩
            rw [← hw5] at HS ⊢
            have HR5 : Hid (Below g w2 w5) := Lib.hid (by rw [hw5]; exact HR3.out.setCell (Nat.le_refl _) _)
            clear hw5 HR3 HO c0 f0
            go_loopw [8, 52] (fun u v wr => ∃ j : Nat, v = .int .i64 (j : Int) ∧ u = .int .i64 (dist a1 b1 i j : Int) ∧ j ≤ b1.length ∧ Nums wr g N (part a1 b1 i (j + 1)) ∧ Below g w2 wr) (fun _ v _ => b1.length + 1 - (intOf v).toNat)
            case atStart => exact ⟨0, by simp, by rw [HP.out], by omega, HS.out, HR5.out⟩
            case round =>
              clear HS HR5 HP
              obtain ⟨j, rfl, rfl, hjB, ho, hbr⟩ := hrel
              have HO := Lib.hid ho
              have HR3 := Lib.hid hbr
              clear ho hbr
              by_cases hlj : j < b1.length
              · have c1 := HO.out.cell (k := j) (by have := HN.out; omega)
                have c2 := HO.out.cell (k := j + 1) (by have := HN.out; omega)
                have f2 := HO.out.free (j + 1)
                have HST := Lib.hid (dist_step a1 b1 hlt hlj)
                rw [HCA.out] at HST
                have q0 := dist_le a1 b1 i j
                have q1 := dist_le a1 b1 i (j + 1)
                have q2 := dist_le a1 b1 (i + 1) j
                have hA := HA.out
                have hBL := HBL.out
                rw [show part a1 b1 i (j + 1) j = (dist a1 b1 (i + 1) j : Int) from if_pos (by omega)] at c1
                rw [show part a1 b1 i (j + 1) (j + 1) = (dist a1 b1 i (j + 1) : Int) from if_neg (by omega)] at c2
                have HSet : ∀ (W : World) (v : Int), Below wr.heap.size wr W → v = (dist a1 b1 (i + 1) (j + 1) : Int) → Nums (W.setCell ⟨g, j + 1, none⟩ (.int .i64 v)) g N (part a1 b1 i (j + 1 + 1)) :=
                  fun W v hW hv => ((HO.out.below hW).set (j + 1) v).congr (fun x _ => part_step hv x)
                replace HSet := Lib.hid HSet
                have HEnd : Hid ((dist a1 b1 i (j + 1) : Int) = (dist a1 b1 i (j + 1) : Int)) := Lib.hid rfl
                obtain ⟨q, hq⟩ : ∃ q, dist a1 b1 i (j + 1) = q := ⟨_, rfl⟩
                obtain ⟨p, hp⟩ : ∃ p, dist a1 b1 i j = p := ⟨_, rfl⟩
                obtain ⟨r, hr⟩ : ∃ r, dist a1 b1 (i + 1) j = r := ⟨_, rfl⟩
                have HQ := Lib.hid hq
                rw [hq, hp, hr] at HST
                rw [hp] at q0 ⊢
                rw [hq] at q1 c2
                rw [hr] at q2 c1
                have p0 : (p : Int) ≤ 1001 := by omega
                have p1 : (q : Int) ≤ 1001 := by omega
                have p2 : (r : Int) ≤ 1001 := by omega
                have p3 : (j : Int) ≤ 1000 := by omega
                clear hq hp hr q0 q1 q2 hA hBL HEnd
                obtain ⟨d, hd⟩ : ∃ d, b1[j] = d := ⟨_, rfl⟩
                rw [hd] at HST
                have ed : ∀ h, (⟨b1.toArray⟩ : ByteArray)[j]'h = d := fun _ => hd
                clear hd
                by_cases hcd : c = d
                · have hne : ((c.toNat : Int) != (d.toNat : Int)) = false := by rw [hcd]; simp
                  have HV := Lib.hid (show min (p : Int) (min ((r : Int) + 1) ((q : Int) + 1)) = (dist a1 b1 (i + 1) (j + 1) : Int) by rw [HST.out, hcd, neq_self]; omega)
                  clear hcd
                  go_wp2_with fail
                  go_region
                  go_wp2_with fail
                  refine (least_new _ _ _ _).mono ?_
                  rintro e w6 ⟨rfl, hw6⟩
                  rw [HV.out]
                  have h6 : Below wr.heap.size wr w6 := by rw [hw6]; go_grown
                  have H6 := Lib.hid h6
                  have d2 := cellB h6 c2
                  have e2 := frozenB h6 c2 f2
                  clear hw6 h6 c1 c2 f2
                  go_wp2_with fail
                  go_roundw
                  case rel => exact ⟨j + 1, by simp, by rw [HQ.out], by omega, HSet.out _ _ H6.out rfl, (below_up HR3.out H6.out (by rw [← HG.out]; exact HR3.out.size)).setCell (Nat.le_refl _) _⟩
                  case measure => simp [intOf]; omega
                · have hne : ((c.toNat : Int) != (d.toNat : Int)) = true := by
                    rw [bne_iff_ne]
                    intro e
                    exact hcd (UInt8.toNat_inj.1 (by omega))
                  have HV := Lib.hid (show min ((p : Int) + 1) (min ((r : Int) + 1) ((q : Int) + 1)) = (dist a1 b1 (i + 1) (j + 1) : Int) by rw [HST.out]; unfold neq; rw [if_neg hcd]; omega)
                  clear hcd
                  go_wp2_with fail
                  go_region
                  go_wp2_with fail
                  refine (least_new _ _ _ _).mono ?_
                  rintro e w6 ⟨rfl, hw6⟩
                  rw [HV.out]
                  have h6 : Below wr.heap.size wr w6 := by rw [hw6]; go_grown
                  have H6 := Lib.hid h6
                  have d2 := cellB h6 c2
                  have e2 := frozenB h6 c2 f2
                  clear hw6 h6 c1 c2 f2
                  go_wp2_with fail
                  go_roundw
                  case rel => exact ⟨j + 1, by simp, by rw [HQ.out], by omega, HSet.out _ _ H6.out rfl, (below_up HR3.out H6.out (by rw [← HG.out]; exact HR3.out.size)).setCell (Nat.le_refl _) _⟩
                  case measure => simp [intOf]; omega
              · have HS : Hid (Nums wr g N (fun x => (dist a1 b1 (i + 1) x : Int))) := Lib.hid (HO.out.congr (fun k hk => by
                  unfold part
                  rw [if_pos (by have := HN.out; omega)]))
                go_wp2_with fail
                go_roundw
                case rel => exact ⟨i + 1, by simp, by omega, HS.out, HR3.out⟩
                case measure => simp [intOf]; omega
          · have c0 := HO.out.cell (k := b1.length) (by have := HN.out; omega)
            have HE : Hid (dist a1 b1 i b1.length = lev a b) := Lib.hid (by rw [show i = a1.length by omega, dist_end, HR.out])
            have hnb : (b1.length : Int) ≤ 1000 := by have := HBL.out; omega
            have hNn : b1.length < N := by have := HN.out; omega
            go_wp2_with fail
            go_ret
            exact ⟨ret_int (by rw [HE.out]), below_up HB2.out HR3.out (by rw [← HG.out]; exact HB2.out.size)⟩
end Go.Proofs.YtendkghifcjffaaGreatDoor
