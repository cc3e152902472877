/- The contracts of key and Bands. -/
import Derived.Test.YtoifcfocffcmcaaDoorSkUnion
import Derived.Lib.ItoaLen
namespace Go.Proofs.YtoifcfocffcmcaaDoor
open Go.RowKit

theorem itoa_len {x : Int} (h0 : 0 ≤ x) (h1 : x < 2147483647) : (Lib.itoa x).length ≤ 21 := Lib.itoa_length_le x (by omega) (by omega)
theorem join_len (l : List (List UInt8)) (h : ∀ x ∈ l, x.length ≤ 21) : (Lib.join l [46]).length ≤ 22 * l.length := by
  cases l with
  | nil => simp [Lib.join_nil]
  | cons x r =>
    rw [Lib.join_cons, List.length_append]
    have h1 := h x List.mem_cons_self
    have h2 : ∀ r : List (List UInt8), (∀ y ∈ r, y.length ≤ 21) → (Lib.joinTail [46] r).length ≤ 22 * r.length := by
      intro r
      induction r with
      | nil => intro _; simp [Lib.joinTail]
      | cons y r ih =>
        intro hr
        have := ih (fun z hz => hr z (List.mem_cons_of_mem _ hz))
        have := hr y List.mem_cons_self
        simp only [Lib.joinTail, List.map_cons, List.flatten_cons, List.length_append, List.length_cons, List.length_nil] at *
        omega
    have := h2 r (fun y hy => h y (List.mem_cons_of_mem _ hy))
    simp only [List.length_cons]
    omega
set_option maxHeartbeats 1600000 in
theorem key_any (band : Nat) (l : List Int) (v : Value) (w : World) (hband : band ≤ 64) (h0 : 1 ≤ l.length) (hl : l.length ≤ 64) (hr : ∀ x ∈ l, 0 ≤ x ∧ x < 2147483647) (h : Ints w v l) (ht : Tab w) :
    Calls Tryd.prog 32 #[.int .i64 (band : Int), v] w fun e w' => e = .returned (str (keyT band l)) ∧ Below w.heap.size w w' := by
  have HA := Lib.hid h
  have HT := Lib.hid ht
  have HR := Lib.hid hr
  have HE := Lib.hid (show keyT band l = Lib.itoa (band : Int) ++ (58 :: Lib.join (l.map Lib.itoa) [46]) from rfl)
  obtain ⟨r, hr⟩ : ∃ r, keyT band l = r := ⟨_, rfl⟩
  rw [hr] at HE
  rw [hr]
  clear hr
  obtain ⟨n, hn⟩ : ∃ n, l.length = n := ⟨_, rfl⟩
  obtain ⟨A, cap, ev, hca, _⟩ := h
  subst ev
  have HN := Lib.hid hn
  rw [hn] at HA hca h0 hl
  rw [hn]
  clear hn ht
  obtain ⟨i0, hi, hz0, hz1, hz2⟩ := info_parts infoStr
  go_enter Tryd.func32, Tryd.ntmps32
  go_wp2_with (at_make; refine wpList_make_full _ rfl _ _ 22 rfl w.heap.size 9 i0 (.string ⟨#[]⟩) 1 Tryd.underlying22 hi hz0 hz1 .i64 .i64 _ _ n rfl rfl rfl rfl (by rw [hz2]; omega) (by unfold maxLen; omega) (Nat.le_refl _) ?_)
  intro w3 hown hg3
  have HO := Lib.hid (row_made ((l.map Lib.itoa).map str) hown).1
  have HC3 := Lib.hid ((Below.refl w.heap.size w).grown hg3 (Nat.le_refl _) (fun k e => by cases e))
  clear hown hg3 hi hz0 hz1 hz2
  obtain ⟨g, hgg⟩ : ∃ g, w.heap.size = g := ⟨_, rfl⟩
  have HG := Lib.hid hgg
  rw [hgg] at HO HC3
  rw [hgg]
  clear hgg
  go_wp2_with fail
  go_loopw [13] (fun x wr => ∃ j : Nat, x = .int .i64 (j : Int) ∧ j ≤ n ∧ Row wr 9 g n (fillT ((l.map Lib.itoa).map str) (.string ⟨#[]⟩) j) ∧ Below g w wr) (fun x _ => n + 1 - (intOf x).toNat)
  case atStart => exact ⟨0, by simp, by omega, HO.out, HC3.out⟩
  case round =>
    clear HO HC3
    obtain ⟨j, rfl, hj, ho, hbw⟩ := hrel
    have HO := Lib.hid ho
    have HW := Lib.hid hbw
    have HGW := Lib.hid (show g ≤ wr.heap.size by rw [← HG.out]; exact hbw.size)
    have HT1 := Lib.hid (HT.out.below (by rw [HG.out]; exact HW.out))
    have HA1 := Lib.hid (HA.out.below (by rw [HG.out]; exact HW.out))
    clear ho hbw
    by_cases hlt : j < n
    · obtain ⟨-, -, b1, o1, rfl, x1⟩ := HA1.out.spot (by have := HN.out; omega)
      have c1 := x1 j (by have := HN.out; omega)
      clear x1
      obtain ⟨x0, x1⟩ := HR.out (l[j]'(by have := HN.out; omega)) (List.getElem_mem _)
      have hz : ((l.map Lib.itoa).map str)[j]'(by simp; have := HN.out; omega) = str (Lib.itoa (l[j]'(by have := HN.out; omega))) := by simp
      obtain ⟨x, hx⟩ : ∃ x, l[j]'(by have := HN.out; omega) = x := ⟨_, rfl⟩
      rw [hx] at c1 x0 x1 hz
      clear hx
      have HZ := Lib.hid hz
      clear hz
      have HI := Lib.hid (fun W (hw : Below wr.heap.size wr W) => itoa_any x (by omega) (by omega) W (HT1.out.below hw))
      go_wp2_with fail
      refine (HI.out _ (Below.refl _ _)).mono ?_
      rintro e w4 ⟨rfl, hb4⟩
      have c0 := (HO.out.below hb4).cell hlt
      have f0 := (HO.out.below hb4).free j
      go_wp2_with fail
      go_roundw
      case rel => exact ⟨j + 1, by simp, by omega, (by show Row (w4.setCell _ (str (Lib.itoa x))) _ _ _ _; rw [← HZ.out]; exact (HO.out.below hb4).fill (by simp; have := HN.out; omega)), (below_up HW.out hb4 HGW.out).setCell (Nat.le_refl _) _⟩
      case measure => simp [intOf]; omega
    · have hjn : j = n := by omega
      subst hjn
      have HI := Lib.hid (itoa_any (band : Int) (by omega) (by omega) wr HT1.out)
      have HS := HO.out.strs (by simp; have := HN.out; omega)
      obtain ⟨p, hp⟩ : ∃ p, Lib.itoa (band : Int) = p := ⟨_, rfl⟩
      have hpl : p.length ≤ 21 := by rw [← hp]; exact itoa_len (by omega) (by omega)
      have hjl := join_len (l.map Lib.itoa) (fun x hx => by obtain ⟨y, hy, rfl⟩ := List.mem_map.1 hx; exact itoa_len (HR.out y hy).1 (HR.out y hy).2)
      rw [List.length_map, HN.out] at hjl
      have HJ := Lib.hid (fun W (hw : Below wr.heap.size wr W) => join_any (l.map Lib.itoa) [46] _ W (by simp; have := HN.out; omega) (by simp; have := HN.out; omega) (by omega) (HS.below hw))
      obtain ⟨q, hq⟩ : ∃ q, Lib.join (l.map Lib.itoa) [46] = q := ⟨_, rfl⟩
      rw [hp, hq] at HE
      rw [hp] at HI
      rw [hq] at HJ hjl
      clear hp hq HS
      go_wp2_with fail
      refine HI.out.mono ?_
      rintro e w4 ⟨rfl, hb4⟩
      go_wp2_with fail
      refine (HJ.out _ hb4).mono ?_
      rintro e w5 ⟨rfl, hb5⟩
      go_wp2_with fail
      go_ret
      exact ⟨congrArg (fun z => Ending.returned (.string z)) (by rw [HE.out]; apply ByteArray.ext; simp), by rw [HG.out]; exact below_up (below_up HW.out hb4 HGW.out) hb5 (Nat.le_trans HGW.out hb4.size)⟩

/-- The reply of 'okB'. -/
theorem okB_yes {s : List Int} {rows : Int} (h : okB s rows = true) : isSk s = true ∧ 1 ≤ rows ∧ (s.length : Int) % rows = 0 := by
  unfold okB at h
  simpa using h
theorem emp_no {s : List Int} (h : isSk s = true) (he : emp s = false) : ∀ x ∈ s, 0 ≤ x ∧ x < 2147483647 := by
  obtain ⟨h1, _, h3 | h3⟩ := isSk_ok h
  · unfold emp at he
    rw [headD_get (by omega), decide_eq_false_iff_not] at he
    exact absurd (h3 _ (List.getElem_mem _)) he
  · exact h3

set_option maxHeartbeats 1600000 in
theorem bands_any (s : List Int) (rows : Int) (v : Value) (w : World) (hs : s.length ≤ 4000) (hr0 : -9223372036854775808 ≤ rows) (hr1 : rows ≤ 9223372036854775807) (h : Ints w v s) (ht : Tab w) :
    Calls Tryd.prog 18 #[v, .int .i64 rows] w (KeysPost w (bandsT s rows)) := by
  have HA := Lib.hid h
  have HT := Lib.hid ht
  have HC := Lib.hid (isSketch_any s v w hs h)
  have HEq : okB s rows = (isSk s && (decide (1 ≤ rows) && decide ((s.length : Int) % rows = 0))) := rfl
  obtain ⟨A, cap, ev, hca, _⟩ := h
  subst ev
  cases hk : isSk s
  · have e : bandsT s rows = ([], 1) := by unfold bandsT; rw [HEq, hk]; rfl
    rw [e]
    rw [hk] at HC
    go_enter Tryd.func18, Tryd.ntmps18
    go_wp2_with fail
    refine HC.out.mono ?_
    rintro e w1 ⟨rfl, hb1⟩
    go_wp2_with fail
    go_returns
    exact ⟨_, rfl, strs_nil _, hb1⟩
  · by_cases hr : rows < 1
    · have e : bandsT s rows = ([], 1) := by unfold bandsT; rw [HEq, hk, decide_eq_false (show ¬ 1 ≤ rows by omega)]; rfl
      rw [e]
      rw [hk] at HC
      go_enter Tryd.func18, Tryd.ntmps18
      go_wp2_with fail
      refine HC.out.mono ?_
      rintro e w1 ⟨rfl, hb1⟩
      go_wp2_with fail
      go_returns
      exact ⟨_, rfl, strs_nil _, hb1⟩
    · obtain ⟨n, hn⟩ : ∃ n : Nat, rows = (n : Int) := ⟨rows.toNat, by omega⟩
      subst hn
      by_cases hm : (s.length : Int) % (n : Int) = 0
      · have ho : okB s (n : Int) = true := by rw [HEq, hk, decide_eq_true (show (1 : Int) ≤ n by omega), decide_eq_true hm]; rfl
        have e : bandsT s n = (if emp s = true then [] else keysT s n, 0) := by unfold bandsT; rw [if_pos ho, Int.toNat_natCast]
        rw [e]
        rw [hk] at HC
        obtain ⟨l1, l2⟩ := isSk_len hk
        have HEM := Lib.hid (fun W (hw : Below w.heap.size w W) => isEmpty_any s (.slice A s.length cap) W l1 (HA.out.below hw))
        have hmb : ((s.length : Int) % (n : Int) != 0) = false := by rw [hm]; rfl
        cases hem : emp s
        · have HX := emp_no hk hem
          rw [hem] at HEM
          rw [if_neg (by decide)]
          obtain ⟨m, hme⟩ : ∃ m, s.length = m := ⟨_, rfl⟩
          obtain ⟨k, hke⟩ : ∃ k, m / n = k := ⟨_, rfl⟩
          have hmn : m = k * n := by
            have h1 : m % n = 0 := by rw [← hme]; exact_mod_cast hm
            have := Nat.div_add_mod m n
            rw [h1, hke, Nat.mul_comm] at this
            omega
          have hq : (m : Int) / (n : Int) = (k : Int) := by rw [← hke]; rfl
          have hkm : k ≤ m := by rw [hmn]; exact Nat.le_mul_of_pos_right k (by omega)
          have hnm : n ≤ m := by
            rcases Nat.eq_zero_or_pos k with h | h
            · subst h; omega
            · rw [hmn]; exact Nat.le_mul_of_pos_left n h
          have HKT := Lib.hid (show keysT s n = (List.range k).map (bandK s n) by unfold keysT; rw [hme, hke])
          have HME := Lib.hid hme
          have HMN := Lib.hid hmn
          rw [hme] at HA hca hs hmb HC HEM l1 l2
          rw [hme]
          clear HEq ho e hm hme hke hmn hk hem ht
          obtain ⟨i0, hi, hz0, hz1, hz2⟩ := info_parts infoStr
          go_enter Tryd.func18, Tryd.ntmps18
          go_wp2_with fail
          refine HC.out.mono ?_
          rintro e w1 ⟨rfl, hb1⟩
          go_wp2_with fail
          refine (HEM.out _ hb1).mono ?_
          rintro e w2 ⟨rfl, rfl⟩
          go_wp2_with (at_make; refine wpList_make_full _ rfl _ _ 22 rfl w2.heap.size 9 i0 (.string ⟨#[]⟩) 1 Tryd.underlying22 hi hz0 hz1 .i64 .i64 _ _ k rfl rfl rfl rfl (by rw [hz2]; omega) (by unfold maxLen; omega) (Nat.le_refl _) ?_)
          intro w3 hown hg3
          have HO := Lib.hid (row_made ((keysT s n).map str) hown).1
          have HC3 := Lib.hid (below_up hb1 ((Below.refl w2.heap.size w2).grown hg3 (Nat.le_refl _) (fun k e => by cases e)) hb1.size)
          have hgs := Lib.hid hb1.size
          clear hown hg3 hi hz0 hz1 hz2 hb1 HC HEM
          obtain ⟨g, hgg⟩ : ∃ g, w2.heap.size = g := ⟨_, rfl⟩
          rw [hgg] at HO hgs
          rw [hgg]
          clear hgg
          go_wp2_with fail
          go_loopw [31] (fun x wr => ∃ j : Nat, x = .int .i64 (j : Int) ∧ j ≤ k ∧ Row wr 9 g k (fillT ((keysT s n).map str) (.string ⟨#[]⟩) j) ∧ Below w.heap.size w wr) (fun x _ => k + 1 - (intOf x).toNat)
          case atStart => exact ⟨0, by simp, by omega, HO.out, HC3.out⟩
          case round =>
            clear HO HC3
            obtain ⟨j, rfl, hj, ho, hbw⟩ := hrel
            have HO := Lib.hid ho
            have HW := Lib.hid hbw
            clear ho hbw
            by_cases hlt : j < k
            · obtain ⟨-, hca2, b1, o1, rfl, x1⟩ := (HA.out.below HW.out).spot (by have := HME.out; omega)
              obtain ⟨t, ht⟩ : ∃ t, j * n = t := ⟨_, rfl⟩
              have htm : t + n ≤ m := by
                have : (j + 1) * n ≤ k * n := Nat.mul_le_mul_right n hlt
                rw [Nat.add_mul, Nat.one_mul, ht, ← HMN.out] at this
                exact this
              have he1 : (j : Int) * (n : Int) = (t : Int) := by rw [← ht]; simp
              have he2 : ((j : Int) + 1) * (n : Int) = ((t + n : Nat) : Int) := by rw [Int.add_mul, Int.one_mul, he1]; simp
              have HK := Lib.hid (fun (c : Nat) (hc : n ≤ c) (W : World) (hw : Below wr.heap.size wr W) => key_any j ((s.drop t).take n) (.slice (some ⟨b1, o1 + t, none⟩) n c) W (by omega) (by simp; have := HME.out; omega) (by simp; omega) (fun x hx => HX x (List.mem_of_mem_drop (List.mem_of_mem_take hx))) ((Ints.part x1 (by have := HME.out; omega) hc).below hw) ((HT.out.below HW.out).below hw))
              have hz : ((keysT s n).map str)[j]'(by rw [List.length_map, HKT.out]; simpa using hlt) = str (keyT j ((s.drop t).take n)) := by simp [HKT.out, bandK, ht]
              have HZ := Lib.hid hz
              clear x1 hz
              go_wp2_with fail
              refine (HK.out _ (by omega) _ (Below.refl _ _)).mono ?_
              rintro e w4 ⟨rfl, hb4⟩
              have c0 := (HO.out.below hb4).cell hlt
              have f0 := (HO.out.below hb4).free j
              go_wp2_with fail
              go_roundw
              case rel => exact ⟨j + 1, by simp, by omega, (by show Row (w4.setCell _ (str (keyT j ((s.drop t).take n)))) _ _ _ _; rw [← HZ.out]; exact (HO.out.below hb4).fill (by rw [List.length_map, HKT.out]; simpa using hlt)), (below_up HW.out hb4 HW.out.size).setCell hgs.out _⟩
              case measure => simp [intOf]; omega
            · have hjn : j = k := by omega
              subst hjn
              go_wp2_with fail
              go_returns
              exact ⟨_, rfl, HO.out.strs (by rw [HKT.out]; simp), HW.out⟩
        · rw [hem] at HEM
          rw [if_pos rfl]
          go_enter Tryd.func18, Tryd.ntmps18
          go_wp2_with fail
          refine HC.out.mono ?_
          rintro e w1 ⟨rfl, hb1⟩
          go_wp2_with fail
          refine (HEM.out _ hb1).mono ?_
          rintro e w2 ⟨rfl, rfl⟩
          go_wp2_with fail
          go_returns
          exact ⟨_, rfl, strs_nil _, hb1⟩
      · have e : bandsT s n = ([], 1) := by unfold bandsT; rw [HEq, hk, decide_eq_false hm]; simp
        rw [e]
        rw [hk] at HC
        go_enter Tryd.func18, Tryd.ntmps18
        go_wp2_with fail
        refine HC.out.mono ?_
        rintro e w1 ⟨rfl, hb1⟩
        go_wp2_with fail
        · go_returns
          exact ⟨_, rfl, strs_nil _, hb1⟩
        · exact absurd hm (by simp_all)
end Go.Proofs.YtoifcfocffcmcaaDoor
