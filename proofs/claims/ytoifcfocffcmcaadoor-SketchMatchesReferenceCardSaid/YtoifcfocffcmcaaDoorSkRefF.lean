/- The reference's Bands. -/
import Derived.Test.YtoifcfocffcmcaaDoorSkRefB
import Derived.Test.YtoifcfocffcmcaaDoorSkRefC
import Derived.Test.YtoifcfocffcmcaaDoorSkBands
namespace Go.Proofs.YtoifcfocffcmcaaDoor
open Go.RowKit

theorem txt_eq {a b c : List UInt8} (h : c = a ++ b) {x : ByteArray} (hx : x.data.toList = a ++ b) : Value.string x = str c := by
  subst h
  congr 1
  apply ByteArray.ext
  apply Array.toList_inj.1
  rw [hx]
theorem keyP_len {j i : Nat} {l : List Int} (hj : j ≤ 64) (hi : i ≤ 64) (h : ∀ x ∈ l, 0 ≤ x ∧ x < 2147483647) : (keyP j l i).length ≤ 2000 := by
  have h1 := itoa_len (x := (j : Int)) (by omega) (by omega)
  have h2 := join_len ((l.take i).map Lib.itoa) (fun x hx => by
    obtain ⟨y, hy, rfl⟩ := List.mem_map.1 hx
    have := h y (List.mem_of_mem_take hy)
    exact itoa_len this.1 this.2)
  unfold keyP
  simp only [List.length_append, List.length_cons, List.length_map, List.length_take] at *
  omega
theorem okB_parts (s : List Int) (rows : Int) : okB s rows = (isSk s && (decide (1 ≤ rows) && decide ((s.length : Int) % rows = 0))) := rfl
theorem emp_zero {s : List Int} (h : isSk s = true) (h0 : 0 < s.length) : (emp s = true ↔ s[0] < 0) := by
  unfold emp
  rw [headD_get h0, decide_eq_true_eq]
  obtain ⟨_, _, h3 | h3⟩ := isSk_ok h
  · have := h3 s[0] (List.getElem_mem _); omega
  · have := h3 s[0] (List.getElem_mem _); omega
theorem emp_first_no {s : List Int} (h : isSk s = true) (he : emp s = false) : ∀ x ∈ s, 0 ≤ x ∧ x < 2147483647 := emp_no h he

set_option maxHeartbeats 3200000 in
theorem bands_bad_ref (s : List Int) (rows : Int) (v : Value) (w : World) (hs : s.length ≤ 4000) (hr0 : -9223372036854775808 ≤ rows) (hr1 : rows ≤ 9223372036854775807) (h : Ints w v s) (ho : okB s rows = false) :
    Calls Tryd.prog 19 #[v, .int .i64 rows] w (KeysPost w (bandsT s rows)) := by
  have HC := Lib.hid (valid_ref s v w hs h)
  have e : bandsT s rows = ([], 1) := by unfold bandsT; rw [ho]; rfl
  rw [e]
  rw [okB_parts] at ho
  obtain ⟨A, cap, ev, hca, _⟩ := h
  subst ev
  cases hk : isSk s
  · rw [hk] at HC
    clear ho e
    go_enter Tryd.func19, Tryd.ntmps19
    go_wp2_with fail
    refine HC.out.mono ?_
    rintro e w1 ⟨rfl, hb1⟩
    go_wp2_with fail
    go_returns
    exact ⟨_, rfl, strs_nil _, hb1⟩
  rw [hk] at HC
  obtain ⟨l1, l2⟩ := isSk_len hk
  obtain ⟨m, hme⟩ : ∃ m, s.length = m := ⟨_, rfl⟩
  rw [hme] at HC hca hs l1 l2 ho
  rw [hme]
  by_cases hr : rows < 1
  · clear ho e
    go_enter Tryd.func19, Tryd.ntmps19
    go_wp2_with fail
    refine HC.out.mono ?_
    rintro e w1 ⟨rfl, hb1⟩
    go_wp2_with fail
    go_returns
    exact ⟨_, rfl, strs_nil _, hb1⟩
  by_cases hr2 : (m : Int) < rows
  · clear ho e
    go_enter Tryd.func19, Tryd.ntmps19
    go_wp2_with fail
    refine HC.out.mono ?_
    rintro e w1 ⟨rfl, hb1⟩
    go_wp2_with fail
    go_returns
    exact ⟨_, rfl, strs_nil _, hb1⟩
  obtain ⟨n, hn⟩ : ∃ n : Nat, rows = (n : Int) := ⟨rows.toNat, by omega⟩
  subst hn
  have hm : ¬ (m : Int) % (n : Int) = 0 := by
    rw [hk, decide_eq_true (show (1 : Int) ≤ n by omega)] at ho
    simpa using ho
  have hmb : ((m : Int) % (n : Int) != 0) = true := bne_iff_ne.2 hm
  have hmt : (m : Int).tmod (n : Int) = (m : Int) % (n : Int) := Int.tmod_eq_emod_of_nonneg (by omega)
  clear ho e hm hk hme
  go_enter Tryd.func19, Tryd.ntmps19
  go_wp2_with fail
  refine HC.out.mono ?_
  rintro e w1 ⟨rfl, hb1⟩
  go_wp2_with fail
  go_returns
  exact ⟨_, rfl, strs_nil _, hb1⟩

set_option maxHeartbeats 3200000 in
theorem bands_emp_ref (s : List Int) (n : Nat) (v : Value) (w : World) (hs : s.length ≤ 4000) (h : Ints w v s) (ho : okB s (n : Int) = true) (he : emp s = true) :
    Calls Tryd.prog 19 #[v, .int .i64 (n : Int)] w (KeysPost w (bandsT s (n : Int))) := by
  have HC := Lib.hid (valid_ref s v w hs h)
  have e : bandsT s (n : Int) = ([], 0) := by unfold bandsT; rw [if_pos ho, if_pos he]
  rw [e]
  obtain ⟨hk, hr, hmod⟩ := okB_yes ho
  rw [hk] at HC
  obtain ⟨l1, l2⟩ := isSk_len hk
  have h0 := (emp_zero hk l1).1 he
  obtain ⟨b, off, cap, ev, hca, hx⟩ := h.block l1
  subst ev
  have c0 := hx 0 l1
  rw [Nat.add_zero] at c0
  obtain ⟨f, hf⟩ : ∃ f, s[0]'l1 = f := ⟨_, rfl⟩
  rw [hf] at c0 h0
  have HC0 := Lib.hid c0
  obtain ⟨m, hme⟩ : ∃ m, s.length = m := ⟨_, rfl⟩
  rw [hme] at HC hca hs l1 l2 hmod
  rw [hme]
  have hmb : ((m : Int) % (n : Int) != 0) = false := by rw [hmod]; rfl
  have hnm : n ≤ m := by
    have : m % n = 0 := by exact_mod_cast hmod
    exact Nat.le_of_dvd (by omega) (Nat.dvd_of_mod_eq_zero this)
  obtain ⟨k, hke⟩ : ∃ k, m / n = k := ⟨_, rfl⟩
  have hq : (m : Int) / (n : Int) = (k : Int) := by rw [← hke]; rfl
  have hqt : (m : Int).tdiv (n : Int) = (k : Int) := by rw [Int.tdiv_eq_ediv_of_nonneg (by omega)]; exact hq
  have hk1 : 1 ≤ k := by rw [← hke]; exact Nat.div_pos hnm (by omega)
  have hk2 : k ≤ m := by rw [← hke]; exact Nat.div_le_self _ _
  clear ho e hmod hk hme hx c0 hf he hke h
  go_enter Tryd.func19, Tryd.ntmps19
  go_wp2_with fail
  refine HC.out.mono ?_
  rintro e w1 ⟨rfl, hb1⟩
  have c1 := cellB hb1 HC0.out
  go_wp2_with fail
  go_loopw [6, 7] (fun z x wr => z = .slice none 0 0 ∧ x = .int .i64 0 ∧ wr = w1) (fun _ _ _ => 0)
  case atStart => exact ⟨rfl, rfl, rfl⟩
  case round =>
    obtain ⟨rfl, rfl, rfl⟩ := hrel
    go_wp2_with fail
    go_returns
    exact ⟨_, rfl, strs_nil _, hb1⟩

set_option maxHeartbeats 6400000 in
theorem bands_full_ref (s : List Int) (n : Nat) (v : Value) (w : World) (hs : s.length ≤ 4000) (h : Ints w v s) (ho : okB s (n : Int) = true) (he : emp s = false) :
    Calls Tryd.prog 19 #[v, .int .i64 (n : Int)] w (KeysPost w (bandsT s (n : Int))) := by
  have HC := Lib.hid (valid_ref s v w hs h)
  have e : bandsT s (n : Int) = (keysT s n, 0) := by unfold bandsT; rw [if_pos ho, if_neg (by rw [he]; decide), Int.toNat_natCast]
  rw [e]
  obtain ⟨hk, hr, hmod⟩ := okB_yes ho
  rw [hk] at HC
  obtain ⟨l1, l2⟩ := isSk_len hk
  have HX := Lib.hid (emp_no hk he)
  have h0 : 0 ≤ s[0]'l1 := (HX.out _ (List.getElem_mem _)).1
  obtain ⟨b, off, cap, ev, hca, hx⟩ := h.block l1
  subst ev
  have HCE := Lib.hid hx
  have c0 := hx 0 l1
  rw [Nat.add_zero] at c0
  obtain ⟨f, hf⟩ : ∃ f, s[0]'l1 = f := ⟨_, rfl⟩
  rw [hf] at c0 h0
  have HC0 := Lib.hid c0
  obtain ⟨m, hme⟩ : ∃ m, s.length = m := ⟨_, rfl⟩
  have HME := Lib.hid hme
  rw [hme] at HC hca hs l1 l2 hmod
  rw [hme]
  have hmb : ((m : Int) % (n : Int) != 0) = false := by rw [hmod]; rfl
  have hm0 : m % n = 0 := by exact_mod_cast hmod
  have hnm : n ≤ m := Nat.le_of_dvd (by omega) (Nat.dvd_of_mod_eq_zero hm0)
  obtain ⟨k, hke⟩ : ∃ k, m / n = k := ⟨_, rfl⟩
  have hmn : m = k * n := by
    have := Nat.div_add_mod m n
    rw [hm0, hke, Nat.mul_comm] at this
    omega
  have hq : (m : Int) / (n : Int) = (k : Int) := by rw [← hke]; rfl
  have hqt : (m : Int).tdiv (n : Int) = (k : Int) := by rw [Int.tdiv_eq_ediv_of_nonneg (by omega)]; exact hq
  have hk2 : k ≤ m := by rw [← hke]; exact Nat.div_le_self _ _
  have HMN := Lib.hid hmn
  clear ho e hmod hk hme hx c0 hf he hke h hm0 hmn
  have dn1 : decide ((n : Int) < 1) = false := decide_eq_false (by omega)
  have dn2 : decide (m < n) = false := decide_eq_false (by omega)
  have dn3 : decide (n < 1) = false := decide_eq_false (by omega)
  go_enter Tryd.func19, Tryd.ntmps19
  go_wp2_with fail
  refine HC.out.mono ?_
  rintro e w1 ⟨rfl, hb1⟩
  go_wp2_with fail
  go_loopw [6, 7] (fun z x wr => ∃ j : Nat, x = .int .i64 (j : Int) ∧ j ≤ k ∧ OwnS wr w.heap.size z ((keysT s n).take j) ∧ Below w.heap.size w wr) (fun _ x _ => k + 1 - (intOf x).toNat)
  case atStart => exact ⟨0, by simp, by omega, World.ownsRow_nil _ _ _ _, hb1⟩
  case round =>
    clear hb1
    obtain ⟨j, rfl, hj, ho, hbw⟩ := hrel
    have HO := Lib.hid ho
    have HW := Lib.hid hbw
    clear ho hbw
    by_cases hlt : j < k
    · have c1 := cellB HW.out HC0.out
      obtain ⟨t, ht⟩ : ∃ t, j * n = t := ⟨_, rfl⟩
      have htm : t + n ≤ m := by
        have : (j + 1) * n ≤ k * n := Nat.mul_le_mul_right n hlt
        rw [Nat.add_mul, Nat.one_mul, ht, ← HMN.out] at this
        exact this
      have he1 : (j : Int) * (n : Int) = (t : Int) := by rw [← ht]; simp
      have HMORE := keys_more s (n := n) (k := k) (i := j) (by omega) (by rw [HME.out]; exact HMN.out) hlt
      unfold bandK at HMORE
      rw [ht] at HMORE
      have hpl : ((s.drop t).take n).length = n := by simp; have := HME.out; omega
      obtain ⟨P, hP⟩ : ∃ P, (s.drop t).take n = P := ⟨_, rfl⟩
      have HPG := Lib.hid (show ∀ (i : Nat) (hi : i < P.length), P[i] = s[t + i]'(by have := HME.out; rw [← hP] at hi; simp at hi; omega) from fun i hi => by subst hP; simp)
      rw [hP] at HMORE hpl
      obtain ⟨V, hV⟩ : ∃ V, (keysT s n).take j = V := ⟨_, rfl⟩
      have HVL := Lib.hid (show V.length ≤ 64 by rw [← hV]; simp; omega)
      rw [hV] at HO HMORE
      have HMORE' := Lib.hid HMORE
      have HPL := Lib.hid hpl
      have HD := Lib.hid (fun W => decimal_ref j (by omega) W)
      have HPR := Lib.hid (fun (i : Nat) (hi : i ≤ 64) => keyP_len (j := j) (i := i) (l := P) (by omega) hi (fun x hx => by subst hP; exact HX.out x (List.mem_of_mem_drop (List.mem_of_mem_take hx))))
      have hdl := itoa_len (x := (j : Int)) (by omega) (by omega)
      have qq : (9223372036854775807 < (Lib.itoa (j : Int)).length + 1) = False := eq_false (by omega)
      clear hV HMORE hpl
      go_wp2_with fail
      refine (HD.out _).mono ?_
      rintro e w2 ⟨rfl, hb2⟩
      have HB2 := Lib.hid hb2
      clear hb2
      go_wp2_with fail
      go_loopw [8, 9] (fun y x wq => ∃ i : Nat, x = .int .i64 (i : Int) ∧ i ≤ n ∧ y = str (keyP j P i) ∧ Below wr.heap.size wr wq) (fun _ x _ => n + 1 - (intOf x).toNat)
      case atStart => exact ⟨0, by simp, by omega, by rw [keyP_zero]; exact txt_eq rfl (by simp), HB2.out⟩
      case round =>
        clear HB2
        obtain ⟨i, rfl, hi, rfl, hbw⟩ := hrel
        have HB := Lib.hid hbw
        have HW1 := Lib.hid (below_up HW.out hbw HW.out.size)
        clear hbw
        by_cases hin : i < n
        · have c2 := cellB HW1.out (HCE.out (t + i) (by have := HME.out; omega))
          have hxr := HX.out (s[t + i]'(by have := HME.out; omega)) (List.getElem_mem _)
          have hpi := HPG.out i (by have := HPL.out; omega)
          rcases Nat.eq_zero_or_pos i with rfl | hi0
          · have HK := keyP_first j P (by have := HPL.out; omega)
            rw [hpi] at HK
            obtain ⟨x, hx⟩ : ∃ x, s[t + 0]'(by have := HME.out; omega) = x := ⟨_, rfl⟩
            rw [hx] at c2 hxr HK
            obtain ⟨x, rfl⟩ : ∃ y : Nat, x = (y : Int) := ⟨x.toNat, by omega⟩
            have HDX := Lib.hid (fun W => decimal_ref x (by omega) W)
            have hyl := HPR.out 0 (by omega)
            have hdl := itoa_len (x := (x : Int)) (by omega) (by omega)
            obtain ⟨y0, hy0⟩ : ∃ y, keyP j P 0 = y := ⟨_, rfl⟩
            rw [hy0] at HK hyl
            rw [hy0]
            obtain ⟨d, hd⟩ : ∃ d, Lib.itoa (x : Int) = d := ⟨_, rfl⟩
            rw [hd] at HK HDX hdl
            have HK' := Lib.hid HK
            have q1 : (9223372036854775807 < y0.length + d.length) = False := eq_false (by omega)
            rw [Nat.add_zero] at c2
            clear hx hpi HK hy0 hd
            go_wp2_with fail
            refine (HDX.out _).mono ?_
            rintro e w3 ⟨rfl, hb3⟩
            go_wp2_with fail
            go_roundw
            case rel => exact ⟨1, by simp, by omega, txt_eq HK'.out (by simp), below_up HB.out hb3 HB.out.size⟩
            case measure => first | (simp [intOf]; omega) | simp [intOf]
          · have HK := keyP_more j P hi0 (by have := HPL.out; omega)
            rw [hpi] at HK
            obtain ⟨x, hx⟩ : ∃ x, s[t + i]'(by have := HME.out; omega) = x := ⟨_, rfl⟩
            rw [hx] at c2 hxr HK
            obtain ⟨x, rfl⟩ : ∃ y : Nat, x = (y : Int) := ⟨x.toNat, by omega⟩
            have HDX := Lib.hid (fun W => decimal_ref x (by omega) W)
            have hyl := HPR.out i (by omega)
            have hdl := itoa_len (x := (x : Int)) (by omega) (by omega)
            obtain ⟨y0, hy0⟩ : ∃ y, keyP j P i = y := ⟨_, rfl⟩
            rw [hy0] at HK hyl
            rw [hy0]
            obtain ⟨d, hd⟩ : ∃ d, Lib.itoa (x : Int) = d := ⟨_, rfl⟩
            rw [hd] at HK HDX hdl
            have HK' := Lib.hid HK
            have q1 : (9223372036854775807 < y0.length + 1) = False := eq_false (by omega)
            have q2 : (9223372036854775807 < y0.length + 1 + d.length) = False := eq_false (by omega)
            have q3 : (9223372036854775807 < y0.length + (1 + d.length)) = False := eq_false (by omega)
            clear hx hpi HK hy0 hd
            go_wp2_with fail
            refine (HDX.out _).mono ?_
            rintro e w3 ⟨rfl, hb3⟩
            go_wp2_with fail
            go_roundw
            case rel => exact ⟨i + 1, by simp, by omega, txt_eq HK'.out (by simp), below_up HB.out hb3 HB.out.size⟩
            case measure => first | (simp [intOf]; omega) | simp [intOf]
        · have hin2 : i = n := by omega
          subst hin2
          have hkl : keyP j P i = keyT j P := by rw [← HPL.out]; exact keyP_all j P
          rw [hkl]
          obtain ⟨x, hx⟩ : ∃ x, keyT j P = x := ⟨_, rfl⟩
          rw [hx] at HMORE'
          rw [hx]
          have HO1 := Lib.hid (owns_kept HO.out HB.out)
          clear hx hkl
          go_wp2_with (at_builtin; refine wp_append rfl _ _ rfl w.heap.size _ V rfl (HO1.out.alloc _) _ [x] rfl (strs_one _ x _) (by have := HVL.out; simp; omega) (by have := HW1.out.size; simp; omega) ?_)
          intro v' w3 hown' hg'
          have HB2 := Lib.hid (below_grown (HW1.out.alloc HW1.out.size _) (by have := HW1.out.size; simp; omega) (HO1.out.alloc _) hg')
          have HO2 := Lib.hid hown'
          clear hown' hg'
          go_wp2_with fail
          go_roundw
          case rel => exact ⟨j + 1, by simp, by omega, by rw [HMORE'.out]; exact HO2.out, HB2.out⟩
          case measure => first | (simp [intOf]; omega) | simp [intOf]
    · have hjk : j = k := by omega
      subst hjk
      rw [List.take_of_length_le (by unfold keysT; rw [HME.out, HMN.out, Nat.mul_div_cancel _ (by omega)]; simp)] at HO
      go_wp2_with fail
      go_returns
      exact ⟨_, rfl, strs_of_owns HO.out, HW.out⟩

theorem bands_ref (s : List Int) (rows : Int) (v : Value) (w : World) (hs : s.length ≤ 4000) (hr0 : -9223372036854775808 ≤ rows) (hr1 : rows ≤ 9223372036854775807) (h : Ints w v s) :
    Calls Tryd.prog 19 #[v, .int .i64 rows] w (KeysPost w (bandsT s rows)) := by
  cases ho : okB s rows
  · exact bands_bad_ref s rows v w hs hr0 hr1 h ho
  · obtain ⟨_, hr, _⟩ := okB_yes ho
    obtain ⟨n, hn⟩ : ∃ n : Nat, rows = (n : Int) := ⟨rows.toNat, by omega⟩
    subst hn
    cases he : emp s
    · exact bands_full_ref s n v w hs h ho he
    · exact bands_emp_ref s n v w hs h ho he
end Go.Proofs.YtoifcfocffcmcaaDoor
