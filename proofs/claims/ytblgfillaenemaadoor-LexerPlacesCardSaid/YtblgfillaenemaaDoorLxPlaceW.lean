/- LexerPlaces, walked. -/
import Derived.Test.YtblgfillaenemaaDoorLxPartW
namespace Go.Proofs.YtblgfillaenemaaDoor
open Go.RowKit
open L7 (Tk lexT lx gap)

set_option maxRecDepth 100000 in
set_option maxHeartbeats 8000000 in
theorem places_long (t : Txt) (h : 3000 < t.length) (w : World) : Calls Tryd.prog 4 #[str t] w (fun e w' => e = .returned (.bool true) ∧ Below w.heap.size w w') := by
  have hsz := sz t
  have d : (3000 : Int) < (t.length : Int) := by omega
  clear h
  go_enter Tryd.func4, Tryd.ntmps4
  go_wp2_with fail
  refine (head_any _).mono ?_
  rintro e w1 ⟨rfl, hb1⟩
  have HB1 := Lib.hid hb1
  clear hb1
  go_wp2_with fail
  go_ret
  exact ⟨rfl, HB1.out⟩
set_option maxRecDepth 100000 in
set_option maxHeartbeats 8000000 in
theorem places_bad (t : Txt) (h : t.length ≤ 3000) (h0 : (lx t 0).2.1 ≠ 0) (w : World) : Calls Tryd.prog 4 #[str t] w (fun e w' => e = .returned (.bool true) ∧ Below w.heap.size w w') := by
  have hsz := sz t
  have d : ¬ (3000 : Int) < (t.length : Int) := by omega
  obtain ⟨k, hk, ha, _⟩ := L7.lx_begin t.length t 0 (Nat.le_refl _) h0
  have C := Lib.hid (fun W => hlx t _ (by omega) (lexT_err (by omega) h0) W)
  obtain ⟨er, her⟩ : ∃ er, (lx t 0).2.1 = er := ⟨_, rfl⟩
  have hp : (lx t 0).2 = (er, (k : Int)) := Prod.ext her (by rw [ha]; simp)
  rw [hp] at C
  rw [her] at h0
  have e0 : ((er : Int) != 0) = true := by simpa using h0
  have k0 : (0 : Int) ≤ (k : Int) := by omega
  have k1 : (k : Int) < (t.length : Int) := by omega
  clear h h0 ha hp her
  go_enter Tryd.func4, Tryd.ntmps4
  go_wp2_with fail
  refine (head_any _).mono ?_
  rintro e w1 ⟨rfl, hb1⟩
  have HB1 := Lib.hid hb1
  clear hb1
  go_wp2_with fail
  refine (C.out _).mono ?_
  rintro e w2 ⟨v2, rfl, ht2, hb2⟩
  have HB2 := Lib.hid hb2
  clear hb2
  have HT2 := Lib.hid ht2
  clear ht2
  obtain ⟨A2, c2, rfl, hc2⟩ := Slc.form HT2.out
  go_wp2_with fail
  go_ret
  exact ⟨rfl, (below_up HB1.out HB2.out (HB1.out).size)⟩
theorem drop_get {t r : Txt} {c : UInt8} {j : Nat} (h : t.drop j = c :: r) : ∃ hj : j < t.length, t[j] = c ∧ t.drop (j + 1) = r := by
  have hj : j < t.length := by
    rcases Nat.lt_or_ge j t.length with q | q
    · exact q
    · rw [List.drop_eq_nil_of_le q] at h
      simp at h
  rw [List.drop_eq_getElem_cons hj] at h
  injection h with h1 h2
  exact ⟨hj, h1, h2⟩
set_option maxRecDepth 100000 in
set_option maxHeartbeats 8000000 in
theorem places_ok (t : Txt) (h : t.length ≤ 3000) (h0 : (lx t 0).2.1 = 0) (w : World) : Calls Tryd.prog 4 #[str t] w (fun e w' => e = .returned (.bool true) ∧ Below w.heap.size w w') := by
  have hsz := sz t
  have d : ¬ (3000 : Int) < (t.length : Int) := by omega
  have C := Lib.hid (fun W => hlx t _ (by omega) (lexT_ok (by omega) h0) W)
  have hpl := L7.places_math t (lx t 0).1 0 (by omega) (by rw [List.drop_zero]; exact L7.lx_ok h0)
  have n1 := L7.lx_count t.length t 0 (Nat.le_refl _)
  obtain ⟨ts, hts⟩ : ∃ ts, (lx t 0).1 = ts := ⟨_, rfl⟩
  rw [hts] at C hpl n1
  obtain ⟨n, hn⟩ : ∃ n, ts.length = n := ⟨_, rfl⟩
  have HN := Lib.hid hn
  have HPL := Lib.hid hpl
  rw [hn] at n1
  clear h0 hts hn hpl
  go_enter Tryd.func4, Tryd.ntmps4
  go_wp2_with fail
  refine (head_any _).mono ?_
  rintro e w1 ⟨rfl, hb1⟩
  have HB1 := Lib.hid hb1
  clear hb1
  go_wp2_with fail
  refine (C.out _).mono ?_
  rintro e w2 ⟨v2, rfl, ht2, hb2⟩
  have HB2 := Lib.hid hb2
  clear hb2
  have HT2 := Lib.hid ht2
  clear ht2
  obtain ⟨A2, c2, rfl, hc2⟩ := Slc.form HT2.out
  rw [HN.out] at HT2 hc2 ⊢
  have BW := Lib.hid (below_up HB1.out HB2.out HB1.out.size)
  go_wp2_with fail
  go_loopw [7, 8] (fun y x wr => ∃ i e : Nat, i ≤ n ∧ x = .int .i64 (i : Int) ∧ y = .int .i64 (e : Int) ∧ e ≤ t.length ∧ L7.Pl t e (ts.drop i) ∧ Below w2.heap.size w2 wr) (fun _ x _ => n - (intOf x).toNat)
  case atStart => exact ⟨0, 0, by omega, by simp, by simp, by omega, by rw [List.drop_zero]; exact HPL.out, Below.refl _ _⟩
  case round =>
    obtain ⟨wo, rfl⟩ : ∃ wo, wo = wr := ⟨_, rfl⟩
    obtain ⟨i, e, hi, rfl, rfl, hel, hp, hb⟩ := hrel
    have HB := Lib.hid hb
    clear hb
    by_cases hlt : i < n
    · have hil : i < ts.length := by rw [HN.out]; exact hlt
      rw [List.drop_eq_getElem_cons hil] at hp
      obtain ⟨k, m, hat, hek, hkl, hgap, htok, hpl2⟩ := hp
      have HP2 := Lib.hid hpl2
      obtain ⟨ba, oa, rfl⟩ := tk_at0 HT2.out (by omega)
      have ca := fun q => tk_at (HT2.out.below (HB.out.trans (below_drewN _ wo q))) i hil
      obtain ⟨kd, hkd⟩ : ∃ kd, ts[i].kind = kd := ⟨_, rfl⟩
      obtain ⟨tx, htx⟩ : ∃ tx, ts[i].text = tx := ⟨_, rfl⟩
      obtain ⟨nn, hnn⟩ : ∃ nn, ts[i].n = nn := ⟨_, rfl⟩
      rw [hat, hkd, htx, hnn] at ca
      rw [hkd, htx, hnn] at htok
      have p0 : ∀ q, (wo.drewN q).cell? ⟨ba, oa + i * 4, none⟩ = some (.int .i64 kd) := fun q => (ca q).1
      have p1 : ∀ q, (wo.drewN q).cell? ⟨ba, oa + i * 4 + 1, none⟩ = some (str tx) := fun q => (ca q).2.1
      have p3 : ∀ q, (wo.drewN q).cell? ⟨ba, oa + i * 4 + 3, none⟩ = some (.int .i64 (k : Int)) := fun q => (ca q).2.2.2
      have z0 : wo.cell? ⟨ba, oa + i * 4, none⟩ = some (.int .i64 kd) := p0 0
      have z1 : wo.cell? ⟨ba, oa + i * 4 + 1, none⟩ = some (str tx) := p1 0
      have z3 : wo.cell? ⟨ba, oa + i * 4 + 3, none⟩ = some (.int .i64 (k : Int)) := p3 0
      have i0 : (0 : Int) ≤ (i : Int) := by omega
      have i1 : (i : Int) < (n : Int) := by omega
      have i2 : IntKind.i64.wrap ((i : Int) + 1) = (i : Int) + 1 := IntWalk.i64_in _ (by omega)
      have k0 : (0 : Int) ≤ (k : Int) := by omega
      have k1 : (k : Int) < (t.length : Int) := by omega
      have k2 : ¬ (k : Int) < (e : Int) := by omega
      have k3 : (e : Int) ≤ (k : Int) := by omega
      have k4 : (0 : Int) ≤ (e : Int) := by omega
      have xe : (⟨t.toArray⟩ : ByteArray).extract e k = ⟨((t.drop e).take (k - e)).toArray⟩ := ext_eq t e k
      have G := Lib.hid (fun W => gaps_any ((t.drop e).take (k - e)) true (by rw [hgap, List.length_take, List.length_drop]; exact decide_eq_true (by omega)) (by simp; omega) W)
      obtain ⟨g, hg⟩ : ∃ g, (t.drop e).take (k - e) = g := ⟨_, rfl⟩
      rw [hg] at G xe
      have hsh := L7.tok_shape htok
      have hext := L7.tok_ext htok
      have hm1 := hext.1
      have hm2 := hext.2.1
      rw [List.length_drop] at hm2
      clear hgap hg ca hat hkd htx hnn htok hext hpl2
      by_cases h3 : kd = 3
      · obtain ⟨s, hs, hcon⟩ : ∃ s, t.drop k = 34 :: s ∧ L7.con s = (tx, m - 1, 0) := by
          rcases hsh with ⟨_, _, _, s, a, _, b⟩ | ⟨a, _⟩
          · exact ⟨s, a, b⟩
          · exact absurd h3 a
        have e3 : ((kd : Int) == 3) = true := by rw [h3]; rfl
        obtain ⟨_, hq, hdr⟩ := drop_get hs
        have ex0 : ∀ h, (⟨t.toArray⟩ : ByteArray)[k]'h = 34 := fun _ => hq
        have HCON := Lib.hid (show L7.con (t.drop (k + 1)) = (tx, m - 1, 0) from by rw [hdr]; exact hcon)
        have k5 : IntKind.i64.wrap ((k : Int) + 1) = (k : Int) + 1 := IntWalk.i64_in _ (by omega)
        clear hsh h3 hs hcon hdr hq
        go_wp2_with (go_at_call 14; refine (G.out _).mono ?_; rintro e1 w3 ⟨rfl, rfl⟩)
        go_loopw [10] (fun y wq => ∃ (j : Nat) (c : Txt) (r : Nat), y = .int .i64 (j : Int) ∧ k + 1 ≤ j ∧ L7.con (t.drop j) = (c, r, 0) ∧ j + r = k + m ∧ wq = wo) (fun y _ => t.length + 2 - (intOf y).toNat)
        case atStart => exact ⟨k + 1, tx, m - 1, by simp, by omega, HCON.out, by omega, rfl⟩
        case round =>
          obtain ⟨j, c, r, rfl, hkj, hc, hjr, rfl⟩ := hrel
          have j0 : (0 : Int) ≤ (j : Int) := by omega
          rcases L7.con_cases hc with ⟨y, hy, _, hr⟩ | ⟨dd, y, s', n', hy, hd, hc', _, hr⟩ | ⟨cc, y, s', n', hy, h1, h2, h4, hc', _, hr⟩
          · obtain ⟨hj, hq, _⟩ := drop_get hy
            have ex : ∀ h, (⟨t.toArray⟩ : ByteArray)[j]'h = 34 := fun _ => hq
            have j1 : (j : Int) < (t.length : Int) := by omega
            have j2 : IntKind.i64.wrap ((j : Int) + 1) = (j : Int) + 1 := IntWalk.i64_in _ (by omega)
            have HJ := Lib.hid (show k + m = j + 1 by omega)
            clear hc hy hq
            go_wp2_with fail
            go_roundw
            case rel => exact ⟨i + 1, k + m, by omega, by simp, by rw [HJ.out]; simp, by omega, HP2.out, HB.out⟩
            case measure => simp [intOf]; omega
          · obtain ⟨hj, hq, hdr⟩ := drop_get hy
            obtain ⟨hj2, hq2, hdr2⟩ := drop_get hdr
            have ex : ∀ h, (⟨t.toArray⟩ : ByteArray)[j]'h = 92 := fun _ => hq
            have j1 : (j : Int) < (t.length : Int) := by omega
            have j2 : IntKind.i64.wrap ((j : Int) + 1) = (j : Int) + 1 := IntWalk.i64_in _ (by omega)
            have j3 : IntKind.i64.wrap ((j : Int) + 1 + 1) = (j : Int) + 1 + 1 := IntWalk.i64_in _ (by omega)
            have HC2 := Lib.hid (show L7.con (t.drop (j + 1 + 1)) = (s', n', 0) from by rw [hdr2]; exact hc')
            clear hc hy hq hdr hq2 hdr2 hc'
            go_wp2_with fail
            go_roundw
            case rel => exact ⟨j + 1 + 1, s', n', by simp, by omega, HC2.out, by omega, trivial⟩
            case measure => simp [intOf]; omega
          · obtain ⟨hj, hq, hdr⟩ := drop_get hy
            have ex : ∀ h, (⟨t.toArray⟩ : ByteArray)[j]'h = cc := fun _ => hq
            have d1 : ((cc.toNat : Int) != 34) = true := by simpa using fun e => h1 (eq_of_int (d := 34) e)
            have d2 : ((cc.toNat : Int) == 92) = false := by rw [beq_eq_false_iff_ne]; exact fun e => h4 (eq_of_int (d := 92) e)
            have j1 : (j : Int) < (t.length : Int) := by omega
            have j2 : IntKind.i64.wrap ((j : Int) + 1) = (j : Int) + 1 := IntWalk.i64_in _ (by omega)
            have HC2 := Lib.hid (show L7.con (t.drop (j + 1)) = (s', n', 0) from by rw [hdr]; exact hc')
            clear hc hy hq hdr hc' h1 h2 h4
            go_wp2_with fail
            go_roundw
            case rel => exact ⟨j + 1, s', n', by simp, by omega, HC2.out, by omega, trivial⟩
            case measure => simp [intOf]; omega
      · have htx : tx = (t.drop k).take m := by
          rcases hsh with ⟨a, _⟩ | ⟨_, a⟩
          · exact absurd a h3
          · exact a
        have hlen : tx.length = m := by rw [htx, List.length_take, List.length_drop]; omega
        have e3 : ((kd : Int) == 3) = false := by rw [beq_eq_false_iff_ne]; exact h3
        have xt : (⟨t.toArray⟩ : ByteArray).extract k (k + tx.length) = ⟨tx.toArray⟩ := by rw [ext_eq, hlen, htx, Nat.add_sub_cancel_left]
        have HP3 := Lib.hid (show L7.Pl t (k + tx.length) (ts.drop (i + 1)) by rw [hlen]; exact HP2.out)
        have m1 : 0 < tx.length := by omega
        have m2 : k + tx.length ≤ t.length := by omega
        have hst := sz tx
        have s1 : IntKind.i64.wrap ((k : Int) + (tx.length : Int)) = (k : Int) + (tx.length : Int) := IntWalk.i64_in _ (by omega)
        have s2 : (0 : Int) ≤ (k : Int) + (tx.length : Int) := by omega
        have s3 : (k : Int) + (tx.length : Int) ≤ (t.length : Int) := by omega
        have s4 : ((k : Int) + (tx.length : Int)).toNat = k + tx.length := by omega
        have s5 : decide ((t.length : Int) < (k : Int) + (tx.length : Int)) = false := decide_eq_false (by omega)
        have s6 : ((tx.length : Int) == 0) = false := by rw [beq_eq_false_iff_ne]; omega
        have s7 : (k : Int) ≤ (k : Int) + (tx.length : Int) := by omega
        clear hsh h3 htx hlen hm1 hm2
        go_wp2_with (go_at_call 14; refine (G.out _).mono ?_; rintro e1 w3 ⟨rfl, rfl⟩)
        go_quiet (fail)
        go_wp2_with fail
        go_roundw
        case rel => exact ⟨i + 1, k + tx.length, by omega, by simp, by simp, by omega, HP3.out, HB.out.trans (below_drewN _ _ _)⟩
        case measure => simp [intOf]; omega
    · have hz : ts.drop i = [] := List.drop_eq_nil_of_le (by rw [HN.out]; omega)
      rw [hz] at hp
      obtain ⟨hg, _⟩ := hp
      have i1 : ¬ (i : Int) < (n : Int) := by omega
      have k4 : (0 : Int) ≤ (e : Int) := by omega
      have k5 : (e : Int) ≤ (t.length : Int) := by omega
      have xe : (⟨t.toArray⟩ : ByteArray).extract e t.length = ⟨(t.drop e).toArray⟩ := by rw [ext_eq, List.take_of_length_le (by simp)]
      have G := Lib.hid (fun W => gaps_any (t.drop e) true (decide_eq_true hg) (by simp; omega) W)
      obtain ⟨g, hg2⟩ : ∃ g, t.drop e = g := ⟨_, rfl⟩
      rw [hg2] at G xe
      clear hz hg hg2
      go_wp2_with (go_at_call 14; refine (G.out _).mono ?_; rintro e1 w3 ⟨rfl, rfl⟩)
      go_ret
      exact ⟨rfl, below_up BW.out HB.out BW.out.size⟩
theorem places_law (t : Txt) (w : World) : Calls Tryd.prog 4 #[str t] w (fun e w' => e = .returned (.bool true) ∧ Below w.heap.size w w') := by
  by_cases h : 3000 < t.length
  · exact places_long t h w
  · by_cases h0 : (lx t 0).2.1 = 0
    · exact places_ok t (by omega) h0 w
    · exact places_bad t (by omega) h0 w
end Go.Proofs.YtblgfillaenemaaDoor
