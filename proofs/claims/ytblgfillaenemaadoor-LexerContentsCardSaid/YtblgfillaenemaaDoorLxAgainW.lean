/- The tokens, written; LexerAgain and LexerContents, walked. -/
import Derived.Test.YtblgfillaenemaaDoorLxPartW
import Derived.Test.YtblgfillaenemaaDoorLxNum
import Derived.Test.YtblgfillaenemaaDoorVText
import Derived.Test.YtblgfillaenemaaDoorLxHeadM
namespace Go.Proofs.YtblgfillaenemaaDoor
open Go.RowKit
open L7 (Tk lexT lx gap bare wr7 wrAll quo7)

theorem text_quo (x : Txt) (hx : x.length ≤ 200) (w : World) : Calls Tryd.prog 17 #[.agg #[.int .i64 1, .int .i64 0, str x]] w fun e w' => e = .returned (str (quo7 x)) ∧ Below w.heap.size w w' := by
  rw [L7.quo_same]
  exact L2.text_text 0 x (L2.vldB_mk (.inr (.inl ⟨rfl, rfl, hx⟩))) w
set_option maxRecDepth 100000 in
set_option maxHeartbeats 8000000 in
theorem written_any (v : Value) (ts : List Tk) (hl : ts.length ≤ 100000) (hL : (wrAll ts).length ≤ 100000) (hx : ∀ t ∈ ts, t.kind = 3 → t.text.length ≤ 200) (w : World) (h : Toks w v ts) :
    Calls Tryd.prog 15 #[v] w fun e w' => e = .returned (str (wrAll ts)) ∧ Below w.heap.size w w' := by
  obtain ⟨A, ca, rfl, hca⟩ := Slc.form h
  obtain ⟨n, hn⟩ : ∃ n, ts.length = n := ⟨_, rfl⟩
  have HN := Lib.hid hn
  have HT := Lib.hid h
  have HL := Lib.hid hL
  have HX := Lib.hid hx
  rw [hn] at HT hca hl ⊢
  clear h hL hx hn
  go_enter Tryd.func15, Tryd.ntmps15
  go_wp2_with fail
  go_loopw [3, 4] (fun y x wr => ∃ i : Nat, i ≤ n ∧ x = .int .i64 (i : Int) ∧ y = str (wrAll (ts.take i)) ∧ Below w.heap.size w wr) (fun _ x _ => n - (intOf x).toNat)
  case atStart => exact ⟨0, by omega, by simp, by simp [wrAll], Below.refl _ _⟩
  case round =>
    obtain ⟨i, hi, rfl, rfl, hb⟩ := hrel
    have HB := Lib.hid hb
    clear hb
    by_cases hlt : i < n
    · have hil : i < ts.length := by rw [HN.out]; exact hlt
      obtain ⟨ba, oa, rfl⟩ := tk_at0 HT.out (by omega)
      have ca := tk_at (HT.out.below HB.out) i hil
      have hx3 := HX.out ts[i] (List.getElem_mem hil)
      have hW := L7.wrAll_take ts i hil
      have hle := L7.wrAll_le ts (i + 1)
      rw [hW] at hle
      obtain ⟨L, hLL⟩ : ∃ L, wrAll (ts.take i) = L := ⟨_, rfl⟩
      rw [hLL] at hW hle
      rw [hLL]
      obtain ⟨kd, hkd⟩ : ∃ kd, ts[i].kind = kd := ⟨_, rfl⟩
      obtain ⟨tx, htx⟩ : ∃ tx, ts[i].text = tx := ⟨_, rfl⟩
      have hwr : wr7 ts[i] = if kd = 3 then quo7 tx else tx := by unfold wr7; rw [hkd, htx]
      rw [hwr] at hW hle
      rw [hkd, htx] at ca hx3
      have z0 := ca.1
      have z1 := ca.2.1
      have i0 : (0 : Int) ≤ (i : Int) := by omega
      have i1 : (i : Int) < (n : Int) := by omega
      have i2 : IntKind.i64.wrap ((i : Int) + 1) = (i : Int) + 1 := IntWalk.i64_in _ (by omega)
      have hlim := HL.out
      have hsL := sz L
      clear ca hkd htx hwr hLL
      by_cases h3 : kd = 3
      · rw [if_pos h3] at hW hle
        have e3 : ((kd : Int) == 3) = true := by rw [h3]; rfl
        have C := Lib.hid (fun W => text_quo tx (hx3 h3) W)
        obtain ⟨q, hq⟩ : ∃ q, quo7 tx = q := ⟨_, rfl⟩
        rw [hq] at hW hle C
        simp only [List.length_append, List.length_singleton] at hle
        have HW := Lib.hid hW
        have hsq := sz q
        have q1 : (9223372036854775807 < L.length + q.length) = False := eq_false (by omega)
        have q2 : (9223372036854775807 < L.length + q.length + 1) = False := eq_false (by omega)
        clear hx3 h3 hW hle hlim hq
        go_wp2_with fail
        refine (C.out _).mono ?_
        rintro e w1 ⟨rfl, hb1⟩
        have HB1 := Lib.hid hb1
        clear hb1
        go_wp2_with fail
        go_roundw
        case rel => exact ⟨i + 1, by omega, by simp, by rw [HW.out]; exact str_eq (by simp), below_up HB.out HB1.out HB.out.size⟩
        case measure => simp [intOf]; omega
      · rw [if_neg h3] at hW hle
        have e3 : ((kd : Int) == 3) = false := by rw [beq_eq_false_iff_ne]; exact h3
        simp only [List.length_append, List.length_singleton] at hle
        have HW := Lib.hid hW
        have hsq := sz tx
        have q1 : (9223372036854775807 < L.length + tx.length) = False := eq_false (by omega)
        have q2 : (9223372036854775807 < L.length + tx.length + 1) = False := eq_false (by omega)
        clear hx3 h3 hW hle hlim
        go_wp2_with fail
        go_roundw
        case rel => exact ⟨i + 1, by omega, by simp, by rw [HW.out]; exact str_eq (by simp), HB.out⟩
        case measure => simp [intOf]; omega
    · have HE := Lib.hid (show wrAll (ts.take i) = wrAll ts by rw [List.take_of_length_le (by rw [HN.out]; omega)])
      rw [HE.out]
      have i1 : ¬ (i : Int) < (n : Int) := by omega
      obtain ⟨X, hX⟩ : ∃ X, wrAll ts = X := ⟨_, rfl⟩
      rw [hX]
      clear HE
      go_wp2_with fail
      go_ret
      exact ⟨rfl, HB.out⟩
set_option maxRecDepth 100000 in
set_option maxHeartbeats 8000000 in
theorem again_long (t : Txt) (h : 2000 < t.length) (w : World) : Calls Tryd.prog 5 #[str t] w (fun e w' => e = .returned (.bool true) ∧ Below w.heap.size w w') := by
  have hsz := sz t
  have d : (2000 : Int) < (t.length : Int) := by omega
  clear h
  go_enter Tryd.func5, Tryd.ntmps5
  go_wp2_with fail
  refine (head_any _).mono ?_
  rintro e w1 ⟨rfl, hb1⟩
  have HB1 := Lib.hid hb1
  clear hb1
  go_wp2_with fail
  go_ret
  exact ⟨rfl, HB1.out⟩
set_option maxRecDepth 100000 in
set_option maxHeartbeats 8000000 in
theorem again_bad (t : Txt) (h : t.length ≤ 2000) (h0 : (lx t 0).2.1 ≠ 0) (w : World) : Calls Tryd.prog 5 #[str t] w (fun e w' => e = .returned (.bool true) ∧ Below w.heap.size w w') := by
  have hsz := sz t
  have d : ¬ (2000 : Int) < (t.length : Int) := by omega
  have C := Lib.hid (fun W => hlx t _ (by omega) (lexT_err (by omega) h0) W)
  obtain ⟨⟨e1, a1⟩, hp1⟩ : ∃ y, (lx t 0).2 = y := ⟨_, rfl⟩
  rw [hp1] at C h0
  have e0 : ((e1 : Int) != 0) = true := by simpa using h0
  clear h0 hp1
  go_enter Tryd.func5, Tryd.ntmps5
  go_wp2_with fail
  refine (head_any _).mono ?_
  rintro e w1 ⟨rfl, hb1⟩
  have HB1 := Lib.hid hb1
  clear hb1
  go_wp2_with fail
  refine (C.out _).mono ?_
  rintro e w2 ⟨v2, rfl, ht2, hb2⟩
  have HB2 := Lib.hid hb2
  clear hb2
  clear ht2
  go_wp2_with fail
  go_ret
  exact ⟨rfl, (below_up HB1.out HB2.out (HB1.out).size)⟩
set_option maxRecDepth 100000 in
set_option maxHeartbeats 8000000 in
theorem again_ok (t : Txt) (h : t.length ≤ 2000) (h0 : (lx t 0).2.1 = 0) (w : World) : Calls Tryd.prog 5 #[str t] w (fun e w' => e = .returned (.bool true) ∧ Below w.heap.size w w') := by
  have hsz := sz t
  have d : ¬ (2000 : Int) < (t.length : Int) := by omega
  have hok := L7.lx_ok h0
  have C := Lib.hid (fun W => hlx t _ (by omega) (lexT_ok (by omega) h0) W)
  obtain ⟨us, hus, hbare⟩ := L7.again_math t.length t 0 _ (Nat.le_refl _) hok 0
  have hwt := L7.wr_total t.length t 0 _ (Nat.le_refl _) hok
  have hwl := L7.wr_len t.length t 0 _ (Nat.le_refl _) hok
  have n1 := L7.lx_count t.length t 0 (Nat.le_refl _)
  have E := Lib.hid (fun W => hlx (wrAll (lx t 0).1) _ (by omega) (lexT_ok (by omega) (by rw [hus])) W)
  rw [hus] at E
  obtain ⟨ts, hts⟩ : ∃ ts, (lx t 0).1 = ts := ⟨_, rfl⟩
  rw [hts] at C E hbare n1 hwt hwl
  have HBA := Lib.hid hbare
  have HN := Lib.hid n1
  have D := Lib.hid (fun v W (hT : Toks W v ts) => written_any v ts (by omega) (by omega) (fun u hu q => (hwl u hu).2 q) W hT)
  obtain ⟨X, hX⟩ : ∃ X, wrAll ts = X := ⟨_, rfl⟩
  rw [hX] at D E
  clear h0 hok hus hbare hwt hwl n1 hts hX
  go_enter Tryd.func5, Tryd.ntmps5
  go_wp2_with fail
  refine (head_any _).mono ?_
  rintro e w1 ⟨rfl, hb1⟩
  have HB1 := Lib.hid hb1
  clear hb1
  go_wp2_with fail
  refine (C.out _).mono ?_
  rintro e w2 ⟨v2, rfl, ht2, hb2⟩
  have HB2 := Lib.hid hb2
  clear hb2
  have HT2 := Lib.hid ht2
  clear ht2
  obtain ⟨A2, c2, rfl, hc2⟩ := Slc.form HT2.out
  go_wp2_with fail
  refine (D.out _ _ HT2.out).mono ?_
  rintro e w3 ⟨rfl, hb3⟩
  have HB3 := Lib.hid hb3
  clear hb3
  go_wp2_with fail
  refine (E.out _).mono ?_
  rintro e w4 ⟨v4, rfl, ht4, hb4⟩
  have HB4 := Lib.hid hb4
  clear hb4
  have HT4 := Lib.hid ht4
  clear ht4
  go_wp2_with fail
  refine (alike_true _ _ ts us (by have := HN.out; omega) HBA.out.symm _ (HT2.out.below (below_up HB3.out HB4.out HB3.out.size)) HT4.out).mono ?_
  rintro e w5 ⟨rfl, hb5⟩
  have HB5 := Lib.hid hb5
  clear hb5
  go_wp2_with fail
  go_ret
  exact ⟨rfl, (below_up HB1.out (below_up HB2.out (below_up HB3.out (below_up HB4.out HB5.out (HB4.out).size) (HB3.out).size) (HB2.out).size) (HB1.out).size)⟩
theorem again_law (t : Txt) (w : World) : Calls Tryd.prog 5 #[str t] w (fun e w' => e = .returned (.bool true) ∧ Below w.heap.size w w') := by
  by_cases h : 2000 < t.length
  · exact again_long t h w
  · by_cases h0 : (lx t 0).2.1 = 0
    · exact again_ok t (by omega) h0 w
    · exact again_bad t (by omega) h0 w
set_option maxRecDepth 100000 in
set_option maxHeartbeats 8000000 in
theorem contents_long (s : Txt) (n : Nat) (h : 200 < s.length) (w : World) : Calls Tryd.prog 9 #[str s, .int .u32 (n : Int)] w (fun e w' => e = .returned (.bool true) ∧ Below w.heap.size w w') := by
  have hsz := sz s
  have d : (200 : Int) < (s.length : Int) := by omega
  clear h
  go_enter Tryd.func9, Tryd.ntmps9
  go_wp2_with fail
  refine (head_any _).mono ?_
  rintro e w1 ⟨rfl, hb1⟩
  have HB1 := Lib.hid hb1
  clear hb1
  go_wp2_with fail
  go_ret
  exact ⟨rfl, HB1.out⟩
set_option maxRecDepth 100000 in
set_option maxHeartbeats 8000000 in
theorem contents_ok (s : Txt) (n : Nat) (hn : n < 4294967296) (h : s.length ≤ 200) (w : World) (he : L2.Env w) : Calls Tryd.prog 9 #[str s, .int .u32 (n : Int)] w (fun e w' => e = .returned (.bool true) ∧ Below w.heap.size w w') := by
  have hsz := sz s
  have d : ¬ (200 : Int) < (s.length : Int) := by omega
  obtain ⟨k, hk⟩ : ∃ k, n % 1000000001 = k := ⟨_, rfl⟩
  have hk9 : k ≤ 1000000000 := by omega
  have r0 : IntKind.i64.wrap (n : Int) = (n : Int) := IntWalk.i64_in _ (by omega)
  have r1 : (n : Int) % 1000000001 = (k : Int) := by omega
  have r2 : (n : Int).tmod 1000000001 = (k : Int) := by rw [Int.tmod_eq_emod_of_nonneg (by omega), r1]
  have r3 : (0 : Int) ≤ (n : Int) := by omega
  obtain ⟨d1, d2, d3, d4⟩ := L7.num_dec k hk9
  have hit : Lib.itoa (k : Int) = Lib.decDigits k := by rw [L2.itoa_pos (by omega)]; rfl
  have CA := Lib.hid (fun W => text_quo s h W)
  have CB := Lib.hid (fun W (hE : L2.Env W) => (show Calls Tryd.prog 17 #[.agg #[.int .i64 2, .int .i64 (k : Int), .string ⟨#[]⟩]] W (fun e w' => e = .returned (str (Lib.decDigits k)) ∧ Below W.heap.size W w') by
    rw [← hit]
    exact L2.text_num (k : Int) [] (L2.vldB_mk (.inr (.inr (.inl ⟨rfl, by omega, by omega, rfl⟩)))) W hE))
  have hm := L7.contents_math h d1 d2 d3
  rw [d4] at hm
  have hql : (quo7 s).length ≤ 402 := by rw [L7.quo_same]; have := L2.quo_len s; omega
  have E := Lib.hid (fun W => hlx (quo7 s ++ 32 :: Lib.decDigits k) _ (by simp; omega) (lexT_ok (by simp; omega) (by rw [hm])) W)
  rw [hm] at E
  obtain ⟨q, hq⟩ : ∃ q, quo7 s = q := ⟨_, rfl⟩
  obtain ⟨x, hx⟩ : ∃ x, Lib.decDigits k = x := ⟨_, rfl⟩
  rw [hq] at CA E hql
  rw [hx] at CB E d3
  have hs1 := sz q
  have hs2 := sz x
  have q1 : (9223372036854775807 < q.length + 1) = False := eq_false (by omega)
  have q2 : (9223372036854775807 < q.length + 1 + x.length) = False := eq_false (by omega)
  have w1 : IntKind.i64.wrap ((q.length : Int) + 1) = (q.length : Int) + 1 := IntWalk.i64_in _ (by omega)
  have c1 : ((q.length + 1 : Nat) : Int) = (q.length : Int) + 1 := by omega
  rw [c1] at E
  have HE := Lib.hid he
  clear hn h hk d1 d2 d4 hit hm hq hx he c1
  go_enter Tryd.func9, Tryd.ntmps9
  go_wp2_with fail
  refine (head_any _).mono ?_
  rintro e w1 ⟨rfl, hb1⟩
  have HB1 := Lib.hid hb1
  clear hb1
  go_wp2_with fail
  refine (CA.out _).mono ?_
  rintro e w2 ⟨rfl, hb2⟩
  have HB2 := Lib.hid hb2
  clear hb2
  go_wp2_with fail
  refine (CB.out _ (HE.out.below (below_up HB1.out HB2.out HB1.out.size))).mono ?_
  rintro e w3 ⟨rfl, hb3⟩
  have HB3 := Lib.hid hb3
  clear hb3
  go_wp2_with fail
  refine (calls_str (str_eq (by simp)) (E.out _)).mono ?_
  rintro e w4 ⟨v4, rfl, ht4, hb4⟩
  have HB4 := Lib.hid hb4
  clear hb4
  have HT4 := Lib.hid ht4
  clear ht4
  obtain ⟨b4, o4, c4, rfl, hc4, _⟩ := HT4.out.at (by simp)
  obtain ⟨p0, s0, u0, z0⟩ := tk_at HT4.out 0 (by simp)
  simp only [List.getElem_cons_zero, Nat.zero_mul, Nat.add_zero] at p0 s0 u0 z0
  obtain ⟨p1, s1, u1, z1⟩ := tk_at HT4.out 1 (by simp)
  simp only [List.getElem_cons_succ, List.getElem_cons_zero] at p1 s1 u1 z1
  go_wp2_with fail
  go_ret
  exact ⟨rfl, (below_up HB1.out (below_up HB2.out (below_up HB3.out HB4.out (HB3.out).size) (HB2.out).size) (HB1.out).size)⟩
theorem contents_law (s : Txt) (n : Nat) (hn : n < 4294967296) (w : World) (he : L2.Env w) : Calls Tryd.prog 9 #[str s, .int .u32 (n : Int)] w (fun e w' => e = .returned (.bool true) ∧ Below w.heap.size w w') := by
  by_cases h : 200 < s.length
  · exact contents_long s n h w
  · exact contents_ok s n hn (by omega) w he
end Go.Proofs.YtblgfillaenemaaDoor
