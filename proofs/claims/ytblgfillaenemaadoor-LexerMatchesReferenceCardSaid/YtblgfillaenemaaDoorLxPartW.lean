/- LexerParts, walked. -/
import Derived.Test.YtblgfillaenemaaDoorLxBegW
import Derived.Test.YtblgfillaenemaaDoorLxRfE
import Derived.Test.YtblgfillaenemaaDoorLxLaw4
namespace Go.Proofs.YtblgfillaenemaaDoor
open Go.RowKit
open L7 (Tk lexT lx gap)

theorem str_eq {c : Txt} {x : ByteArray} (hx : x.data.toList = c) : Value.string x = str c := by
  congr 1
  apply ByteArray.ext
  apply Array.toList_inj.1
  rw [hx]
theorem calls_str {P : Program} {f : FuncId} {x y : Value} {W : World} {K : Ending → World → Prop} (h : x = y) (c : Calls P f #[y] W K) : Calls P f #[x] W K := by rw [h]; exact c
theorem szTok (w : World) : (sizeOf (Tryd.prog.elem 23)).run Tryd.prog w = .ok 4 w := by kernel_rfl
theorem elTok : Tryd.prog.underlying 23 = some (.slice (Tryd.prog.elem 23)) := by kernel_rfl
/-- The beginning of a list of tokens in memory. -/
theorem slice_head (A : Option Addr) (n cap k : Nat) (hk : k ≤ n) (hc : n ≤ cap) : ∃ V, (∀ W, (Instr.slice 23 (.slice A n cap) none (some (.int .i64 (k : Int))) none).run Tryd.prog W = .ok V W) ∧ ∀ w (l : List Tk), l.length = n → Toks w (.slice A n cap) l → Toks w V (l.take k) := by
  refine ⟨sliced A 0 k cap 4, fun W => ?_, fun w l hl h => ?_⟩
  · rw [run_slice_h _ _ _ _ _ elTok .i64 (k : Int) (by omega) (by omega), szTok]
    rfl
  · obtain ⟨A', cap', e, _, hn, f⟩ := h
    injection e with e1 e2 e3
    subst e1 e3
    have hlen : (l.take k).length = k := by rw [List.length_take]; omega
    refine ⟨if cap = 0 then A else A.map (·.add (0 * 4)), cap, by rw [hlen]; rfl, by rw [hlen]; omega, fun q => ?_, fun i hi => ?_⟩
    · by_cases h0 : cap = 0
      · exact h0
      · rw [if_neg h0] at q
        exact hn (by cases A with | none => rfl | some a => simp at q)
    · rw [hlen] at hi
      obtain ⟨b, off, h1, h2⟩ := f i (by omega)
      subst h1
      rw [if_neg (by omega)]
      refine ⟨b, off, by simp [add_none], fun j hj => by rw [h2 j hj, List.getElem_take]⟩
/-- The end of a list of tokens in memory. -/
theorem slice_tail (A : Option Addr) (n cap k : Nat) (hk : k ≤ n) (hc : n ≤ cap) : ∃ V, (∀ W, (Instr.slice 23 (.slice A n cap) (some (.int .i64 (k : Int))) none none).run Tryd.prog W = .ok V W) ∧ ∀ w (l : List Tk), l.length = n → Toks w (.slice A n cap) l → Toks w V (l.drop k) := by
  refine ⟨sliced A k n cap 4, fun W => ?_, fun w l hl h => ?_⟩
  · rw [run_slice_l _ _ _ _ _ elTok .i64 (k : Int) (by omega) (by omega), szTok]
    rfl
  · obtain ⟨A', cap', e, _, hn, f⟩ := h
    injection e with e1 e2 e3
    subst e1 e3
    have hlen : (l.drop k).length = n - k := by rw [List.length_drop, hl]
    refine ⟨if cap = k then A else A.map (·.add (k * 4)), cap - k, by rw [hlen]; rfl, by rw [hlen]; omega, fun q => ?_, fun i hi => ?_⟩
    · by_cases h0 : cap = k
      · omega
      · rw [if_neg h0] at q
        have := hn (by cases A with | none => rfl | some a => simp at q)
        omega
    · rw [hlen] at hi
      obtain ⟨b, off, h1, h2⟩ := f (k + i) (by omega)
      subst h1
      rw [if_neg (by omega)]
      refine ⟨b, off + k * 4, by simp [add_none], fun j hj => ?_⟩
      rw [List.getElem_drop, Nat.add_assoc off, ← Nat.add_mul]
      exact h2 j hj
set_option maxRecDepth 100000 in
set_option maxHeartbeats 8000000 in
theorem parts_long (one two : Txt) (h : 1500 < one.length ∨ 1500 < two.length) (w : World) : Calls Tryd.prog 6 #[str one, str two] w (fun e w' => e = .returned (.bool true) ∧ Below w.heap.size w w') := by
  have hs1 := sz one
  have hs2 := sz two
  by_cases h1 : 1500 < one.length
  · have d : (1500 : Int) < (one.length : Int) := by omega
    clear h h1
    go_enter Tryd.func6, Tryd.ntmps6
    go_wp2_with fail
    refine (head_any _).mono ?_
    rintro e w1 ⟨rfl, hb1⟩
    have HB1 := Lib.hid hb1
    clear hb1
    go_wp2_with fail
    go_ret
    exact ⟨rfl, HB1.out⟩
  · have d : ¬ (1500 : Int) < (one.length : Int) := by omega
    have d2 : (1500 : Int) < (two.length : Int) := by omega
    clear h h1
    go_enter Tryd.func6, Tryd.ntmps6
    go_wp2_with fail
    refine (head_any _).mono ?_
    rintro e w1 ⟨rfl, hb1⟩
    have HB1 := Lib.hid hb1
    clear hb1
    go_wp2_with fail
    go_ret
    exact ⟨rfl, HB1.out⟩
set_option maxRecDepth 100000 in
set_option maxHeartbeats 8000000 in
theorem parts_bad1 (one two : Txt) (h1 : one.length ≤ 1500) (h2 : two.length ≤ 1500) (h0 : (lx one 0).2.1 ≠ 0) (w : World) : Calls Tryd.prog 6 #[str one, str two] w (fun e w' => e = .returned (.bool true) ∧ Below w.heap.size w w') := by
  have hs1 := sz one
  have hs2 := sz two
  have d : ¬ (1500 : Int) < (one.length : Int) := by omega
  have d2 : ¬ (1500 : Int) < (two.length : Int) := by omega
  have q1 : (9223372036854775807 < one.length + 1) = False := eq_false (by omega)
  have q2 : (9223372036854775807 < one.length + 1 + two.length) = False := eq_false (by omega)
  have hb := L7.lx_nl_bad one.length one two 0 (Nat.le_refl _) h0
  have C := Lib.hid (fun W => hlx one _ (by omega) (lexT_err (by omega) h0) W)
  obtain ⟨R, hR⟩ : ∃ R, lexT two = R := ⟨_, rfl⟩
  have D := Lib.hid (fun W => hlx two R (by omega) hR W)
  have E := Lib.hid (fun W => hlx (one ++ 10 :: two) _ (by simp; omega) (lexT_err (by simp; omega) hb) W)
  obtain ⟨⟨e1, a1⟩, hp1⟩ : ∃ y, (lx one 0).2 = y := ⟨_, rfl⟩
  obtain ⟨⟨e2, a2⟩, hp2⟩ : ∃ y, (lx (one ++ 10 :: two) 0).2 = y := ⟨_, rfl⟩
  obtain ⟨ts, e3, a3⟩ := R
  rw [hp1] at C h0
  rw [hp2] at E hb
  have e0 : ((e1 : Int) != 0) = true := by simpa using h0
  have f0 : ((e2 : Int) != 0) = true := by simpa using hb
  clear h0 hb hR hp1 hp2 h1 h2
  go_enter Tryd.func6, Tryd.ntmps6
  go_wp2_with fail
  refine (head_any _).mono ?_
  rintro e w1 ⟨rfl, hb1⟩
  have HB1 := Lib.hid hb1
  clear hb1
  go_wp2_with fail
  refine (C.out _).mono ?_
  rintro e w2 ⟨v2, rfl, ht2, hb2⟩
  have HB2 := Lib.hid hb2
  clear hb2
  clear ht2
  go_wp2_with fail
  refine (D.out _).mono ?_
  rintro e w3 ⟨v3, rfl, ht3, hb3⟩
  have HB3 := Lib.hid hb3
  clear hb3
  clear ht3
  go_wp2_with fail
  refine (calls_str (str_eq (by simp)) (E.out _)).mono ?_
  rintro e w4 ⟨v4, rfl, ht4, hb4⟩
  have HB4 := Lib.hid hb4
  clear hb4
  clear ht4
  go_wp2_with fail
  go_ret
  exact ⟨rfl, (below_up HB1.out (below_up HB2.out (below_up HB3.out HB4.out (HB3.out).size) (HB2.out).size) (HB1.out).size)⟩
set_option maxRecDepth 100000 in
set_option maxHeartbeats 8000000 in
theorem parts_bad2 (one two : Txt) (h1 : one.length ≤ 1500) (h2 : two.length ≤ 1500) (h0 : (lx one 0).2.1 = 0) (h3 : (lx two 0).2.1 ≠ 0) (w : World) : Calls Tryd.prog 6 #[str one, str two] w (fun e w' => e = .returned (.bool true) ∧ Below w.heap.size w w') := by
  have hs1 := sz one
  have hs2 := sz two
  have d : ¬ (1500 : Int) < (one.length : Int) := by omega
  have d2 : ¬ (1500 : Int) < (two.length : Int) := by omega
  have q1 : (9223372036854775807 < one.length + 1) = False := eq_false (by omega)
  have q2 : (9223372036854775807 < one.length + 1 + two.length) = False := eq_false (by omega)
  have hp := L7.parts_math one two h0
  have hs := L7.lx_shift two.length two 0 (one.length + 1) (Nat.le_refl _)
  rw [Nat.zero_add] at hs
  obtain ⟨⟨e2, a2⟩, hp2⟩ : ∃ y, (lx two 0).2 = y := ⟨_, rfl⟩
  rw [hp2] at hs h3
  simp only at hs h3
  rw [if_neg h3] at hs
  rw [hs] at hp
  have C := Lib.hid (fun W => hlx one _ (by omega) (lexT_ok (by omega) h0) W)
  have D := Lib.hid (fun W => hlx two _ (by omega) (lexT_err (by omega) (by rw [hp2]; exact h3)) W)
  have E := Lib.hid (fun W => hlx (one ++ 10 :: two) _ (by simp; omega) (lexT_err (by simp; omega) (by rw [hp]; exact h3)) W)
  rw [hp2] at D
  rw [hp] at E
  obtain ⟨k, hk, ha, _⟩ := L7.lx_begin two.length two 0 (Nat.le_refl _) (by rw [hp2]; exact h3)
  rw [hp2] at ha
  simp only [Nat.zero_add] at ha
  subst ha
  obtain ⟨ts, hts⟩ : ∃ ts, (lx one 0).1 = ts := ⟨_, rfl⟩
  rw [hts] at C
  have f0 : ((e2 : Int) != 0) = true := by simpa using h3
  have w1 : IntKind.i64.wrap ((k : Int) + (one.length : Int)) = (k : Int) + (one.length : Int) := IntWalk.i64_in _ (by omega)
  have w2 : IntKind.i64.wrap ((k : Int) + (one.length : Int) + 1) = (k : Int) + (one.length : Int) + 1 := IntWalk.i64_in _ (by omega)
  have w3 : (((k : Int) + ((one.length + 1 : Nat) : Int)) == (k : Int) + (one.length : Int) + 1) = true := by rw [beq_iff_eq]; omega
  have w4 : (((k : Int) + ((one.length : Int) + 1)) == (k : Int) + (one.length : Int) + 1) = true := by rw [beq_iff_eq]; omega
  clear h0 h3 hp hs hp2 hts
  go_enter Tryd.func6, Tryd.ntmps6
  go_wp2_with fail
  refine (head_any _).mono ?_
  rintro e w1 ⟨rfl, hb1⟩
  have HB1 := Lib.hid hb1
  clear hb1
  go_wp2_with fail
  refine (C.out _).mono ?_
  rintro e w2 ⟨v2, rfl, ht2, hb2⟩
  have HB2 := Lib.hid hb2
  clear hb2
  clear ht2
  go_wp2_with fail
  refine (D.out _).mono ?_
  rintro e w3 ⟨v3, rfl, ht3, hb3⟩
  have HB3 := Lib.hid hb3
  clear hb3
  clear ht3
  go_wp2_with fail
  refine (calls_str (str_eq (by simp)) (E.out _)).mono ?_
  rintro e w4 ⟨v4, rfl, ht4, hb4⟩
  have HB4 := Lib.hid hb4
  clear hb4
  clear ht4
  go_wp2_with fail
  go_ret
  exact ⟨rfl, (below_up HB1.out (below_up HB2.out (below_up HB3.out HB4.out (HB3.out).size) (HB2.out).size) (HB1.out).size)⟩
set_option maxRecDepth 100000 in
set_option maxHeartbeats 8000000 in
theorem parts_ok (one two : Txt) (h1 : one.length ≤ 1500) (h2 : two.length ≤ 1500) (h0 : (lx one 0).2.1 = 0) (h3 : (lx two 0).2.1 = 0) (w : World) : Calls Tryd.prog 6 #[str one, str two] w (fun e w' => e = .returned (.bool true) ∧ Below w.heap.size w w') := by
  have hs1 := sz one
  have hs2 := sz two
  have d : ¬ (1500 : Int) < (one.length : Int) := by omega
  have d2 : ¬ (1500 : Int) < (two.length : Int) := by omega
  have q1 : (9223372036854775807 < one.length + 1) = False := eq_false (by omega)
  have q2 : (9223372036854775807 < one.length + 1 + two.length) = False := eq_false (by omega)
  have hp := L7.parts_math one two h0
  have hs := L7.lx_shift two.length two 0 (one.length + 1) (Nat.le_refl _)
  rw [Nat.zero_add, h3, if_pos rfl] at hs
  rw [hs] at hp
  have C := Lib.hid (fun W => hlx one _ (by omega) (lexT_ok (by omega) h0) W)
  have D := Lib.hid (fun W => hlx two _ (by omega) (lexT_ok (by omega) h3) W)
  have E := Lib.hid (fun W => hlx (one ++ 10 :: two) _ (by simp; omega) (lexT_ok (by simp; omega) (by rw [hp])) W)
  rw [hp] at E
  have a1 := L7.lx_at one.length one 0 (Nat.le_refl _)
  have a2 := L7.lx_at two.length two 0 (Nat.le_refl _)
  have n1 := L7.lx_count one.length one 0 (Nat.le_refl _)
  have n2 := L7.lx_count two.length two 0 (Nat.le_refl _)
  obtain ⟨xs, hxs⟩ : ∃ ts, (lx one 0).1 = ts := ⟨_, rfl⟩
  obtain ⟨ys, hys⟩ : ∃ ts, (lx two 0).1 = ts := ⟨_, rfl⟩
  rw [hxs] at C E a1 n1
  rw [hys] at D E a2 n2
  have HL := Lib.hid (show (xs ++ ys.map (L7.sh (one.length + 1))).length = xs.length + ys.length by simp)
  have HX := Lib.hid (show (xs ++ ys.map (L7.sh (one.length + 1))).take xs.length = xs.map (L7.sh 0) by
    rw [List.take_left]
    exact (List.map_id'' (fun t => by cases t; simp [L7.sh]) _).symm)
  have HY := Lib.hid (show (xs ++ ys.map (L7.sh (one.length + 1))).drop xs.length = ys.map (L7.sh (one.length + 1)) by rw [List.drop_left])
  have Z1 := Lib.hid (show ∀ t ∈ xs.map (L7.sh 0), 0 ≤ t.at_ ∧ t.at_ ≤ 100000000 from fun t ht => by
    obtain ⟨u, hu, rfl⟩ := List.mem_map.1 ht
    have := a1 u hu
    show 0 ≤ u.at_ + ((0 : Nat) : Int) ∧ u.at_ + ((0 : Nat) : Int) ≤ 100000000
    simp at this ⊢
    omega)
  have Z2 := Lib.hid (show ∀ t ∈ ys.map (L7.sh (one.length + 1)), 0 ≤ t.at_ ∧ t.at_ ≤ 100000000 from fun t ht => by
    obtain ⟨u, hu, rfl⟩ := List.mem_map.1 ht
    have := a2 u hu
    show 0 ≤ u.at_ + ((one.length + 1 : Nat) : Int) ∧ u.at_ + ((one.length + 1 : Nat) : Int) ≤ 100000000
    simp at this ⊢
    omega)
  obtain ⟨zs, hzs⟩ : ∃ zs, xs ++ ys.map (L7.sh (one.length + 1)) = zs := ⟨_, rfl⟩
  rw [hzs] at E HL HX HY
  clear h0 h3 hp hs hxs hys hzs a1 a2
  go_enter Tryd.func6, Tryd.ntmps6
  go_wp2_with fail
  refine (head_any _).mono ?_
  rintro e w1 ⟨rfl, hb1⟩
  have HB1 := Lib.hid hb1
  clear hb1
  go_wp2_with fail
  refine (C.out _).mono ?_
  rintro e w2 ⟨v2, rfl, ht2, hb2⟩
  have HB2 := Lib.hid hb2
  clear hb2
  have HT2 := Lib.hid ht2
  clear ht2
  go_wp2_with fail
  refine (D.out _).mono ?_
  rintro e w3 ⟨v3, rfl, ht3, hb3⟩
  have HB3 := Lib.hid hb3
  clear hb3
  have HT3 := Lib.hid ht3
  clear ht3
  go_wp2_with fail
  refine (calls_str (str_eq (by simp)) (E.out _)).mono ?_
  rintro e w4 ⟨v4, rfl, ht4, hb4⟩
  have HB4 := Lib.hid hb4
  clear hb4
  have HT4 := Lib.hid ht4
  clear ht4
  obtain ⟨A2, c2, rfl, hc2⟩ := Slc.form HT2.out
  obtain ⟨A3, c3, rfl, hc3⟩ := Slc.form HT3.out
  obtain ⟨A4, c4, rfl, hc4⟩ := Slc.form HT4.out
  rw [HL.out] at HT4 hc4 ⊢
  have i1 : ((xs.length + ys.length : Nat) : Int) = (xs.length : Int) + (ys.length : Int) := by omega
  have i2 : IntKind.i64.wrap ((xs.length : Int) + (ys.length : Int)) = (xs.length : Int) + (ys.length : Int) := IntWalk.i64_in _ (by omega)
  have i3 : IntKind.i64.wrap ((one.length : Int) + 1) = ((one.length + 1 : Nat) : Int) := by rw [IntWalk.i64_in _ (by omega)]; omega
  obtain ⟨V1, r1, t1⟩ := slice_head A4 (xs.length + ys.length) c4 xs.length (by omega) hc4
  obtain ⟨V2, r2, t2⟩ := slice_tail A4 (xs.length + ys.length) c4 xs.length (by omega) hc4
  have S1 := Lib.hid (fun W (hb : Below w4.heap.size w4 W) => same_true (.slice A2 xs.length c2) V1 xs _ 0 (by omega) rfl Z1.out W (HT2.out.below (below_up HB3.out (below_up HB4.out hb HB4.out.size) HB3.out.size)) ((by have := t1 w4 _ HL.out HT4.out; rw [HX.out] at this; exact this : Toks w4 V1 _).below hb))
  have S2 := Lib.hid (fun W (hb : Below w4.heap.size w4 W) => same_true (.slice A3 ys.length c3) V2 ys _ (one.length + 1) (by omega) rfl Z2.out W (HT3.out.below (below_up HB4.out hb HB4.out.size)) ((by have := t2 w4 _ HL.out HT4.out; rw [HY.out] at this; exact this : Toks w4 V2 _).below hb))
  clear t1 t2
  go_wp2_with fail
  refine (S1.out _ (Below.refl _ _)).mono ?_
  rintro e w5 ⟨rfl, hb5⟩
  have HB5 := Lib.hid hb5
  clear hb5
  go_wp2_with fail
  refine (S2.out _ HB5.out).mono ?_
  rintro e w6 ⟨rfl, hb6⟩
  have HB6 := Lib.hid hb6
  clear hb6
  go_wp2_with fail
  go_ret
  exact ⟨rfl, (below_up HB1.out (below_up HB2.out (below_up HB3.out (below_up HB4.out (below_up HB5.out HB6.out (HB5.out).size) (HB4.out).size) (HB3.out).size) (HB2.out).size) (HB1.out).size)⟩
theorem parts_law (one two : Txt) (w : World) : Calls Tryd.prog 6 #[str one, str two] w (fun e w' => e = .returned (.bool true) ∧ Below w.heap.size w w') := by
  by_cases h : 1500 < one.length ∨ 1500 < two.length
  · exact parts_long one two h w
  · by_cases h0 : (lx one 0).2.1 = 0
    · by_cases h3 : (lx two 0).2.1 = 0
      · exact parts_ok one two (by omega) (by omega) h0 h3 w
      · exact parts_bad2 one two (by omega) (by omega) h0 h3 w
    · exact parts_bad1 one two (by omega) (by omega) h0 w
end Go.Proofs.YtblgfillaenemaaDoor
