/- ParserBeginnings, walked. -/
import Derived.Test.YtcgkaecaddpenaaGreatDoorPsSameGa
import Derived.Test.YtcgkaecaddpenaaGreatDoorPsHlp
namespace Go.Proofs.YtcgkaecaddpenaaGreatDoor
open Go.RowKit
open L7 (Tk lexT lx gap)
open L8
set_option linter.unusedSimpArgs false

theorem nat_of8 {n : Int} (h : (Lit.int .u8 n).wf = true) : ∃ a : Nat, n = (a : Int) ∧ a < 256 := by
  have h1 : 0 ≤ n ∧ n ≤ 255 := by simpa [Lit.wf, IntKind.min, IntKind.max, IntKind.signed, IntKind.bits] using h
  exact ⟨n.toNat, by omega, by omega⟩
theorem szIt (w : World) : (sizeOf (Tryz.prog.elem 27)).run Tryz.prog w = .ok 25 w := by kernel_rfl
theorem elIt : Tryz.prog.underlying 27 = some (.slice (Tryz.prog.elem 27)) := by kernel_rfl
/-- The beginning of a list of items in memory. -/
theorem slice_headI (A : Option Addr) (n cap k : Nat) (hk : k ≤ n) (hc : n ≤ cap) : ∃ V, (∀ W, (Instr.slice 27 (.slice A n cap) none (some (.int .i64 (k : Int))) none).run Tryz.prog W = .ok V W) ∧ ∀ D w (l : List It), l.length = n → Its D w (.slice A n cap) l → Its D w V (l.take k) := by
  refine ⟨sliced A 0 k cap 25, fun W => ?_, fun D w l hl h => ?_⟩
  · rw [run_slice_h _ _ _ _ _ elIt .i64 (k : Int) (by omega) (by omega), szIt]
    rfl
  · obtain ⟨A', cap', e, _, hn, f⟩ := h
    injection e with e1 e2 e3
    subst e1 e3
    have hlen : (l.take k).length = k := by rw [List.length_take]; omega
    refine ⟨if cap = 0 then A else A.map (·.add (0 * 25)), cap, by rw [hlen]; rfl, by rw [hlen]; omega, fun q => ?_, fun i hi => ?_⟩
    · by_cases h0 : cap = 0
      · exact h0
      · rw [if_neg h0] at q
        exact hn (by cases A with | none => rfl | some a => simp at q)
    · rw [hlen] at hi
      obtain ⟨b, off, h1, h2⟩ := f i (by omega)
      subst h1
      rw [if_neg (by omega)]
      exact ⟨b, off, by simp [add_none], by rw [List.getElem_take]; exact h2⟩
set_option maxRecDepth 100000 in
set_option maxHeartbeats 8000000 in
theorem beg_long (t : Txt) (r : Nat) (h : 8000 < t.length) (w : World) : Calls Tryz.prog 5 #[str t, .int .u8 (r : Int)] w (fun e w' => e = .returned (.bool true) ∧ Below w.heap.size w w') := by
  have hsz := sz t
  have d : (8000 : Int) < (t.length : Int) := by omega
  clear h
  go_enter Tryz.func5, Tryz.ntmps5
  go_wp2_with fail
  refine (head_any _).mono ?_
  rintro e w1 ⟨rfl, hb1⟩
  have HB1 := Lib.hid hb1
  clear hb1
  go_wp2_with fail
  go_ret
  exact ⟨rfl, HB1.out⟩
set_option maxRecDepth 100000 in
set_option maxHeartbeats 8000000 in
theorem beg_err (t : Txt) (r : Nat) (h : t.length ≤ 8000) {a : List It} {er x : Int} (hp : parseT t = (a, er, x)) (he : er ≠ 0) (w : World) : Calls Tryz.prog 5 #[str t, .int .u8 (r : Int)] w (fun e w' => e = .returned (.bool true) ∧ Below w.heap.size w w') := by
  have hsz := sz t
  have d : ¬ (8000 : Int) < (t.length : Int) := by omega
  obtain rfl := parse_nil hp he
  have C := Lib.hid (fun W => hps t _ (by omega) hp W)
  have d4 : (er != 0) = true := by simpa using he
  clear h he hp
  go_enter Tryz.func5, Tryz.ntmps5
  go_wp2_with fail
  refine (head_any _).mono ?_
  rintro e w1 ⟨rfl, hb1⟩
  have HB1 := Lib.hid hb1
  clear hb1
  go_wp2_with fail
  refine (C.out _).mono ?_
  rintro e w2 ⟨v2, rfl, hi2, hb2⟩
  have HB2 := Lib.hid hb2
  clear hb2
  obtain ⟨A2, c2, rfl, _⟩ := Slc.form hi2
  clear hi2
  go_wp2_with fail
  go_ret
  exact ⟨rfl, (below2 HB1.out HB2.out).trans ((below_box _ _).mono (below2 HB1.out HB2.out).size)⟩
set_option maxRecDepth 100000 in
set_option maxHeartbeats 8000000 in
theorem beg_none (t : Txt) (r : Nat) (h : t.length ≤ 8000) {x : Int} (hp : parseT t = ([], 0, x)) (w : World) : Calls Tryz.prog 5 #[str t, .int .u8 (r : Int)] w (fun e w' => e = .returned (.bool true) ∧ Below w.heap.size w w') := by
  have hsz := sz t
  have d : ¬ (8000 : Int) < (t.length : Int) := by omega
  have C := Lib.hid (fun W => hps t _ (by omega) hp W)
  clear h hp
  go_enter Tryz.func5, Tryz.ntmps5
  go_wp2_with fail
  refine (head_any _).mono ?_
  rintro e w1 ⟨rfl, hb1⟩
  have HB1 := Lib.hid hb1
  clear hb1
  go_wp2_with fail
  refine (C.out _).mono ?_
  rintro e w2 ⟨v2, rfl, hi2, hb2⟩
  have HB2 := Lib.hid hb2
  clear hb2
  obtain ⟨A2, c2, rfl, _⟩ := Slc.form hi2
  clear hi2
  go_wp2_with fail
  go_ret
  exact ⟨rfl, (below2 HB1.out HB2.out).trans ((below_box _ _).mono (below2 HB1.out HB2.out).size)⟩
set_option maxRecDepth 100000 in
set_option maxHeartbeats 8000000 in
theorem beg_some (t : Txt) (r : Nat) (h : t.length ≤ 8000) (hr : r < 256) {a : List It} {x : Int} (hp : parseT t = (a, 0, x)) (hne : 0 < a.length) (w : World) : Calls Tryz.prog 5 #[str t, .int .u8 (r : Int)] w (fun e w' => e = .returned (.bool true) ∧ Below w.heap.size w w') := by
  have hsz := sz t
  have d : ¬ (8000 : Int) < (t.length : Int) := by omega
  have C := Lib.hid (fun W => hps t _ (by omega) hp W)
  have hal := (show a.length ≤ 200 from by obtain ⟨l, _, _, q, _, q2, _⟩ := parse_ok hp; exact (items_app 200 l a [] q2 q).2.1)
  have ZS := Lib.hid (parse_size hp)
  obtain ⟨n, hn⟩ : ∃ n, a.length = n := ⟨_, rfl⟩
  have HN := Lib.hid hn
  rw [hn] at hal hne
  obtain ⟨j, hj⟩ : ∃ j, r % n = j := ⟨_, rfl⟩
  have hjn : j < n := by rw [← hj]; exact Nat.mod_lt _ hne
  have hja : j < a.length := by omega
  obtain ⟨k, hk, hat, hpk⟩ := beginnings_math hp j hja
  have C4 := Lib.hid (fun W => hps (t.take k) _ (by simp; omega) hpk W)
  have HAT := Lib.hid hat
  have hlen : (a.take j).length = j := by rw [List.length_take]; omega
  have HL := Lib.hid hlen
  have r1 : (r : Int) % (n : Int) = (j : Int) := by rw [← hj]; exact (Int.natCast_emod r n).symm
  have r2 : (r : Int).tmod (n : Int) = (j : Int) := by rw [Int.tmod_eq_emod_of_nonneg (by omega), r1]
  have r3 : IntKind.i64.wrap (r : Int) = (r : Int) := IntWalk.i64_in _ (by omega)
  have r4 : IntKind.i64.wrap (j : Int) = (j : Int) := IntWalk.i64_in _ (by omega)
  have m0 : (0 : Int) < (n : Int) := by omega
  have m1 : (0 : Int) ≤ (j : Int) := by omega
  have m2 : (j : Int) < (n : Int) := by omega
  have m3 : (0 : Int) ≤ (r : Int) := by omega
  have m4 : ((n : Int) == 0) = false := by rw [beq_eq_false_iff_ne]; omega
  have m5 : ¬ (k : Int) < 0 := by omega
  have m6 : ¬ (t.length : Int) < (k : Int) := by omega
  have m7 : (k : Int) ≤ (t.length : Int) := by omega
  have m8 : (0 : Int) ≤ (k : Int) := by omega
  have x1 : (⟨t.toArray⟩ : ByteArray).extract 0 k = ⟨(t.take k).toArray⟩ := by rw [ext_eq, List.drop_zero, Nat.sub_zero]
  clear h hp hn hj hpk hat hlen
  go_enter Tryz.func5, Tryz.ntmps5
  go_wp2_with fail
  refine (head_any _).mono ?_
  rintro e w1 ⟨rfl, hb1⟩
  have HB1 := Lib.hid hb1
  clear hb1
  go_wp2_with fail
  refine (C.out _).mono ?_
  rintro e w2 ⟨v2, rfl, hi2, hb2⟩
  have HB2 := Lib.hid hb2
  clear hb2
  have HI2 := Lib.hid hi2
  obtain ⟨b2, o2, c2, rfl, hc2, hg2⟩ := hi2.spot (by rw [HN.out]; exact hne)
  obtain ⟨z, hcell, _⟩ := hg2 j hja
  have ca : w2.cell? ⟨b2, o2 + j * 25 + 2, none⟩ = some (.int .i64 (k : Int)) := (hcell 2 (by omega)).trans (by rw [← HAT.out]; rfl)
  clear hi2 hg2 hcell
  rw [HN.out] at HI2 hc2 ⊢
  obtain ⟨V, rV, tV⟩ := slice_headI (some ⟨b2, o2, none⟩) n c2 j (by omega) hc2
  have TV := Lib.hid (tV _ w2 a HN.out HI2.out)
  clear tV
  have ca2 : (w2.alloc (.cells #[.slice (some ⟨b2, o2, none⟩) n c2] 29)).cell? ⟨b2, o2 + j * 25 + 2, none⟩ = some (.int .i64 (k : Int)) := cellB (below_box _ _) ca
  go_wp2_with fail
  have HW3 := Lib.hid (below_box w2 (.cells #[.slice (some ⟨b2, o2, none⟩) n c2] 29))
  have c0 : (w2.alloc (.cells #[.slice (some ⟨b2, o2, none⟩) n c2] 29)).cell? ⟨w2.heap.size, 0, none⟩ = some (.slice (some ⟨b2, o2, none⟩) n c2) := by simp [go_sem]
  refine (C4.out _).mono ?_
  rintro e w4 ⟨v4, rfl, hi4, hb4⟩
  have HB4 := Lib.hid hb4
  clear hb4
  have HI4 := Lib.hid hi4
  obtain ⟨A4, c4, rfl, hc4⟩ := Slc.form hi4
  clear hi4
  rw [HL.out] at HI4 hc4 ⊢
  have e0 := cellB HB4.out c0
  clear c0
  go_wp2_with fail
  obtain ⟨W, hW⟩ : ∃ W, w4.alloc (.cells #[.slice A4 j c4] 29) = W := ⟨_, rfl⟩
  have f0 : W.cell? ⟨w4.heap.size, 0, none⟩ = some (.slice A4 j c4) := by rw [← hW]; simp [go_sem]
  have f1 : W.cell? ⟨w2.heap.size, 0, none⟩ = some (.slice (some ⟨b2, o2, none⟩) n c2) := by rw [← hW]; exact cellB (below_box _ _) e0
  have HBW := Lib.hid (show Below w4.heap.size w4 W from hW ▸ below_box _ _)
  rw [hW]
  clear hW e0
  have HW2 := Lib.hid (show Below w2.heap.size w2 W from below_from (below2 HB4.out HBW.out))
  have SI := Lib.hid (fun W2 (hb : Below W.heap.size W W2) => items_same_a (a.take j) (a.take j) (.slice A4 j c4) V _ _ rfl (fun i h h2 => by unfold EqI; rfl) (fun i hi => ZS.out i (List.mem_of_mem_take hi)) (by rw [HL.out]; omega) W2 (HI4.out.below (below2 HBW.out hb)) (TV.out.below (below2 HW2.out hb)))
  go_region_held3 (fun w' => w'.cell? ⟨w4.heap.size, 0, none⟩ = some (.slice A4 j c4) ∧ w'.cell? ⟨w2.heap.size, 0, none⟩ = some (.slice (some ⟨b2, o2, none⟩) n c2)) (go_keep) ((go_at_call 12; refine (SI.out _ (below_drewN _ W 1)).mono ?_; rintro e w8 ⟨rfl, hb8⟩; have E8 := Lib.hid (show Below W.heap.size W w8 from (below_drewN _ W 1).trans hb8); have s0 := cellB E8.out f0; have s1 := cellB E8.out f1; clear hb8))
  all_goals
    go_wp2_with fail
    go_ret
    exact ⟨rfl, below2 (below2 (below2 HB1.out HB2.out) HW2.out) E8.out⟩
theorem beg_law (t : Txt) (r : Nat) (hr : r < 256) (w : World) : Calls Tryz.prog 5 #[str t, .int .u8 (r : Int)] w (fun e w' => e = .returned (.bool true) ∧ Below w.heap.size w w') := by
  by_cases h : 8000 < t.length
  · exact beg_long t r h w
  · obtain ⟨⟨a, er, x⟩, hp⟩ : ∃ y, parseT t = y := ⟨_, rfl⟩
    by_cases he : er = 0
    · subst he
      cases a with
      | nil => exact beg_none t r (by omega) hp w
      | cons i l => exact beg_some t r (by omega) hr hp (by simp) w
    · exact beg_err t r (by omega) hp he w
end Go.Proofs.YtcgkaecaddpenaaGreatDoor
