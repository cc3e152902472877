/- The contract of the laws' fixed examples. -/
import Derived.Test.YtendkghifcjffaaGreatDoorMOfF
import Derived.Test.YtendkghifcjffaaGreatDoorPMath
namespace Go.Proofs.YtendkghifcjffaaGreatDoor
open Go.RowKit

theorem of_law (n d : Int) (w : World) : Calls Tryz.prog 21 #[.int .i64 n, .int .i64 d] w fun e w' => e = .returned (rat (n, d)) ∧ Below w.heap.size w w' := by
  go_enter Tryz.func21, Tryz.ntmps21
  go_wp2_with fail
  go_returns
  exact ⟨rfl, by go_grown⟩
theorem text_law (t : List UInt8) (w : World) : Calls Tryz.prog 26 #[str t] w fun e w' => e = .returned (V 1 0 t) ∧ Below w.heap.size w w' := by
  go_enter Tryz.func26, Tryz.ntmps26
  go_wp2_with fail
  go_returns
  exact ⟨rfl, by go_grown⟩

/-- A literal's list. -/
theorem strs_lit (w : World) (l : List (List UInt8)) (T : TypeId) : Strs (w.alloc (.cells (l.map str).toArray T)) (.slice (some ⟨w.heap.size, 0, none⟩) l.length l.length) l :=
  ⟨_, _, rfl, Nat.le_refl _, (fun e => by cases e), fun i hi => ⟨_, 0, rfl, by
    have h : (w.alloc (.cells (l.map str).toArray T)).heap[w.heap.size]? = some (.cells (l.map str).toArray T) := heap_alloc_new w _
    unfold World.cell?
    rw [h]
    simp [hi]⟩⟩
/-! ### The examples. -/
theorem ex_lev1 : lev [107, 105, 116, 116, 101, 110] [115, 105, 116, 116, 105, 110, 103] = 3 := by rw [lev_col]; decide +kernel
theorem ex_lev2 : lev [] [97, 98, 99] = 3 := by rw [lev_col]; decide +kernel
theorem ex_lev3 : lev [] [] = 0 := by rw [lev_col]; decide +kernel
theorem ex_al1 : alikeT [107, 105, 116, 116, 101, 110] [115, 105, 116, 116, 105, 110, 103] = (4, 7) := by unfold alikeT; rw [ex_lev1]; decide +kernel
theorem ex_al2 : alikeT [] [] = (1, 1) := by unfold alikeT; rw [ex_lev3]; decide +kernel
theorem ex_jac : jacT [[97], [98]] [[98], [99], [100]] = (1, 4) := by decide +kernel
theorem ex_ja1 : jaroT [109, 97, 114, 116, 104, 97] [109, 97, 114, 104, 116, 97] = (17, 18) := by decide +kernel
theorem ex_ja2 : jaroT [100, 105, 120, 111, 110] [100, 105, 99, 107, 115, 111, 110, 120] = (23, 30) := by decide +kernel
theorem ex_of1 : ofT 3 0 1 0 [65, 110, 110, 32, 76, 101, 101] 1 0 [76, 69, 69, 44, 32, 65, 110, 110] = ((1, 1), 0) := by decide +kernel
theorem ex_of2 : ofT 2 0 1 0 [120] 2 0 [] = ((0, 0), 10) := by decide +kernel
theorem ex_ne1 : nearT 10 12 3 = (1, 2) := by decide +kernel
theorem ex_ne2 : nearT 10 14 3 = (0, 1) := by decide +kernel
/-- Jaccard of two literals. -/
theorem jaccard_lits (X Y : List (List UInt8)) (r : Int × Int) (hX : X.length ≤ 4000) (hY : Y.length ≤ 4000) (hx : ∀ x ∈ X, x.length ≤ 2000) (hy : ∀ x ∈ Y, x.length ≤ 2000) (hk : jacT X Y = r) (W : World) :
    Calls Tryz.prog 12 #[.slice (some ⟨W.heap.size, 0, none⟩) X.length X.length, .slice (some ⟨W.heap.size + 1, 0, none⟩) Y.length Y.length] ((W.alloc (.cells (X.map str).toArray 9)).alloc (.cells (Y.map str).toArray 9))
      fun e w' => e = .returned (rat r) ∧ Below W.heap.size W w' := by
  have h2 := strs_lit (W.alloc (.cells (X.map str).toArray 9)) Y 9
  rw [World.size_alloc] at h2
  refine (jaccard_any X Y _ _ _ hX hY hx hy ((strs_lit W X 9).below ((Below.refl _ _).alloc (Nat.le_refl _) _)) h2).mono ?_
  rintro e w1 ⟨rfl, hb⟩
  exact ⟨by rw [hk], below_next ((Below.refl _ _).alloc (Nat.le_refl _) _) (by simp) hb⟩

set_option maxRecDepth 100000 in
set_option maxHeartbeats 4000000 in
theorem head_any (w : World) : Calls Tryz.prog 5 #[] w fun e w' => e = .returned (.bool true) ∧ Below w.heap.size w w' := by
  go_enter Tryz.func5, Tryz.ntmps5
  go_wp2_with fail
  refine (edit_any [107, 105, 116, 116, 101, 110] [115, 105, 116, 116, 105, 110, 103] (by decide) (by decide) _).mono ?_
  rw [ex_lev1]
  rintro e1 w1 ⟨rfl, hb⟩
  have HB1 := Lib.hid hb
  clear hb
  go_wp2_with fail
  refine (alike_any [107, 105, 116, 116, 101, 110] [115, 105, 116, 116, 105, 110, 103] (by decide) (by decide) _).mono ?_
  rw [ex_al1]
  rintro e2 w2 ⟨rfl, hb⟩
  have HB2 := Lib.hid (below_up HB1.out hb HB1.out.size)
  clear hb
  go_wp2_with fail
  refine (of_law 4 7 _).mono ?_
  rintro e3 w3 ⟨rfl, hb⟩
  have HB3 := Lib.hid (below_up HB2.out hb HB2.out.size)
  clear hb
  go_wp2_with fail
  refine (edit_any [] [97, 98, 99] (by decide) (by decide) _).mono ?_
  rw [ex_lev2]
  rintro e4 w4 ⟨rfl, hb⟩
  have HB4 := Lib.hid (below_up HB3.out hb HB3.out.size)
  clear hb
  go_wp2_with fail
  refine (alike_any [] [] (by decide) (by decide) _).mono ?_
  rw [ex_al2]
  rintro e5 w5 ⟨rfl, hb⟩
  have HB5 := Lib.hid (below_up HB4.out hb HB4.out.size)
  clear hb
  go_wp2_with fail
  refine (of_law 1 1 _).mono ?_
  rintro e6 w6 ⟨rfl, hb⟩
  have HB6 := Lib.hid (below_up HB5.out hb HB5.out.size)
  clear hb
  go_wp2_with fail
  refine (jaccard_lits [[97], [98]] [[98], [99], [100]] (1, 4) (by decide) (by decide) (by decide) (by decide) ex_jac w6).mono ?_
  rintro e7 w7 ⟨rfl, hb⟩
  have HB7 := Lib.hid (below_up HB6.out hb HB6.out.size)
  clear hb
  go_wp2_with fail
  refine (of_law 1 4 _).mono ?_
  rintro e8 w8 ⟨rfl, hb⟩
  have HB8 := Lib.hid (below_up HB7.out hb HB7.out.size)
  clear hb
  go_wp2_with fail
  refine (jaro_any [109, 97, 114, 116, 104, 97] [109, 97, 114, 104, 116, 97] _).mono ?_
  rw [ex_ja1]
  rintro e9 w9 ⟨rfl, hb⟩
  have HB9 := Lib.hid (below_up HB8.out hb HB8.out.size)
  clear hb
  go_wp2_with fail
  refine (of_law 17 18 _).mono ?_
  rintro e10 w10 ⟨rfl, hb⟩
  have HB10 := Lib.hid (below_up HB9.out hb HB9.out.size)
  clear hb
  go_wp2_with fail
  refine (jaro_any [100, 105, 120, 111, 110] [100, 105, 99, 107, 115, 111, 110, 120] _).mono ?_
  rw [ex_ja2]
  rintro e11 w11 ⟨rfl, hb⟩
  have HB11 := Lib.hid (below_up HB10.out hb HB10.out.size)
  clear hb
  go_wp2_with fail
  refine (of_law 23 30 _).mono ?_
  rintro e12 w12 ⟨rfl, hb⟩
  have HB12 := Lib.hid (below_up HB11.out hb HB11.out.size)
  clear hb
  go_wp2_with fail
  refine (text_law [65, 110, 110, 32, 76, 101, 101] _).mono ?_
  rintro e13 w13 ⟨rfl, hb⟩
  have HB13 := Lib.hid (below_up HB12.out hb HB12.out.size)
  clear hb
  go_wp2_with fail
  refine (text_law [76, 69, 69, 44, 32, 65, 110, 110] _).mono ?_
  rintro e14 w14 ⟨rfl, hb⟩
  have HB14 := Lib.hid (below_up HB13.out hb HB13.out.size)
  clear hb
  go_wp2_with fail
  refine (of_any 3 0 1 0 [65, 110, 110, 32, 76, 101, 101] 1 0 [76, 69, 69, 44, 32, 65, 110, 110] (by decide) _).mono ?_
  rw [ex_of1]
  rintro e15 w15 ⟨rfl, hb⟩
  have HB15 := Lib.hid (below_up HB14.out hb HB14.out.size)
  clear hb
  have A : Own2 (w15.alloc (Obj.cells #[.int .i64 1, .int .i64 1] 32)) w15.heap.size 1 1 := own2_new w15 1 1 _
  have HA := Lib.hid A
  clear A
  go_wp2_with fail
  refine (text_law [120] _).mono ?_
  rintro e16 w16 ⟨rfl, hb⟩
  have HA := Lib.hid (HA.out.below hb)
  have HB16 := Lib.hid (below_up (HB15.out.alloc HB15.out.size _) hb (by have := HB15.out.size; simp <;> omega))
  clear hb
  go_wp2_with fail
  refine (of_any 2 0 1 0 [120] 2 0 [] (by decide) _).mono ?_
  rw [ex_of2]
  rintro e17 w17 ⟨rfl, hb⟩
  have HA := Lib.hid (HA.out.below hb)
  have HB17 := Lib.hid (below_up HB16.out hb HB16.out.size)
  clear hb
  go_wp2_with fail
  obtain ⟨W, hW⟩ : ∃ W, W = w17.alloc (Obj.cells #[Value.int IntKind.i64 0, Value.int IntKind.i64 0] 32) := ⟨_, rfl⟩
  rw [← hW]
  have R := HA.out.alloc (Obj.cells #[Value.int IntKind.i64 0, Value.int IntKind.i64 0] 32)
  rw [← hW] at R
  have HB : Hid (Below w.heap.size w (W.drewN 1)) := Lib.hid (by rw [hW]; exact dN (HB17.out.alloc HB17.out.size _) 1)
  obtain ⟨bl, hbl⟩ : ∃ bl, w15.heap.size = bl := ⟨_, rfl⟩
  rw [hbl] at R ⊢
  clear hW hbl HA
  have a0 := R.c0
  have a1 := R.c1
  have A0 : (W.drewN 1).cell? ⟨bl, 0, none⟩ = some (.int .i64 1) := a0
  have A1 : (W.drewN 1).cell? ⟨bl, 1, none⟩ = some (.int .i64 1) := a1
  have n1 := ex_ne1
  have n2 := ex_ne2
  have C1 := Lib.hid (fun W' => near_any 10 12 3 (by decide) (by decide) (by decide) (by decide) W')
  have C2 := Lib.hid (fun W' => near_any 10 14 3 (by decide) (by decide) (by decide) (by decide) W')
  rw [n1] at C1
  rw [n2] at C2
  clear n1 n2 R
  have tok1 : True := trivial
  have tok2 : True := trivial
  go_region_held3 (fun w' => w'.cell? ⟨bl, 0, none⟩ = some (.int .i64 1) ∧ w'.cell? ⟨bl, 1, none⟩ = some (.int .i64 1)) (go_keep)
    (first | (go_at_call 21; refine (of_law _ _ _).mono ?_; rintro e v ⟨rfl, hv⟩; replace A0 := cellB hv A0; replace A1 := cellB hv A1; replace HB := Lib.hid (below_up HB.out hv HB.out.size); clear hv) | (go_at_call 18; have _t := tok1; clear _t; refine (C1.out _).mono ?_; clear tok1; rintro e v ⟨rfl, hv⟩; replace A0 := cellB hv A0; replace A1 := cellB hv A1; replace HB := Lib.hid (below_up HB.out hv HB.out.size); clear hv) | (go_at_call 18; have _t := tok2; clear _t; refine (C2.out _).mono ?_; clear tok2; rintro e v ⟨rfl, hv⟩; replace A0 := cellB hv A0; replace A1 := cellB hv A1; replace HB := Lib.hid (below_up HB.out hv HB.out.size); clear hv))
  go_wp2_with fail
  go_ret
  exact ⟨rfl, HB.out⟩
end Go.Proofs.YtendkghifcjffaaGreatDoor
