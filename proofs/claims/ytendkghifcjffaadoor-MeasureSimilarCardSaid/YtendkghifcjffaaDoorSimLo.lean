/- MeasureSimilar's walk, a tolerance that is none. -/
import Derived.Test.YtendkghifcjffaaDoorSmall
namespace Go.Proofs.YtendkghifcjffaaDoor
open Go.RowKit

set_option maxRecDepth 100000 in
set_option maxHeartbeats 8000000 in
theorem sim_lo_s (a b c : List UInt8) (LA MA : Option Addr) (cap cap2 : Nat) (L M : List (List UInt8)) (x y t : Int) (r1 r2 r3 r4 r5 o : Int × Int)
    (HH : Hid ((shortB 300 [a, b, c] && fewB [L, M]) = true)) (la : a.length ≤ 300)
    (U1 : Hid (UnitR r1)) (U2 : Hid (UnitR r2)) (U3 : Hid (UnitR r3)) (U4 : Hid (UnitR r4))
    (CA : Hid (∀ W, Calls Tryd.prog 13 #[str a, str b] W fun e w' => e = .returned (rat r1) ∧ Below W.heap.size W w'))
    (CA2 : Hid (∀ W, Calls Tryd.prog 13 #[str b, str a] W fun e w' => e = .returned (rat r1) ∧ Below W.heap.size W w'))
    (CA3 : Hid (∀ W, Calls Tryd.prog 13 #[str a, str a] W fun e w' => e = .returned (rat o) ∧ Below W.heap.size W w'))
    (CJ : Hid (∀ W, Strs W (.slice LA L.length cap) L → Strs W (.slice MA M.length cap2) M → Calls Tryd.prog 14 #[.slice LA L.length cap, .slice MA M.length cap2] W fun e w' => e = .returned (rat r2) ∧ Below W.heap.size W w'))
    (CJ2 : Hid (∀ W, Strs W (.slice LA L.length cap) L → Strs W (.slice MA M.length cap2) M → Calls Tryd.prog 14 #[.slice MA M.length cap2, .slice LA L.length cap] W fun e w' => e = .returned (rat r2) ∧ Below W.heap.size W w'))
    (CJ3 : Hid (∀ W, Strs W (.slice LA L.length cap) L → Calls Tryd.prog 14 #[.slice LA L.length cap, .slice LA L.length cap] W fun e w' => e = .returned (rat o) ∧ Below W.heap.size W w'))
    (CR : Hid (∀ W, Calls Tryd.prog 15 #[str a, str b] W fun e w' => e = .returned (rat r3) ∧ Below W.heap.size W w'))
    (CR2 : Hid (∀ W, Calls Tryd.prog 15 #[str b, str a] W fun e w' => e = .returned (rat r3) ∧ Below W.heap.size W w'))
    (CN : Hid (∀ W, Calls Tryd.prog 16 #[.int .i64 x, .int .i64 y, .int .i64 t] W fun e w' => e = .returned (rat r4) ∧ Below W.heap.size W w'))
    (CN2 : Hid (∀ W, Calls Tryd.prog 16 #[.int .i64 y, .int .i64 x, .int .i64 t] W fun e w' => e = .returned (rat r4) ∧ Below W.heap.size W w'))
    (CN3 : Hid (∀ W, Calls Tryd.prog 16 #[.int .i64 x, .int .i64 x, .int .i64 t] W fun e w' => e = .returned (rat r5) ∧ Below W.heap.size W w'))
    (CO : Hid (∀ W, Calls Tryd.prog 18 #[.int .i64 1, .int .i64 1] W fun e w' => e = .returned (rat o) ∧ Below W.heap.size W w'))
    (hq : decide (r5 = o) = false) (ht : t < 0) (ha : a.length ≤ 200) (CR3 : Hid (∀ W, Calls Tryd.prog 15 #[str a, str a] W fun e w' => e = .returned (rat o) ∧ Below W.heap.size W w'))
    (w : World) (hu : Strs w (.slice LA L.length cap) L) (hv : Strs w (.slice MA M.length cap2) M) :
    Calls Tryd.prog 5 #[.agg #[str a, str b, str c, .slice LA L.length cap, .slice MA M.length cap2, .int .i64 x, .int .i64 y, .int .i64 t]] w fun e w' => e = .returned (.bool true) ∧ Below w.heap.size w w' := by
  have HU := Lib.hid hu
  have HV := Lib.hid hv
  clear hu hv
  have ns := fun r (W : World) => neq_same r W
  have es := fun r (W : World) => eql_same r W
  have hl : decide ((200 : Int) < (a.length : Int)) = false := by simp; omega
  have e5 : ∀ W : World, (binOp .eql 33 (rat r5) (rat o)).run Tryd.prog W = .ok (.bool false) W := fun W => by rw [seql_rat, hq]
  clear hq
  obtain ⟨k0, k1, k2, k3, k4, k5, k6, k7⟩ := cell_box8 w (str a) (str b) (str c) (.slice LA L.length cap) (.slice MA M.length cap2) (.int .i64 x) (.int .i64 y) (.int .i64 t) 30
  go_enter Tryd.func5, Tryd.ntmps5
  go_wp2_with fail
  refine (head_any _).mono ?_
  rintro e1 w1 ⟨rfl, hv⟩
  have HB := Lib.hid (below_box w (Obj.cells #[str a, str b, str c, .slice LA L.length cap, .slice MA M.length cap2, .int .i64 x, .int .i64 y, .int .i64 t] 30))
  replace HU := Lib.hid (HU.out.below HB.out)
  replace HV := Lib.hid (HV.out.below HB.out)
  obtain ⟨wx, hwx⟩ : ∃ wx, w.alloc (Obj.cells #[str a, str b, str c, .slice LA L.length cap, .slice MA M.length cap2, .int .i64 x, .int .i64 y, .int .i64 t] 30) = wx := ⟨_, rfl⟩
  rw [hwx] at hv HB HU HV k0 k1 k2 k3 k4 k5 k6 k7
  clear hwx
  replace k2 := cellB hv k2
  replace k0 := cellB hv k0
  replace k1 := cellB hv k1
  replace k3 := cellB hv k3
  replace k4 := cellB hv k4
  replace k5 := cellB hv k5
  replace k6 := cellB hv k6
  replace k7 := cellB hv k7
  replace HU := Lib.hid (HU.out.below hv)
  replace HV := Lib.hid (HV.out.below hv)
  replace HB := Lib.hid (below_up HB.out hv HB.out.size)
  clear hv
  go_wp2_with fail
  refine (small_any a b c _ _ L M x y t w1 HU.out HV.out).mono ?_
  rw [HH.out]
  rintro e2 w2 ⟨rfl, hv⟩
  clear k2
  replace k0 := cellB hv k0
  replace k1 := cellB hv k1
  replace k3 := cellB hv k3
  replace k4 := cellB hv k4
  replace k5 := cellB hv k5
  replace k6 := cellB hv k6
  replace k7 := cellB hv k7
  replace HU := Lib.hid (HU.out.below hv)
  replace HV := Lib.hid (HV.out.below hv)
  replace HB := Lib.hid (below_up HB.out hv HB.out.size)
  clear hv
  obtain ⟨bx, hbx⟩ : ∃ bx, w.heap.size = bx := ⟨_, rfl⟩
  have HE : Hid (w.heap.size = bx) := Lib.hid hbx
  have HBX : Hid (∀ W, Below bx w W → bx ≤ W.heap.size) := Lib.hid (fun W h => hbx ▸ h.size)
  rw [hbx] at k0 k1 k3 k4 k5 k6 k7 HB ⊢
  clear hbx
  go_wp2_with fail
  refine (CA.out _).mono ?_
  rintro e3 v1 ⟨rfl, hv⟩
  replace k0 := cellB hv k0
  replace k1 := cellB hv k1
  replace k3 := cellB hv k3
  replace k4 := cellB hv k4
  replace k5 := cellB hv k5
  replace k6 := cellB hv k6
  replace k7 := cellB hv k7
  replace HU := Lib.hid (HU.out.below hv)
  replace HV := Lib.hid (HV.out.below hv)
  replace HB := Lib.hid (below_up HB.out hv (HBX.out _ HB.out))
  clear hv
  have hv := below_box v1 (Obj.cells #[Value.int IntKind.i64 r1.1, Value.int IntKind.i64 r1.2] 33)
  replace k0 := cellB hv k0
  replace k1 := cellB hv k1
  replace k3 := cellB hv k3
  replace k4 := cellB hv k4
  replace k5 := cellB hv k5
  replace k6 := cellB hv k6
  replace k7 := cellB hv k7
  replace HU := Lib.hid (HU.out.below hv)
  replace HV := Lib.hid (HV.out.below hv)
  replace HB := Lib.hid (below_up HB.out hv (HBX.out _ HB.out))
  clear hv
  have A0 := (own2_new v1 r1.1 r1.2 33).c0
  have A1 := (own2_new v1 r1.1 r1.2 33).c1
  go_wp2_with fail
  refine (CJ.out _ HU.out HV.out).mono ?_
  rintro e4 v2 ⟨rfl, hv⟩
  replace k0 := cellB hv k0
  replace k1 := cellB hv k1
  replace k3 := cellB hv k3
  replace k4 := cellB hv k4
  replace k5 := cellB hv k5
  replace k6 := cellB hv k6
  replace k7 := cellB hv k7
  replace A0 := cellB hv A0
  replace A1 := cellB hv A1
  replace HU := Lib.hid (HU.out.below hv)
  replace HV := Lib.hid (HV.out.below hv)
  replace HB := Lib.hid (below_up HB.out hv (HBX.out _ HB.out))
  clear hv
  obtain ⟨b1, hbl⟩ : ∃ bl, v1.heap.size = bl := ⟨_, rfl⟩
  rw [hbl] at A0 A1 ⊢
  clear hbl
  have hv := below_box v2 (Obj.cells #[Value.int IntKind.i64 r2.1, Value.int IntKind.i64 r2.2] 33)
  replace k0 := cellB hv k0
  replace k1 := cellB hv k1
  replace k3 := cellB hv k3
  replace k4 := cellB hv k4
  replace k5 := cellB hv k5
  replace k6 := cellB hv k6
  replace k7 := cellB hv k7
  replace A0 := cellB hv A0
  replace A1 := cellB hv A1
  replace HU := Lib.hid (HU.out.below hv)
  replace HV := Lib.hid (HV.out.below hv)
  replace HB := Lib.hid (below_up HB.out hv (HBX.out _ HB.out))
  clear hv
  have B0 := (own2_new v2 r2.1 r2.2 33).c0
  have B1 := (own2_new v2 r2.1 r2.2 33).c1
  go_wp2_with fail
  refine (CR.out _).mono ?_
  rintro e5 v3 ⟨rfl, hv⟩
  replace k0 := cellB hv k0
  replace k1 := cellB hv k1
  replace k3 := cellB hv k3
  replace k4 := cellB hv k4
  replace k5 := cellB hv k5
  replace k6 := cellB hv k6
  replace k7 := cellB hv k7
  replace A0 := cellB hv A0
  replace A1 := cellB hv A1
  replace B0 := cellB hv B0
  replace B1 := cellB hv B1
  replace HU := Lib.hid (HU.out.below hv)
  replace HV := Lib.hid (HV.out.below hv)
  replace HB := Lib.hid (below_up HB.out hv (HBX.out _ HB.out))
  clear hv
  obtain ⟨b2, hbl⟩ : ∃ bl, v2.heap.size = bl := ⟨_, rfl⟩
  rw [hbl] at B0 B1 ⊢
  clear hbl
  have hv := below_box v3 (Obj.cells #[Value.int IntKind.i64 r3.1, Value.int IntKind.i64 r3.2] 33)
  replace k0 := cellB hv k0
  replace k1 := cellB hv k1
  replace k3 := cellB hv k3
  replace k4 := cellB hv k4
  replace k5 := cellB hv k5
  replace k6 := cellB hv k6
  replace k7 := cellB hv k7
  replace A0 := cellB hv A0
  replace A1 := cellB hv A1
  replace B0 := cellB hv B0
  replace B1 := cellB hv B1
  replace HU := Lib.hid (HU.out.below hv)
  replace HV := Lib.hid (HV.out.below hv)
  replace HB := Lib.hid (below_up HB.out hv (HBX.out _ HB.out))
  clear hv
  have C0 := (own2_new v3 r3.1 r3.2 33).c0
  have C1 := (own2_new v3 r3.1 r3.2 33).c1
  go_wp2_with fail
  refine (CN.out _).mono ?_
  rintro e6 v4 ⟨rfl, hv⟩
  replace k0 := cellB hv k0
  replace k1 := cellB hv k1
  replace k3 := cellB hv k3
  replace k4 := cellB hv k4
  replace k5 := cellB hv k5
  replace k6 := cellB hv k6
  replace k7 := cellB hv k7
  replace A0 := cellB hv A0
  replace A1 := cellB hv A1
  replace B0 := cellB hv B0
  replace B1 := cellB hv B1
  replace C0 := cellB hv C0
  replace C1 := cellB hv C1
  replace HU := Lib.hid (HU.out.below hv)
  replace HV := Lib.hid (HV.out.below hv)
  replace HB := Lib.hid (below_up HB.out hv (HBX.out _ HB.out))
  clear hv
  obtain ⟨b3, hbl⟩ : ∃ bl, v3.heap.size = bl := ⟨_, rfl⟩
  rw [hbl] at C0 C1 ⊢
  clear hbl
  have hv := below_box v4 (Obj.cells #[Value.int IntKind.i64 r4.1, Value.int IntKind.i64 r4.2] 33)
  replace k0 := cellB hv k0
  replace k1 := cellB hv k1
  replace k3 := cellB hv k3
  replace k4 := cellB hv k4
  replace k5 := cellB hv k5
  replace k6 := cellB hv k6
  replace k7 := cellB hv k7
  replace A0 := cellB hv A0
  replace A1 := cellB hv A1
  replace B0 := cellB hv B0
  replace B1 := cellB hv B1
  replace C0 := cellB hv C0
  replace C1 := cellB hv C1
  replace HU := Lib.hid (HU.out.below hv)
  replace HV := Lib.hid (HV.out.below hv)
  replace HB := Lib.hid (below_up HB.out hv (HBX.out _ HB.out))
  clear hv
  have D0 := (own2_new v4 r4.1 r4.2 33).c0
  have D1 := (own2_new v4 r4.1 r4.2 33).c1
  go_wp2_with fail
  refine (unit_ok _ U1.out _).mono ?_
  rintro e vv ⟨rfl, hv⟩
  replace k0 := cellB hv k0
  replace k1 := cellB hv k1
  replace k3 := cellB hv k3
  replace k4 := cellB hv k4
  replace k5 := cellB hv k5
  replace k6 := cellB hv k6
  replace k7 := cellB hv k7
  replace A0 := cellB hv A0
  replace A1 := cellB hv A1
  replace B0 := cellB hv B0
  replace B1 := cellB hv B1
  replace C0 := cellB hv C0
  replace C1 := cellB hv C1
  replace D0 := cellB hv D0
  replace D1 := cellB hv D1
  replace HU := Lib.hid (HU.out.below hv)
  replace HV := Lib.hid (HV.out.below hv)
  replace HB := Lib.hid (below_up HB.out hv (HBX.out _ HB.out))
  clear hv
  obtain ⟨b4, hbl⟩ : ∃ bl, v4.heap.size = bl := ⟨_, rfl⟩
  rw [hbl] at D0 D1 ⊢
  clear hbl
  go_wp2_with fail
  refine (unit_ok _ U2.out _).mono ?_
  rintro e vv ⟨rfl, hv⟩
  replace k0 := cellB hv k0
  replace k1 := cellB hv k1
  replace k3 := cellB hv k3
  replace k4 := cellB hv k4
  replace k5 := cellB hv k5
  replace k6 := cellB hv k6
  replace k7 := cellB hv k7
  replace A0 := cellB hv A0
  replace A1 := cellB hv A1
  replace B0 := cellB hv B0
  replace B1 := cellB hv B1
  replace C0 := cellB hv C0
  replace C1 := cellB hv C1
  replace D0 := cellB hv D0
  replace D1 := cellB hv D1
  replace HU := Lib.hid (HU.out.below hv)
  replace HV := Lib.hid (HV.out.below hv)
  replace HB := Lib.hid (below_up HB.out hv (HBX.out _ HB.out))
  clear hv
  go_wp2_with fail
  refine (unit_ok _ U3.out _).mono ?_
  rintro e vv ⟨rfl, hv⟩
  replace k0 := cellB hv k0
  replace k1 := cellB hv k1
  replace k3 := cellB hv k3
  replace k4 := cellB hv k4
  replace k5 := cellB hv k5
  replace k6 := cellB hv k6
  replace k7 := cellB hv k7
  replace A0 := cellB hv A0
  replace A1 := cellB hv A1
  replace B0 := cellB hv B0
  replace B1 := cellB hv B1
  replace C0 := cellB hv C0
  replace C1 := cellB hv C1
  replace D0 := cellB hv D0
  replace D1 := cellB hv D1
  replace HU := Lib.hid (HU.out.below hv)
  replace HV := Lib.hid (HV.out.below hv)
  replace HB := Lib.hid (below_up HB.out hv (HBX.out _ HB.out))
  clear hv
  go_wp2_with fail
  refine (unit_ok _ U4.out _).mono ?_
  rintro e vv ⟨rfl, hv⟩
  replace k0 := cellB hv k0
  replace k1 := cellB hv k1
  replace k3 := cellB hv k3
  replace k4 := cellB hv k4
  replace k5 := cellB hv k5
  replace k6 := cellB hv k6
  replace k7 := cellB hv k7
  replace A0 := cellB hv A0
  replace A1 := cellB hv A1
  replace B0 := cellB hv B0
  replace B1 := cellB hv B1
  replace C0 := cellB hv C0
  replace C1 := cellB hv C1
  replace D0 := cellB hv D0
  replace D1 := cellB hv D1
  replace HU := Lib.hid (HU.out.below hv)
  replace HV := Lib.hid (HV.out.below hv)
  replace HB := Lib.hid (below_up HB.out hv (HBX.out _ HB.out))
  clear hv
  go_wp2_with fail
  have pk0 := k0
  have pk1 := k1
  have pk3 := k3
  have pk4 := k4
  have pk5 := k5
  have pk6 := k6
  have pk7 := k7
  have pA0 := A0
  have pA1 := A1
  have pB0 := B0
  have pB1 := B1
  have pC0 := C0
  have pC1 := C1
  have pD0 := D0
  have pD1 := D1
  have hv := below_drewN vv.heap.size vv 1
  replace k0 := cellB hv k0
  replace k1 := cellB hv k1
  replace k3 := cellB hv k3
  replace k4 := cellB hv k4
  replace k5 := cellB hv k5
  replace k6 := cellB hv k6
  replace k7 := cellB hv k7
  replace A0 := cellB hv A0
  replace A1 := cellB hv A1
  replace B0 := cellB hv B0
  replace B1 := cellB hv B1
  replace C0 := cellB hv C0
  replace C1 := cellB hv C1
  replace D0 := cellB hv D0
  replace D1 := cellB hv D1
  replace HU := Lib.hid (HU.out.below hv)
  replace HV := Lib.hid (HV.out.below hv)
  replace HB := Lib.hid (below_up HB.out hv (HBX.out _ HB.out))
  clear hv
  refine wp_region_held_drew (S := (fun w' => w'.cell? ⟨bx, 0, none⟩ = some (str a) ∧ w'.cell? ⟨bx, 1, none⟩ = some (str b) ∧ w'.cell? ⟨bx, 3, none⟩ = some (.slice LA L.length cap) ∧ w'.cell? ⟨bx, 4, none⟩ = some (.slice MA M.length cap2) ∧ w'.cell? ⟨bx, 5, none⟩ = some (.int .i64 x) ∧ w'.cell? ⟨bx, 6, none⟩ = some (.int .i64 y) ∧ w'.cell? ⟨bx, 7, none⟩ = some (.int .i64 t) ∧ w'.cell? ⟨b1, 0, none⟩ = some (.int .i64 r1.1) ∧ w'.cell? ⟨b1, 1, none⟩ = some (.int .i64 r1.2) ∧ w'.cell? ⟨b2, 0, none⟩ = some (.int .i64 r2.1) ∧ w'.cell? ⟨b2, 1, none⟩ = some (.int .i64 r2.2) ∧ w'.cell? ⟨b3, 0, none⟩ = some (.int .i64 r3.1) ∧ w'.cell? ⟨b3, 1, none⟩ = some (.int .i64 r3.2) ∧ w'.cell? ⟨b4, 0, none⟩ = some (.int .i64 r4.1) ∧ w'.cell? ⟨b4, 1, none⟩ = some (.int .i64 r4.2))) (by kernel_rfl) ?_ (fun hHeld => ?_)
  · try dsimp only
    go_keep
  refine wpAnyH_take (i := 0) (v := ?_) (by (simp only [List.getElem?_toArray, List.getElem?_cons_zero]; rfl)) (by kernel_rfl) (by kernel_rfl) (by kernel_rfl) (by intro _ _ _ h; exact h) (Or.inl ⟨by kernel_rfl, ?_⟩) hHeld ?_
  case refine_2 =>
    intro w hSw
    try dsimp only at hSw
    go_simp
    try with_reducible rfl
  try simp only [Act.put, List.setIfInBounds_toArray, List.set_cons_zero, List.set_cons_succ]
  refine wpAnyH_take (i := 2) (v := ?_) (by (simp only [List.getElem?_toArray, List.getElem?_cons_succ, List.getElem?_cons_zero]; rfl)) (by kernel_rfl) (by kernel_rfl) (by kernel_rfl) (by intro _ _ _ h; exact h) (Or.inl ⟨by kernel_rfl, ?_⟩) hHeld ?_
  case refine_2 =>
    intro w hSw
    try dsimp only at hSw
    go_simp
    try with_reducible rfl
  try simp only [Act.put, List.setIfInBounds_toArray, List.set_cons_zero, List.set_cons_succ]
  refine wpAnyH_take (i := 5) (v := ?_) (by (simp only [List.getElem?_toArray, List.getElem?_cons_succ, List.getElem?_cons_zero]; rfl)) (by kernel_rfl) (by kernel_rfl) (by kernel_rfl) (by intro _ _ _ h; exact h) (Or.inl ⟨by kernel_rfl, ?_⟩) hHeld ?_
  case refine_2 =>
    intro w hSw
    try dsimp only at hSw
    go_simp
    try with_reducible rfl
  try simp only [Act.put, List.setIfInBounds_toArray, List.set_cons_zero, List.set_cons_succ]
  refine wpAnyH_take (i := 1) (v := ?_) (by (simp only [List.getElem?_toArray, List.getElem?_cons_succ, List.getElem?_cons_zero]; rfl)) (by kernel_rfl) (by kernel_rfl) (by kernel_rfl) (by intro _ _ _ h; exact h) (Or.inl ⟨by kernel_rfl, ?_⟩) hHeld ?_
  case refine_2 =>
    intro w hSw
    try dsimp only at hSw
    go_simp
    try with_reducible rfl
  try simp only [Act.put, List.setIfInBounds_toArray, List.set_cons_zero, List.set_cons_succ]
  refine wpAnyH_take (i := 3) (v := ?_) (by (simp only [List.getElem?_toArray, List.getElem?_cons_succ, List.getElem?_cons_zero]; rfl)) (by kernel_rfl) (by kernel_rfl) (by kernel_rfl) (by intro _ _ _ h; exact h) (Or.inl ⟨by kernel_rfl, ?_⟩) hHeld ?_
  case refine_2 =>
    intro w hSw
    try dsimp only at hSw
    go_simp
    try with_reducible rfl
  try simp only [Act.put, List.setIfInBounds_toArray, List.set_cons_zero, List.set_cons_succ]
  refine wpAnyH_ready (rs := [4]) (by kernel_rfl) (by simp) ?_
  refine AllReadyH.cons (by (simp only [List.getElem?_toArray, List.getElem?_cons_succ, List.getElem?_cons_zero]; rfl)) (fun K hK => ?_) AllReadyH.nil
  go_simp
  refine (CA2.out _).mono ?_
  rintro e vv ⟨rfl, hv⟩
  replace k0 := cellB hv k0
  replace k1 := cellB hv k1
  replace k3 := cellB hv k3
  replace k4 := cellB hv k4
  replace k5 := cellB hv k5
  replace k6 := cellB hv k6
  replace k7 := cellB hv k7
  replace A0 := cellB hv A0
  replace A1 := cellB hv A1
  replace B0 := cellB hv B0
  replace B1 := cellB hv B1
  replace C0 := cellB hv C0
  replace C1 := cellB hv C1
  replace D0 := cellB hv D0
  replace D1 := cellB hv D1
  replace HU := Lib.hid (HU.out.below hv)
  replace HV := Lib.hid (HV.out.below hv)
  replace HB := Lib.hid (below_up HB.out hv (HBX.out _ HB.out))
  clear hv
  try go_wp2_with fail
  clear hHeld
  refine hK.out _ _ ?_ (fun hHeld => ?_)
  · try dsimp only
    go_keep
  clear hK K
  try simp only [Act.put, List.setIfInBounds_toArray, List.set_cons_zero, List.set_cons_succ]
  refine wpAnyH_take (i := 6) (v := ?_) (by (simp only [List.getElem?_toArray, List.getElem?_cons_succ, List.getElem?_cons_zero]; rfl)) (by kernel_rfl) (by kernel_rfl) (by kernel_rfl) (by intro _ _ _ h; exact h) (Or.inl ⟨by kernel_rfl, ?_⟩) hHeld ?_
  case refine_2 =>
    intro w hSw
    try dsimp only at hSw
    go_simp
    try with_reducible rfl
  try simp only [Act.put, List.setIfInBounds_toArray, List.set_cons_zero, List.set_cons_succ]
  refine wpAnyH_take (i := 7) (v := ?_) (by (simp only [List.getElem?_toArray, List.getElem?_cons_succ, List.getElem?_cons_zero]; rfl)) (by kernel_rfl) (by kernel_rfl) (by kernel_rfl) (by intro _ _ _ h; exact h) (Or.inl ⟨by kernel_rfl, ?_⟩) hHeld ?_
  case refine_2 =>
    intro w hSw
    try dsimp only at hSw
    go_simp
    try with_reducible rfl
  try simp only [Act.put, List.setIfInBounds_toArray, List.set_cons_zero, List.set_cons_succ]
  refine wpAnyH_take (i := 8) (v := ?_) (by (simp only [List.getElem?_toArray, List.getElem?_cons_succ, List.getElem?_cons_zero]; rfl)) (by kernel_rfl) (by kernel_rfl) (by kernel_rfl) (by intro _ _ _ h; exact h) (Or.inl ⟨by kernel_rfl, ?_⟩) hHeld ?_
  case refine_2 =>
    intro w hSw
    try dsimp only at hSw
    go_simp
    try with_reducible rfl
  try simp only [Act.put, List.setIfInBounds_toArray, List.set_cons_zero, List.set_cons_succ]
  refine wpAnyH_take (i := 10) (v := ?_) (by (simp only [List.getElem?_toArray, List.getElem?_cons_succ, List.getElem?_cons_zero]; rfl)) (by kernel_rfl) (by kernel_rfl) (by kernel_rfl) (by intro _ _ _ h; exact h) (Or.inl ⟨by kernel_rfl, ?_⟩) hHeld ?_
  case refine_2 =>
    intro w hSw
    try dsimp only at hSw
    go_simp
    try with_reducible rfl
  try simp only [Act.put, List.setIfInBounds_toArray, List.set_cons_zero, List.set_cons_succ]
  refine wpAnyH_take (i := 13) (v := ?_) (by (simp only [List.getElem?_toArray, List.getElem?_cons_succ, List.getElem?_cons_zero]; rfl)) (by kernel_rfl) (by kernel_rfl) (by kernel_rfl) (by intro _ _ _ h; exact h) (Or.inl ⟨by kernel_rfl, ?_⟩) hHeld ?_
  case refine_2 =>
    intro w hSw
    try dsimp only at hSw
    go_simp
    try with_reducible rfl
  try simp only [Act.put, List.setIfInBounds_toArray, List.set_cons_zero, List.set_cons_succ]
  refine wpAnyH_take (i := 9) (v := ?_) (by (simp only [List.getElem?_toArray, List.getElem?_cons_succ, List.getElem?_cons_zero]; rfl)) (by kernel_rfl) (by kernel_rfl) (by kernel_rfl) (by intro _ _ _ h; exact h) (Or.inl ⟨by kernel_rfl, ?_⟩) hHeld ?_
  case refine_2 =>
    intro w hSw
    try dsimp only at hSw
    go_simp
    try with_reducible rfl
  try simp only [Act.put, List.setIfInBounds_toArray, List.set_cons_zero, List.set_cons_succ]
  refine wpAnyH_take (i := 11) (v := ?_) (by (simp only [List.getElem?_toArray, List.getElem?_cons_succ, List.getElem?_cons_zero]; rfl)) (by kernel_rfl) (by kernel_rfl) (by kernel_rfl) (by intro _ _ _ h; exact h) (Or.inl ⟨by kernel_rfl, ?_⟩) hHeld ?_
  case refine_2 =>
    intro w hSw
    try dsimp only at hSw
    go_simp
    try with_reducible rfl
  try simp only [Act.put, List.setIfInBounds_toArray, List.set_cons_zero, List.set_cons_succ]
  refine wpAnyH_ready (rs := [12]) (by kernel_rfl) (by simp) ?_
  refine AllReadyH.cons (by (simp only [List.getElem?_toArray, List.getElem?_cons_succ, List.getElem?_cons_zero]; rfl)) (fun K hK => ?_) AllReadyH.nil
  go_simp
  refine (CJ2.out _ HU.out HV.out).mono ?_
  rintro e vv ⟨rfl, hv⟩
  replace k0 := cellB hv k0
  replace k1 := cellB hv k1
  replace k3 := cellB hv k3
  replace k4 := cellB hv k4
  replace k5 := cellB hv k5
  replace k6 := cellB hv k6
  replace k7 := cellB hv k7
  replace A0 := cellB hv A0
  replace A1 := cellB hv A1
  replace B0 := cellB hv B0
  replace B1 := cellB hv B1
  replace C0 := cellB hv C0
  replace C1 := cellB hv C1
  replace D0 := cellB hv D0
  replace D1 := cellB hv D1
  replace HU := Lib.hid (HU.out.below hv)
  replace HV := Lib.hid (HV.out.below hv)
  replace HB := Lib.hid (below_up HB.out hv (HBX.out _ HB.out))
  clear hv
  try go_wp2_with fail
  clear hHeld
  refine hK.out _ _ ?_ (fun hHeld => ?_)
  · try dsimp only
    go_keep
  clear hK K
  try simp only [Act.put, List.setIfInBounds_toArray, List.set_cons_zero, List.set_cons_succ]
  refine wpAnyH_take (i := 14) (v := ?_) (by (simp only [List.getElem?_toArray, List.getElem?_cons_succ, List.getElem?_cons_zero]; rfl)) (by kernel_rfl) (by kernel_rfl) (by kernel_rfl) (by intro _ _ _ h; exact h) (Or.inl ⟨by kernel_rfl, ?_⟩) hHeld ?_
  case refine_2 =>
    intro w hSw
    try dsimp only at hSw
    go_simp
    try with_reducible rfl
  try simp only [Act.put, List.setIfInBounds_toArray, List.set_cons_zero, List.set_cons_succ]
  refine wpAnyH_take (i := 15) (v := ?_) (by (simp only [List.getElem?_toArray, List.getElem?_cons_succ, List.getElem?_cons_zero]; rfl)) (by kernel_rfl) (by kernel_rfl) (by kernel_rfl) (by intro _ _ _ h; exact h) (Or.inl ⟨by kernel_rfl, ?_⟩) hHeld ?_
  case refine_2 =>
    intro w hSw
    try dsimp only at hSw
    go_simp
    try with_reducible rfl
  try simp only [Act.put, List.setIfInBounds_toArray, List.set_cons_zero, List.set_cons_succ]
  refine wpAnyH_take (i := 16) (v := ?_) (by (simp only [List.getElem?_toArray, List.getElem?_cons_succ, List.getElem?_cons_zero]; rfl)) (by kernel_rfl) (by kernel_rfl) (by kernel_rfl) (by intro _ _ _ h; exact h) (Or.inl ⟨by kernel_rfl, ?_⟩) hHeld ?_
  case refine_2 =>
    intro w hSw
    try dsimp only at hSw
    go_simp
    try with_reducible rfl
  try simp only [Act.put, List.setIfInBounds_toArray, List.set_cons_zero, List.set_cons_succ]
  refine wpAnyH_take (i := 17) (v := ?_) (by (simp only [List.getElem?_toArray, List.getElem?_cons_succ, List.getElem?_cons_zero]; rfl)) (by kernel_rfl) (by kernel_rfl) (by kernel_rfl) (by intro _ _ _ h; exact h) (Or.inl ⟨by kernel_rfl, ?_⟩) hHeld ?_
  case refine_2 =>
    intro w hSw
    try dsimp only at hSw
    go_simp
    try with_reducible rfl
  try simp only [Act.put, List.setIfInBounds_toArray, List.set_cons_zero, List.set_cons_succ]
  refine wpAnyH_take (i := 19) (v := ?_) (by (simp only [List.getElem?_toArray, List.getElem?_cons_succ, List.getElem?_cons_zero]; rfl)) (by kernel_rfl) (by kernel_rfl) (by kernel_rfl) (by intro _ _ _ h; exact h) (Or.inl ⟨by kernel_rfl, ?_⟩) hHeld ?_
  case refine_2 =>
    intro w hSw
    try dsimp only at hSw
    go_simp
    try with_reducible rfl
  try simp only [Act.put, List.setIfInBounds_toArray, List.set_cons_zero, List.set_cons_succ]
  refine wpAnyH_take (i := 22) (v := ?_) (by (simp only [List.getElem?_toArray, List.getElem?_cons_succ, List.getElem?_cons_zero]; rfl)) (by kernel_rfl) (by kernel_rfl) (by kernel_rfl) (by intro _ _ _ h; exact h) (Or.inl ⟨by kernel_rfl, ?_⟩) hHeld ?_
  case refine_2 =>
    intro w hSw
    try dsimp only at hSw
    go_simp
    try with_reducible rfl
  try simp only [Act.put, List.setIfInBounds_toArray, List.set_cons_zero, List.set_cons_succ]
  refine wpAnyH_take (i := 18) (v := ?_) (by (simp only [List.getElem?_toArray, List.getElem?_cons_succ, List.getElem?_cons_zero]; rfl)) (by kernel_rfl) (by kernel_rfl) (by kernel_rfl) (by intro _ _ _ h; exact h) (Or.inl ⟨by kernel_rfl, ?_⟩) hHeld ?_
  case refine_2 =>
    intro w hSw
    try dsimp only at hSw
    go_simp
    try with_reducible rfl
  try simp only [Act.put, List.setIfInBounds_toArray, List.set_cons_zero, List.set_cons_succ]
  refine wpAnyH_take (i := 20) (v := ?_) (by (simp only [List.getElem?_toArray, List.getElem?_cons_succ, List.getElem?_cons_zero]; rfl)) (by kernel_rfl) (by kernel_rfl) (by kernel_rfl) (by intro _ _ _ h; exact h) (Or.inl ⟨by kernel_rfl, ?_⟩) hHeld ?_
  case refine_2 =>
    intro w hSw
    try dsimp only at hSw
    go_simp
    try with_reducible rfl
  try simp only [Act.put, List.setIfInBounds_toArray, List.set_cons_zero, List.set_cons_succ]
  refine wpAnyH_ready (rs := [21]) (by kernel_rfl) (by simp) ?_
  refine AllReadyH.cons (by (simp only [List.getElem?_toArray, List.getElem?_cons_succ, List.getElem?_cons_zero]; rfl)) (fun K hK => ?_) AllReadyH.nil
  go_simp
  refine (CR2.out _).mono ?_
  rintro e vv ⟨rfl, hv⟩
  replace k0 := cellB hv k0
  replace k1 := cellB hv k1
  replace k3 := cellB hv k3
  replace k4 := cellB hv k4
  replace k5 := cellB hv k5
  replace k6 := cellB hv k6
  replace k7 := cellB hv k7
  replace A0 := cellB hv A0
  replace A1 := cellB hv A1
  replace B0 := cellB hv B0
  replace B1 := cellB hv B1
  replace C0 := cellB hv C0
  replace C1 := cellB hv C1
  replace D0 := cellB hv D0
  replace D1 := cellB hv D1
  replace HU := Lib.hid (HU.out.below hv)
  replace HV := Lib.hid (HV.out.below hv)
  replace HB := Lib.hid (below_up HB.out hv (HBX.out _ HB.out))
  clear hv
  try go_wp2_with fail
  clear hHeld
  refine hK.out _ _ ?_ (fun hHeld => ?_)
  · try dsimp only
    go_keep
  clear hK K
  try simp only [Act.put, List.setIfInBounds_toArray, List.set_cons_zero, List.set_cons_succ]
  refine wpAnyH_take (i := 23) (v := ?_) (by (simp only [List.getElem?_toArray, List.getElem?_cons_succ, List.getElem?_cons_zero]; rfl)) (by kernel_rfl) (by kernel_rfl) (by kernel_rfl) (by intro _ _ _ h; exact h) (Or.inl ⟨by kernel_rfl, ?_⟩) hHeld ?_
  case refine_2 =>
    intro w hSw
    try dsimp only at hSw
    go_simp
    try with_reducible rfl
  try simp only [Act.put, List.setIfInBounds_toArray, List.set_cons_zero, List.set_cons_succ]
  refine wpAnyH_take (i := 24) (v := ?_) (by (simp only [List.getElem?_toArray, List.getElem?_cons_succ, List.getElem?_cons_zero]; rfl)) (by kernel_rfl) (by kernel_rfl) (by kernel_rfl) (by intro _ _ _ h; exact h) (Or.inl ⟨by kernel_rfl, ?_⟩) hHeld ?_
  case refine_2 =>
    intro w hSw
    try dsimp only at hSw
    go_simp
    try with_reducible rfl
  try simp only [Act.put, List.setIfInBounds_toArray, List.set_cons_zero, List.set_cons_succ]
  refine wpAnyH_take (i := 25) (v := ?_) (by (simp only [List.getElem?_toArray, List.getElem?_cons_succ, List.getElem?_cons_zero]; rfl)) (by kernel_rfl) (by kernel_rfl) (by kernel_rfl) (by intro _ _ _ h; exact h) (Or.inl ⟨by kernel_rfl, ?_⟩) hHeld ?_
  case refine_2 =>
    intro w hSw
    try dsimp only at hSw
    go_simp
    try with_reducible rfl
  try simp only [Act.put, List.setIfInBounds_toArray, List.set_cons_zero, List.set_cons_succ]
  refine wpAnyH_take (i := 26) (v := ?_) (by (simp only [List.getElem?_toArray, List.getElem?_cons_succ, List.getElem?_cons_zero]; rfl)) (by kernel_rfl) (by kernel_rfl) (by kernel_rfl) (by intro _ _ _ h; exact h) (Or.inl ⟨by kernel_rfl, ?_⟩) hHeld ?_
  case refine_2 =>
    intro w hSw
    try dsimp only at hSw
    go_simp
    try with_reducible rfl
  try simp only [Act.put, List.setIfInBounds_toArray, List.set_cons_zero, List.set_cons_succ]
  refine wpAnyH_take (i := 28) (v := ?_) (by (simp only [List.getElem?_toArray, List.getElem?_cons_succ, List.getElem?_cons_zero]; rfl)) (by kernel_rfl) (by kernel_rfl) (by kernel_rfl) (by intro _ _ _ h; exact h) (Or.inl ⟨by kernel_rfl, ?_⟩) hHeld ?_
  case refine_2 =>
    intro w hSw
    try dsimp only at hSw
    go_simp
    try with_reducible rfl
  try simp only [Act.put, List.setIfInBounds_toArray, List.set_cons_zero, List.set_cons_succ]
  refine wpAnyH_take (i := 30) (v := ?_) (by (simp only [List.getElem?_toArray, List.getElem?_cons_succ, List.getElem?_cons_zero]; rfl)) (by kernel_rfl) (by kernel_rfl) (by kernel_rfl) (by intro _ _ _ h; exact h) (Or.inl ⟨by kernel_rfl, ?_⟩) hHeld ?_
  case refine_2 =>
    intro w hSw
    try dsimp only at hSw
    go_simp
    try with_reducible rfl
  try simp only [Act.put, List.setIfInBounds_toArray, List.set_cons_zero, List.set_cons_succ]
  refine wpAnyH_take (i := 33) (v := ?_) (by (simp only [List.getElem?_toArray, List.getElem?_cons_succ, List.getElem?_cons_zero]; rfl)) (by kernel_rfl) (by kernel_rfl) (by kernel_rfl) (by intro _ _ _ h; exact h) (Or.inl ⟨by kernel_rfl, ?_⟩) hHeld ?_
  case refine_2 =>
    intro w hSw
    try dsimp only at hSw
    go_simp
    try with_reducible rfl
  try simp only [Act.put, List.setIfInBounds_toArray, List.set_cons_zero, List.set_cons_succ]
  refine wpAnyH_take (i := 27) (v := ?_) (by (simp only [List.getElem?_toArray, List.getElem?_cons_succ, List.getElem?_cons_zero]; rfl)) (by kernel_rfl) (by kernel_rfl) (by kernel_rfl) (by intro _ _ _ h; exact h) (Or.inl ⟨by kernel_rfl, ?_⟩) hHeld ?_
  case refine_2 =>
    intro w hSw
    try dsimp only at hSw
    go_simp
    try with_reducible rfl
  try simp only [Act.put, List.setIfInBounds_toArray, List.set_cons_zero, List.set_cons_succ]
  refine wpAnyH_take (i := 29) (v := ?_) (by (simp only [List.getElem?_toArray, List.getElem?_cons_succ, List.getElem?_cons_zero]; rfl)) (by kernel_rfl) (by kernel_rfl) (by kernel_rfl) (by intro _ _ _ h; exact h) (Or.inl ⟨by kernel_rfl, ?_⟩) hHeld ?_
  case refine_2 =>
    intro w hSw
    try dsimp only at hSw
    go_simp
    try with_reducible rfl
  try simp only [Act.put, List.setIfInBounds_toArray, List.set_cons_zero, List.set_cons_succ]
  refine wpAnyH_take (i := 31) (v := ?_) (by (simp only [List.getElem?_toArray, List.getElem?_cons_succ, List.getElem?_cons_zero]; rfl)) (by kernel_rfl) (by kernel_rfl) (by kernel_rfl) (by intro _ _ _ h; exact h) (Or.inl ⟨by kernel_rfl, ?_⟩) hHeld ?_
  case refine_2 =>
    intro w hSw
    try dsimp only at hSw
    go_simp
    try with_reducible rfl
  try simp only [Act.put, List.setIfInBounds_toArray, List.set_cons_zero, List.set_cons_succ]
  refine wpAnyH_ready (rs := [32]) (by kernel_rfl) (by simp) ?_
  refine AllReadyH.cons (by (simp only [List.getElem?_toArray, List.getElem?_cons_succ, List.getElem?_cons_zero]; rfl)) (fun K hK => ?_) AllReadyH.nil
  go_simp
  refine (CN2.out _).mono ?_
  rintro e vv ⟨rfl, hv⟩
  replace k0 := cellB hv k0
  replace k1 := cellB hv k1
  replace k3 := cellB hv k3
  replace k4 := cellB hv k4
  replace k5 := cellB hv k5
  replace k6 := cellB hv k6
  replace k7 := cellB hv k7
  replace A0 := cellB hv A0
  replace A1 := cellB hv A1
  replace B0 := cellB hv B0
  replace B1 := cellB hv B1
  replace C0 := cellB hv C0
  replace C1 := cellB hv C1
  replace D0 := cellB hv D0
  replace D1 := cellB hv D1
  replace HU := Lib.hid (HU.out.below hv)
  replace HV := Lib.hid (HV.out.below hv)
  replace HB := Lib.hid (below_up HB.out hv (HBX.out _ HB.out))
  clear hv
  try go_wp2_with fail
  clear hHeld
  refine hK.out _ _ ?_ (fun hHeld => ?_)
  · try dsimp only
    go_keep
  clear hK K
  try simp only [Act.put, List.setIfInBounds_toArray, List.set_cons_zero, List.set_cons_succ]
  refine wpAnyH_take (i := 34) (v := ?_) (by (simp only [List.getElem?_toArray, List.getElem?_cons_succ, List.getElem?_cons_zero]; rfl)) (by kernel_rfl) (by kernel_rfl) (by kernel_rfl) (by intro _ _ _ h; exact h) (Or.inl ⟨by kernel_rfl, ?_⟩) hHeld ?_
  case refine_2 =>
    intro w hSw
    try dsimp only at hSw
    go_simp
    try with_reducible rfl
  try simp only [Act.put, List.setIfInBounds_toArray, List.set_cons_zero, List.set_cons_succ]
  refine wpAnyH_take (i := 35) (v := ?_) (by (simp only [List.getElem?_toArray, List.getElem?_cons_succ, List.getElem?_cons_zero]; rfl)) (by kernel_rfl) (by kernel_rfl) (by kernel_rfl) (by intro _ _ _ h; exact h) (Or.inl ⟨by kernel_rfl, ?_⟩) hHeld ?_
  case refine_2 =>
    intro w hSw
    try dsimp only at hSw
    go_simp
    try with_reducible rfl
  try simp only [Act.put, List.setIfInBounds_toArray, List.set_cons_zero, List.set_cons_succ]
  refine wpAnyH_done (by kernel_rfl) ?_ _
  clear ns A0 A1 B0 B1 C0 C1 D0 D1
  go_wp2_with fail
  refine (CO.out _).mono ?_
  rintro e v5 ⟨rfl, hv⟩
  replace k0 := cellB hv k0
  replace k1 := cellB hv k1
  replace k3 := cellB hv k3
  replace k4 := cellB hv k4
  replace k5 := cellB hv k5
  replace k6 := cellB hv k6
  replace k7 := cellB hv k7
  replace HU := Lib.hid (HU.out.below hv)
  replace HV := Lib.hid (HV.out.below hv)
  replace HB := Lib.hid (below_up HB.out hv (HBX.out _ HB.out))
  clear hv
  have hv := below_box v5 (Obj.cells #[Value.int IntKind.i64 o.1, Value.int IntKind.i64 o.2] 33)
  replace k0 := cellB hv k0
  replace k1 := cellB hv k1
  replace k3 := cellB hv k3
  replace k4 := cellB hv k4
  replace k5 := cellB hv k5
  replace k6 := cellB hv k6
  replace k7 := cellB hv k7
  replace HU := Lib.hid (HU.out.below hv)
  replace HV := Lib.hid (HV.out.below hv)
  replace HB := Lib.hid (below_up HB.out hv (HBX.out _ HB.out))
  clear hv
  have O0 := (own2_new v5 o.1 o.2 33).c0
  have O1 := (own2_new v5 o.1 o.2 33).c1
  go_wp2_with fail
  obtain ⟨W, hW⟩ : ∃ W, v5.alloc (Obj.cells #[Value.int IntKind.i64 o.1, Value.int IntKind.i64 o.2] 33) = W := ⟨_, rfl⟩
  rw [hW] at k0 k1 k3 k4 k5 k6 k7 O0 O1 HU HV HB ⊢
  clear hW
  obtain ⟨b5, hbl⟩ : ∃ bl, v5.heap.size = bl := ⟨_, rfl⟩
  rw [hbl] at O0 O1 ⊢
  clear hbl
  clear pk0 pk1 pk3 pk4 pk5 pk6 pk7 pA0 pA1 pB0 pB1 pC0 pC1 pD0 pD1
  have pk0 := k0
  have pk1 := k1
  have pk3 := k3
  have pk4 := k4
  have pk5 := k5
  have pk6 := k6
  have pk7 := k7
  have pO0 := O0
  have pO1 := O1
  have hv := below_drewN W.heap.size W 1
  replace k0 := cellB hv k0
  replace k1 := cellB hv k1
  replace k3 := cellB hv k3
  replace k4 := cellB hv k4
  replace k5 := cellB hv k5
  replace k6 := cellB hv k6
  replace k7 := cellB hv k7
  replace O0 := cellB hv O0
  replace O1 := cellB hv O1
  replace HU := Lib.hid (HU.out.below hv)
  replace HV := Lib.hid (HV.out.below hv)
  replace HB := Lib.hid (below_up HB.out hv (HBX.out _ HB.out))
  clear hv
  refine wp_region_held_drew (S := (fun w' => w'.cell? ⟨bx, 0, none⟩ = some (str a) ∧ w'.cell? ⟨bx, 1, none⟩ = some (str b) ∧ w'.cell? ⟨bx, 3, none⟩ = some (.slice LA L.length cap) ∧ w'.cell? ⟨bx, 4, none⟩ = some (.slice MA M.length cap2) ∧ w'.cell? ⟨bx, 5, none⟩ = some (.int .i64 x) ∧ w'.cell? ⟨bx, 6, none⟩ = some (.int .i64 y) ∧ w'.cell? ⟨bx, 7, none⟩ = some (.int .i64 t) ∧ w'.cell? ⟨b5, 0, none⟩ = some (.int .i64 o.1) ∧ w'.cell? ⟨b5, 1, none⟩ = some (.int .i64 o.2))) (by kernel_rfl) ?_ (fun hHeld => ?_)
  · try dsimp only
    go_keep
  refine wpAnyH_take (i := 0) (v := ?_) (by (simp only [List.getElem?_toArray, List.getElem?_cons_zero]; rfl)) (by kernel_rfl) (by kernel_rfl) (by kernel_rfl) (by intro _ _ _ h; exact h) (Or.inl ⟨by kernel_rfl, ?_⟩) hHeld ?_
  case refine_2 =>
    intro w hSw
    try dsimp only at hSw
    go_simp
    try with_reducible rfl
  try simp only [Act.put, List.setIfInBounds_toArray, List.set_cons_zero, List.set_cons_succ]
  refine wpAnyH_take (i := 1) (v := ?_) (by (simp only [List.getElem?_toArray, List.getElem?_cons_succ, List.getElem?_cons_zero]; rfl)) (by kernel_rfl) (by kernel_rfl) (by kernel_rfl) (by intro _ _ _ h; exact h) (Or.inl ⟨by kernel_rfl, ?_⟩) hHeld ?_
  case refine_2 =>
    intro w hSw
    try dsimp only at hSw
    go_simp
    try with_reducible rfl
  try simp only [Act.put, List.setIfInBounds_toArray, List.set_cons_zero, List.set_cons_succ]
  refine wpAnyH_take (i := 2) (v := ?_) (by (simp only [List.getElem?_toArray, List.getElem?_cons_succ, List.getElem?_cons_zero]; rfl)) (by kernel_rfl) (by kernel_rfl) (by kernel_rfl) (by intro _ _ _ h; exact h) (Or.inl ⟨by kernel_rfl, ?_⟩) hHeld ?_
  case refine_2 =>
    intro w hSw
    try dsimp only at hSw
    go_simp
    try with_reducible rfl
  try simp only [Act.put, List.setIfInBounds_toArray, List.set_cons_zero, List.set_cons_succ]
  refine wpAnyH_take (i := 4) (v := ?_) (by (simp only [List.getElem?_toArray, List.getElem?_cons_succ, List.getElem?_cons_zero]; rfl)) (by kernel_rfl) (by kernel_rfl) (by kernel_rfl) (by intro _ _ _ h; exact h) (Or.inl ⟨by kernel_rfl, ?_⟩) hHeld ?_
  case refine_2 =>
    intro w hSw
    try dsimp only at hSw
    go_simp
    try with_reducible rfl
  try simp only [Act.put, List.setIfInBounds_toArray, List.set_cons_zero, List.set_cons_succ]
  refine wpAnyH_take (i := 7) (v := ?_) (by (simp only [List.getElem?_toArray, List.getElem?_cons_succ, List.getElem?_cons_zero]; rfl)) (by kernel_rfl) (by kernel_rfl) (by kernel_rfl) (by intro _ _ _ h; exact h) (Or.inl ⟨by kernel_rfl, ?_⟩) hHeld ?_
  case refine_2 =>
    intro w hSw
    try dsimp only at hSw
    go_simp
    try with_reducible rfl
  try simp only [Act.put, List.setIfInBounds_toArray, List.set_cons_zero, List.set_cons_succ]
  refine wpAnyH_take (i := 3) (v := ?_) (by (simp only [List.getElem?_toArray, List.getElem?_cons_succ, List.getElem?_cons_zero]; rfl)) (by kernel_rfl) (by kernel_rfl) (by kernel_rfl) (by intro _ _ _ h; exact h) (Or.inl ⟨by kernel_rfl, ?_⟩) hHeld ?_
  case refine_2 =>
    intro w hSw
    try dsimp only at hSw
    go_simp
    try with_reducible rfl
  try simp only [Act.put, List.setIfInBounds_toArray, List.set_cons_zero, List.set_cons_succ]
  refine wpAnyH_take (i := 5) (v := ?_) (by (simp only [List.getElem?_toArray, List.getElem?_cons_succ, List.getElem?_cons_zero]; rfl)) (by kernel_rfl) (by kernel_rfl) (by kernel_rfl) (by intro _ _ _ h; exact h) (Or.inl ⟨by kernel_rfl, ?_⟩) hHeld ?_
  case refine_2 =>
    intro w hSw
    try dsimp only at hSw
    go_simp
    try with_reducible rfl
  try simp only [Act.put, List.setIfInBounds_toArray, List.set_cons_zero, List.set_cons_succ]
  refine wpAnyH_ready (rs := [6]) (by kernel_rfl) (by simp) ?_
  refine AllReadyH.cons (by (simp only [List.getElem?_toArray, List.getElem?_cons_succ, List.getElem?_cons_zero]; rfl)) (fun K hK => ?_) AllReadyH.nil
  go_simp
  refine (CA3.out _).mono ?_
  rintro e vv ⟨rfl, hv⟩
  replace k0 := cellB hv k0
  replace k1 := cellB hv k1
  replace k3 := cellB hv k3
  replace k4 := cellB hv k4
  replace k5 := cellB hv k5
  replace k6 := cellB hv k6
  replace k7 := cellB hv k7
  replace O0 := cellB hv O0
  replace O1 := cellB hv O1
  replace HU := Lib.hid (HU.out.below hv)
  replace HV := Lib.hid (HV.out.below hv)
  replace HB := Lib.hid (below_up HB.out hv (HBX.out _ HB.out))
  clear hv
  try go_wp2_with fail
  clear hHeld
  refine hK.out _ _ ?_ (fun hHeld => ?_)
  · try dsimp only
    go_keep
  clear hK K
  try simp only [Act.put, List.setIfInBounds_toArray, List.set_cons_zero, List.set_cons_succ]
  refine wpAnyH_take (i := 8) (v := ?_) (by (simp only [List.getElem?_toArray, List.getElem?_cons_succ, List.getElem?_cons_zero]; rfl)) (by kernel_rfl) (by kernel_rfl) (by kernel_rfl) (by intro _ _ _ h; exact h) (Or.inl ⟨by kernel_rfl, ?_⟩) hHeld ?_
  case refine_2 =>
    intro w hSw
    try dsimp only at hSw
    go_simp
    try with_reducible rfl
  try simp only [Act.put, List.setIfInBounds_toArray, List.set_cons_zero, List.set_cons_succ]
  refine wpAnyH_take (i := 9) (v := ?_) (by (simp only [List.getElem?_toArray, List.getElem?_cons_succ, List.getElem?_cons_zero]; rfl)) (by kernel_rfl) (by kernel_rfl) (by kernel_rfl) (by intro _ _ _ h; exact h) (Or.inl ⟨by kernel_rfl, ?_⟩) hHeld ?_
  case refine_2 =>
    intro w hSw
    try dsimp only at hSw
    go_simp
    try with_reducible rfl
  try simp only [Act.put, List.setIfInBounds_toArray, List.set_cons_zero, List.set_cons_succ]
  refine wpAnyH_take (i := 10) (v := ?_) (by (simp only [List.getElem?_toArray, List.getElem?_cons_succ, List.getElem?_cons_zero]; rfl)) (by kernel_rfl) (by kernel_rfl) (by kernel_rfl) (by intro _ _ _ h; exact h) (Or.inl ⟨by kernel_rfl, ?_⟩) hHeld ?_
  case refine_2 =>
    intro w hSw
    try dsimp only at hSw
    go_simp
    try with_reducible rfl
  try simp only [Act.put, List.setIfInBounds_toArray, List.set_cons_zero, List.set_cons_succ]
  refine wpAnyH_take (i := 11) (v := ?_) (by (simp only [List.getElem?_toArray, List.getElem?_cons_succ, List.getElem?_cons_zero]; rfl)) (by kernel_rfl) (by kernel_rfl) (by kernel_rfl) (by intro _ _ _ h; exact h) (Or.inl ⟨by kernel_rfl, ?_⟩) hHeld ?_
  case refine_2 =>
    intro w hSw
    try dsimp only at hSw
    go_simp
    try with_reducible rfl
  try simp only [Act.put, List.setIfInBounds_toArray, List.set_cons_zero, List.set_cons_succ]
  refine wpAnyH_take (i := 13) (v := ?_) (by (simp only [List.getElem?_toArray, List.getElem?_cons_succ, List.getElem?_cons_zero]; rfl)) (by kernel_rfl) (by kernel_rfl) (by kernel_rfl) (by intro _ _ _ h; exact h) (Or.inl ⟨by kernel_rfl, ?_⟩) hHeld ?_
  case refine_2 =>
    intro w hSw
    try dsimp only at hSw
    go_simp
    try with_reducible rfl
  try simp only [Act.put, List.setIfInBounds_toArray, List.set_cons_zero, List.set_cons_succ]
  refine wpAnyH_take (i := 16) (v := ?_) (by (simp only [List.getElem?_toArray, List.getElem?_cons_succ, List.getElem?_cons_zero]; rfl)) (by kernel_rfl) (by kernel_rfl) (by kernel_rfl) (by intro _ _ _ h; exact h) (Or.inl ⟨by kernel_rfl, ?_⟩) hHeld ?_
  case refine_2 =>
    intro w hSw
    try dsimp only at hSw
    go_simp
    try with_reducible rfl
  try simp only [Act.put, List.setIfInBounds_toArray, List.set_cons_zero, List.set_cons_succ]
  refine wpAnyH_take (i := 12) (v := ?_) (by (simp only [List.getElem?_toArray, List.getElem?_cons_succ, List.getElem?_cons_zero]; rfl)) (by kernel_rfl) (by kernel_rfl) (by kernel_rfl) (by intro _ _ _ h; exact h) (Or.inl ⟨by kernel_rfl, ?_⟩) hHeld ?_
  case refine_2 =>
    intro w hSw
    try dsimp only at hSw
    go_simp
    try with_reducible rfl
  try simp only [Act.put, List.setIfInBounds_toArray, List.set_cons_zero, List.set_cons_succ]
  refine wpAnyH_take (i := 14) (v := ?_) (by (simp only [List.getElem?_toArray, List.getElem?_cons_succ, List.getElem?_cons_zero]; rfl)) (by kernel_rfl) (by kernel_rfl) (by kernel_rfl) (by intro _ _ _ h; exact h) (Or.inl ⟨by kernel_rfl, ?_⟩) hHeld ?_
  case refine_2 =>
    intro w hSw
    try dsimp only at hSw
    go_simp
    try with_reducible rfl
  try simp only [Act.put, List.setIfInBounds_toArray, List.set_cons_zero, List.set_cons_succ]
  refine wpAnyH_ready (rs := [15]) (by kernel_rfl) (by simp) ?_
  refine AllReadyH.cons (by (simp only [List.getElem?_toArray, List.getElem?_cons_succ, List.getElem?_cons_zero]; rfl)) (fun K hK => ?_) AllReadyH.nil
  go_simp
  refine (CJ3.out _ HU.out).mono ?_
  rintro e vv ⟨rfl, hv⟩
  replace k0 := cellB hv k0
  replace k1 := cellB hv k1
  replace k3 := cellB hv k3
  replace k4 := cellB hv k4
  replace k5 := cellB hv k5
  replace k6 := cellB hv k6
  replace k7 := cellB hv k7
  replace O0 := cellB hv O0
  replace O1 := cellB hv O1
  replace HU := Lib.hid (HU.out.below hv)
  replace HV := Lib.hid (HV.out.below hv)
  replace HB := Lib.hid (below_up HB.out hv (HBX.out _ HB.out))
  clear hv
  try go_wp2_with fail
  clear hHeld
  refine hK.out _ _ ?_ (fun hHeld => ?_)
  · try dsimp only
    go_keep
  clear hK K
  try simp only [Act.put, List.setIfInBounds_toArray, List.set_cons_zero, List.set_cons_succ]
  refine wpAnyH_take (i := 17) (v := ?_) (by (simp only [List.getElem?_toArray, List.getElem?_cons_succ, List.getElem?_cons_zero]; rfl)) (by kernel_rfl) (by kernel_rfl) (by kernel_rfl) (by intro _ _ _ h; exact h) (Or.inl ⟨by kernel_rfl, ?_⟩) hHeld ?_
  case refine_2 =>
    intro w hSw
    try dsimp only at hSw
    go_simp
    try with_reducible rfl
  try simp only [Act.put, List.setIfInBounds_toArray, List.set_cons_zero, List.set_cons_succ]
  refine wpAnyH_take (i := 18) (v := ?_) (by (simp only [List.getElem?_toArray, List.getElem?_cons_succ, List.getElem?_cons_zero]; rfl)) (by kernel_rfl) (by kernel_rfl) (by kernel_rfl) (by intro _ _ _ h; exact h) (Or.inl ⟨by kernel_rfl, ?_⟩) hHeld ?_
  case refine_2 =>
    intro w hSw
    try dsimp only at hSw
    go_simp
    try with_reducible rfl
  try simp only [Act.put, List.setIfInBounds_toArray, List.set_cons_zero, List.set_cons_succ]
  refine wpAnyH_take (i := 19) (v := ?_) (by (simp only [List.getElem?_toArray, List.getElem?_cons_succ, List.getElem?_cons_zero]; rfl)) (by kernel_rfl) (by kernel_rfl) (by kernel_rfl) (by intro _ _ _ h; exact h) (Or.inl ⟨by kernel_rfl, ?_⟩) hHeld ?_
  case refine_2 =>
    intro w hSw
    try dsimp only at hSw
    go_simp
    try with_reducible rfl
  try simp only [Act.put, List.setIfInBounds_toArray, List.set_cons_zero, List.set_cons_succ]
  refine wpAnyH_take (i := 20) (v := ?_) (by (simp only [List.getElem?_toArray, List.getElem?_cons_succ, List.getElem?_cons_zero]; rfl)) (by kernel_rfl) (by kernel_rfl) (by kernel_rfl) (by intro _ _ _ h; exact h) (Or.inl ⟨by kernel_rfl, ?_⟩) hHeld ?_
  case refine_2 =>
    intro w hSw
    try dsimp only at hSw
    go_simp
    try with_reducible rfl
  try simp only [Act.put, List.setIfInBounds_toArray, List.set_cons_zero, List.set_cons_succ]
  refine wpAnyH_take (i := 21) (v := ?_) (by (simp only [List.getElem?_toArray, List.getElem?_cons_succ, List.getElem?_cons_zero]; rfl)) (by kernel_rfl) (by kernel_rfl) (by kernel_rfl) (by intro _ _ _ h; exact h) (Or.inl ⟨by kernel_rfl, ?_⟩) hHeld ?_
  case refine_2 =>
    intro w hSw
    try dsimp only at hSw
    go_simp
    try with_reducible rfl
  try simp only [Act.put, List.setIfInBounds_toArray, List.set_cons_zero, List.set_cons_succ]
  refine wpAnyH_take (i := 22) (v := ?_) (by (simp only [List.getElem?_toArray, List.getElem?_cons_succ, List.getElem?_cons_zero]; rfl)) (by kernel_rfl) (by kernel_rfl) (by kernel_rfl) (by intro _ _ _ h; exact h) (Or.inl ⟨by kernel_rfl, ?_⟩) hHeld ?_
  case refine_2 =>
    intro w hSw
    try dsimp only at hSw
    go_simp
    try with_reducible rfl
  try simp only [Act.put, List.setIfInBounds_toArray, List.set_cons_zero, List.set_cons_succ]
  refine wpAnyH_take (i := 23) (v := ?_) (by (simp only [List.getElem?_toArray, List.getElem?_cons_succ, List.getElem?_cons_zero]; rfl)) (by kernel_rfl) (by kernel_rfl) (by kernel_rfl) (by intro _ _ _ h; exact h) (Or.inl ⟨by kernel_rfl, ?_⟩) hHeld ?_
  case refine_2 =>
    intro w hSw
    try dsimp only at hSw
    go_simp
    try with_reducible rfl
  try simp only [Act.put, List.setIfInBounds_toArray, List.set_cons_zero, List.set_cons_succ]
  refine wpAnyH_take (i := 24) (v := ?_) (by (simp only [List.getElem?_toArray, List.getElem?_cons_succ, List.getElem?_cons_zero]; rfl)) (by kernel_rfl) (by kernel_rfl) (by kernel_rfl) (by intro _ _ _ h; exact h) (Or.inl ⟨by kernel_rfl, ?_⟩) hHeld ?_
  case refine_2 =>
    intro w hSw
    try dsimp only at hSw
    go_simp
    try with_reducible rfl
  try simp only [Act.put, List.setIfInBounds_toArray, List.set_cons_zero, List.set_cons_succ]
  refine wpAnyH_take (i := 25) (v := ?_) (by (simp only [List.getElem?_toArray, List.getElem?_cons_succ, List.getElem?_cons_zero]; rfl)) (by kernel_rfl) (by kernel_rfl) (by kernel_rfl) (by intro _ _ _ h; exact h) (Or.inl ⟨by kernel_rfl, ?_⟩) hHeld ?_
  case refine_2 =>
    intro w hSw
    try dsimp only at hSw
    go_simp
    try with_reducible rfl
  try simp only [Act.put, List.setIfInBounds_toArray, List.set_cons_zero, List.set_cons_succ]
  refine wpAnyH_take (i := 27) (v := ?_) (by (simp only [List.getElem?_toArray, List.getElem?_cons_succ, List.getElem?_cons_zero]; rfl)) (by kernel_rfl) (by kernel_rfl) (by kernel_rfl) (by intro _ _ _ h; exact h) (Or.inl ⟨by kernel_rfl, ?_⟩) hHeld ?_
  case refine_2 =>
    intro w hSw
    try dsimp only at hSw
    go_simp
    try with_reducible rfl
  try simp only [Act.put, List.setIfInBounds_toArray, List.set_cons_zero, List.set_cons_succ]
  refine wpAnyH_take (i := 30) (v := ?_) (by (simp only [List.getElem?_toArray, List.getElem?_cons_succ, List.getElem?_cons_zero]; rfl)) (by kernel_rfl) (by kernel_rfl) (by kernel_rfl) (by intro _ _ _ h; exact h) (Or.inl ⟨by kernel_rfl, ?_⟩) hHeld ?_
  case refine_2 =>
    intro w hSw
    try dsimp only at hSw
    go_simp
    try with_reducible rfl
  try simp only [Act.put, List.setIfInBounds_toArray, List.set_cons_zero, List.set_cons_succ]
  refine wpAnyH_take (i := 26) (v := ?_) (by (simp only [List.getElem?_toArray, List.getElem?_cons_succ, List.getElem?_cons_zero]; rfl)) (by kernel_rfl) (by kernel_rfl) (by kernel_rfl) (by intro _ _ _ h; exact h) (Or.inl ⟨by kernel_rfl, ?_⟩) hHeld ?_
  case refine_2 =>
    intro w hSw
    try dsimp only at hSw
    go_simp
    try with_reducible rfl
  try simp only [Act.put, List.setIfInBounds_toArray, List.set_cons_zero, List.set_cons_succ]
  refine wpAnyH_take (i := 28) (v := ?_) (by (simp only [List.getElem?_toArray, List.getElem?_cons_succ, List.getElem?_cons_zero]; rfl)) (by kernel_rfl) (by kernel_rfl) (by kernel_rfl) (by intro _ _ _ h; exact h) (Or.inl ⟨by kernel_rfl, ?_⟩) hHeld ?_
  case refine_2 =>
    intro w hSw
    try dsimp only at hSw
    go_simp
    try with_reducible rfl
  try simp only [Act.put, List.setIfInBounds_toArray, List.set_cons_zero, List.set_cons_succ]
  refine wpAnyH_ready (rs := [29]) (by kernel_rfl) (by simp) ?_
  refine AllReadyH.cons (by (simp only [List.getElem?_toArray, List.getElem?_cons_succ, List.getElem?_cons_zero]; rfl)) (fun K hK => ?_) AllReadyH.nil
  go_simp
  refine (CR3.out _).mono ?_
  rintro e vv ⟨rfl, hv⟩
  replace k0 := cellB hv k0
  replace k1 := cellB hv k1
  replace k3 := cellB hv k3
  replace k4 := cellB hv k4
  replace k5 := cellB hv k5
  replace k6 := cellB hv k6
  replace k7 := cellB hv k7
  replace O0 := cellB hv O0
  replace O1 := cellB hv O1
  replace HU := Lib.hid (HU.out.below hv)
  replace HV := Lib.hid (HV.out.below hv)
  replace HB := Lib.hid (below_up HB.out hv (HBX.out _ HB.out))
  clear hv
  try go_wp2_with fail
  clear hHeld
  refine hK.out _ _ ?_ (fun hHeld => ?_)
  · try dsimp only
    go_keep
  clear hK K
  try simp only [Act.put, List.setIfInBounds_toArray, List.set_cons_zero, List.set_cons_succ]
  refine wpAnyH_take (i := 31) (v := ?_) (by (simp only [List.getElem?_toArray, List.getElem?_cons_succ, List.getElem?_cons_zero]; rfl)) (by kernel_rfl) (by kernel_rfl) (by kernel_rfl) (by intro _ _ _ h; exact h) (Or.inl ⟨by kernel_rfl, ?_⟩) hHeld ?_
  case refine_2 =>
    intro w hSw
    try dsimp only at hSw
    go_simp
    try with_reducible rfl
  try simp only [Act.put, List.setIfInBounds_toArray, List.set_cons_zero, List.set_cons_succ]
  refine wpAnyH_take (i := 32) (v := ?_) (by (simp only [List.getElem?_toArray, List.getElem?_cons_succ, List.getElem?_cons_zero]; rfl)) (by kernel_rfl) (by kernel_rfl) (by kernel_rfl) (by intro _ _ _ h; exact h) (Or.inl ⟨by kernel_rfl, ?_⟩) hHeld ?_
  case refine_2 =>
    intro w hSw
    try dsimp only at hSw
    go_simp
    try with_reducible rfl
  try simp only [Act.put, List.setIfInBounds_toArray, List.set_cons_zero, List.set_cons_succ]
  refine wpAnyH_take (i := 33) (v := ?_) (by (simp only [List.getElem?_toArray, List.getElem?_cons_succ, List.getElem?_cons_zero]; rfl)) (by kernel_rfl) (by kernel_rfl) (by kernel_rfl) (by intro _ _ _ h; exact h) (Or.inl ⟨by kernel_rfl, ?_⟩) hHeld ?_
  case refine_2 =>
    intro w hSw
    try dsimp only at hSw
    go_simp
    try with_reducible rfl
  try simp only [Act.put, List.setIfInBounds_toArray, List.set_cons_zero, List.set_cons_succ]
  refine wpAnyH_take (i := 34) (v := ?_) (by (simp only [List.getElem?_toArray, List.getElem?_cons_succ, List.getElem?_cons_zero]; rfl)) (by kernel_rfl) (by kernel_rfl) (by kernel_rfl) (by intro _ _ _ h; exact h) (Or.inl ⟨by kernel_rfl, ?_⟩) hHeld ?_
  case refine_2 =>
    intro w hSw
    try dsimp only at hSw
    go_simp
    try with_reducible rfl
  try simp only [Act.put, List.setIfInBounds_toArray, List.set_cons_zero, List.set_cons_succ]
  refine wpAnyH_take (i := 35) (v := ?_) (by (simp only [List.getElem?_toArray, List.getElem?_cons_succ, List.getElem?_cons_zero]; rfl)) (by kernel_rfl) (by kernel_rfl) (by kernel_rfl) (by intro _ _ _ h; exact h) (Or.inl ⟨by kernel_rfl, ?_⟩) hHeld ?_
  case refine_2 =>
    intro w hSw
    try dsimp only at hSw
    go_simp
    try with_reducible rfl
  try simp only [Act.put, List.setIfInBounds_toArray, List.set_cons_zero, List.set_cons_succ]
  refine wpAnyH_take (i := 37) (v := ?_) (by (simp only [List.getElem?_toArray, List.getElem?_cons_succ, List.getElem?_cons_zero]; rfl)) (by kernel_rfl) (by kernel_rfl) (by kernel_rfl) (by intro _ _ _ h; exact h) (Or.inl ⟨by kernel_rfl, ?_⟩) hHeld ?_
  case refine_2 =>
    intro w hSw
    try dsimp only at hSw
    go_simp
    try with_reducible rfl
  try simp only [Act.put, List.setIfInBounds_toArray, List.set_cons_zero, List.set_cons_succ]
  refine wpAnyH_take (i := 39) (v := ?_) (by (simp only [List.getElem?_toArray, List.getElem?_cons_succ, List.getElem?_cons_zero]; rfl)) (by kernel_rfl) (by kernel_rfl) (by kernel_rfl) (by intro _ _ _ h; exact h) (Or.inl ⟨by kernel_rfl, ?_⟩) hHeld ?_
  case refine_2 =>
    intro w hSw
    try dsimp only at hSw
    go_simp
    try with_reducible rfl
  try simp only [Act.put, List.setIfInBounds_toArray, List.set_cons_zero, List.set_cons_succ]
  refine wpAnyH_take (i := 42) (v := ?_) (by (simp only [List.getElem?_toArray, List.getElem?_cons_succ, List.getElem?_cons_zero]; rfl)) (by kernel_rfl) (by kernel_rfl) (by kernel_rfl) (by intro _ _ _ h; exact h) (Or.inl ⟨by kernel_rfl, ?_⟩) hHeld ?_
  case refine_2 =>
    intro w hSw
    try dsimp only at hSw
    go_simp
    try with_reducible rfl
  try simp only [Act.put, List.setIfInBounds_toArray, List.set_cons_zero, List.set_cons_succ]
  refine wpAnyH_take (i := 44) (v := ?_) (by (simp only [List.getElem?_toArray, List.getElem?_cons_succ, List.getElem?_cons_zero]; rfl)) (by kernel_rfl) (by kernel_rfl) (by kernel_rfl) (by intro _ _ _ h; exact h) (Or.inl ⟨by kernel_rfl, ?_⟩) hHeld ?_
  case refine_2 =>
    intro w hSw
    try dsimp only at hSw
    go_simp
    try with_reducible rfl
  try simp only [Act.put, List.setIfInBounds_toArray, List.set_cons_zero, List.set_cons_succ]
  refine wpAnyH_take (i := 36) (v := ?_) (by (simp only [List.getElem?_toArray, List.getElem?_cons_succ, List.getElem?_cons_zero]; rfl)) (by kernel_rfl) (by kernel_rfl) (by kernel_rfl) (by intro _ _ _ h; exact h) (Or.inl ⟨by kernel_rfl, ?_⟩) hHeld ?_
  case refine_2 =>
    intro w hSw
    try dsimp only at hSw
    go_simp
    try with_reducible rfl
  try simp only [Act.put, List.setIfInBounds_toArray, List.set_cons_zero, List.set_cons_succ]
  refine wpAnyH_take (i := 38) (v := ?_) (by (simp only [List.getElem?_toArray, List.getElem?_cons_succ, List.getElem?_cons_zero]; rfl)) (by kernel_rfl) (by kernel_rfl) (by kernel_rfl) (by intro _ _ _ h; exact h) (Or.inl ⟨by kernel_rfl, ?_⟩) hHeld ?_
  case refine_2 =>
    intro w hSw
    try dsimp only at hSw
    go_simp
    try with_reducible rfl
  try simp only [Act.put, List.setIfInBounds_toArray, List.set_cons_zero, List.set_cons_succ]
  refine wpAnyH_take (i := 40) (v := ?_) (by (simp only [List.getElem?_toArray, List.getElem?_cons_succ, List.getElem?_cons_zero]; rfl)) (by kernel_rfl) (by kernel_rfl) (by kernel_rfl) (by intro _ _ _ h; exact h) (Or.inl ⟨by kernel_rfl, ?_⟩) hHeld ?_
  case refine_2 =>
    intro w hSw
    try dsimp only at hSw
    go_simp
    try with_reducible rfl
  try simp only [Act.put, List.setIfInBounds_toArray, List.set_cons_zero, List.set_cons_succ]
  refine wpAnyH_ready (rs := [41]) (by kernel_rfl) (by simp) ?_
  refine AllReadyH.cons (by (simp only [List.getElem?_toArray, List.getElem?_cons_succ, List.getElem?_cons_zero]; rfl)) (fun K hK => ?_) AllReadyH.nil
  go_simp
  refine (CN3.out _).mono ?_
  rintro e vv ⟨rfl, hv⟩
  replace k0 := cellB hv k0
  replace k1 := cellB hv k1
  replace k3 := cellB hv k3
  replace k4 := cellB hv k4
  replace k5 := cellB hv k5
  replace k6 := cellB hv k6
  replace k7 := cellB hv k7
  replace O0 := cellB hv O0
  replace O1 := cellB hv O1
  replace HU := Lib.hid (HU.out.below hv)
  replace HV := Lib.hid (HV.out.below hv)
  replace HB := Lib.hid (below_up HB.out hv (HBX.out _ HB.out))
  clear hv
  try go_wp2_with fail
  clear hHeld
  refine hK.out _ _ ?_ (fun hHeld => ?_)
  · try dsimp only
    go_keep
  clear hK K
  try simp only [Act.put, List.setIfInBounds_toArray, List.set_cons_zero, List.set_cons_succ]
  refine wpAnyH_take (i := 43) (v := ?_) (by (simp only [List.getElem?_toArray, List.getElem?_cons_succ, List.getElem?_cons_zero]; rfl)) (by kernel_rfl) (by kernel_rfl) (by kernel_rfl) (by intro _ _ _ h; exact h) (Or.inl ⟨by kernel_rfl, ?_⟩) hHeld ?_
  case refine_2 =>
    intro w hSw
    try dsimp only at hSw
    go_simp
    try with_reducible rfl
  try simp only [Act.put, List.setIfInBounds_toArray, List.set_cons_zero, List.set_cons_succ]
  refine wpAnyH_take (i := 45) (v := ?_) (by (simp only [List.getElem?_toArray, List.getElem?_cons_succ, List.getElem?_cons_zero]; rfl)) (by kernel_rfl) (by kernel_rfl) (by kernel_rfl) (by intro _ _ _ h; exact h) (Or.inl ⟨by kernel_rfl, ?_⟩) hHeld ?_
  case refine_2 =>
    intro w hSw
    try dsimp only at hSw
    go_simp
    try with_reducible rfl
  try simp only [Act.put, List.setIfInBounds_toArray, List.set_cons_zero, List.set_cons_succ]
  refine wpAnyH_take (i := 46) (v := ?_) (by (simp only [List.getElem?_toArray, List.getElem?_cons_succ, List.getElem?_cons_zero]; rfl)) (by kernel_rfl) (by kernel_rfl) (by kernel_rfl) (by intro _ _ _ h; exact h) (Or.inl ⟨by kernel_rfl, ?_⟩) hHeld ?_
  case refine_2 =>
    intro w hSw
    try dsimp only at hSw
    go_simp
    try with_reducible rfl
  try simp only [Act.put, List.setIfInBounds_toArray, List.set_cons_zero, List.set_cons_succ]
  refine wpAnyH_take (i := 47) (v := ?_) (by (simp only [List.getElem?_toArray, List.getElem?_cons_succ, List.getElem?_cons_zero]; rfl)) (by kernel_rfl) (by kernel_rfl) (by kernel_rfl) (by intro _ _ _ h; exact h) (Or.inl ⟨by kernel_rfl, ?_⟩) hHeld ?_
  case refine_2 =>
    intro w hSw
    try dsimp only at hSw
    go_simp
    try with_reducible rfl
  try simp only [Act.put, List.setIfInBounds_toArray, List.set_cons_zero, List.set_cons_succ]
  refine wpAnyH_done (by kernel_rfl) ?_ _
  go_wp2_with fail
  go_ret
  exact ⟨rfl, by rw [HE.out]; exact HB.out⟩

set_option maxRecDepth 100000 in
set_option maxHeartbeats 8000000 in
theorem sim_lo_l (a b c : List UInt8) (LA MA : Option Addr) (cap cap2 : Nat) (L M : List (List UInt8)) (x y t : Int) (r1 r2 r3 r4 r5 o : Int × Int)
    (HH : Hid ((shortB 300 [a, b, c] && fewB [L, M]) = true)) (la : a.length ≤ 300)
    (U1 : Hid (UnitR r1)) (U2 : Hid (UnitR r2)) (U3 : Hid (UnitR r3)) (U4 : Hid (UnitR r4))
    (CA : Hid (∀ W, Calls Tryd.prog 13 #[str a, str b] W fun e w' => e = .returned (rat r1) ∧ Below W.heap.size W w'))
    (CA2 : Hid (∀ W, Calls Tryd.prog 13 #[str b, str a] W fun e w' => e = .returned (rat r1) ∧ Below W.heap.size W w'))
    (CA3 : Hid (∀ W, Calls Tryd.prog 13 #[str a, str a] W fun e w' => e = .returned (rat o) ∧ Below W.heap.size W w'))
    (CJ : Hid (∀ W, Strs W (.slice LA L.length cap) L → Strs W (.slice MA M.length cap2) M → Calls Tryd.prog 14 #[.slice LA L.length cap, .slice MA M.length cap2] W fun e w' => e = .returned (rat r2) ∧ Below W.heap.size W w'))
    (CJ2 : Hid (∀ W, Strs W (.slice LA L.length cap) L → Strs W (.slice MA M.length cap2) M → Calls Tryd.prog 14 #[.slice MA M.length cap2, .slice LA L.length cap] W fun e w' => e = .returned (rat r2) ∧ Below W.heap.size W w'))
    (CJ3 : Hid (∀ W, Strs W (.slice LA L.length cap) L → Calls Tryd.prog 14 #[.slice LA L.length cap, .slice LA L.length cap] W fun e w' => e = .returned (rat o) ∧ Below W.heap.size W w'))
    (CR : Hid (∀ W, Calls Tryd.prog 15 #[str a, str b] W fun e w' => e = .returned (rat r3) ∧ Below W.heap.size W w'))
    (CR2 : Hid (∀ W, Calls Tryd.prog 15 #[str b, str a] W fun e w' => e = .returned (rat r3) ∧ Below W.heap.size W w'))
    (CN : Hid (∀ W, Calls Tryd.prog 16 #[.int .i64 x, .int .i64 y, .int .i64 t] W fun e w' => e = .returned (rat r4) ∧ Below W.heap.size W w'))
    (CN2 : Hid (∀ W, Calls Tryd.prog 16 #[.int .i64 y, .int .i64 x, .int .i64 t] W fun e w' => e = .returned (rat r4) ∧ Below W.heap.size W w'))
    (CN3 : Hid (∀ W, Calls Tryd.prog 16 #[.int .i64 x, .int .i64 x, .int .i64 t] W fun e w' => e = .returned (rat r5) ∧ Below W.heap.size W w'))
    (CO : Hid (∀ W, Calls Tryd.prog 18 #[.int .i64 1, .int .i64 1] W fun e w' => e = .returned (rat o) ∧ Below W.heap.size W w'))
    (hq : decide (r5 = o) = false) (ht : t < 0) (ha : 200 < a.length)
    (w : World) (hu : Strs w (.slice LA L.length cap) L) (hv : Strs w (.slice MA M.length cap2) M) :
    Calls Tryd.prog 5 #[.agg #[str a, str b, str c, .slice LA L.length cap, .slice MA M.length cap2, .int .i64 x, .int .i64 y, .int .i64 t]] w fun e w' => e = .returned (.bool true) ∧ Below w.heap.size w w' := by
  have HU := Lib.hid hu
  have HV := Lib.hid hv
  clear hu hv
  have ns := fun r (W : World) => neq_same r W
  have es := fun r (W : World) => eql_same r W
  have hl : decide ((200 : Int) < (a.length : Int)) = true := by simp; omega
  have e5 : ∀ W : World, (binOp .eql 33 (rat r5) (rat o)).run Tryd.prog W = .ok (.bool false) W := fun W => by rw [seql_rat, hq]
  clear hq
  obtain ⟨k0, k1, k2, k3, k4, k5, k6, k7⟩ := cell_box8 w (str a) (str b) (str c) (.slice LA L.length cap) (.slice MA M.length cap2) (.int .i64 x) (.int .i64 y) (.int .i64 t) 30
  go_enter Tryd.func5, Tryd.ntmps5
  go_wp2_with fail
  refine (head_any _).mono ?_
  rintro e1 w1 ⟨rfl, hv⟩
  have HB := Lib.hid (below_box w (Obj.cells #[str a, str b, str c, .slice LA L.length cap, .slice MA M.length cap2, .int .i64 x, .int .i64 y, .int .i64 t] 30))
  replace HU := Lib.hid (HU.out.below HB.out)
  replace HV := Lib.hid (HV.out.below HB.out)
  obtain ⟨wx, hwx⟩ : ∃ wx, w.alloc (Obj.cells #[str a, str b, str c, .slice LA L.length cap, .slice MA M.length cap2, .int .i64 x, .int .i64 y, .int .i64 t] 30) = wx := ⟨_, rfl⟩
  rw [hwx] at hv HB HU HV k0 k1 k2 k3 k4 k5 k6 k7
  clear hwx
  replace k2 := cellB hv k2
  replace k0 := cellB hv k0
  replace k1 := cellB hv k1
  replace k3 := cellB hv k3
  replace k4 := cellB hv k4
  replace k5 := cellB hv k5
  replace k6 := cellB hv k6
  replace k7 := cellB hv k7
  replace HU := Lib.hid (HU.out.below hv)
  replace HV := Lib.hid (HV.out.below hv)
  replace HB := Lib.hid (below_up HB.out hv HB.out.size)
  clear hv
  go_wp2_with fail
  refine (small_any a b c _ _ L M x y t w1 HU.out HV.out).mono ?_
  rw [HH.out]
  rintro e2 w2 ⟨rfl, hv⟩
  clear k2
  replace k0 := cellB hv k0
  replace k1 := cellB hv k1
  replace k3 := cellB hv k3
  replace k4 := cellB hv k4
  replace k5 := cellB hv k5
  replace k6 := cellB hv k6
  replace k7 := cellB hv k7
  replace HU := Lib.hid (HU.out.below hv)
  replace HV := Lib.hid (HV.out.below hv)
  replace HB := Lib.hid (below_up HB.out hv HB.out.size)
  clear hv
  obtain ⟨bx, hbx⟩ : ∃ bx, w.heap.size = bx := ⟨_, rfl⟩
  have HE : Hid (w.heap.size = bx) := Lib.hid hbx
  have HBX : Hid (∀ W, Below bx w W → bx ≤ W.heap.size) := Lib.hid (fun W h => hbx ▸ h.size)
  rw [hbx] at k0 k1 k3 k4 k5 k6 k7 HB ⊢
  clear hbx
  go_wp2_with fail
  refine (CA.out _).mono ?_
  rintro e3 v1 ⟨rfl, hv⟩
  replace k0 := cellB hv k0
  replace k1 := cellB hv k1
  replace k3 := cellB hv k3
  replace k4 := cellB hv k4
  replace k5 := cellB hv k5
  replace k6 := cellB hv k6
  replace k7 := cellB hv k7
  replace HU := Lib.hid (HU.out.below hv)
  replace HV := Lib.hid (HV.out.below hv)
  replace HB := Lib.hid (below_up HB.out hv (HBX.out _ HB.out))
  clear hv
  have hv := below_box v1 (Obj.cells #[Value.int IntKind.i64 r1.1, Value.int IntKind.i64 r1.2] 33)
  replace k0 := cellB hv k0
  replace k1 := cellB hv k1
  replace k3 := cellB hv k3
  replace k4 := cellB hv k4
  replace k5 := cellB hv k5
  replace k6 := cellB hv k6
  replace k7 := cellB hv k7
  replace HU := Lib.hid (HU.out.below hv)
  replace HV := Lib.hid (HV.out.below hv)
  replace HB := Lib.hid (below_up HB.out hv (HBX.out _ HB.out))
  clear hv
  have A0 := (own2_new v1 r1.1 r1.2 33).c0
  have A1 := (own2_new v1 r1.1 r1.2 33).c1
  go_wp2_with fail
  refine (CJ.out _ HU.out HV.out).mono ?_
  rintro e4 v2 ⟨rfl, hv⟩
  replace k0 := cellB hv k0
  replace k1 := cellB hv k1
  replace k3 := cellB hv k3
  replace k4 := cellB hv k4
  replace k5 := cellB hv k5
  replace k6 := cellB hv k6
  replace k7 := cellB hv k7
  replace A0 := cellB hv A0
  replace A1 := cellB hv A1
  replace HU := Lib.hid (HU.out.below hv)
  replace HV := Lib.hid (HV.out.below hv)
  replace HB := Lib.hid (below_up HB.out hv (HBX.out _ HB.out))
  clear hv
  obtain ⟨b1, hbl⟩ : ∃ bl, v1.heap.size = bl := ⟨_, rfl⟩
  rw [hbl] at A0 A1 ⊢
  clear hbl
  have hv := below_box v2 (Obj.cells #[Value.int IntKind.i64 r2.1, Value.int IntKind.i64 r2.2] 33)
  replace k0 := cellB hv k0
  replace k1 := cellB hv k1
  replace k3 := cellB hv k3
  replace k4 := cellB hv k4
  replace k5 := cellB hv k5
  replace k6 := cellB hv k6
  replace k7 := cellB hv k7
  replace A0 := cellB hv A0
  replace A1 := cellB hv A1
  replace HU := Lib.hid (HU.out.below hv)
  replace HV := Lib.hid (HV.out.below hv)
  replace HB := Lib.hid (below_up HB.out hv (HBX.out _ HB.out))
  clear hv
  have B0 := (own2_new v2 r2.1 r2.2 33).c0
  have B1 := (own2_new v2 r2.1 r2.2 33).c1
  go_wp2_with fail
  refine (CR.out _).mono ?_
  rintro e5 v3 ⟨rfl, hv⟩
  replace k0 := cellB hv k0
  replace k1 := cellB hv k1
  replace k3 := cellB hv k3
  replace k4 := cellB hv k4
  replace k5 := cellB hv k5
  replace k6 := cellB hv k6
  replace k7 := cellB hv k7
  replace A0 := cellB hv A0
  replace A1 := cellB hv A1
  replace B0 := cellB hv B0
  replace B1 := cellB hv B1
  replace HU := Lib.hid (HU.out.below hv)
  replace HV := Lib.hid (HV.out.below hv)
  replace HB := Lib.hid (below_up HB.out hv (HBX.out _ HB.out))
  clear hv
  obtain ⟨b2, hbl⟩ : ∃ bl, v2.heap.size = bl := ⟨_, rfl⟩
  rw [hbl] at B0 B1 ⊢
  clear hbl
  have hv := below_box v3 (Obj.cells #[Value.int IntKind.i64 r3.1, Value.int IntKind.i64 r3.2] 33)
  replace k0 := cellB hv k0
  replace k1 := cellB hv k1
  replace k3 := cellB hv k3
  replace k4 := cellB hv k4
  replace k5 := cellB hv k5
  replace k6 := cellB hv k6
  replace k7 := cellB hv k7
  replace A0 := cellB hv A0
  replace A1 := cellB hv A1
  replace B0 := cellB hv B0
  replace B1 := cellB hv B1
  replace HU := Lib.hid (HU.out.below hv)
  replace HV := Lib.hid (HV.out.below hv)
  replace HB := Lib.hid (below_up HB.out hv (HBX.out _ HB.out))
  clear hv
  have C0 := (own2_new v3 r3.1 r3.2 33).c0
  have C1 := (own2_new v3 r3.1 r3.2 33).c1
  go_wp2_with fail
  refine (CN.out _).mono ?_
  rintro e6 v4 ⟨rfl, hv⟩
  replace k0 := cellB hv k0
  replace k1 := cellB hv k1
  replace k3 := cellB hv k3
  replace k4 := cellB hv k4
  replace k5 := cellB hv k5
  replace k6 := cellB hv k6
  replace k7 := cellB hv k7
  replace A0 := cellB hv A0
  replace A1 := cellB hv A1
  replace B0 := cellB hv B0
  replace B1 := cellB hv B1
  replace C0 := cellB hv C0
  replace C1 := cellB hv C1
  replace HU := Lib.hid (HU.out.below hv)
  replace HV := Lib.hid (HV.out.below hv)
  replace HB := Lib.hid (below_up HB.out hv (HBX.out _ HB.out))
  clear hv
  obtain ⟨b3, hbl⟩ : ∃ bl, v3.heap.size = bl := ⟨_, rfl⟩
  rw [hbl] at C0 C1 ⊢
  clear hbl
  have hv := below_box v4 (Obj.cells #[Value.int IntKind.i64 r4.1, Value.int IntKind.i64 r4.2] 33)
  replace k0 := cellB hv k0
  replace k1 := cellB hv k1
  replace k3 := cellB hv k3
  replace k4 := cellB hv k4
  replace k5 := cellB hv k5
  replace k6 := cellB hv k6
  replace k7 := cellB hv k7
  replace A0 := cellB hv A0
  replace A1 := cellB hv A1
  replace B0 := cellB hv B0
  replace B1 := cellB hv B1
  replace C0 := cellB hv C0
  replace C1 := cellB hv C1
  replace HU := Lib.hid (HU.out.below hv)
  replace HV := Lib.hid (HV.out.below hv)
  replace HB := Lib.hid (below_up HB.out hv (HBX.out _ HB.out))
  clear hv
  have D0 := (own2_new v4 r4.1 r4.2 33).c0
  have D1 := (own2_new v4 r4.1 r4.2 33).c1
  go_wp2_with fail
  refine (unit_ok _ U1.out _).mono ?_
  rintro e vv ⟨rfl, hv⟩
  replace k0 := cellB hv k0
  replace k1 := cellB hv k1
  replace k3 := cellB hv k3
  replace k4 := cellB hv k4
  replace k5 := cellB hv k5
  replace k6 := cellB hv k6
  replace k7 := cellB hv k7
  replace A0 := cellB hv A0
  replace A1 := cellB hv A1
  replace B0 := cellB hv B0
  replace B1 := cellB hv B1
  replace C0 := cellB hv C0
  replace C1 := cellB hv C1
  replace D0 := cellB hv D0
  replace D1 := cellB hv D1
  replace HU := Lib.hid (HU.out.below hv)
  replace HV := Lib.hid (HV.out.below hv)
  replace HB := Lib.hid (below_up HB.out hv (HBX.out _ HB.out))
  clear hv
  obtain ⟨b4, hbl⟩ : ∃ bl, v4.heap.size = bl := ⟨_, rfl⟩
  rw [hbl] at D0 D1 ⊢
  clear hbl
  go_wp2_with fail
  refine (unit_ok _ U2.out _).mono ?_
  rintro e vv ⟨rfl, hv⟩
  replace k0 := cellB hv k0
  replace k1 := cellB hv k1
  replace k3 := cellB hv k3
  replace k4 := cellB hv k4
  replace k5 := cellB hv k5
  replace k6 := cellB hv k6
  replace k7 := cellB hv k7
  replace A0 := cellB hv A0
  replace A1 := cellB hv A1
  replace B0 := cellB hv B0
  replace B1 := cellB hv B1
  replace C0 := cellB hv C0
  replace C1 := cellB hv C1
  replace D0 := cellB hv D0
  replace D1 := cellB hv D1
  replace HU := Lib.hid (HU.out.below hv)
  replace HV := Lib.hid (HV.out.below hv)
  replace HB := Lib.hid (below_up HB.out hv (HBX.out _ HB.out))
  clear hv
  go_wp2_with fail
  refine (unit_ok _ U3.out _).mono ?_
  rintro e vv ⟨rfl, hv⟩
  replace k0 := cellB hv k0
  replace k1 := cellB hv k1
  replace k3 := cellB hv k3
  replace k4 := cellB hv k4
  replace k5 := cellB hv k5
  replace k6 := cellB hv k6
  replace k7 := cellB hv k7
  replace A0 := cellB hv A0
  replace A1 := cellB hv A1
  replace B0 := cellB hv B0
  replace B1 := cellB hv B1
  replace C0 := cellB hv C0
  replace C1 := cellB hv C1
  replace D0 := cellB hv D0
  replace D1 := cellB hv D1
  replace HU := Lib.hid (HU.out.below hv)
  replace HV := Lib.hid (HV.out.below hv)
  replace HB := Lib.hid (below_up HB.out hv (HBX.out _ HB.out))
  clear hv
  go_wp2_with fail
  refine (unit_ok _ U4.out _).mono ?_
  rintro e vv ⟨rfl, hv⟩
  replace k0 := cellB hv k0
  replace k1 := cellB hv k1
  replace k3 := cellB hv k3
  replace k4 := cellB hv k4
  replace k5 := cellB hv k5
  replace k6 := cellB hv k6
  replace k7 := cellB hv k7
  replace A0 := cellB hv A0
  replace A1 := cellB hv A1
  replace B0 := cellB hv B0
  replace B1 := cellB hv B1
  replace C0 := cellB hv C0
  replace C1 := cellB hv C1
  replace D0 := cellB hv D0
  replace D1 := cellB hv D1
  replace HU := Lib.hid (HU.out.below hv)
  replace HV := Lib.hid (HV.out.below hv)
  replace HB := Lib.hid (below_up HB.out hv (HBX.out _ HB.out))
  clear hv
  go_wp2_with fail
  have pk0 := k0
  have pk1 := k1
  have pk3 := k3
  have pk4 := k4
  have pk5 := k5
  have pk6 := k6
  have pk7 := k7
  have pA0 := A0
  have pA1 := A1
  have pB0 := B0
  have pB1 := B1
  have pC0 := C0
  have pC1 := C1
  have pD0 := D0
  have pD1 := D1
  have hv := below_drewN vv.heap.size vv 1
  replace k0 := cellB hv k0
  replace k1 := cellB hv k1
  replace k3 := cellB hv k3
  replace k4 := cellB hv k4
  replace k5 := cellB hv k5
  replace k6 := cellB hv k6
  replace k7 := cellB hv k7
  replace A0 := cellB hv A0
  replace A1 := cellB hv A1
  replace B0 := cellB hv B0
  replace B1 := cellB hv B1
  replace C0 := cellB hv C0
  replace C1 := cellB hv C1
  replace D0 := cellB hv D0
  replace D1 := cellB hv D1
  replace HU := Lib.hid (HU.out.below hv)
  replace HV := Lib.hid (HV.out.below hv)
  replace HB := Lib.hid (below_up HB.out hv (HBX.out _ HB.out))
  clear hv
  refine wp_region_held_drew (S := (fun w' => w'.cell? ⟨bx, 0, none⟩ = some (str a) ∧ w'.cell? ⟨bx, 1, none⟩ = some (str b) ∧ w'.cell? ⟨bx, 3, none⟩ = some (.slice LA L.length cap) ∧ w'.cell? ⟨bx, 4, none⟩ = some (.slice MA M.length cap2) ∧ w'.cell? ⟨bx, 5, none⟩ = some (.int .i64 x) ∧ w'.cell? ⟨bx, 6, none⟩ = some (.int .i64 y) ∧ w'.cell? ⟨bx, 7, none⟩ = some (.int .i64 t) ∧ w'.cell? ⟨b1, 0, none⟩ = some (.int .i64 r1.1) ∧ w'.cell? ⟨b1, 1, none⟩ = some (.int .i64 r1.2) ∧ w'.cell? ⟨b2, 0, none⟩ = some (.int .i64 r2.1) ∧ w'.cell? ⟨b2, 1, none⟩ = some (.int .i64 r2.2) ∧ w'.cell? ⟨b3, 0, none⟩ = some (.int .i64 r3.1) ∧ w'.cell? ⟨b3, 1, none⟩ = some (.int .i64 r3.2) ∧ w'.cell? ⟨b4, 0, none⟩ = some (.int .i64 r4.1) ∧ w'.cell? ⟨b4, 1, none⟩ = some (.int .i64 r4.2))) (by kernel_rfl) ?_ (fun hHeld => ?_)
  · try dsimp only
    go_keep
  refine wpAnyH_take (i := 0) (v := ?_) (by (simp only [List.getElem?_toArray, List.getElem?_cons_zero]; rfl)) (by kernel_rfl) (by kernel_rfl) (by kernel_rfl) (by intro _ _ _ h; exact h) (Or.inl ⟨by kernel_rfl, ?_⟩) hHeld ?_
  case refine_2 =>
    intro w hSw
    try dsimp only at hSw
    go_simp
    try with_reducible rfl
  try simp only [Act.put, List.setIfInBounds_toArray, List.set_cons_zero, List.set_cons_succ]
  refine wpAnyH_take (i := 2) (v := ?_) (by (simp only [List.getElem?_toArray, List.getElem?_cons_succ, List.getElem?_cons_zero]; rfl)) (by kernel_rfl) (by kernel_rfl) (by kernel_rfl) (by intro _ _ _ h; exact h) (Or.inl ⟨by kernel_rfl, ?_⟩) hHeld ?_
  case refine_2 =>
    intro w hSw
    try dsimp only at hSw
    go_simp
    try with_reducible rfl
  try simp only [Act.put, List.setIfInBounds_toArray, List.set_cons_zero, List.set_cons_succ]
  refine wpAnyH_take (i := 5) (v := ?_) (by (simp only [List.getElem?_toArray, List.getElem?_cons_succ, List.getElem?_cons_zero]; rfl)) (by kernel_rfl) (by kernel_rfl) (by kernel_rfl) (by intro _ _ _ h; exact h) (Or.inl ⟨by kernel_rfl, ?_⟩) hHeld ?_
  case refine_2 =>
    intro w hSw
    try dsimp only at hSw
    go_simp
    try with_reducible rfl
  try simp only [Act.put, List.setIfInBounds_toArray, List.set_cons_zero, List.set_cons_succ]
  refine wpAnyH_take (i := 1) (v := ?_) (by (simp only [List.getElem?_toArray, List.getElem?_cons_succ, List.getElem?_cons_zero]; rfl)) (by kernel_rfl) (by kernel_rfl) (by kernel_rfl) (by intro _ _ _ h; exact h) (Or.inl ⟨by kernel_rfl, ?_⟩) hHeld ?_
  case refine_2 =>
    intro w hSw
    try dsimp only at hSw
    go_simp
    try with_reducible rfl
  try simp only [Act.put, List.setIfInBounds_toArray, List.set_cons_zero, List.set_cons_succ]
  refine wpAnyH_take (i := 3) (v := ?_) (by (simp only [List.getElem?_toArray, List.getElem?_cons_succ, List.getElem?_cons_zero]; rfl)) (by kernel_rfl) (by kernel_rfl) (by kernel_rfl) (by intro _ _ _ h; exact h) (Or.inl ⟨by kernel_rfl, ?_⟩) hHeld ?_
  case refine_2 =>
    intro w hSw
    try dsimp only at hSw
    go_simp
    try with_reducible rfl
  try simp only [Act.put, List.setIfInBounds_toArray, List.set_cons_zero, List.set_cons_succ]
  refine wpAnyH_ready (rs := [4]) (by kernel_rfl) (by simp) ?_
  refine AllReadyH.cons (by (simp only [List.getElem?_toArray, List.getElem?_cons_succ, List.getElem?_cons_zero]; rfl)) (fun K hK => ?_) AllReadyH.nil
  go_simp
  refine (CA2.out _).mono ?_
  rintro e vv ⟨rfl, hv⟩
  replace k0 := cellB hv k0
  replace k1 := cellB hv k1
  replace k3 := cellB hv k3
  replace k4 := cellB hv k4
  replace k5 := cellB hv k5
  replace k6 := cellB hv k6
  replace k7 := cellB hv k7
  replace A0 := cellB hv A0
  replace A1 := cellB hv A1
  replace B0 := cellB hv B0
  replace B1 := cellB hv B1
  replace C0 := cellB hv C0
  replace C1 := cellB hv C1
  replace D0 := cellB hv D0
  replace D1 := cellB hv D1
  replace HU := Lib.hid (HU.out.below hv)
  replace HV := Lib.hid (HV.out.below hv)
  replace HB := Lib.hid (below_up HB.out hv (HBX.out _ HB.out))
  clear hv
  try go_wp2_with fail
  clear hHeld
  refine hK.out _ _ ?_ (fun hHeld => ?_)
  · try dsimp only
    go_keep
  clear hK K
  try simp only [Act.put, List.setIfInBounds_toArray, List.set_cons_zero, List.set_cons_succ]
  refine wpAnyH_take (i := 6) (v := ?_) (by (simp only [List.getElem?_toArray, List.getElem?_cons_succ, List.getElem?_cons_zero]; rfl)) (by kernel_rfl) (by kernel_rfl) (by kernel_rfl) (by intro _ _ _ h; exact h) (Or.inl ⟨by kernel_rfl, ?_⟩) hHeld ?_
  case refine_2 =>
    intro w hSw
    try dsimp only at hSw
    go_simp
    try with_reducible rfl
  try simp only [Act.put, List.setIfInBounds_toArray, List.set_cons_zero, List.set_cons_succ]
  refine wpAnyH_take (i := 7) (v := ?_) (by (simp only [List.getElem?_toArray, List.getElem?_cons_succ, List.getElem?_cons_zero]; rfl)) (by kernel_rfl) (by kernel_rfl) (by kernel_rfl) (by intro _ _ _ h; exact h) (Or.inl ⟨by kernel_rfl, ?_⟩) hHeld ?_
  case refine_2 =>
    intro w hSw
    try dsimp only at hSw
    go_simp
    try with_reducible rfl
  try simp only [Act.put, List.setIfInBounds_toArray, List.set_cons_zero, List.set_cons_succ]
  refine wpAnyH_take (i := 8) (v := ?_) (by (simp only [List.getElem?_toArray, List.getElem?_cons_succ, List.getElem?_cons_zero]; rfl)) (by kernel_rfl) (by kernel_rfl) (by kernel_rfl) (by intro _ _ _ h; exact h) (Or.inl ⟨by kernel_rfl, ?_⟩) hHeld ?_
  case refine_2 =>
    intro w hSw
    try dsimp only at hSw
    go_simp
    try with_reducible rfl
  try simp only [Act.put, List.setIfInBounds_toArray, List.set_cons_zero, List.set_cons_succ]
  refine wpAnyH_take (i := 10) (v := ?_) (by (simp only [List.getElem?_toArray, List.getElem?_cons_succ, List.getElem?_cons_zero]; rfl)) (by kernel_rfl) (by kernel_rfl) (by kernel_rfl) (by intro _ _ _ h; exact h) (Or.inl ⟨by kernel_rfl, ?_⟩) hHeld ?_
  case refine_2 =>
    intro w hSw
    try dsimp only at hSw
    go_simp
    try with_reducible rfl
  try simp only [Act.put, List.setIfInBounds_toArray, List.set_cons_zero, List.set_cons_succ]
  refine wpAnyH_take (i := 13) (v := ?_) (by (simp only [List.getElem?_toArray, List.getElem?_cons_succ, List.getElem?_cons_zero]; rfl)) (by kernel_rfl) (by kernel_rfl) (by kernel_rfl) (by intro _ _ _ h; exact h) (Or.inl ⟨by kernel_rfl, ?_⟩) hHeld ?_
  case refine_2 =>
    intro w hSw
    try dsimp only at hSw
    go_simp
    try with_reducible rfl
  try simp only [Act.put, List.setIfInBounds_toArray, List.set_cons_zero, List.set_cons_succ]
  refine wpAnyH_take (i := 9) (v := ?_) (by (simp only [List.getElem?_toArray, List.getElem?_cons_succ, List.getElem?_cons_zero]; rfl)) (by kernel_rfl) (by kernel_rfl) (by kernel_rfl) (by intro _ _ _ h; exact h) (Or.inl ⟨by kernel_rfl, ?_⟩) hHeld ?_
  case refine_2 =>
    intro w hSw
    try dsimp only at hSw
    go_simp
    try with_reducible rfl
  try simp only [Act.put, List.setIfInBounds_toArray, List.set_cons_zero, List.set_cons_succ]
  refine wpAnyH_take (i := 11) (v := ?_) (by (simp only [List.getElem?_toArray, List.getElem?_cons_succ, List.getElem?_cons_zero]; rfl)) (by kernel_rfl) (by kernel_rfl) (by kernel_rfl) (by intro _ _ _ h; exact h) (Or.inl ⟨by kernel_rfl, ?_⟩) hHeld ?_
  case refine_2 =>
    intro w hSw
    try dsimp only at hSw
    go_simp
    try with_reducible rfl
  try simp only [Act.put, List.setIfInBounds_toArray, List.set_cons_zero, List.set_cons_succ]
  refine wpAnyH_ready (rs := [12]) (by kernel_rfl) (by simp) ?_
  refine AllReadyH.cons (by (simp only [List.getElem?_toArray, List.getElem?_cons_succ, List.getElem?_cons_zero]; rfl)) (fun K hK => ?_) AllReadyH.nil
  go_simp
  refine (CJ2.out _ HU.out HV.out).mono ?_
  rintro e vv ⟨rfl, hv⟩
  replace k0 := cellB hv k0
  replace k1 := cellB hv k1
  replace k3 := cellB hv k3
  replace k4 := cellB hv k4
  replace k5 := cellB hv k5
  replace k6 := cellB hv k6
  replace k7 := cellB hv k7
  replace A0 := cellB hv A0
  replace A1 := cellB hv A1
  replace B0 := cellB hv B0
  replace B1 := cellB hv B1
  replace C0 := cellB hv C0
  replace C1 := cellB hv C1
  replace D0 := cellB hv D0
  replace D1 := cellB hv D1
  replace HU := Lib.hid (HU.out.below hv)
  replace HV := Lib.hid (HV.out.below hv)
  replace HB := Lib.hid (below_up HB.out hv (HBX.out _ HB.out))
  clear hv
  try go_wp2_with fail
  clear hHeld
  refine hK.out _ _ ?_ (fun hHeld => ?_)
  · try dsimp only
    go_keep
  clear hK K
  try simp only [Act.put, List.setIfInBounds_toArray, List.set_cons_zero, List.set_cons_succ]
  refine wpAnyH_take (i := 14) (v := ?_) (by (simp only [List.getElem?_toArray, List.getElem?_cons_succ, List.getElem?_cons_zero]; rfl)) (by kernel_rfl) (by kernel_rfl) (by kernel_rfl) (by intro _ _ _ h; exact h) (Or.inl ⟨by kernel_rfl, ?_⟩) hHeld ?_
  case refine_2 =>
    intro w hSw
    try dsimp only at hSw
    go_simp
    try with_reducible rfl
  try simp only [Act.put, List.setIfInBounds_toArray, List.set_cons_zero, List.set_cons_succ]
  refine wpAnyH_take (i := 15) (v := ?_) (by (simp only [List.getElem?_toArray, List.getElem?_cons_succ, List.getElem?_cons_zero]; rfl)) (by kernel_rfl) (by kernel_rfl) (by kernel_rfl) (by intro _ _ _ h; exact h) (Or.inl ⟨by kernel_rfl, ?_⟩) hHeld ?_
  case refine_2 =>
    intro w hSw
    try dsimp only at hSw
    go_simp
    try with_reducible rfl
  try simp only [Act.put, List.setIfInBounds_toArray, List.set_cons_zero, List.set_cons_succ]
  refine wpAnyH_take (i := 16) (v := ?_) (by (simp only [List.getElem?_toArray, List.getElem?_cons_succ, List.getElem?_cons_zero]; rfl)) (by kernel_rfl) (by kernel_rfl) (by kernel_rfl) (by intro _ _ _ h; exact h) (Or.inl ⟨by kernel_rfl, ?_⟩) hHeld ?_
  case refine_2 =>
    intro w hSw
    try dsimp only at hSw
    go_simp
    try with_reducible rfl
  try simp only [Act.put, List.setIfInBounds_toArray, List.set_cons_zero, List.set_cons_succ]
  refine wpAnyH_take (i := 17) (v := ?_) (by (simp only [List.getElem?_toArray, List.getElem?_cons_succ, List.getElem?_cons_zero]; rfl)) (by kernel_rfl) (by kernel_rfl) (by kernel_rfl) (by intro _ _ _ h; exact h) (Or.inl ⟨by kernel_rfl, ?_⟩) hHeld ?_
  case refine_2 =>
    intro w hSw
    try dsimp only at hSw
    go_simp
    try with_reducible rfl
  try simp only [Act.put, List.setIfInBounds_toArray, List.set_cons_zero, List.set_cons_succ]
  refine wpAnyH_take (i := 19) (v := ?_) (by (simp only [List.getElem?_toArray, List.getElem?_cons_succ, List.getElem?_cons_zero]; rfl)) (by kernel_rfl) (by kernel_rfl) (by kernel_rfl) (by intro _ _ _ h; exact h) (Or.inl ⟨by kernel_rfl, ?_⟩) hHeld ?_
  case refine_2 =>
    intro w hSw
    try dsimp only at hSw
    go_simp
    try with_reducible rfl
  try simp only [Act.put, List.setIfInBounds_toArray, List.set_cons_zero, List.set_cons_succ]
  refine wpAnyH_take (i := 22) (v := ?_) (by (simp only [List.getElem?_toArray, List.getElem?_cons_succ, List.getElem?_cons_zero]; rfl)) (by kernel_rfl) (by kernel_rfl) (by kernel_rfl) (by intro _ _ _ h; exact h) (Or.inl ⟨by kernel_rfl, ?_⟩) hHeld ?_
  case refine_2 =>
    intro w hSw
    try dsimp only at hSw
    go_simp
    try with_reducible rfl
  try simp only [Act.put, List.setIfInBounds_toArray, List.set_cons_zero, List.set_cons_succ]
  refine wpAnyH_take (i := 18) (v := ?_) (by (simp only [List.getElem?_toArray, List.getElem?_cons_succ, List.getElem?_cons_zero]; rfl)) (by kernel_rfl) (by kernel_rfl) (by kernel_rfl) (by intro _ _ _ h; exact h) (Or.inl ⟨by kernel_rfl, ?_⟩) hHeld ?_
  case refine_2 =>
    intro w hSw
    try dsimp only at hSw
    go_simp
    try with_reducible rfl
  try simp only [Act.put, List.setIfInBounds_toArray, List.set_cons_zero, List.set_cons_succ]
  refine wpAnyH_take (i := 20) (v := ?_) (by (simp only [List.getElem?_toArray, List.getElem?_cons_succ, List.getElem?_cons_zero]; rfl)) (by kernel_rfl) (by kernel_rfl) (by kernel_rfl) (by intro _ _ _ h; exact h) (Or.inl ⟨by kernel_rfl, ?_⟩) hHeld ?_
  case refine_2 =>
    intro w hSw
    try dsimp only at hSw
    go_simp
    try with_reducible rfl
  try simp only [Act.put, List.setIfInBounds_toArray, List.set_cons_zero, List.set_cons_succ]
  refine wpAnyH_ready (rs := [21]) (by kernel_rfl) (by simp) ?_
  refine AllReadyH.cons (by (simp only [List.getElem?_toArray, List.getElem?_cons_succ, List.getElem?_cons_zero]; rfl)) (fun K hK => ?_) AllReadyH.nil
  go_simp
  refine (CR2.out _).mono ?_
  rintro e vv ⟨rfl, hv⟩
  replace k0 := cellB hv k0
  replace k1 := cellB hv k1
  replace k3 := cellB hv k3
  replace k4 := cellB hv k4
  replace k5 := cellB hv k5
  replace k6 := cellB hv k6
  replace k7 := cellB hv k7
  replace A0 := cellB hv A0
  replace A1 := cellB hv A1
  replace B0 := cellB hv B0
  replace B1 := cellB hv B1
  replace C0 := cellB hv C0
  replace C1 := cellB hv C1
  replace D0 := cellB hv D0
  replace D1 := cellB hv D1
  replace HU := Lib.hid (HU.out.below hv)
  replace HV := Lib.hid (HV.out.below hv)
  replace HB := Lib.hid (below_up HB.out hv (HBX.out _ HB.out))
  clear hv
  try go_wp2_with fail
  clear hHeld
  refine hK.out _ _ ?_ (fun hHeld => ?_)
  · try dsimp only
    go_keep
  clear hK K
  try simp only [Act.put, List.setIfInBounds_toArray, List.set_cons_zero, List.set_cons_succ]
  refine wpAnyH_take (i := 23) (v := ?_) (by (simp only [List.getElem?_toArray, List.getElem?_cons_succ, List.getElem?_cons_zero]; rfl)) (by kernel_rfl) (by kernel_rfl) (by kernel_rfl) (by intro _ _ _ h; exact h) (Or.inl ⟨by kernel_rfl, ?_⟩) hHeld ?_
  case refine_2 =>
    intro w hSw
    try dsimp only at hSw
    go_simp
    try with_reducible rfl
  try simp only [Act.put, List.setIfInBounds_toArray, List.set_cons_zero, List.set_cons_succ]
  refine wpAnyH_take (i := 24) (v := ?_) (by (simp only [List.getElem?_toArray, List.getElem?_cons_succ, List.getElem?_cons_zero]; rfl)) (by kernel_rfl) (by kernel_rfl) (by kernel_rfl) (by intro _ _ _ h; exact h) (Or.inl ⟨by kernel_rfl, ?_⟩) hHeld ?_
  case refine_2 =>
    intro w hSw
    try dsimp only at hSw
    go_simp
    try with_reducible rfl
  try simp only [Act.put, List.setIfInBounds_toArray, List.set_cons_zero, List.set_cons_succ]
  refine wpAnyH_take (i := 25) (v := ?_) (by (simp only [List.getElem?_toArray, List.getElem?_cons_succ, List.getElem?_cons_zero]; rfl)) (by kernel_rfl) (by kernel_rfl) (by kernel_rfl) (by intro _ _ _ h; exact h) (Or.inl ⟨by kernel_rfl, ?_⟩) hHeld ?_
  case refine_2 =>
    intro w hSw
    try dsimp only at hSw
    go_simp
    try with_reducible rfl
  try simp only [Act.put, List.setIfInBounds_toArray, List.set_cons_zero, List.set_cons_succ]
  refine wpAnyH_take (i := 26) (v := ?_) (by (simp only [List.getElem?_toArray, List.getElem?_cons_succ, List.getElem?_cons_zero]; rfl)) (by kernel_rfl) (by kernel_rfl) (by kernel_rfl) (by intro _ _ _ h; exact h) (Or.inl ⟨by kernel_rfl, ?_⟩) hHeld ?_
  case refine_2 =>
    intro w hSw
    try dsimp only at hSw
    go_simp
    try with_reducible rfl
  try simp only [Act.put, List.setIfInBounds_toArray, List.set_cons_zero, List.set_cons_succ]
  refine wpAnyH_take (i := 28) (v := ?_) (by (simp only [List.getElem?_toArray, List.getElem?_cons_succ, List.getElem?_cons_zero]; rfl)) (by kernel_rfl) (by kernel_rfl) (by kernel_rfl) (by intro _ _ _ h; exact h) (Or.inl ⟨by kernel_rfl, ?_⟩) hHeld ?_
  case refine_2 =>
    intro w hSw
    try dsimp only at hSw
    go_simp
    try with_reducible rfl
  try simp only [Act.put, List.setIfInBounds_toArray, List.set_cons_zero, List.set_cons_succ]
  refine wpAnyH_take (i := 30) (v := ?_) (by (simp only [List.getElem?_toArray, List.getElem?_cons_succ, List.getElem?_cons_zero]; rfl)) (by kernel_rfl) (by kernel_rfl) (by kernel_rfl) (by intro _ _ _ h; exact h) (Or.inl ⟨by kernel_rfl, ?_⟩) hHeld ?_
  case refine_2 =>
    intro w hSw
    try dsimp only at hSw
    go_simp
    try with_reducible rfl
  try simp only [Act.put, List.setIfInBounds_toArray, List.set_cons_zero, List.set_cons_succ]
  refine wpAnyH_take (i := 33) (v := ?_) (by (simp only [List.getElem?_toArray, List.getElem?_cons_succ, List.getElem?_cons_zero]; rfl)) (by kernel_rfl) (by kernel_rfl) (by kernel_rfl) (by intro _ _ _ h; exact h) (Or.inl ⟨by kernel_rfl, ?_⟩) hHeld ?_
  case refine_2 =>
    intro w hSw
    try dsimp only at hSw
    go_simp
    try with_reducible rfl
  try simp only [Act.put, List.setIfInBounds_toArray, List.set_cons_zero, List.set_cons_succ]
  refine wpAnyH_take (i := 27) (v := ?_) (by (simp only [List.getElem?_toArray, List.getElem?_cons_succ, List.getElem?_cons_zero]; rfl)) (by kernel_rfl) (by kernel_rfl) (by kernel_rfl) (by intro _ _ _ h; exact h) (Or.inl ⟨by kernel_rfl, ?_⟩) hHeld ?_
  case refine_2 =>
    intro w hSw
    try dsimp only at hSw
    go_simp
    try with_reducible rfl
  try simp only [Act.put, List.setIfInBounds_toArray, List.set_cons_zero, List.set_cons_succ]
  refine wpAnyH_take (i := 29) (v := ?_) (by (simp only [List.getElem?_toArray, List.getElem?_cons_succ, List.getElem?_cons_zero]; rfl)) (by kernel_rfl) (by kernel_rfl) (by kernel_rfl) (by intro _ _ _ h; exact h) (Or.inl ⟨by kernel_rfl, ?_⟩) hHeld ?_
  case refine_2 =>
    intro w hSw
    try dsimp only at hSw
    go_simp
    try with_reducible rfl
  try simp only [Act.put, List.setIfInBounds_toArray, List.set_cons_zero, List.set_cons_succ]
  refine wpAnyH_take (i := 31) (v := ?_) (by (simp only [List.getElem?_toArray, List.getElem?_cons_succ, List.getElem?_cons_zero]; rfl)) (by kernel_rfl) (by kernel_rfl) (by kernel_rfl) (by intro _ _ _ h; exact h) (Or.inl ⟨by kernel_rfl, ?_⟩) hHeld ?_
  case refine_2 =>
    intro w hSw
    try dsimp only at hSw
    go_simp
    try with_reducible rfl
  try simp only [Act.put, List.setIfInBounds_toArray, List.set_cons_zero, List.set_cons_succ]
  refine wpAnyH_ready (rs := [32]) (by kernel_rfl) (by simp) ?_
  refine AllReadyH.cons (by (simp only [List.getElem?_toArray, List.getElem?_cons_succ, List.getElem?_cons_zero]; rfl)) (fun K hK => ?_) AllReadyH.nil
  go_simp
  refine (CN2.out _).mono ?_
  rintro e vv ⟨rfl, hv⟩
  replace k0 := cellB hv k0
  replace k1 := cellB hv k1
  replace k3 := cellB hv k3
  replace k4 := cellB hv k4
  replace k5 := cellB hv k5
  replace k6 := cellB hv k6
  replace k7 := cellB hv k7
  replace A0 := cellB hv A0
  replace A1 := cellB hv A1
  replace B0 := cellB hv B0
  replace B1 := cellB hv B1
  replace C0 := cellB hv C0
  replace C1 := cellB hv C1
  replace D0 := cellB hv D0
  replace D1 := cellB hv D1
  replace HU := Lib.hid (HU.out.below hv)
  replace HV := Lib.hid (HV.out.below hv)
  replace HB := Lib.hid (below_up HB.out hv (HBX.out _ HB.out))
  clear hv
  try go_wp2_with fail
  clear hHeld
  refine hK.out _ _ ?_ (fun hHeld => ?_)
  · try dsimp only
    go_keep
  clear hK K
  try simp only [Act.put, List.setIfInBounds_toArray, List.set_cons_zero, List.set_cons_succ]
  refine wpAnyH_take (i := 34) (v := ?_) (by (simp only [List.getElem?_toArray, List.getElem?_cons_succ, List.getElem?_cons_zero]; rfl)) (by kernel_rfl) (by kernel_rfl) (by kernel_rfl) (by intro _ _ _ h; exact h) (Or.inl ⟨by kernel_rfl, ?_⟩) hHeld ?_
  case refine_2 =>
    intro w hSw
    try dsimp only at hSw
    go_simp
    try with_reducible rfl
  try simp only [Act.put, List.setIfInBounds_toArray, List.set_cons_zero, List.set_cons_succ]
  refine wpAnyH_take (i := 35) (v := ?_) (by (simp only [List.getElem?_toArray, List.getElem?_cons_succ, List.getElem?_cons_zero]; rfl)) (by kernel_rfl) (by kernel_rfl) (by kernel_rfl) (by intro _ _ _ h; exact h) (Or.inl ⟨by kernel_rfl, ?_⟩) hHeld ?_
  case refine_2 =>
    intro w hSw
    try dsimp only at hSw
    go_simp
    try with_reducible rfl
  try simp only [Act.put, List.setIfInBounds_toArray, List.set_cons_zero, List.set_cons_succ]
  refine wpAnyH_done (by kernel_rfl) ?_ _
  clear ns A0 A1 B0 B1 C0 C1 D0 D1
  go_wp2_with fail
  refine (CO.out _).mono ?_
  rintro e v5 ⟨rfl, hv⟩
  replace k0 := cellB hv k0
  replace k1 := cellB hv k1
  replace k3 := cellB hv k3
  replace k4 := cellB hv k4
  replace k5 := cellB hv k5
  replace k6 := cellB hv k6
  replace k7 := cellB hv k7
  replace HU := Lib.hid (HU.out.below hv)
  replace HV := Lib.hid (HV.out.below hv)
  replace HB := Lib.hid (below_up HB.out hv (HBX.out _ HB.out))
  clear hv
  have hv := below_box v5 (Obj.cells #[Value.int IntKind.i64 o.1, Value.int IntKind.i64 o.2] 33)
  replace k0 := cellB hv k0
  replace k1 := cellB hv k1
  replace k3 := cellB hv k3
  replace k4 := cellB hv k4
  replace k5 := cellB hv k5
  replace k6 := cellB hv k6
  replace k7 := cellB hv k7
  replace HU := Lib.hid (HU.out.below hv)
  replace HV := Lib.hid (HV.out.below hv)
  replace HB := Lib.hid (below_up HB.out hv (HBX.out _ HB.out))
  clear hv
  have O0 := (own2_new v5 o.1 o.2 33).c0
  have O1 := (own2_new v5 o.1 o.2 33).c1
  go_wp2_with fail
  obtain ⟨W, hW⟩ : ∃ W, v5.alloc (Obj.cells #[Value.int IntKind.i64 o.1, Value.int IntKind.i64 o.2] 33) = W := ⟨_, rfl⟩
  rw [hW] at k0 k1 k3 k4 k5 k6 k7 O0 O1 HU HV HB ⊢
  clear hW
  obtain ⟨b5, hbl⟩ : ∃ bl, v5.heap.size = bl := ⟨_, rfl⟩
  rw [hbl] at O0 O1 ⊢
  clear hbl
  clear pk0 pk1 pk3 pk4 pk5 pk6 pk7 pA0 pA1 pB0 pB1 pC0 pC1 pD0 pD1
  have pk0 := k0
  have pk1 := k1
  have pk3 := k3
  have pk4 := k4
  have pk5 := k5
  have pk6 := k6
  have pk7 := k7
  have pO0 := O0
  have pO1 := O1
  have hv := below_drewN W.heap.size W 1
  replace k0 := cellB hv k0
  replace k1 := cellB hv k1
  replace k3 := cellB hv k3
  replace k4 := cellB hv k4
  replace k5 := cellB hv k5
  replace k6 := cellB hv k6
  replace k7 := cellB hv k7
  replace O0 := cellB hv O0
  replace O1 := cellB hv O1
  replace HU := Lib.hid (HU.out.below hv)
  replace HV := Lib.hid (HV.out.below hv)
  replace HB := Lib.hid (below_up HB.out hv (HBX.out _ HB.out))
  clear hv
  refine wp_region_held_drew (S := (fun w' => w'.cell? ⟨bx, 0, none⟩ = some (str a) ∧ w'.cell? ⟨bx, 1, none⟩ = some (str b) ∧ w'.cell? ⟨bx, 3, none⟩ = some (.slice LA L.length cap) ∧ w'.cell? ⟨bx, 4, none⟩ = some (.slice MA M.length cap2) ∧ w'.cell? ⟨bx, 5, none⟩ = some (.int .i64 x) ∧ w'.cell? ⟨bx, 6, none⟩ = some (.int .i64 y) ∧ w'.cell? ⟨bx, 7, none⟩ = some (.int .i64 t) ∧ w'.cell? ⟨b5, 0, none⟩ = some (.int .i64 o.1) ∧ w'.cell? ⟨b5, 1, none⟩ = some (.int .i64 o.2))) (by kernel_rfl) ?_ (fun hHeld => ?_)
  · try dsimp only
    go_keep
  refine wpAnyH_take (i := 0) (v := ?_) (by (simp only [List.getElem?_toArray, List.getElem?_cons_zero]; rfl)) (by kernel_rfl) (by kernel_rfl) (by kernel_rfl) (by intro _ _ _ h; exact h) (Or.inl ⟨by kernel_rfl, ?_⟩) hHeld ?_
  case refine_2 =>
    intro w hSw
    try dsimp only at hSw
    go_simp
    try with_reducible rfl
  try simp only [Act.put, List.setIfInBounds_toArray, List.set_cons_zero, List.set_cons_succ]
  refine wpAnyH_take (i := 1) (v := ?_) (by (simp only [List.getElem?_toArray, List.getElem?_cons_succ, List.getElem?_cons_zero]; rfl)) (by kernel_rfl) (by kernel_rfl) (by kernel_rfl) (by intro _ _ _ h; exact h) (Or.inl ⟨by kernel_rfl, ?_⟩) hHeld ?_
  case refine_2 =>
    intro w hSw
    try dsimp only at hSw
    go_simp
    try with_reducible rfl
  try simp only [Act.put, List.setIfInBounds_toArray, List.set_cons_zero, List.set_cons_succ]
  refine wpAnyH_take (i := 2) (v := ?_) (by (simp only [List.getElem?_toArray, List.getElem?_cons_succ, List.getElem?_cons_zero]; rfl)) (by kernel_rfl) (by kernel_rfl) (by kernel_rfl) (by intro _ _ _ h; exact h) (Or.inl ⟨by kernel_rfl, ?_⟩) hHeld ?_
  case refine_2 =>
    intro w hSw
    try dsimp only at hSw
    go_simp
    try with_reducible rfl
  try simp only [Act.put, List.setIfInBounds_toArray, List.set_cons_zero, List.set_cons_succ]
  refine wpAnyH_take (i := 4) (v := ?_) (by (simp only [List.getElem?_toArray, List.getElem?_cons_succ, List.getElem?_cons_zero]; rfl)) (by kernel_rfl) (by kernel_rfl) (by kernel_rfl) (by intro _ _ _ h; exact h) (Or.inl ⟨by kernel_rfl, ?_⟩) hHeld ?_
  case refine_2 =>
    intro w hSw
    try dsimp only at hSw
    go_simp
    try with_reducible rfl
  try simp only [Act.put, List.setIfInBounds_toArray, List.set_cons_zero, List.set_cons_succ]
  refine wpAnyH_take (i := 7) (v := ?_) (by (simp only [List.getElem?_toArray, List.getElem?_cons_succ, List.getElem?_cons_zero]; rfl)) (by kernel_rfl) (by kernel_rfl) (by kernel_rfl) (by intro _ _ _ h; exact h) (Or.inl ⟨by kernel_rfl, ?_⟩) hHeld ?_
  case refine_2 =>
    intro w hSw
    try dsimp only at hSw
    go_simp
    try with_reducible rfl
  try simp only [Act.put, List.setIfInBounds_toArray, List.set_cons_zero, List.set_cons_succ]
  refine wpAnyH_take (i := 3) (v := ?_) (by (simp only [List.getElem?_toArray, List.getElem?_cons_succ, List.getElem?_cons_zero]; rfl)) (by kernel_rfl) (by kernel_rfl) (by kernel_rfl) (by intro _ _ _ h; exact h) (Or.inl ⟨by kernel_rfl, ?_⟩) hHeld ?_
  case refine_2 =>
    intro w hSw
    try dsimp only at hSw
    go_simp
    try with_reducible rfl
  try simp only [Act.put, List.setIfInBounds_toArray, List.set_cons_zero, List.set_cons_succ]
  refine wpAnyH_take (i := 5) (v := ?_) (by (simp only [List.getElem?_toArray, List.getElem?_cons_succ, List.getElem?_cons_zero]; rfl)) (by kernel_rfl) (by kernel_rfl) (by kernel_rfl) (by intro _ _ _ h; exact h) (Or.inl ⟨by kernel_rfl, ?_⟩) hHeld ?_
  case refine_2 =>
    intro w hSw
    try dsimp only at hSw
    go_simp
    try with_reducible rfl
  try simp only [Act.put, List.setIfInBounds_toArray, List.set_cons_zero, List.set_cons_succ]
  refine wpAnyH_ready (rs := [6]) (by kernel_rfl) (by simp) ?_
  refine AllReadyH.cons (by (simp only [List.getElem?_toArray, List.getElem?_cons_succ, List.getElem?_cons_zero]; rfl)) (fun K hK => ?_) AllReadyH.nil
  go_simp
  refine (CA3.out _).mono ?_
  rintro e vv ⟨rfl, hv⟩
  replace k0 := cellB hv k0
  replace k1 := cellB hv k1
  replace k3 := cellB hv k3
  replace k4 := cellB hv k4
  replace k5 := cellB hv k5
  replace k6 := cellB hv k6
  replace k7 := cellB hv k7
  replace O0 := cellB hv O0
  replace O1 := cellB hv O1
  replace HU := Lib.hid (HU.out.below hv)
  replace HV := Lib.hid (HV.out.below hv)
  replace HB := Lib.hid (below_up HB.out hv (HBX.out _ HB.out))
  clear hv
  try go_wp2_with fail
  clear hHeld
  refine hK.out _ _ ?_ (fun hHeld => ?_)
  · try dsimp only
    go_keep
  clear hK K
  try simp only [Act.put, List.setIfInBounds_toArray, List.set_cons_zero, List.set_cons_succ]
  refine wpAnyH_take (i := 8) (v := ?_) (by (simp only [List.getElem?_toArray, List.getElem?_cons_succ, List.getElem?_cons_zero]; rfl)) (by kernel_rfl) (by kernel_rfl) (by kernel_rfl) (by intro _ _ _ h; exact h) (Or.inl ⟨by kernel_rfl, ?_⟩) hHeld ?_
  case refine_2 =>
    intro w hSw
    try dsimp only at hSw
    go_simp
    try with_reducible rfl
  try simp only [Act.put, List.setIfInBounds_toArray, List.set_cons_zero, List.set_cons_succ]
  refine wpAnyH_take (i := 9) (v := ?_) (by (simp only [List.getElem?_toArray, List.getElem?_cons_succ, List.getElem?_cons_zero]; rfl)) (by kernel_rfl) (by kernel_rfl) (by kernel_rfl) (by intro _ _ _ h; exact h) (Or.inl ⟨by kernel_rfl, ?_⟩) hHeld ?_
  case refine_2 =>
    intro w hSw
    try dsimp only at hSw
    go_simp
    try with_reducible rfl
  try simp only [Act.put, List.setIfInBounds_toArray, List.set_cons_zero, List.set_cons_succ]
  refine wpAnyH_take (i := 10) (v := ?_) (by (simp only [List.getElem?_toArray, List.getElem?_cons_succ, List.getElem?_cons_zero]; rfl)) (by kernel_rfl) (by kernel_rfl) (by kernel_rfl) (by intro _ _ _ h; exact h) (Or.inl ⟨by kernel_rfl, ?_⟩) hHeld ?_
  case refine_2 =>
    intro w hSw
    try dsimp only at hSw
    go_simp
    try with_reducible rfl
  try simp only [Act.put, List.setIfInBounds_toArray, List.set_cons_zero, List.set_cons_succ]
  refine wpAnyH_take (i := 11) (v := ?_) (by (simp only [List.getElem?_toArray, List.getElem?_cons_succ, List.getElem?_cons_zero]; rfl)) (by kernel_rfl) (by kernel_rfl) (by kernel_rfl) (by intro _ _ _ h; exact h) (Or.inl ⟨by kernel_rfl, ?_⟩) hHeld ?_
  case refine_2 =>
    intro w hSw
    try dsimp only at hSw
    go_simp
    try with_reducible rfl
  try simp only [Act.put, List.setIfInBounds_toArray, List.set_cons_zero, List.set_cons_succ]
  refine wpAnyH_take (i := 13) (v := ?_) (by (simp only [List.getElem?_toArray, List.getElem?_cons_succ, List.getElem?_cons_zero]; rfl)) (by kernel_rfl) (by kernel_rfl) (by kernel_rfl) (by intro _ _ _ h; exact h) (Or.inl ⟨by kernel_rfl, ?_⟩) hHeld ?_
  case refine_2 =>
    intro w hSw
    try dsimp only at hSw
    go_simp
    try with_reducible rfl
  try simp only [Act.put, List.setIfInBounds_toArray, List.set_cons_zero, List.set_cons_succ]
  refine wpAnyH_take (i := 16) (v := ?_) (by (simp only [List.getElem?_toArray, List.getElem?_cons_succ, List.getElem?_cons_zero]; rfl)) (by kernel_rfl) (by kernel_rfl) (by kernel_rfl) (by intro _ _ _ h; exact h) (Or.inl ⟨by kernel_rfl, ?_⟩) hHeld ?_
  case refine_2 =>
    intro w hSw
    try dsimp only at hSw
    go_simp
    try with_reducible rfl
  try simp only [Act.put, List.setIfInBounds_toArray, List.set_cons_zero, List.set_cons_succ]
  refine wpAnyH_take (i := 12) (v := ?_) (by (simp only [List.getElem?_toArray, List.getElem?_cons_succ, List.getElem?_cons_zero]; rfl)) (by kernel_rfl) (by kernel_rfl) (by kernel_rfl) (by intro _ _ _ h; exact h) (Or.inl ⟨by kernel_rfl, ?_⟩) hHeld ?_
  case refine_2 =>
    intro w hSw
    try dsimp only at hSw
    go_simp
    try with_reducible rfl
  try simp only [Act.put, List.setIfInBounds_toArray, List.set_cons_zero, List.set_cons_succ]
  refine wpAnyH_take (i := 14) (v := ?_) (by (simp only [List.getElem?_toArray, List.getElem?_cons_succ, List.getElem?_cons_zero]; rfl)) (by kernel_rfl) (by kernel_rfl) (by kernel_rfl) (by intro _ _ _ h; exact h) (Or.inl ⟨by kernel_rfl, ?_⟩) hHeld ?_
  case refine_2 =>
    intro w hSw
    try dsimp only at hSw
    go_simp
    try with_reducible rfl
  try simp only [Act.put, List.setIfInBounds_toArray, List.set_cons_zero, List.set_cons_succ]
  refine wpAnyH_ready (rs := [15]) (by kernel_rfl) (by simp) ?_
  refine AllReadyH.cons (by (simp only [List.getElem?_toArray, List.getElem?_cons_succ, List.getElem?_cons_zero]; rfl)) (fun K hK => ?_) AllReadyH.nil
  go_simp
  refine (CJ3.out _ HU.out).mono ?_
  rintro e vv ⟨rfl, hv⟩
  replace k0 := cellB hv k0
  replace k1 := cellB hv k1
  replace k3 := cellB hv k3
  replace k4 := cellB hv k4
  replace k5 := cellB hv k5
  replace k6 := cellB hv k6
  replace k7 := cellB hv k7
  replace O0 := cellB hv O0
  replace O1 := cellB hv O1
  replace HU := Lib.hid (HU.out.below hv)
  replace HV := Lib.hid (HV.out.below hv)
  replace HB := Lib.hid (below_up HB.out hv (HBX.out _ HB.out))
  clear hv
  try go_wp2_with fail
  clear hHeld
  refine hK.out _ _ ?_ (fun hHeld => ?_)
  · try dsimp only
    go_keep
  clear hK K
  try simp only [Act.put, List.setIfInBounds_toArray, List.set_cons_zero, List.set_cons_succ]
  refine wpAnyH_take (i := 17) (v := ?_) (by (simp only [List.getElem?_toArray, List.getElem?_cons_succ, List.getElem?_cons_zero]; rfl)) (by kernel_rfl) (by kernel_rfl) (by kernel_rfl) (by intro _ _ _ h; exact h) (Or.inl ⟨by kernel_rfl, ?_⟩) hHeld ?_
  case refine_2 =>
    intro w hSw
    try dsimp only at hSw
    go_simp
    try with_reducible rfl
  try simp only [Act.put, List.setIfInBounds_toArray, List.set_cons_zero, List.set_cons_succ]
  refine wpAnyH_take (i := 18) (v := ?_) (by (simp only [List.getElem?_toArray, List.getElem?_cons_succ, List.getElem?_cons_zero]; rfl)) (by kernel_rfl) (by kernel_rfl) (by kernel_rfl) (by intro _ _ _ h; exact h) (Or.inl ⟨by kernel_rfl, ?_⟩) hHeld ?_
  case refine_2 =>
    intro w hSw
    try dsimp only at hSw
    go_simp
    try with_reducible rfl
  try simp only [Act.put, List.setIfInBounds_toArray, List.set_cons_zero, List.set_cons_succ]
  refine wpAnyH_take (i := 19) (v := ?_) (by (simp only [List.getElem?_toArray, List.getElem?_cons_succ, List.getElem?_cons_zero]; rfl)) (by kernel_rfl) (by kernel_rfl) (by kernel_rfl) (by intro _ _ _ h; exact h) (Or.inl ⟨by kernel_rfl, ?_⟩) hHeld ?_
  case refine_2 =>
    intro w hSw
    try dsimp only at hSw
    go_simp
    try with_reducible rfl
  try simp only [Act.put, List.setIfInBounds_toArray, List.set_cons_zero, List.set_cons_succ]
  refine wpAnyH_take (i := 20) (v := ?_) (by (simp only [List.getElem?_toArray, List.getElem?_cons_succ, List.getElem?_cons_zero]; rfl)) (by kernel_rfl) (by kernel_rfl) (by kernel_rfl) (by intro _ _ _ h; exact h) (Or.inl ⟨by kernel_rfl, ?_⟩) hHeld ?_
  case refine_2 =>
    intro w hSw
    try dsimp only at hSw
    go_simp
    try with_reducible rfl
  try simp only [Act.put, List.setIfInBounds_toArray, List.set_cons_zero, List.set_cons_succ]
  refine wpAnyH_take (i := 21) (v := ?_) (by (simp only [List.getElem?_toArray, List.getElem?_cons_succ, List.getElem?_cons_zero]; rfl)) (by kernel_rfl) (by kernel_rfl) (by kernel_rfl) (by intro _ _ _ h; exact h) (Or.inl ⟨by kernel_rfl, ?_⟩) hHeld ?_
  case refine_2 =>
    intro w hSw
    try dsimp only at hSw
    go_simp
    try with_reducible rfl
  try simp only [Act.put, List.setIfInBounds_toArray, List.set_cons_zero, List.set_cons_succ]
  refine wpAnyH_take (i := 22) (v := ?_) (by (simp only [List.getElem?_toArray, List.getElem?_cons_succ, List.getElem?_cons_zero]; rfl)) (by kernel_rfl) (by kernel_rfl) (by kernel_rfl) (by intro _ _ _ h; exact h) (Or.inl ⟨by kernel_rfl, ?_⟩) hHeld ?_
  case refine_2 =>
    intro w hSw
    try dsimp only at hSw
    go_simp
    try with_reducible rfl
  try simp only [Act.put, List.setIfInBounds_toArray, List.set_cons_zero, List.set_cons_succ]
  refine wpAnyH_take (i := 23) (v := ?_) (by (simp only [List.getElem?_toArray, List.getElem?_cons_succ, List.getElem?_cons_zero]; rfl)) (by kernel_rfl) (by kernel_rfl) (by kernel_rfl) (by intro _ _ _ h; exact h) (Or.inl ⟨by kernel_rfl, ?_⟩) hHeld ?_
  case refine_2 =>
    intro w hSw
    try dsimp only at hSw
    go_simp
    try with_reducible rfl
  try simp only [Act.put, List.setIfInBounds_toArray, List.set_cons_zero, List.set_cons_succ]
  refine wpAnyH_take (i := 24) (v := ?_) (by (simp only [List.getElem?_toArray, List.getElem?_cons_succ, List.getElem?_cons_zero]; rfl)) (by kernel_rfl) (by kernel_rfl) (by kernel_rfl) (by intro _ _ _ h; exact h) (Or.inl ⟨by kernel_rfl, ?_⟩) hHeld ?_
  case refine_2 =>
    intro w hSw
    try dsimp only at hSw
    go_simp
    try with_reducible rfl
  try simp only [Act.put, List.setIfInBounds_toArray, List.set_cons_zero, List.set_cons_succ]
  refine wpAnyH_take (i := 25) (v := undef) (by (simp only [List.getElem?_toArray, List.getElem?_cons_succ, List.getElem?_cons_zero]; rfl)) (by kernel_rfl) (by kernel_rfl) (by kernel_rfl) (by intro _ _ _ h; exact h) (Or.inr ⟨by kernel_rfl, rfl⟩) hHeld ?_
  try simp only [Act.put, List.setIfInBounds_toArray, List.set_cons_zero, List.set_cons_succ]
  refine wpAnyH_take (i := 27) (v := undef) (by (simp only [List.getElem?_toArray, List.getElem?_cons_succ, List.getElem?_cons_zero]; rfl)) (by kernel_rfl) (by kernel_rfl) (by kernel_rfl) (by intro _ _ _ h; exact h) (Or.inr ⟨by kernel_rfl, rfl⟩) hHeld ?_
  try simp only [Act.put, List.setIfInBounds_toArray, List.set_cons_zero, List.set_cons_succ]
  refine wpAnyH_take (i := 30) (v := undef) (by (simp only [List.getElem?_toArray, List.getElem?_cons_succ, List.getElem?_cons_zero]; rfl)) (by kernel_rfl) (by kernel_rfl) (by kernel_rfl) (by intro _ _ _ h; exact h) (Or.inr ⟨by kernel_rfl, rfl⟩) hHeld ?_
  try simp only [Act.put, List.setIfInBounds_toArray, List.set_cons_zero, List.set_cons_succ]
  refine wpAnyH_take (i := 26) (v := undef) (by (simp only [List.getElem?_toArray, List.getElem?_cons_succ, List.getElem?_cons_zero]; rfl)) (by kernel_rfl) (by kernel_rfl) (by kernel_rfl) (by intro _ _ _ h; exact h) (Or.inr ⟨by kernel_rfl, rfl⟩) hHeld ?_
  try simp only [Act.put, List.setIfInBounds_toArray, List.set_cons_zero, List.set_cons_succ]
  refine wpAnyH_take (i := 28) (v := undef) (by (simp only [List.getElem?_toArray, List.getElem?_cons_succ, List.getElem?_cons_zero]; rfl)) (by kernel_rfl) (by kernel_rfl) (by kernel_rfl) (by intro _ _ _ h; exact h) (Or.inr ⟨by kernel_rfl, rfl⟩) hHeld ?_
  try simp only [Act.put, List.setIfInBounds_toArray, List.set_cons_zero, List.set_cons_succ]
  refine wpAnyH_take (i := 29) (v := undef) (by (simp only [List.getElem?_toArray, List.getElem?_cons_succ, List.getElem?_cons_zero]; rfl)) (by kernel_rfl) (by kernel_rfl) (by kernel_rfl) (by intro _ _ _ h; exact h) (Or.inr ⟨by kernel_rfl, rfl⟩) hHeld ?_
  try simp only [Act.put, List.setIfInBounds_toArray, List.set_cons_zero, List.set_cons_succ]
  refine wpAnyH_take (i := 31) (v := undef) (by (simp only [List.getElem?_toArray, List.getElem?_cons_succ, List.getElem?_cons_zero]; rfl)) (by kernel_rfl) (by kernel_rfl) (by kernel_rfl) (by intro _ _ _ h; exact h) (Or.inr ⟨by kernel_rfl, rfl⟩) hHeld ?_
  try simp only [Act.put, List.setIfInBounds_toArray, List.set_cons_zero, List.set_cons_succ]
  refine wpAnyH_take (i := 32) (v := ?_) (by (simp only [List.getElem?_toArray, List.getElem?_cons_succ, List.getElem?_cons_zero]; rfl)) (by kernel_rfl) (by kernel_rfl) (by kernel_rfl) (by intro _ _ _ h; exact h) (Or.inl ⟨by kernel_rfl, ?_⟩) hHeld ?_
  case refine_2 =>
    intro w hSw
    try dsimp only at hSw
    go_simp
    try with_reducible rfl
  try simp only [Act.put, List.setIfInBounds_toArray, List.set_cons_zero, List.set_cons_succ]
  refine wpAnyH_take (i := 33) (v := ?_) (by (simp only [List.getElem?_toArray, List.getElem?_cons_succ, List.getElem?_cons_zero]; rfl)) (by kernel_rfl) (by kernel_rfl) (by kernel_rfl) (by intro _ _ _ h; exact h) (Or.inl ⟨by kernel_rfl, ?_⟩) hHeld ?_
  case refine_2 =>
    intro w hSw
    try dsimp only at hSw
    go_simp
    try with_reducible rfl
  try simp only [Act.put, List.setIfInBounds_toArray, List.set_cons_zero, List.set_cons_succ]
  refine wpAnyH_take (i := 34) (v := ?_) (by (simp only [List.getElem?_toArray, List.getElem?_cons_succ, List.getElem?_cons_zero]; rfl)) (by kernel_rfl) (by kernel_rfl) (by kernel_rfl) (by intro _ _ _ h; exact h) (Or.inl ⟨by kernel_rfl, ?_⟩) hHeld ?_
  case refine_2 =>
    intro w hSw
    try dsimp only at hSw
    go_simp
    try with_reducible rfl
  try simp only [Act.put, List.setIfInBounds_toArray, List.set_cons_zero, List.set_cons_succ]
  refine wpAnyH_take (i := 35) (v := ?_) (by (simp only [List.getElem?_toArray, List.getElem?_cons_succ, List.getElem?_cons_zero]; rfl)) (by kernel_rfl) (by kernel_rfl) (by kernel_rfl) (by intro _ _ _ h; exact h) (Or.inl ⟨by kernel_rfl, ?_⟩) hHeld ?_
  case refine_2 =>
    intro w hSw
    try dsimp only at hSw
    go_simp
    try with_reducible rfl
  try simp only [Act.put, List.setIfInBounds_toArray, List.set_cons_zero, List.set_cons_succ]
  refine wpAnyH_take (i := 37) (v := ?_) (by (simp only [List.getElem?_toArray, List.getElem?_cons_succ, List.getElem?_cons_zero]; rfl)) (by kernel_rfl) (by kernel_rfl) (by kernel_rfl) (by intro _ _ _ h; exact h) (Or.inl ⟨by kernel_rfl, ?_⟩) hHeld ?_
  case refine_2 =>
    intro w hSw
    try dsimp only at hSw
    go_simp
    try with_reducible rfl
  try simp only [Act.put, List.setIfInBounds_toArray, List.set_cons_zero, List.set_cons_succ]
  refine wpAnyH_take (i := 39) (v := ?_) (by (simp only [List.getElem?_toArray, List.getElem?_cons_succ, List.getElem?_cons_zero]; rfl)) (by kernel_rfl) (by kernel_rfl) (by kernel_rfl) (by intro _ _ _ h; exact h) (Or.inl ⟨by kernel_rfl, ?_⟩) hHeld ?_
  case refine_2 =>
    intro w hSw
    try dsimp only at hSw
    go_simp
    try with_reducible rfl
  try simp only [Act.put, List.setIfInBounds_toArray, List.set_cons_zero, List.set_cons_succ]
  refine wpAnyH_take (i := 42) (v := ?_) (by (simp only [List.getElem?_toArray, List.getElem?_cons_succ, List.getElem?_cons_zero]; rfl)) (by kernel_rfl) (by kernel_rfl) (by kernel_rfl) (by intro _ _ _ h; exact h) (Or.inl ⟨by kernel_rfl, ?_⟩) hHeld ?_
  case refine_2 =>
    intro w hSw
    try dsimp only at hSw
    go_simp
    try with_reducible rfl
  try simp only [Act.put, List.setIfInBounds_toArray, List.set_cons_zero, List.set_cons_succ]
  refine wpAnyH_take (i := 44) (v := ?_) (by (simp only [List.getElem?_toArray, List.getElem?_cons_succ, List.getElem?_cons_zero]; rfl)) (by kernel_rfl) (by kernel_rfl) (by kernel_rfl) (by intro _ _ _ h; exact h) (Or.inl ⟨by kernel_rfl, ?_⟩) hHeld ?_
  case refine_2 =>
    intro w hSw
    try dsimp only at hSw
    go_simp
    try with_reducible rfl
  try simp only [Act.put, List.setIfInBounds_toArray, List.set_cons_zero, List.set_cons_succ]
  refine wpAnyH_take (i := 36) (v := ?_) (by (simp only [List.getElem?_toArray, List.getElem?_cons_succ, List.getElem?_cons_zero]; rfl)) (by kernel_rfl) (by kernel_rfl) (by kernel_rfl) (by intro _ _ _ h; exact h) (Or.inl ⟨by kernel_rfl, ?_⟩) hHeld ?_
  case refine_2 =>
    intro w hSw
    try dsimp only at hSw
    go_simp
    try with_reducible rfl
  try simp only [Act.put, List.setIfInBounds_toArray, List.set_cons_zero, List.set_cons_succ]
  refine wpAnyH_take (i := 38) (v := ?_) (by (simp only [List.getElem?_toArray, List.getElem?_cons_succ, List.getElem?_cons_zero]; rfl)) (by kernel_rfl) (by kernel_rfl) (by kernel_rfl) (by intro _ _ _ h; exact h) (Or.inl ⟨by kernel_rfl, ?_⟩) hHeld ?_
  case refine_2 =>
    intro w hSw
    try dsimp only at hSw
    go_simp
    try with_reducible rfl
  try simp only [Act.put, List.setIfInBounds_toArray, List.set_cons_zero, List.set_cons_succ]
  refine wpAnyH_take (i := 40) (v := ?_) (by (simp only [List.getElem?_toArray, List.getElem?_cons_succ, List.getElem?_cons_zero]; rfl)) (by kernel_rfl) (by kernel_rfl) (by kernel_rfl) (by intro _ _ _ h; exact h) (Or.inl ⟨by kernel_rfl, ?_⟩) hHeld ?_
  case refine_2 =>
    intro w hSw
    try dsimp only at hSw
    go_simp
    try with_reducible rfl
  try simp only [Act.put, List.setIfInBounds_toArray, List.set_cons_zero, List.set_cons_succ]
  refine wpAnyH_ready (rs := [41]) (by kernel_rfl) (by simp) ?_
  refine AllReadyH.cons (by (simp only [List.getElem?_toArray, List.getElem?_cons_succ, List.getElem?_cons_zero]; rfl)) (fun K hK => ?_) AllReadyH.nil
  go_simp
  refine (CN3.out _).mono ?_
  rintro e vv ⟨rfl, hv⟩
  replace k0 := cellB hv k0
  replace k1 := cellB hv k1
  replace k3 := cellB hv k3
  replace k4 := cellB hv k4
  replace k5 := cellB hv k5
  replace k6 := cellB hv k6
  replace k7 := cellB hv k7
  replace O0 := cellB hv O0
  replace O1 := cellB hv O1
  replace HU := Lib.hid (HU.out.below hv)
  replace HV := Lib.hid (HV.out.below hv)
  replace HB := Lib.hid (below_up HB.out hv (HBX.out _ HB.out))
  clear hv
  try go_wp2_with fail
  clear hHeld
  refine hK.out _ _ ?_ (fun hHeld => ?_)
  · try dsimp only
    go_keep
  clear hK K
  try simp only [Act.put, List.setIfInBounds_toArray, List.set_cons_zero, List.set_cons_succ]
  refine wpAnyH_take (i := 43) (v := ?_) (by (simp only [List.getElem?_toArray, List.getElem?_cons_succ, List.getElem?_cons_zero]; rfl)) (by kernel_rfl) (by kernel_rfl) (by kernel_rfl) (by intro _ _ _ h; exact h) (Or.inl ⟨by kernel_rfl, ?_⟩) hHeld ?_
  case refine_2 =>
    intro w hSw
    try dsimp only at hSw
    go_simp
    try with_reducible rfl
  try simp only [Act.put, List.setIfInBounds_toArray, List.set_cons_zero, List.set_cons_succ]
  refine wpAnyH_take (i := 45) (v := ?_) (by (simp only [List.getElem?_toArray, List.getElem?_cons_succ, List.getElem?_cons_zero]; rfl)) (by kernel_rfl) (by kernel_rfl) (by kernel_rfl) (by intro _ _ _ h; exact h) (Or.inl ⟨by kernel_rfl, ?_⟩) hHeld ?_
  case refine_2 =>
    intro w hSw
    try dsimp only at hSw
    go_simp
    try with_reducible rfl
  try simp only [Act.put, List.setIfInBounds_toArray, List.set_cons_zero, List.set_cons_succ]
  refine wpAnyH_take (i := 46) (v := ?_) (by (simp only [List.getElem?_toArray, List.getElem?_cons_succ, List.getElem?_cons_zero]; rfl)) (by kernel_rfl) (by kernel_rfl) (by kernel_rfl) (by intro _ _ _ h; exact h) (Or.inl ⟨by kernel_rfl, ?_⟩) hHeld ?_
  case refine_2 =>
    intro w hSw
    try dsimp only at hSw
    go_simp
    try with_reducible rfl
  try simp only [Act.put, List.setIfInBounds_toArray, List.set_cons_zero, List.set_cons_succ]
  refine wpAnyH_take (i := 47) (v := ?_) (by (simp only [List.getElem?_toArray, List.getElem?_cons_succ, List.getElem?_cons_zero]; rfl)) (by kernel_rfl) (by kernel_rfl) (by kernel_rfl) (by intro _ _ _ h; exact h) (Or.inl ⟨by kernel_rfl, ?_⟩) hHeld ?_
  case refine_2 =>
    intro w hSw
    try dsimp only at hSw
    go_simp
    try with_reducible rfl
  try simp only [Act.put, List.setIfInBounds_toArray, List.set_cons_zero, List.set_cons_succ]
  refine wpAnyH_done (by kernel_rfl) ?_ _
  go_wp2_with fail
  go_ret
  exact ⟨rfl, by rw [HE.out]; exact HB.out⟩

set_option maxRecDepth 100000 in
set_option maxHeartbeats 8000000 in
theorem sim_hi_s (a b c : List UInt8) (LA MA : Option Addr) (cap cap2 : Nat) (L M : List (List UInt8)) (x y t : Int) (r1 r2 r3 r4 r5 o : Int × Int)
    (HH : Hid ((shortB 300 [a, b, c] && fewB [L, M]) = true)) (la : a.length ≤ 300)
    (U1 : Hid (UnitR r1)) (U2 : Hid (UnitR r2)) (U3 : Hid (UnitR r3)) (U4 : Hid (UnitR r4))
    (CA : Hid (∀ W, Calls Tryd.prog 13 #[str a, str b] W fun e w' => e = .returned (rat r1) ∧ Below W.heap.size W w'))
    (CA2 : Hid (∀ W, Calls Tryd.prog 13 #[str b, str a] W fun e w' => e = .returned (rat r1) ∧ Below W.heap.size W w'))
    (CA3 : Hid (∀ W, Calls Tryd.prog 13 #[str a, str a] W fun e w' => e = .returned (rat o) ∧ Below W.heap.size W w'))
    (CJ : Hid (∀ W, Strs W (.slice LA L.length cap) L → Strs W (.slice MA M.length cap2) M → Calls Tryd.prog 14 #[.slice LA L.length cap, .slice MA M.length cap2] W fun e w' => e = .returned (rat r2) ∧ Below W.heap.size W w'))
    (CJ2 : Hid (∀ W, Strs W (.slice LA L.length cap) L → Strs W (.slice MA M.length cap2) M → Calls Tryd.prog 14 #[.slice MA M.length cap2, .slice LA L.length cap] W fun e w' => e = .returned (rat r2) ∧ Below W.heap.size W w'))
    (CJ3 : Hid (∀ W, Strs W (.slice LA L.length cap) L → Calls Tryd.prog 14 #[.slice LA L.length cap, .slice LA L.length cap] W fun e w' => e = .returned (rat o) ∧ Below W.heap.size W w'))
    (CR : Hid (∀ W, Calls Tryd.prog 15 #[str a, str b] W fun e w' => e = .returned (rat r3) ∧ Below W.heap.size W w'))
    (CR2 : Hid (∀ W, Calls Tryd.prog 15 #[str b, str a] W fun e w' => e = .returned (rat r3) ∧ Below W.heap.size W w'))
    (CN : Hid (∀ W, Calls Tryd.prog 16 #[.int .i64 x, .int .i64 y, .int .i64 t] W fun e w' => e = .returned (rat r4) ∧ Below W.heap.size W w'))
    (CN2 : Hid (∀ W, Calls Tryd.prog 16 #[.int .i64 y, .int .i64 x, .int .i64 t] W fun e w' => e = .returned (rat r4) ∧ Below W.heap.size W w'))
    (CN3 : Hid (∀ W, Calls Tryd.prog 16 #[.int .i64 x, .int .i64 x, .int .i64 t] W fun e w' => e = .returned (rat r5) ∧ Below W.heap.size W w'))
    (CO : Hid (∀ W, Calls Tryd.prog 18 #[.int .i64 1, .int .i64 1] W fun e w' => e = .returned (rat o) ∧ Below W.heap.size W w'))
    (hq : decide (r5 = o) = false) (ht : 1000000000 ≤ t) (ha : a.length ≤ 200) (CR3 : Hid (∀ W, Calls Tryd.prog 15 #[str a, str a] W fun e w' => e = .returned (rat o) ∧ Below W.heap.size W w'))
    (w : World) (hu : Strs w (.slice LA L.length cap) L) (hv : Strs w (.slice MA M.length cap2) M) :
    Calls Tryd.prog 5 #[.agg #[str a, str b, str c, .slice LA L.length cap, .slice MA M.length cap2, .int .i64 x, .int .i64 y, .int .i64 t]] w fun e w' => e = .returned (.bool true) ∧ Below w.heap.size w w' := by
  have HU := Lib.hid hu
  have HV := Lib.hid hv
  clear hu hv
  have ns := fun r (W : World) => neq_same r W
  have es := fun r (W : World) => eql_same r W
  have hd : decide (t < 1000000000) = false := decide_eq_false (by omega)
  have ht0 : 0 ≤ t := by omega
  have hl : decide ((200 : Int) < (a.length : Int)) = false := by simp; omega
  have e5 : ∀ W : World, (binOp .eql 33 (rat r5) (rat o)).run Tryd.prog W = .ok (.bool false) W := fun W => by rw [seql_rat, hq]
  clear hq
  obtain ⟨k0, k1, k2, k3, k4, k5, k6, k7⟩ := cell_box8 w (str a) (str b) (str c) (.slice LA L.length cap) (.slice MA M.length cap2) (.int .i64 x) (.int .i64 y) (.int .i64 t) 30
  go_enter Tryd.func5, Tryd.ntmps5
  go_wp2_with fail
  refine (head_any _).mono ?_
  rintro e1 w1 ⟨rfl, hv⟩
  have HB := Lib.hid (below_box w (Obj.cells #[str a, str b, str c, .slice LA L.length cap, .slice MA M.length cap2, .int .i64 x, .int .i64 y, .int .i64 t] 30))
  replace HU := Lib.hid (HU.out.below HB.out)
  replace HV := Lib.hid (HV.out.below HB.out)
  obtain ⟨wx, hwx⟩ : ∃ wx, w.alloc (Obj.cells #[str a, str b, str c, .slice LA L.length cap, .slice MA M.length cap2, .int .i64 x, .int .i64 y, .int .i64 t] 30) = wx := ⟨_, rfl⟩
  rw [hwx] at hv HB HU HV k0 k1 k2 k3 k4 k5 k6 k7
  clear hwx
  replace k2 := cellB hv k2
  replace k0 := cellB hv k0
  replace k1 := cellB hv k1
  replace k3 := cellB hv k3
  replace k4 := cellB hv k4
  replace k5 := cellB hv k5
  replace k6 := cellB hv k6
  replace k7 := cellB hv k7
  replace HU := Lib.hid (HU.out.below hv)
  replace HV := Lib.hid (HV.out.below hv)
  replace HB := Lib.hid (below_up HB.out hv HB.out.size)
  clear hv
  go_wp2_with fail
  refine (small_any a b c _ _ L M x y t w1 HU.out HV.out).mono ?_
  rw [HH.out]
  rintro e2 w2 ⟨rfl, hv⟩
  clear k2
  replace k0 := cellB hv k0
  replace k1 := cellB hv k1
  replace k3 := cellB hv k3
  replace k4 := cellB hv k4
  replace k5 := cellB hv k5
  replace k6 := cellB hv k6
  replace k7 := cellB hv k7
  replace HU := Lib.hid (HU.out.below hv)
  replace HV := Lib.hid (HV.out.below hv)
  replace HB := Lib.hid (below_up HB.out hv HB.out.size)
  clear hv
  obtain ⟨bx, hbx⟩ : ∃ bx, w.heap.size = bx := ⟨_, rfl⟩
  have HE : Hid (w.heap.size = bx) := Lib.hid hbx
  have HBX : Hid (∀ W, Below bx w W → bx ≤ W.heap.size) := Lib.hid (fun W h => hbx ▸ h.size)
  rw [hbx] at k0 k1 k3 k4 k5 k6 k7 HB ⊢
  clear hbx
  go_wp2_with fail
  refine (CA.out _).mono ?_
  rintro e3 v1 ⟨rfl, hv⟩
  replace k0 := cellB hv k0
  replace k1 := cellB hv k1
  replace k3 := cellB hv k3
  replace k4 := cellB hv k4
  replace k5 := cellB hv k5
  replace k6 := cellB hv k6
  replace k7 := cellB hv k7
  replace HU := Lib.hid (HU.out.below hv)
  replace HV := Lib.hid (HV.out.below hv)
  replace HB := Lib.hid (below_up HB.out hv (HBX.out _ HB.out))
  clear hv
  have hv := below_box v1 (Obj.cells #[Value.int IntKind.i64 r1.1, Value.int IntKind.i64 r1.2] 33)
  replace k0 := cellB hv k0
  replace k1 := cellB hv k1
  replace k3 := cellB hv k3
  replace k4 := cellB hv k4
  replace k5 := cellB hv k5
  replace k6 := cellB hv k6
  replace k7 := cellB hv k7
  replace HU := Lib.hid (HU.out.below hv)
  replace HV := Lib.hid (HV.out.below hv)
  replace HB := Lib.hid (below_up HB.out hv (HBX.out _ HB.out))
  clear hv
  have A0 := (own2_new v1 r1.1 r1.2 33).c0
  have A1 := (own2_new v1 r1.1 r1.2 33).c1
  go_wp2_with fail
  refine (CJ.out _ HU.out HV.out).mono ?_
  rintro e4 v2 ⟨rfl, hv⟩
  replace k0 := cellB hv k0
  replace k1 := cellB hv k1
  replace k3 := cellB hv k3
  replace k4 := cellB hv k4
  replace k5 := cellB hv k5
  replace k6 := cellB hv k6
  replace k7 := cellB hv k7
  replace A0 := cellB hv A0
  replace A1 := cellB hv A1
  replace HU := Lib.hid (HU.out.below hv)
  replace HV := Lib.hid (HV.out.below hv)
  replace HB := Lib.hid (below_up HB.out hv (HBX.out _ HB.out))
  clear hv
  obtain ⟨b1, hbl⟩ : ∃ bl, v1.heap.size = bl := ⟨_, rfl⟩
  rw [hbl] at A0 A1 ⊢
  clear hbl
  have hv := below_box v2 (Obj.cells #[Value.int IntKind.i64 r2.1, Value.int IntKind.i64 r2.2] 33)
  replace k0 := cellB hv k0
  replace k1 := cellB hv k1
  replace k3 := cellB hv k3
  replace k4 := cellB hv k4
  replace k5 := cellB hv k5
  replace k6 := cellB hv k6
  replace k7 := cellB hv k7
  replace A0 := cellB hv A0
  replace A1 := cellB hv A1
  replace HU := Lib.hid (HU.out.below hv)
  replace HV := Lib.hid (HV.out.below hv)
  replace HB := Lib.hid (below_up HB.out hv (HBX.out _ HB.out))
  clear hv
  have B0 := (own2_new v2 r2.1 r2.2 33).c0
  have B1 := (own2_new v2 r2.1 r2.2 33).c1
  go_wp2_with fail
  refine (CR.out _).mono ?_
  rintro e5 v3 ⟨rfl, hv⟩
  replace k0 := cellB hv k0
  replace k1 := cellB hv k1
  replace k3 := cellB hv k3
  replace k4 := cellB hv k4
  replace k5 := cellB hv k5
  replace k6 := cellB hv k6
  replace k7 := cellB hv k7
  replace A0 := cellB hv A0
  replace A1 := cellB hv A1
  replace B0 := cellB hv B0
  replace B1 := cellB hv B1
  replace HU := Lib.hid (HU.out.below hv)
  replace HV := Lib.hid (HV.out.below hv)
  replace HB := Lib.hid (below_up HB.out hv (HBX.out _ HB.out))
  clear hv
  obtain ⟨b2, hbl⟩ : ∃ bl, v2.heap.size = bl := ⟨_, rfl⟩
  rw [hbl] at B0 B1 ⊢
  clear hbl
  have hv := below_box v3 (Obj.cells #[Value.int IntKind.i64 r3.1, Value.int IntKind.i64 r3.2] 33)
  replace k0 := cellB hv k0
  replace k1 := cellB hv k1
  replace k3 := cellB hv k3
  replace k4 := cellB hv k4
  replace k5 := cellB hv k5
  replace k6 := cellB hv k6
  replace k7 := cellB hv k7
  replace A0 := cellB hv A0
  replace A1 := cellB hv A1
  replace B0 := cellB hv B0
  replace B1 := cellB hv B1
  replace HU := Lib.hid (HU.out.below hv)
  replace HV := Lib.hid (HV.out.below hv)
  replace HB := Lib.hid (below_up HB.out hv (HBX.out _ HB.out))
  clear hv
  have C0 := (own2_new v3 r3.1 r3.2 33).c0
  have C1 := (own2_new v3 r3.1 r3.2 33).c1
  go_wp2_with fail
  refine (CN.out _).mono ?_
  rintro e6 v4 ⟨rfl, hv⟩
  replace k0 := cellB hv k0
  replace k1 := cellB hv k1
  replace k3 := cellB hv k3
  replace k4 := cellB hv k4
  replace k5 := cellB hv k5
  replace k6 := cellB hv k6
  replace k7 := cellB hv k7
  replace A0 := cellB hv A0
  replace A1 := cellB hv A1
  replace B0 := cellB hv B0
  replace B1 := cellB hv B1
  replace C0 := cellB hv C0
  replace C1 := cellB hv C1
  replace HU := Lib.hid (HU.out.below hv)
  replace HV := Lib.hid (HV.out.below hv)
  replace HB := Lib.hid (below_up HB.out hv (HBX.out _ HB.out))
  clear hv
  obtain ⟨b3, hbl⟩ : ∃ bl, v3.heap.size = bl := ⟨_, rfl⟩
  rw [hbl] at C0 C1 ⊢
  clear hbl
  have hv := below_box v4 (Obj.cells #[Value.int IntKind.i64 r4.1, Value.int IntKind.i64 r4.2] 33)
  replace k0 := cellB hv k0
  replace k1 := cellB hv k1
  replace k3 := cellB hv k3
  replace k4 := cellB hv k4
  replace k5 := cellB hv k5
  replace k6 := cellB hv k6
  replace k7 := cellB hv k7
  replace A0 := cellB hv A0
  replace A1 := cellB hv A1
  replace B0 := cellB hv B0
  replace B1 := cellB hv B1
  replace C0 := cellB hv C0
  replace C1 := cellB hv C1
  replace HU := Lib.hid (HU.out.below hv)
  replace HV := Lib.hid (HV.out.below hv)
  replace HB := Lib.hid (below_up HB.out hv (HBX.out _ HB.out))
  clear hv
  have D0 := (own2_new v4 r4.1 r4.2 33).c0
  have D1 := (own2_new v4 r4.1 r4.2 33).c1
  go_wp2_with fail
  refine (unit_ok _ U1.out _).mono ?_
  rintro e vv ⟨rfl, hv⟩
  replace k0 := cellB hv k0
  replace k1 := cellB hv k1
  replace k3 := cellB hv k3
  replace k4 := cellB hv k4
  replace k5 := cellB hv k5
  replace k6 := cellB hv k6
  replace k7 := cellB hv k7
  replace A0 := cellB hv A0
  replace A1 := cellB hv A1
  replace B0 := cellB hv B0
  replace B1 := cellB hv B1
  replace C0 := cellB hv C0
  replace C1 := cellB hv C1
  replace D0 := cellB hv D0
  replace D1 := cellB hv D1
  replace HU := Lib.hid (HU.out.below hv)
  replace HV := Lib.hid (HV.out.below hv)
  replace HB := Lib.hid (below_up HB.out hv (HBX.out _ HB.out))
  clear hv
  obtain ⟨b4, hbl⟩ : ∃ bl, v4.heap.size = bl := ⟨_, rfl⟩
  rw [hbl] at D0 D1 ⊢
  clear hbl
  go_wp2_with fail
  refine (unit_ok _ U2.out _).mono ?_
  rintro e vv ⟨rfl, hv⟩
  replace k0 := cellB hv k0
  replace k1 := cellB hv k1
  replace k3 := cellB hv k3
  replace k4 := cellB hv k4
  replace k5 := cellB hv k5
  replace k6 := cellB hv k6
  replace k7 := cellB hv k7
  replace A0 := cellB hv A0
  replace A1 := cellB hv A1
  replace B0 := cellB hv B0
  replace B1 := cellB hv B1
  replace C0 := cellB hv C0
  replace C1 := cellB hv C1
  replace D0 := cellB hv D0
  replace D1 := cellB hv D1
  replace HU := Lib.hid (HU.out.below hv)
  replace HV := Lib.hid (HV.out.below hv)
  replace HB := Lib.hid (below_up HB.out hv (HBX.out _ HB.out))
  clear hv
  go_wp2_with fail
  refine (unit_ok _ U3.out _).mono ?_
  rintro e vv ⟨rfl, hv⟩
  replace k0 := cellB hv k0
  replace k1 := cellB hv k1
  replace k3 := cellB hv k3
  replace k4 := cellB hv k4
  replace k5 := cellB hv k5
  replace k6 := cellB hv k6
  replace k7 := cellB hv k7
  replace A0 := cellB hv A0
  replace A1 := cellB hv A1
  replace B0 := cellB hv B0
  replace B1 := cellB hv B1
  replace C0 := cellB hv C0
  replace C1 := cellB hv C1
  replace D0 := cellB hv D0
  replace D1 := cellB hv D1
  replace HU := Lib.hid (HU.out.below hv)
  replace HV := Lib.hid (HV.out.below hv)
  replace HB := Lib.hid (below_up HB.out hv (HBX.out _ HB.out))
  clear hv
  go_wp2_with fail
  refine (unit_ok _ U4.out _).mono ?_
  rintro e vv ⟨rfl, hv⟩
  replace k0 := cellB hv k0
  replace k1 := cellB hv k1
  replace k3 := cellB hv k3
  replace k4 := cellB hv k4
  replace k5 := cellB hv k5
  replace k6 := cellB hv k6
  replace k7 := cellB hv k7
  replace A0 := cellB hv A0
  replace A1 := cellB hv A1
  replace B0 := cellB hv B0
  replace B1 := cellB hv B1
  replace C0 := cellB hv C0
  replace C1 := cellB hv C1
  replace D0 := cellB hv D0
  replace D1 := cellB hv D1
  replace HU := Lib.hid (HU.out.below hv)
  replace HV := Lib.hid (HV.out.below hv)
  replace HB := Lib.hid (below_up HB.out hv (HBX.out _ HB.out))
  clear hv
  go_wp2_with fail
  have pk0 := k0
  have pk1 := k1
  have pk3 := k3
  have pk4 := k4
  have pk5 := k5
  have pk6 := k6
  have pk7 := k7
  have pA0 := A0
  have pA1 := A1
  have pB0 := B0
  have pB1 := B1
  have pC0 := C0
  have pC1 := C1
  have pD0 := D0
  have pD1 := D1
  have hv := below_drewN vv.heap.size vv 1
  replace k0 := cellB hv k0
  replace k1 := cellB hv k1
  replace k3 := cellB hv k3
  replace k4 := cellB hv k4
  replace k5 := cellB hv k5
  replace k6 := cellB hv k6
  replace k7 := cellB hv k7
  replace A0 := cellB hv A0
  replace A1 := cellB hv A1
  replace B0 := cellB hv B0
  replace B1 := cellB hv B1
  replace C0 := cellB hv C0
  replace C1 := cellB hv C1
  replace D0 := cellB hv D0
  replace D1 := cellB hv D1
  replace HU := Lib.hid (HU.out.below hv)
  replace HV := Lib.hid (HV.out.below hv)
  replace HB := Lib.hid (below_up HB.out hv (HBX.out _ HB.out))
  clear hv
  refine wp_region_held_drew (S := (fun w' => w'.cell? ⟨bx, 0, none⟩ = some (str a) ∧ w'.cell? ⟨bx, 1, none⟩ = some (str b) ∧ w'.cell? ⟨bx, 3, none⟩ = some (.slice LA L.length cap) ∧ w'.cell? ⟨bx, 4, none⟩ = some (.slice MA M.length cap2) ∧ w'.cell? ⟨bx, 5, none⟩ = some (.int .i64 x) ∧ w'.cell? ⟨bx, 6, none⟩ = some (.int .i64 y) ∧ w'.cell? ⟨bx, 7, none⟩ = some (.int .i64 t) ∧ w'.cell? ⟨b1, 0, none⟩ = some (.int .i64 r1.1) ∧ w'.cell? ⟨b1, 1, none⟩ = some (.int .i64 r1.2) ∧ w'.cell? ⟨b2, 0, none⟩ = some (.int .i64 r2.1) ∧ w'.cell? ⟨b2, 1, none⟩ = some (.int .i64 r2.2) ∧ w'.cell? ⟨b3, 0, none⟩ = some (.int .i64 r3.1) ∧ w'.cell? ⟨b3, 1, none⟩ = some (.int .i64 r3.2) ∧ w'.cell? ⟨b4, 0, none⟩ = some (.int .i64 r4.1) ∧ w'.cell? ⟨b4, 1, none⟩ = some (.int .i64 r4.2))) (by kernel_rfl) ?_ (fun hHeld => ?_)
  · try dsimp only
    go_keep
  refine wpAnyH_take (i := 0) (v := ?_) (by (simp only [List.getElem?_toArray, List.getElem?_cons_zero]; rfl)) (by kernel_rfl) (by kernel_rfl) (by kernel_rfl) (by intro _ _ _ h; exact h) (Or.inl ⟨by kernel_rfl, ?_⟩) hHeld ?_
  case refine_2 =>
    intro w hSw
    try dsimp only at hSw
    go_simp
    try with_reducible rfl
  try simp only [Act.put, List.setIfInBounds_toArray, List.set_cons_zero, List.set_cons_succ]
  refine wpAnyH_take (i := 2) (v := ?_) (by (simp only [List.getElem?_toArray, List.getElem?_cons_succ, List.getElem?_cons_zero]; rfl)) (by kernel_rfl) (by kernel_rfl) (by kernel_rfl) (by intro _ _ _ h; exact h) (Or.inl ⟨by kernel_rfl, ?_⟩) hHeld ?_
  case refine_2 =>
    intro w hSw
    try dsimp only at hSw
    go_simp
    try with_reducible rfl
  try simp only [Act.put, List.setIfInBounds_toArray, List.set_cons_zero, List.set_cons_succ]
  refine wpAnyH_take (i := 5) (v := ?_) (by (simp only [List.getElem?_toArray, List.getElem?_cons_succ, List.getElem?_cons_zero]; rfl)) (by kernel_rfl) (by kernel_rfl) (by kernel_rfl) (by intro _ _ _ h; exact h) (Or.inl ⟨by kernel_rfl, ?_⟩) hHeld ?_
  case refine_2 =>
    intro w hSw
    try dsimp only at hSw
    go_simp
    try with_reducible rfl
  try simp only [Act.put, List.setIfInBounds_toArray, List.set_cons_zero, List.set_cons_succ]
  refine wpAnyH_take (i := 1) (v := ?_) (by (simp only [List.getElem?_toArray, List.getElem?_cons_succ, List.getElem?_cons_zero]; rfl)) (by kernel_rfl) (by kernel_rfl) (by kernel_rfl) (by intro _ _ _ h; exact h) (Or.inl ⟨by kernel_rfl, ?_⟩) hHeld ?_
  case refine_2 =>
    intro w hSw
    try dsimp only at hSw
    go_simp
    try with_reducible rfl
  try simp only [Act.put, List.setIfInBounds_toArray, List.set_cons_zero, List.set_cons_succ]
  refine wpAnyH_take (i := 3) (v := ?_) (by (simp only [List.getElem?_toArray, List.getElem?_cons_succ, List.getElem?_cons_zero]; rfl)) (by kernel_rfl) (by kernel_rfl) (by kernel_rfl) (by intro _ _ _ h; exact h) (Or.inl ⟨by kernel_rfl, ?_⟩) hHeld ?_
  case refine_2 =>
    intro w hSw
    try dsimp only at hSw
    go_simp
    try with_reducible rfl
  try simp only [Act.put, List.setIfInBounds_toArray, List.set_cons_zero, List.set_cons_succ]
  refine wpAnyH_ready (rs := [4]) (by kernel_rfl) (by simp) ?_
  refine AllReadyH.cons (by (simp only [List.getElem?_toArray, List.getElem?_cons_succ, List.getElem?_cons_zero]; rfl)) (fun K hK => ?_) AllReadyH.nil
  go_simp
  refine (CA2.out _).mono ?_
  rintro e vv ⟨rfl, hv⟩
  replace k0 := cellB hv k0
  replace k1 := cellB hv k1
  replace k3 := cellB hv k3
  replace k4 := cellB hv k4
  replace k5 := cellB hv k5
  replace k6 := cellB hv k6
  replace k7 := cellB hv k7
  replace A0 := cellB hv A0
  replace A1 := cellB hv A1
  replace B0 := cellB hv B0
  replace B1 := cellB hv B1
  replace C0 := cellB hv C0
  replace C1 := cellB hv C1
  replace D0 := cellB hv D0
  replace D1 := cellB hv D1
  replace HU := Lib.hid (HU.out.below hv)
  replace HV := Lib.hid (HV.out.below hv)
  replace HB := Lib.hid (below_up HB.out hv (HBX.out _ HB.out))
  clear hv
  try go_wp2_with fail
  clear hHeld
  refine hK.out _ _ ?_ (fun hHeld => ?_)
  · try dsimp only
    go_keep
  clear hK K
  try simp only [Act.put, List.setIfInBounds_toArray, List.set_cons_zero, List.set_cons_succ]
  refine wpAnyH_take (i := 6) (v := ?_) (by (simp only [List.getElem?_toArray, List.getElem?_cons_succ, List.getElem?_cons_zero]; rfl)) (by kernel_rfl) (by kernel_rfl) (by kernel_rfl) (by intro _ _ _ h; exact h) (Or.inl ⟨by kernel_rfl, ?_⟩) hHeld ?_
  case refine_2 =>
    intro w hSw
    try dsimp only at hSw
    go_simp
    try with_reducible rfl
  try simp only [Act.put, List.setIfInBounds_toArray, List.set_cons_zero, List.set_cons_succ]
  refine wpAnyH_take (i := 7) (v := ?_) (by (simp only [List.getElem?_toArray, List.getElem?_cons_succ, List.getElem?_cons_zero]; rfl)) (by kernel_rfl) (by kernel_rfl) (by kernel_rfl) (by intro _ _ _ h; exact h) (Or.inl ⟨by kernel_rfl, ?_⟩) hHeld ?_
  case refine_2 =>
    intro w hSw
    try dsimp only at hSw
    go_simp
    try with_reducible rfl
  try simp only [Act.put, List.setIfInBounds_toArray, List.set_cons_zero, List.set_cons_succ]
  refine wpAnyH_take (i := 8) (v := ?_) (by (simp only [List.getElem?_toArray, List.getElem?_cons_succ, List.getElem?_cons_zero]; rfl)) (by kernel_rfl) (by kernel_rfl) (by kernel_rfl) (by intro _ _ _ h; exact h) (Or.inl ⟨by kernel_rfl, ?_⟩) hHeld ?_
  case refine_2 =>
    intro w hSw
    try dsimp only at hSw
    go_simp
    try with_reducible rfl
  try simp only [Act.put, List.setIfInBounds_toArray, List.set_cons_zero, List.set_cons_succ]
  refine wpAnyH_take (i := 10) (v := ?_) (by (simp only [List.getElem?_toArray, List.getElem?_cons_succ, List.getElem?_cons_zero]; rfl)) (by kernel_rfl) (by kernel_rfl) (by kernel_rfl) (by intro _ _ _ h; exact h) (Or.inl ⟨by kernel_rfl, ?_⟩) hHeld ?_
  case refine_2 =>
    intro w hSw
    try dsimp only at hSw
    go_simp
    try with_reducible rfl
  try simp only [Act.put, List.setIfInBounds_toArray, List.set_cons_zero, List.set_cons_succ]
  refine wpAnyH_take (i := 13) (v := ?_) (by (simp only [List.getElem?_toArray, List.getElem?_cons_succ, List.getElem?_cons_zero]; rfl)) (by kernel_rfl) (by kernel_rfl) (by kernel_rfl) (by intro _ _ _ h; exact h) (Or.inl ⟨by kernel_rfl, ?_⟩) hHeld ?_
  case refine_2 =>
    intro w hSw
    try dsimp only at hSw
    go_simp
    try with_reducible rfl
  try simp only [Act.put, List.setIfInBounds_toArray, List.set_cons_zero, List.set_cons_succ]
  refine wpAnyH_take (i := 9) (v := ?_) (by (simp only [List.getElem?_toArray, List.getElem?_cons_succ, List.getElem?_cons_zero]; rfl)) (by kernel_rfl) (by kernel_rfl) (by kernel_rfl) (by intro _ _ _ h; exact h) (Or.inl ⟨by kernel_rfl, ?_⟩) hHeld ?_
  case refine_2 =>
    intro w hSw
    try dsimp only at hSw
    go_simp
    try with_reducible rfl
  try simp only [Act.put, List.setIfInBounds_toArray, List.set_cons_zero, List.set_cons_succ]
  refine wpAnyH_take (i := 11) (v := ?_) (by (simp only [List.getElem?_toArray, List.getElem?_cons_succ, List.getElem?_cons_zero]; rfl)) (by kernel_rfl) (by kernel_rfl) (by kernel_rfl) (by intro _ _ _ h; exact h) (Or.inl ⟨by kernel_rfl, ?_⟩) hHeld ?_
  case refine_2 =>
    intro w hSw
    try dsimp only at hSw
    go_simp
    try with_reducible rfl
  try simp only [Act.put, List.setIfInBounds_toArray, List.set_cons_zero, List.set_cons_succ]
  refine wpAnyH_ready (rs := [12]) (by kernel_rfl) (by simp) ?_
  refine AllReadyH.cons (by (simp only [List.getElem?_toArray, List.getElem?_cons_succ, List.getElem?_cons_zero]; rfl)) (fun K hK => ?_) AllReadyH.nil
  go_simp
  refine (CJ2.out _ HU.out HV.out).mono ?_
  rintro e vv ⟨rfl, hv⟩
  replace k0 := cellB hv k0
  replace k1 := cellB hv k1
  replace k3 := cellB hv k3
  replace k4 := cellB hv k4
  replace k5 := cellB hv k5
  replace k6 := cellB hv k6
  replace k7 := cellB hv k7
  replace A0 := cellB hv A0
  replace A1 := cellB hv A1
  replace B0 := cellB hv B0
  replace B1 := cellB hv B1
  replace C0 := cellB hv C0
  replace C1 := cellB hv C1
  replace D0 := cellB hv D0
  replace D1 := cellB hv D1
  replace HU := Lib.hid (HU.out.below hv)
  replace HV := Lib.hid (HV.out.below hv)
  replace HB := Lib.hid (below_up HB.out hv (HBX.out _ HB.out))
  clear hv
  try go_wp2_with fail
  clear hHeld
  refine hK.out _ _ ?_ (fun hHeld => ?_)
  · try dsimp only
    go_keep
  clear hK K
  try simp only [Act.put, List.setIfInBounds_toArray, List.set_cons_zero, List.set_cons_succ]
  refine wpAnyH_take (i := 14) (v := ?_) (by (simp only [List.getElem?_toArray, List.getElem?_cons_succ, List.getElem?_cons_zero]; rfl)) (by kernel_rfl) (by kernel_rfl) (by kernel_rfl) (by intro _ _ _ h; exact h) (Or.inl ⟨by kernel_rfl, ?_⟩) hHeld ?_
  case refine_2 =>
    intro w hSw
    try dsimp only at hSw
    go_simp
    try with_reducible rfl
  try simp only [Act.put, List.setIfInBounds_toArray, List.set_cons_zero, List.set_cons_succ]
  refine wpAnyH_take (i := 15) (v := ?_) (by (simp only [List.getElem?_toArray, List.getElem?_cons_succ, List.getElem?_cons_zero]; rfl)) (by kernel_rfl) (by kernel_rfl) (by kernel_rfl) (by intro _ _ _ h; exact h) (Or.inl ⟨by kernel_rfl, ?_⟩) hHeld ?_
  case refine_2 =>
    intro w hSw
    try dsimp only at hSw
    go_simp
    try with_reducible rfl
  try simp only [Act.put, List.setIfInBounds_toArray, List.set_cons_zero, List.set_cons_succ]
  refine wpAnyH_take (i := 16) (v := ?_) (by (simp only [List.getElem?_toArray, List.getElem?_cons_succ, List.getElem?_cons_zero]; rfl)) (by kernel_rfl) (by kernel_rfl) (by kernel_rfl) (by intro _ _ _ h; exact h) (Or.inl ⟨by kernel_rfl, ?_⟩) hHeld ?_
  case refine_2 =>
    intro w hSw
    try dsimp only at hSw
    go_simp
    try with_reducible rfl
  try simp only [Act.put, List.setIfInBounds_toArray, List.set_cons_zero, List.set_cons_succ]
  refine wpAnyH_take (i := 17) (v := ?_) (by (simp only [List.getElem?_toArray, List.getElem?_cons_succ, List.getElem?_cons_zero]; rfl)) (by kernel_rfl) (by kernel_rfl) (by kernel_rfl) (by intro _ _ _ h; exact h) (Or.inl ⟨by kernel_rfl, ?_⟩) hHeld ?_
  case refine_2 =>
    intro w hSw
    try dsimp only at hSw
    go_simp
    try with_reducible rfl
  try simp only [Act.put, List.setIfInBounds_toArray, List.set_cons_zero, List.set_cons_succ]
  refine wpAnyH_take (i := 19) (v := ?_) (by (simp only [List.getElem?_toArray, List.getElem?_cons_succ, List.getElem?_cons_zero]; rfl)) (by kernel_rfl) (by kernel_rfl) (by kernel_rfl) (by intro _ _ _ h; exact h) (Or.inl ⟨by kernel_rfl, ?_⟩) hHeld ?_
  case refine_2 =>
    intro w hSw
    try dsimp only at hSw
    go_simp
    try with_reducible rfl
  try simp only [Act.put, List.setIfInBounds_toArray, List.set_cons_zero, List.set_cons_succ]
  refine wpAnyH_take (i := 22) (v := ?_) (by (simp only [List.getElem?_toArray, List.getElem?_cons_succ, List.getElem?_cons_zero]; rfl)) (by kernel_rfl) (by kernel_rfl) (by kernel_rfl) (by intro _ _ _ h; exact h) (Or.inl ⟨by kernel_rfl, ?_⟩) hHeld ?_
  case refine_2 =>
    intro w hSw
    try dsimp only at hSw
    go_simp
    try with_reducible rfl
  try simp only [Act.put, List.setIfInBounds_toArray, List.set_cons_zero, List.set_cons_succ]
  refine wpAnyH_take (i := 18) (v := ?_) (by (simp only [List.getElem?_toArray, List.getElem?_cons_succ, List.getElem?_cons_zero]; rfl)) (by kernel_rfl) (by kernel_rfl) (by kernel_rfl) (by intro _ _ _ h; exact h) (Or.inl ⟨by kernel_rfl, ?_⟩) hHeld ?_
  case refine_2 =>
    intro w hSw
    try dsimp only at hSw
    go_simp
    try with_reducible rfl
  try simp only [Act.put, List.setIfInBounds_toArray, List.set_cons_zero, List.set_cons_succ]
  refine wpAnyH_take (i := 20) (v := ?_) (by (simp only [List.getElem?_toArray, List.getElem?_cons_succ, List.getElem?_cons_zero]; rfl)) (by kernel_rfl) (by kernel_rfl) (by kernel_rfl) (by intro _ _ _ h; exact h) (Or.inl ⟨by kernel_rfl, ?_⟩) hHeld ?_
  case refine_2 =>
    intro w hSw
    try dsimp only at hSw
    go_simp
    try with_reducible rfl
  try simp only [Act.put, List.setIfInBounds_toArray, List.set_cons_zero, List.set_cons_succ]
  refine wpAnyH_ready (rs := [21]) (by kernel_rfl) (by simp) ?_
  refine AllReadyH.cons (by (simp only [List.getElem?_toArray, List.getElem?_cons_succ, List.getElem?_cons_zero]; rfl)) (fun K hK => ?_) AllReadyH.nil
  go_simp
  refine (CR2.out _).mono ?_
  rintro e vv ⟨rfl, hv⟩
  replace k0 := cellB hv k0
  replace k1 := cellB hv k1
  replace k3 := cellB hv k3
  replace k4 := cellB hv k4
  replace k5 := cellB hv k5
  replace k6 := cellB hv k6
  replace k7 := cellB hv k7
  replace A0 := cellB hv A0
  replace A1 := cellB hv A1
  replace B0 := cellB hv B0
  replace B1 := cellB hv B1
  replace C0 := cellB hv C0
  replace C1 := cellB hv C1
  replace D0 := cellB hv D0
  replace D1 := cellB hv D1
  replace HU := Lib.hid (HU.out.below hv)
  replace HV := Lib.hid (HV.out.below hv)
  replace HB := Lib.hid (below_up HB.out hv (HBX.out _ HB.out))
  clear hv
  try go_wp2_with fail
  clear hHeld
  refine hK.out _ _ ?_ (fun hHeld => ?_)
  · try dsimp only
    go_keep
  clear hK K
  try simp only [Act.put, List.setIfInBounds_toArray, List.set_cons_zero, List.set_cons_succ]
  refine wpAnyH_take (i := 23) (v := ?_) (by (simp only [List.getElem?_toArray, List.getElem?_cons_succ, List.getElem?_cons_zero]; rfl)) (by kernel_rfl) (by kernel_rfl) (by kernel_rfl) (by intro _ _ _ h; exact h) (Or.inl ⟨by kernel_rfl, ?_⟩) hHeld ?_
  case refine_2 =>
    intro w hSw
    try dsimp only at hSw
    go_simp
    try with_reducible rfl
  try simp only [Act.put, List.setIfInBounds_toArray, List.set_cons_zero, List.set_cons_succ]
  refine wpAnyH_take (i := 24) (v := ?_) (by (simp only [List.getElem?_toArray, List.getElem?_cons_succ, List.getElem?_cons_zero]; rfl)) (by kernel_rfl) (by kernel_rfl) (by kernel_rfl) (by intro _ _ _ h; exact h) (Or.inl ⟨by kernel_rfl, ?_⟩) hHeld ?_
  case refine_2 =>
    intro w hSw
    try dsimp only at hSw
    go_simp
    try with_reducible rfl
  try simp only [Act.put, List.setIfInBounds_toArray, List.set_cons_zero, List.set_cons_succ]
  refine wpAnyH_take (i := 25) (v := ?_) (by (simp only [List.getElem?_toArray, List.getElem?_cons_succ, List.getElem?_cons_zero]; rfl)) (by kernel_rfl) (by kernel_rfl) (by kernel_rfl) (by intro _ _ _ h; exact h) (Or.inl ⟨by kernel_rfl, ?_⟩) hHeld ?_
  case refine_2 =>
    intro w hSw
    try dsimp only at hSw
    go_simp
    try with_reducible rfl
  try simp only [Act.put, List.setIfInBounds_toArray, List.set_cons_zero, List.set_cons_succ]
  refine wpAnyH_take (i := 26) (v := ?_) (by (simp only [List.getElem?_toArray, List.getElem?_cons_succ, List.getElem?_cons_zero]; rfl)) (by kernel_rfl) (by kernel_rfl) (by kernel_rfl) (by intro _ _ _ h; exact h) (Or.inl ⟨by kernel_rfl, ?_⟩) hHeld ?_
  case refine_2 =>
    intro w hSw
    try dsimp only at hSw
    go_simp
    try with_reducible rfl
  try simp only [Act.put, List.setIfInBounds_toArray, List.set_cons_zero, List.set_cons_succ]
  refine wpAnyH_take (i := 28) (v := ?_) (by (simp only [List.getElem?_toArray, List.getElem?_cons_succ, List.getElem?_cons_zero]; rfl)) (by kernel_rfl) (by kernel_rfl) (by kernel_rfl) (by intro _ _ _ h; exact h) (Or.inl ⟨by kernel_rfl, ?_⟩) hHeld ?_
  case refine_2 =>
    intro w hSw
    try dsimp only at hSw
    go_simp
    try with_reducible rfl
  try simp only [Act.put, List.setIfInBounds_toArray, List.set_cons_zero, List.set_cons_succ]
  refine wpAnyH_take (i := 30) (v := ?_) (by (simp only [List.getElem?_toArray, List.getElem?_cons_succ, List.getElem?_cons_zero]; rfl)) (by kernel_rfl) (by kernel_rfl) (by kernel_rfl) (by intro _ _ _ h; exact h) (Or.inl ⟨by kernel_rfl, ?_⟩) hHeld ?_
  case refine_2 =>
    intro w hSw
    try dsimp only at hSw
    go_simp
    try with_reducible rfl
  try simp only [Act.put, List.setIfInBounds_toArray, List.set_cons_zero, List.set_cons_succ]
  refine wpAnyH_take (i := 33) (v := ?_) (by (simp only [List.getElem?_toArray, List.getElem?_cons_succ, List.getElem?_cons_zero]; rfl)) (by kernel_rfl) (by kernel_rfl) (by kernel_rfl) (by intro _ _ _ h; exact h) (Or.inl ⟨by kernel_rfl, ?_⟩) hHeld ?_
  case refine_2 =>
    intro w hSw
    try dsimp only at hSw
    go_simp
    try with_reducible rfl
  try simp only [Act.put, List.setIfInBounds_toArray, List.set_cons_zero, List.set_cons_succ]
  refine wpAnyH_take (i := 27) (v := ?_) (by (simp only [List.getElem?_toArray, List.getElem?_cons_succ, List.getElem?_cons_zero]; rfl)) (by kernel_rfl) (by kernel_rfl) (by kernel_rfl) (by intro _ _ _ h; exact h) (Or.inl ⟨by kernel_rfl, ?_⟩) hHeld ?_
  case refine_2 =>
    intro w hSw
    try dsimp only at hSw
    go_simp
    try with_reducible rfl
  try simp only [Act.put, List.setIfInBounds_toArray, List.set_cons_zero, List.set_cons_succ]
  refine wpAnyH_take (i := 29) (v := ?_) (by (simp only [List.getElem?_toArray, List.getElem?_cons_succ, List.getElem?_cons_zero]; rfl)) (by kernel_rfl) (by kernel_rfl) (by kernel_rfl) (by intro _ _ _ h; exact h) (Or.inl ⟨by kernel_rfl, ?_⟩) hHeld ?_
  case refine_2 =>
    intro w hSw
    try dsimp only at hSw
    go_simp
    try with_reducible rfl
  try simp only [Act.put, List.setIfInBounds_toArray, List.set_cons_zero, List.set_cons_succ]
  refine wpAnyH_take (i := 31) (v := ?_) (by (simp only [List.getElem?_toArray, List.getElem?_cons_succ, List.getElem?_cons_zero]; rfl)) (by kernel_rfl) (by kernel_rfl) (by kernel_rfl) (by intro _ _ _ h; exact h) (Or.inl ⟨by kernel_rfl, ?_⟩) hHeld ?_
  case refine_2 =>
    intro w hSw
    try dsimp only at hSw
    go_simp
    try with_reducible rfl
  try simp only [Act.put, List.setIfInBounds_toArray, List.set_cons_zero, List.set_cons_succ]
  refine wpAnyH_ready (rs := [32]) (by kernel_rfl) (by simp) ?_
  refine AllReadyH.cons (by (simp only [List.getElem?_toArray, List.getElem?_cons_succ, List.getElem?_cons_zero]; rfl)) (fun K hK => ?_) AllReadyH.nil
  go_simp
  refine (CN2.out _).mono ?_
  rintro e vv ⟨rfl, hv⟩
  replace k0 := cellB hv k0
  replace k1 := cellB hv k1
  replace k3 := cellB hv k3
  replace k4 := cellB hv k4
  replace k5 := cellB hv k5
  replace k6 := cellB hv k6
  replace k7 := cellB hv k7
  replace A0 := cellB hv A0
  replace A1 := cellB hv A1
  replace B0 := cellB hv B0
  replace B1 := cellB hv B1
  replace C0 := cellB hv C0
  replace C1 := cellB hv C1
  replace D0 := cellB hv D0
  replace D1 := cellB hv D1
  replace HU := Lib.hid (HU.out.below hv)
  replace HV := Lib.hid (HV.out.below hv)
  replace HB := Lib.hid (below_up HB.out hv (HBX.out _ HB.out))
  clear hv
  try go_wp2_with fail
  clear hHeld
  refine hK.out _ _ ?_ (fun hHeld => ?_)
  · try dsimp only
    go_keep
  clear hK K
  try simp only [Act.put, List.setIfInBounds_toArray, List.set_cons_zero, List.set_cons_succ]
  refine wpAnyH_take (i := 34) (v := ?_) (by (simp only [List.getElem?_toArray, List.getElem?_cons_succ, List.getElem?_cons_zero]; rfl)) (by kernel_rfl) (by kernel_rfl) (by kernel_rfl) (by intro _ _ _ h; exact h) (Or.inl ⟨by kernel_rfl, ?_⟩) hHeld ?_
  case refine_2 =>
    intro w hSw
    try dsimp only at hSw
    go_simp
    try with_reducible rfl
  try simp only [Act.put, List.setIfInBounds_toArray, List.set_cons_zero, List.set_cons_succ]
  refine wpAnyH_take (i := 35) (v := ?_) (by (simp only [List.getElem?_toArray, List.getElem?_cons_succ, List.getElem?_cons_zero]; rfl)) (by kernel_rfl) (by kernel_rfl) (by kernel_rfl) (by intro _ _ _ h; exact h) (Or.inl ⟨by kernel_rfl, ?_⟩) hHeld ?_
  case refine_2 =>
    intro w hSw
    try dsimp only at hSw
    go_simp
    try with_reducible rfl
  try simp only [Act.put, List.setIfInBounds_toArray, List.set_cons_zero, List.set_cons_succ]
  refine wpAnyH_done (by kernel_rfl) ?_ _
  clear ns A0 A1 B0 B1 C0 C1 D0 D1
  go_wp2_with fail
  refine (CO.out _).mono ?_
  rintro e v5 ⟨rfl, hv⟩
  replace k0 := cellB hv k0
  replace k1 := cellB hv k1
  replace k3 := cellB hv k3
  replace k4 := cellB hv k4
  replace k5 := cellB hv k5
  replace k6 := cellB hv k6
  replace k7 := cellB hv k7
  replace HU := Lib.hid (HU.out.below hv)
  replace HV := Lib.hid (HV.out.below hv)
  replace HB := Lib.hid (below_up HB.out hv (HBX.out _ HB.out))
  clear hv
  have hv := below_box v5 (Obj.cells #[Value.int IntKind.i64 o.1, Value.int IntKind.i64 o.2] 33)
  replace k0 := cellB hv k0
  replace k1 := cellB hv k1
  replace k3 := cellB hv k3
  replace k4 := cellB hv k4
  replace k5 := cellB hv k5
  replace k6 := cellB hv k6
  replace k7 := cellB hv k7
  replace HU := Lib.hid (HU.out.below hv)
  replace HV := Lib.hid (HV.out.below hv)
  replace HB := Lib.hid (below_up HB.out hv (HBX.out _ HB.out))
  clear hv
  have O0 := (own2_new v5 o.1 o.2 33).c0
  have O1 := (own2_new v5 o.1 o.2 33).c1
  go_wp2_with fail
  obtain ⟨W, hW⟩ : ∃ W, v5.alloc (Obj.cells #[Value.int IntKind.i64 o.1, Value.int IntKind.i64 o.2] 33) = W := ⟨_, rfl⟩
  rw [hW] at k0 k1 k3 k4 k5 k6 k7 O0 O1 HU HV HB ⊢
  clear hW
  obtain ⟨b5, hbl⟩ : ∃ bl, v5.heap.size = bl := ⟨_, rfl⟩
  rw [hbl] at O0 O1 ⊢
  clear hbl
  clear pk0 pk1 pk3 pk4 pk5 pk6 pk7 pA0 pA1 pB0 pB1 pC0 pC1 pD0 pD1
  have pk0 := k0
  have pk1 := k1
  have pk3 := k3
  have pk4 := k4
  have pk5 := k5
  have pk6 := k6
  have pk7 := k7
  have pO0 := O0
  have pO1 := O1
  have hv := below_drewN W.heap.size W 1
  replace k0 := cellB hv k0
  replace k1 := cellB hv k1
  replace k3 := cellB hv k3
  replace k4 := cellB hv k4
  replace k5 := cellB hv k5
  replace k6 := cellB hv k6
  replace k7 := cellB hv k7
  replace O0 := cellB hv O0
  replace O1 := cellB hv O1
  replace HU := Lib.hid (HU.out.below hv)
  replace HV := Lib.hid (HV.out.below hv)
  replace HB := Lib.hid (below_up HB.out hv (HBX.out _ HB.out))
  clear hv
  refine wp_region_held_drew (S := (fun w' => w'.cell? ⟨bx, 0, none⟩ = some (str a) ∧ w'.cell? ⟨bx, 1, none⟩ = some (str b) ∧ w'.cell? ⟨bx, 3, none⟩ = some (.slice LA L.length cap) ∧ w'.cell? ⟨bx, 4, none⟩ = some (.slice MA M.length cap2) ∧ w'.cell? ⟨bx, 5, none⟩ = some (.int .i64 x) ∧ w'.cell? ⟨bx, 6, none⟩ = some (.int .i64 y) ∧ w'.cell? ⟨bx, 7, none⟩ = some (.int .i64 t) ∧ w'.cell? ⟨b5, 0, none⟩ = some (.int .i64 o.1) ∧ w'.cell? ⟨b5, 1, none⟩ = some (.int .i64 o.2))) (by kernel_rfl) ?_ (fun hHeld => ?_)
  · try dsimp only
    go_keep
  refine wpAnyH_take (i := 0) (v := ?_) (by (simp only [List.getElem?_toArray, List.getElem?_cons_zero]; rfl)) (by kernel_rfl) (by kernel_rfl) (by kernel_rfl) (by intro _ _ _ h; exact h) (Or.inl ⟨by kernel_rfl, ?_⟩) hHeld ?_
  case refine_2 =>
    intro w hSw
    try dsimp only at hSw
    go_simp
    try with_reducible rfl
  try simp only [Act.put, List.setIfInBounds_toArray, List.set_cons_zero, List.set_cons_succ]
  refine wpAnyH_take (i := 1) (v := ?_) (by (simp only [List.getElem?_toArray, List.getElem?_cons_succ, List.getElem?_cons_zero]; rfl)) (by kernel_rfl) (by kernel_rfl) (by kernel_rfl) (by intro _ _ _ h; exact h) (Or.inl ⟨by kernel_rfl, ?_⟩) hHeld ?_
  case refine_2 =>
    intro w hSw
    try dsimp only at hSw
    go_simp
    try with_reducible rfl
  try simp only [Act.put, List.setIfInBounds_toArray, List.set_cons_zero, List.set_cons_succ]
  refine wpAnyH_take (i := 2) (v := ?_) (by (simp only [List.getElem?_toArray, List.getElem?_cons_succ, List.getElem?_cons_zero]; rfl)) (by kernel_rfl) (by kernel_rfl) (by kernel_rfl) (by intro _ _ _ h; exact h) (Or.inl ⟨by kernel_rfl, ?_⟩) hHeld ?_
  case refine_2 =>
    intro w hSw
    try dsimp only at hSw
    go_simp
    try with_reducible rfl
  try simp only [Act.put, List.setIfInBounds_toArray, List.set_cons_zero, List.set_cons_succ]
  refine wpAnyH_take (i := 4) (v := ?_) (by (simp only [List.getElem?_toArray, List.getElem?_cons_succ, List.getElem?_cons_zero]; rfl)) (by kernel_rfl) (by kernel_rfl) (by kernel_rfl) (by intro _ _ _ h; exact h) (Or.inl ⟨by kernel_rfl, ?_⟩) hHeld ?_
  case refine_2 =>
    intro w hSw
    try dsimp only at hSw
    go_simp
    try with_reducible rfl
  try simp only [Act.put, List.setIfInBounds_toArray, List.set_cons_zero, List.set_cons_succ]
  refine wpAnyH_take (i := 7) (v := ?_) (by (simp only [List.getElem?_toArray, List.getElem?_cons_succ, List.getElem?_cons_zero]; rfl)) (by kernel_rfl) (by kernel_rfl) (by kernel_rfl) (by intro _ _ _ h; exact h) (Or.inl ⟨by kernel_rfl, ?_⟩) hHeld ?_
  case refine_2 =>
    intro w hSw
    try dsimp only at hSw
    go_simp
    try with_reducible rfl
  try simp only [Act.put, List.setIfInBounds_toArray, List.set_cons_zero, List.set_cons_succ]
  refine wpAnyH_take (i := 3) (v := ?_) (by (simp only [List.getElem?_toArray, List.getElem?_cons_succ, List.getElem?_cons_zero]; rfl)) (by kernel_rfl) (by kernel_rfl) (by kernel_rfl) (by intro _ _ _ h; exact h) (Or.inl ⟨by kernel_rfl, ?_⟩) hHeld ?_
  case refine_2 =>
    intro w hSw
    try dsimp only at hSw
    go_simp
    try with_reducible rfl
  try simp only [Act.put, List.setIfInBounds_toArray, List.set_cons_zero, List.set_cons_succ]
  refine wpAnyH_take (i := 5) (v := ?_) (by (simp only [List.getElem?_toArray, List.getElem?_cons_succ, List.getElem?_cons_zero]; rfl)) (by kernel_rfl) (by kernel_rfl) (by kernel_rfl) (by intro _ _ _ h; exact h) (Or.inl ⟨by kernel_rfl, ?_⟩) hHeld ?_
  case refine_2 =>
    intro w hSw
    try dsimp only at hSw
    go_simp
    try with_reducible rfl
  try simp only [Act.put, List.setIfInBounds_toArray, List.set_cons_zero, List.set_cons_succ]
  refine wpAnyH_ready (rs := [6]) (by kernel_rfl) (by simp) ?_
  refine AllReadyH.cons (by (simp only [List.getElem?_toArray, List.getElem?_cons_succ, List.getElem?_cons_zero]; rfl)) (fun K hK => ?_) AllReadyH.nil
  go_simp
  refine (CA3.out _).mono ?_
  rintro e vv ⟨rfl, hv⟩
  replace k0 := cellB hv k0
  replace k1 := cellB hv k1
  replace k3 := cellB hv k3
  replace k4 := cellB hv k4
  replace k5 := cellB hv k5
  replace k6 := cellB hv k6
  replace k7 := cellB hv k7
  replace O0 := cellB hv O0
  replace O1 := cellB hv O1
  replace HU := Lib.hid (HU.out.below hv)
  replace HV := Lib.hid (HV.out.below hv)
  replace HB := Lib.hid (below_up HB.out hv (HBX.out _ HB.out))
  clear hv
  try go_wp2_with fail
  clear hHeld
  refine hK.out _ _ ?_ (fun hHeld => ?_)
  · try dsimp only
    go_keep
  clear hK K
  try simp only [Act.put, List.setIfInBounds_toArray, List.set_cons_zero, List.set_cons_succ]
  refine wpAnyH_take (i := 8) (v := ?_) (by (simp only [List.getElem?_toArray, List.getElem?_cons_succ, List.getElem?_cons_zero]; rfl)) (by kernel_rfl) (by kernel_rfl) (by kernel_rfl) (by intro _ _ _ h; exact h) (Or.inl ⟨by kernel_rfl, ?_⟩) hHeld ?_
  case refine_2 =>
    intro w hSw
    try dsimp only at hSw
    go_simp
    try with_reducible rfl
  try simp only [Act.put, List.setIfInBounds_toArray, List.set_cons_zero, List.set_cons_succ]
  refine wpAnyH_take (i := 9) (v := ?_) (by (simp only [List.getElem?_toArray, List.getElem?_cons_succ, List.getElem?_cons_zero]; rfl)) (by kernel_rfl) (by kernel_rfl) (by kernel_rfl) (by intro _ _ _ h; exact h) (Or.inl ⟨by kernel_rfl, ?_⟩) hHeld ?_
  case refine_2 =>
    intro w hSw
    try dsimp only at hSw
    go_simp
    try with_reducible rfl
  try simp only [Act.put, List.setIfInBounds_toArray, List.set_cons_zero, List.set_cons_succ]
  refine wpAnyH_take (i := 10) (v := ?_) (by (simp only [List.getElem?_toArray, List.getElem?_cons_succ, List.getElem?_cons_zero]; rfl)) (by kernel_rfl) (by kernel_rfl) (by kernel_rfl) (by intro _ _ _ h; exact h) (Or.inl ⟨by kernel_rfl, ?_⟩) hHeld ?_
  case refine_2 =>
    intro w hSw
    try dsimp only at hSw
    go_simp
    try with_reducible rfl
  try simp only [Act.put, List.setIfInBounds_toArray, List.set_cons_zero, List.set_cons_succ]
  refine wpAnyH_take (i := 11) (v := ?_) (by (simp only [List.getElem?_toArray, List.getElem?_cons_succ, List.getElem?_cons_zero]; rfl)) (by kernel_rfl) (by kernel_rfl) (by kernel_rfl) (by intro _ _ _ h; exact h) (Or.inl ⟨by kernel_rfl, ?_⟩) hHeld ?_
  case refine_2 =>
    intro w hSw
    try dsimp only at hSw
    go_simp
    try with_reducible rfl
  try simp only [Act.put, List.setIfInBounds_toArray, List.set_cons_zero, List.set_cons_succ]
  refine wpAnyH_take (i := 13) (v := ?_) (by (simp only [List.getElem?_toArray, List.getElem?_cons_succ, List.getElem?_cons_zero]; rfl)) (by kernel_rfl) (by kernel_rfl) (by kernel_rfl) (by intro _ _ _ h; exact h) (Or.inl ⟨by kernel_rfl, ?_⟩) hHeld ?_
  case refine_2 =>
    intro w hSw
    try dsimp only at hSw
    go_simp
    try with_reducible rfl
  try simp only [Act.put, List.setIfInBounds_toArray, List.set_cons_zero, List.set_cons_succ]
  refine wpAnyH_take (i := 16) (v := ?_) (by (simp only [List.getElem?_toArray, List.getElem?_cons_succ, List.getElem?_cons_zero]; rfl)) (by kernel_rfl) (by kernel_rfl) (by kernel_rfl) (by intro _ _ _ h; exact h) (Or.inl ⟨by kernel_rfl, ?_⟩) hHeld ?_
  case refine_2 =>
    intro w hSw
    try dsimp only at hSw
    go_simp
    try with_reducible rfl
  try simp only [Act.put, List.setIfInBounds_toArray, List.set_cons_zero, List.set_cons_succ]
  refine wpAnyH_take (i := 12) (v := ?_) (by (simp only [List.getElem?_toArray, List.getElem?_cons_succ, List.getElem?_cons_zero]; rfl)) (by kernel_rfl) (by kernel_rfl) (by kernel_rfl) (by intro _ _ _ h; exact h) (Or.inl ⟨by kernel_rfl, ?_⟩) hHeld ?_
  case refine_2 =>
    intro w hSw
    try dsimp only at hSw
    go_simp
    try with_reducible rfl
  try simp only [Act.put, List.setIfInBounds_toArray, List.set_cons_zero, List.set_cons_succ]
  refine wpAnyH_take (i := 14) (v := ?_) (by (simp only [List.getElem?_toArray, List.getElem?_cons_succ, List.getElem?_cons_zero]; rfl)) (by kernel_rfl) (by kernel_rfl) (by kernel_rfl) (by intro _ _ _ h; exact h) (Or.inl ⟨by kernel_rfl, ?_⟩) hHeld ?_
  case refine_2 =>
    intro w hSw
    try dsimp only at hSw
    go_simp
    try with_reducible rfl
  try simp only [Act.put, List.setIfInBounds_toArray, List.set_cons_zero, List.set_cons_succ]
  refine wpAnyH_ready (rs := [15]) (by kernel_rfl) (by simp) ?_
  refine AllReadyH.cons (by (simp only [List.getElem?_toArray, List.getElem?_cons_succ, List.getElem?_cons_zero]; rfl)) (fun K hK => ?_) AllReadyH.nil
  go_simp
  refine (CJ3.out _ HU.out).mono ?_
  rintro e vv ⟨rfl, hv⟩
  replace k0 := cellB hv k0
  replace k1 := cellB hv k1
  replace k3 := cellB hv k3
  replace k4 := cellB hv k4
  replace k5 := cellB hv k5
  replace k6 := cellB hv k6
  replace k7 := cellB hv k7
  replace O0 := cellB hv O0
  replace O1 := cellB hv O1
  replace HU := Lib.hid (HU.out.below hv)
  replace HV := Lib.hid (HV.out.below hv)
  replace HB := Lib.hid (below_up HB.out hv (HBX.out _ HB.out))
  clear hv
  try go_wp2_with fail
  clear hHeld
  refine hK.out _ _ ?_ (fun hHeld => ?_)
  · try dsimp only
    go_keep
  clear hK K
  try simp only [Act.put, List.setIfInBounds_toArray, List.set_cons_zero, List.set_cons_succ]
  refine wpAnyH_take (i := 17) (v := ?_) (by (simp only [List.getElem?_toArray, List.getElem?_cons_succ, List.getElem?_cons_zero]; rfl)) (by kernel_rfl) (by kernel_rfl) (by kernel_rfl) (by intro _ _ _ h; exact h) (Or.inl ⟨by kernel_rfl, ?_⟩) hHeld ?_
  case refine_2 =>
    intro w hSw
    try dsimp only at hSw
    go_simp
    try with_reducible rfl
  try simp only [Act.put, List.setIfInBounds_toArray, List.set_cons_zero, List.set_cons_succ]
  refine wpAnyH_take (i := 18) (v := ?_) (by (simp only [List.getElem?_toArray, List.getElem?_cons_succ, List.getElem?_cons_zero]; rfl)) (by kernel_rfl) (by kernel_rfl) (by kernel_rfl) (by intro _ _ _ h; exact h) (Or.inl ⟨by kernel_rfl, ?_⟩) hHeld ?_
  case refine_2 =>
    intro w hSw
    try dsimp only at hSw
    go_simp
    try with_reducible rfl
  try simp only [Act.put, List.setIfInBounds_toArray, List.set_cons_zero, List.set_cons_succ]
  refine wpAnyH_take (i := 19) (v := ?_) (by (simp only [List.getElem?_toArray, List.getElem?_cons_succ, List.getElem?_cons_zero]; rfl)) (by kernel_rfl) (by kernel_rfl) (by kernel_rfl) (by intro _ _ _ h; exact h) (Or.inl ⟨by kernel_rfl, ?_⟩) hHeld ?_
  case refine_2 =>
    intro w hSw
    try dsimp only at hSw
    go_simp
    try with_reducible rfl
  try simp only [Act.put, List.setIfInBounds_toArray, List.set_cons_zero, List.set_cons_succ]
  refine wpAnyH_take (i := 20) (v := ?_) (by (simp only [List.getElem?_toArray, List.getElem?_cons_succ, List.getElem?_cons_zero]; rfl)) (by kernel_rfl) (by kernel_rfl) (by kernel_rfl) (by intro _ _ _ h; exact h) (Or.inl ⟨by kernel_rfl, ?_⟩) hHeld ?_
  case refine_2 =>
    intro w hSw
    try dsimp only at hSw
    go_simp
    try with_reducible rfl
  try simp only [Act.put, List.setIfInBounds_toArray, List.set_cons_zero, List.set_cons_succ]
  refine wpAnyH_take (i := 21) (v := ?_) (by (simp only [List.getElem?_toArray, List.getElem?_cons_succ, List.getElem?_cons_zero]; rfl)) (by kernel_rfl) (by kernel_rfl) (by kernel_rfl) (by intro _ _ _ h; exact h) (Or.inl ⟨by kernel_rfl, ?_⟩) hHeld ?_
  case refine_2 =>
    intro w hSw
    try dsimp only at hSw
    go_simp
    try with_reducible rfl
  try simp only [Act.put, List.setIfInBounds_toArray, List.set_cons_zero, List.set_cons_succ]
  refine wpAnyH_take (i := 22) (v := ?_) (by (simp only [List.getElem?_toArray, List.getElem?_cons_succ, List.getElem?_cons_zero]; rfl)) (by kernel_rfl) (by kernel_rfl) (by kernel_rfl) (by intro _ _ _ h; exact h) (Or.inl ⟨by kernel_rfl, ?_⟩) hHeld ?_
  case refine_2 =>
    intro w hSw
    try dsimp only at hSw
    go_simp
    try with_reducible rfl
  try simp only [Act.put, List.setIfInBounds_toArray, List.set_cons_zero, List.set_cons_succ]
  refine wpAnyH_take (i := 23) (v := ?_) (by (simp only [List.getElem?_toArray, List.getElem?_cons_succ, List.getElem?_cons_zero]; rfl)) (by kernel_rfl) (by kernel_rfl) (by kernel_rfl) (by intro _ _ _ h; exact h) (Or.inl ⟨by kernel_rfl, ?_⟩) hHeld ?_
  case refine_2 =>
    intro w hSw
    try dsimp only at hSw
    go_simp
    try with_reducible rfl
  try simp only [Act.put, List.setIfInBounds_toArray, List.set_cons_zero, List.set_cons_succ]
  refine wpAnyH_take (i := 24) (v := ?_) (by (simp only [List.getElem?_toArray, List.getElem?_cons_succ, List.getElem?_cons_zero]; rfl)) (by kernel_rfl) (by kernel_rfl) (by kernel_rfl) (by intro _ _ _ h; exact h) (Or.inl ⟨by kernel_rfl, ?_⟩) hHeld ?_
  case refine_2 =>
    intro w hSw
    try dsimp only at hSw
    go_simp
    try with_reducible rfl
  try simp only [Act.put, List.setIfInBounds_toArray, List.set_cons_zero, List.set_cons_succ]
  refine wpAnyH_take (i := 25) (v := ?_) (by (simp only [List.getElem?_toArray, List.getElem?_cons_succ, List.getElem?_cons_zero]; rfl)) (by kernel_rfl) (by kernel_rfl) (by kernel_rfl) (by intro _ _ _ h; exact h) (Or.inl ⟨by kernel_rfl, ?_⟩) hHeld ?_
  case refine_2 =>
    intro w hSw
    try dsimp only at hSw
    go_simp
    try with_reducible rfl
  try simp only [Act.put, List.setIfInBounds_toArray, List.set_cons_zero, List.set_cons_succ]
  refine wpAnyH_take (i := 27) (v := ?_) (by (simp only [List.getElem?_toArray, List.getElem?_cons_succ, List.getElem?_cons_zero]; rfl)) (by kernel_rfl) (by kernel_rfl) (by kernel_rfl) (by intro _ _ _ h; exact h) (Or.inl ⟨by kernel_rfl, ?_⟩) hHeld ?_
  case refine_2 =>
    intro w hSw
    try dsimp only at hSw
    go_simp
    try with_reducible rfl
  try simp only [Act.put, List.setIfInBounds_toArray, List.set_cons_zero, List.set_cons_succ]
  refine wpAnyH_take (i := 30) (v := ?_) (by (simp only [List.getElem?_toArray, List.getElem?_cons_succ, List.getElem?_cons_zero]; rfl)) (by kernel_rfl) (by kernel_rfl) (by kernel_rfl) (by intro _ _ _ h; exact h) (Or.inl ⟨by kernel_rfl, ?_⟩) hHeld ?_
  case refine_2 =>
    intro w hSw
    try dsimp only at hSw
    go_simp
    try with_reducible rfl
  try simp only [Act.put, List.setIfInBounds_toArray, List.set_cons_zero, List.set_cons_succ]
  refine wpAnyH_take (i := 26) (v := ?_) (by (simp only [List.getElem?_toArray, List.getElem?_cons_succ, List.getElem?_cons_zero]; rfl)) (by kernel_rfl) (by kernel_rfl) (by kernel_rfl) (by intro _ _ _ h; exact h) (Or.inl ⟨by kernel_rfl, ?_⟩) hHeld ?_
  case refine_2 =>
    intro w hSw
    try dsimp only at hSw
    go_simp
    try with_reducible rfl
  try simp only [Act.put, List.setIfInBounds_toArray, List.set_cons_zero, List.set_cons_succ]
  refine wpAnyH_take (i := 28) (v := ?_) (by (simp only [List.getElem?_toArray, List.getElem?_cons_succ, List.getElem?_cons_zero]; rfl)) (by kernel_rfl) (by kernel_rfl) (by kernel_rfl) (by intro _ _ _ h; exact h) (Or.inl ⟨by kernel_rfl, ?_⟩) hHeld ?_
  case refine_2 =>
    intro w hSw
    try dsimp only at hSw
    go_simp
    try with_reducible rfl
  try simp only [Act.put, List.setIfInBounds_toArray, List.set_cons_zero, List.set_cons_succ]
  refine wpAnyH_ready (rs := [29]) (by kernel_rfl) (by simp) ?_
  refine AllReadyH.cons (by (simp only [List.getElem?_toArray, List.getElem?_cons_succ, List.getElem?_cons_zero]; rfl)) (fun K hK => ?_) AllReadyH.nil
  go_simp
  refine (CR3.out _).mono ?_
  rintro e vv ⟨rfl, hv⟩
  replace k0 := cellB hv k0
  replace k1 := cellB hv k1
  replace k3 := cellB hv k3
  replace k4 := cellB hv k4
  replace k5 := cellB hv k5
  replace k6 := cellB hv k6
  replace k7 := cellB hv k7
  replace O0 := cellB hv O0
  replace O1 := cellB hv O1
  replace HU := Lib.hid (HU.out.below hv)
  replace HV := Lib.hid (HV.out.below hv)
  replace HB := Lib.hid (below_up HB.out hv (HBX.out _ HB.out))
  clear hv
  try go_wp2_with fail
  clear hHeld
  refine hK.out _ _ ?_ (fun hHeld => ?_)
  · try dsimp only
    go_keep
  clear hK K
  try simp only [Act.put, List.setIfInBounds_toArray, List.set_cons_zero, List.set_cons_succ]
  refine wpAnyH_take (i := 31) (v := ?_) (by (simp only [List.getElem?_toArray, List.getElem?_cons_succ, List.getElem?_cons_zero]; rfl)) (by kernel_rfl) (by kernel_rfl) (by kernel_rfl) (by intro _ _ _ h; exact h) (Or.inl ⟨by kernel_rfl, ?_⟩) hHeld ?_
  case refine_2 =>
    intro w hSw
    try dsimp only at hSw
    go_simp
    try with_reducible rfl
  try simp only [Act.put, List.setIfInBounds_toArray, List.set_cons_zero, List.set_cons_succ]
  refine wpAnyH_take (i := 32) (v := ?_) (by (simp only [List.getElem?_toArray, List.getElem?_cons_succ, List.getElem?_cons_zero]; rfl)) (by kernel_rfl) (by kernel_rfl) (by kernel_rfl) (by intro _ _ _ h; exact h) (Or.inl ⟨by kernel_rfl, ?_⟩) hHeld ?_
  case refine_2 =>
    intro w hSw
    try dsimp only at hSw
    go_simp
    try with_reducible rfl
  try simp only [Act.put, List.setIfInBounds_toArray, List.set_cons_zero, List.set_cons_succ]
  refine wpAnyH_take (i := 33) (v := ?_) (by (simp only [List.getElem?_toArray, List.getElem?_cons_succ, List.getElem?_cons_zero]; rfl)) (by kernel_rfl) (by kernel_rfl) (by kernel_rfl) (by intro _ _ _ h; exact h) (Or.inl ⟨by kernel_rfl, ?_⟩) hHeld ?_
  case refine_2 =>
    intro w hSw
    try dsimp only at hSw
    go_simp
    try with_reducible rfl
  try simp only [Act.put, List.setIfInBounds_toArray, List.set_cons_zero, List.set_cons_succ]
  refine wpAnyH_take (i := 34) (v := ?_) (by (simp only [List.getElem?_toArray, List.getElem?_cons_succ, List.getElem?_cons_zero]; rfl)) (by kernel_rfl) (by kernel_rfl) (by kernel_rfl) (by intro _ _ _ h; exact h) (Or.inl ⟨by kernel_rfl, ?_⟩) hHeld ?_
  case refine_2 =>
    intro w hSw
    try dsimp only at hSw
    go_simp
    try with_reducible rfl
  try simp only [Act.put, List.setIfInBounds_toArray, List.set_cons_zero, List.set_cons_succ]
  refine wpAnyH_take (i := 35) (v := ?_) (by (simp only [List.getElem?_toArray, List.getElem?_cons_succ, List.getElem?_cons_zero]; rfl)) (by kernel_rfl) (by kernel_rfl) (by kernel_rfl) (by intro _ _ _ h; exact h) (Or.inl ⟨by kernel_rfl, ?_⟩) hHeld ?_
  case refine_2 =>
    intro w hSw
    try dsimp only at hSw
    go_simp
    try with_reducible rfl
  try simp only [Act.put, List.setIfInBounds_toArray, List.set_cons_zero, List.set_cons_succ]
  refine wpAnyH_take (i := 37) (v := ?_) (by (simp only [List.getElem?_toArray, List.getElem?_cons_succ, List.getElem?_cons_zero]; rfl)) (by kernel_rfl) (by kernel_rfl) (by kernel_rfl) (by intro _ _ _ h; exact h) (Or.inl ⟨by kernel_rfl, ?_⟩) hHeld ?_
  case refine_2 =>
    intro w hSw
    try dsimp only at hSw
    go_simp
    try with_reducible rfl
  try simp only [Act.put, List.setIfInBounds_toArray, List.set_cons_zero, List.set_cons_succ]
  refine wpAnyH_take (i := 39) (v := ?_) (by (simp only [List.getElem?_toArray, List.getElem?_cons_succ, List.getElem?_cons_zero]; rfl)) (by kernel_rfl) (by kernel_rfl) (by kernel_rfl) (by intro _ _ _ h; exact h) (Or.inl ⟨by kernel_rfl, ?_⟩) hHeld ?_
  case refine_2 =>
    intro w hSw
    try dsimp only at hSw
    go_simp
    try with_reducible rfl
  try simp only [Act.put, List.setIfInBounds_toArray, List.set_cons_zero, List.set_cons_succ]
  refine wpAnyH_take (i := 42) (v := ?_) (by (simp only [List.getElem?_toArray, List.getElem?_cons_succ, List.getElem?_cons_zero]; rfl)) (by kernel_rfl) (by kernel_rfl) (by kernel_rfl) (by intro _ _ _ h; exact h) (Or.inl ⟨by kernel_rfl, ?_⟩) hHeld ?_
  case refine_2 =>
    intro w hSw
    try dsimp only at hSw
    go_simp
    try with_reducible rfl
  try simp only [Act.put, List.setIfInBounds_toArray, List.set_cons_zero, List.set_cons_succ]
  refine wpAnyH_take (i := 44) (v := ?_) (by (simp only [List.getElem?_toArray, List.getElem?_cons_succ, List.getElem?_cons_zero]; rfl)) (by kernel_rfl) (by kernel_rfl) (by kernel_rfl) (by intro _ _ _ h; exact h) (Or.inl ⟨by kernel_rfl, ?_⟩) hHeld ?_
  case refine_2 =>
    intro w hSw
    try dsimp only at hSw
    go_simp
    try with_reducible rfl
  try simp only [Act.put, List.setIfInBounds_toArray, List.set_cons_zero, List.set_cons_succ]
  refine wpAnyH_take (i := 36) (v := ?_) (by (simp only [List.getElem?_toArray, List.getElem?_cons_succ, List.getElem?_cons_zero]; rfl)) (by kernel_rfl) (by kernel_rfl) (by kernel_rfl) (by intro _ _ _ h; exact h) (Or.inl ⟨by kernel_rfl, ?_⟩) hHeld ?_
  case refine_2 =>
    intro w hSw
    try dsimp only at hSw
    go_simp
    try with_reducible rfl
  try simp only [Act.put, List.setIfInBounds_toArray, List.set_cons_zero, List.set_cons_succ]
  refine wpAnyH_take (i := 38) (v := ?_) (by (simp only [List.getElem?_toArray, List.getElem?_cons_succ, List.getElem?_cons_zero]; rfl)) (by kernel_rfl) (by kernel_rfl) (by kernel_rfl) (by intro _ _ _ h; exact h) (Or.inl ⟨by kernel_rfl, ?_⟩) hHeld ?_
  case refine_2 =>
    intro w hSw
    try dsimp only at hSw
    go_simp
    try with_reducible rfl
  try simp only [Act.put, List.setIfInBounds_toArray, List.set_cons_zero, List.set_cons_succ]
  refine wpAnyH_take (i := 40) (v := ?_) (by (simp only [List.getElem?_toArray, List.getElem?_cons_succ, List.getElem?_cons_zero]; rfl)) (by kernel_rfl) (by kernel_rfl) (by kernel_rfl) (by intro _ _ _ h; exact h) (Or.inl ⟨by kernel_rfl, ?_⟩) hHeld ?_
  case refine_2 =>
    intro w hSw
    try dsimp only at hSw
    go_simp
    try with_reducible rfl
  try simp only [Act.put, List.setIfInBounds_toArray, List.set_cons_zero, List.set_cons_succ]
  refine wpAnyH_ready (rs := [41]) (by kernel_rfl) (by simp) ?_
  refine AllReadyH.cons (by (simp only [List.getElem?_toArray, List.getElem?_cons_succ, List.getElem?_cons_zero]; rfl)) (fun K hK => ?_) AllReadyH.nil
  go_simp
  refine (CN3.out _).mono ?_
  rintro e vv ⟨rfl, hv⟩
  replace k0 := cellB hv k0
  replace k1 := cellB hv k1
  replace k3 := cellB hv k3
  replace k4 := cellB hv k4
  replace k5 := cellB hv k5
  replace k6 := cellB hv k6
  replace k7 := cellB hv k7
  replace O0 := cellB hv O0
  replace O1 := cellB hv O1
  replace HU := Lib.hid (HU.out.below hv)
  replace HV := Lib.hid (HV.out.below hv)
  replace HB := Lib.hid (below_up HB.out hv (HBX.out _ HB.out))
  clear hv
  try go_wp2_with fail
  clear hHeld
  refine hK.out _ _ ?_ (fun hHeld => ?_)
  · try dsimp only
    go_keep
  clear hK K
  try simp only [Act.put, List.setIfInBounds_toArray, List.set_cons_zero, List.set_cons_succ]
  refine wpAnyH_take (i := 43) (v := ?_) (by (simp only [List.getElem?_toArray, List.getElem?_cons_succ, List.getElem?_cons_zero]; rfl)) (by kernel_rfl) (by kernel_rfl) (by kernel_rfl) (by intro _ _ _ h; exact h) (Or.inl ⟨by kernel_rfl, ?_⟩) hHeld ?_
  case refine_2 =>
    intro w hSw
    try dsimp only at hSw
    go_simp
    try with_reducible rfl
  try simp only [Act.put, List.setIfInBounds_toArray, List.set_cons_zero, List.set_cons_succ]
  refine wpAnyH_take (i := 45) (v := ?_) (by (simp only [List.getElem?_toArray, List.getElem?_cons_succ, List.getElem?_cons_zero]; rfl)) (by kernel_rfl) (by kernel_rfl) (by kernel_rfl) (by intro _ _ _ h; exact h) (Or.inl ⟨by kernel_rfl, ?_⟩) hHeld ?_
  case refine_2 =>
    intro w hSw
    try dsimp only at hSw
    go_simp
    try with_reducible rfl
  try simp only [Act.put, List.setIfInBounds_toArray, List.set_cons_zero, List.set_cons_succ]
  refine wpAnyH_take (i := 46) (v := ?_) (by (simp only [List.getElem?_toArray, List.getElem?_cons_succ, List.getElem?_cons_zero]; rfl)) (by kernel_rfl) (by kernel_rfl) (by kernel_rfl) (by intro _ _ _ h; exact h) (Or.inl ⟨by kernel_rfl, ?_⟩) hHeld ?_
  case refine_2 =>
    intro w hSw
    try dsimp only at hSw
    go_simp
    try with_reducible rfl
  try simp only [Act.put, List.setIfInBounds_toArray, List.set_cons_zero, List.set_cons_succ]
  refine wpAnyH_take (i := 47) (v := ?_) (by (simp only [List.getElem?_toArray, List.getElem?_cons_succ, List.getElem?_cons_zero]; rfl)) (by kernel_rfl) (by kernel_rfl) (by kernel_rfl) (by intro _ _ _ h; exact h) (Or.inl ⟨by kernel_rfl, ?_⟩) hHeld ?_
  case refine_2 =>
    intro w hSw
    try dsimp only at hSw
    go_simp
    try with_reducible rfl
  try simp only [Act.put, List.setIfInBounds_toArray, List.set_cons_zero, List.set_cons_succ]
  refine wpAnyH_done (by kernel_rfl) ?_ _
  go_wp2_with fail
  go_ret
  exact ⟨rfl, by rw [HE.out]; exact HB.out⟩

set_option maxRecDepth 100000 in
set_option maxHeartbeats 8000000 in
theorem sim_hi_l (a b c : List UInt8) (LA MA : Option Addr) (cap cap2 : Nat) (L M : List (List UInt8)) (x y t : Int) (r1 r2 r3 r4 r5 o : Int × Int)
    (HH : Hid ((shortB 300 [a, b, c] && fewB [L, M]) = true)) (la : a.length ≤ 300)
    (U1 : Hid (UnitR r1)) (U2 : Hid (UnitR r2)) (U3 : Hid (UnitR r3)) (U4 : Hid (UnitR r4))
    (CA : Hid (∀ W, Calls Tryd.prog 13 #[str a, str b] W fun e w' => e = .returned (rat r1) ∧ Below W.heap.size W w'))
    (CA2 : Hid (∀ W, Calls Tryd.prog 13 #[str b, str a] W fun e w' => e = .returned (rat r1) ∧ Below W.heap.size W w'))
    (CA3 : Hid (∀ W, Calls Tryd.prog 13 #[str a, str a] W fun e w' => e = .returned (rat o) ∧ Below W.heap.size W w'))
    (CJ : Hid (∀ W, Strs W (.slice LA L.length cap) L → Strs W (.slice MA M.length cap2) M → Calls Tryd.prog 14 #[.slice LA L.length cap, .slice MA M.length cap2] W fun e w' => e = .returned (rat r2) ∧ Below W.heap.size W w'))
    (CJ2 : Hid (∀ W, Strs W (.slice LA L.length cap) L → Strs W (.slice MA M.length cap2) M → Calls Tryd.prog 14 #[.slice MA M.length cap2, .slice LA L.length cap] W fun e w' => e = .returned (rat r2) ∧ Below W.heap.size W w'))
    (CJ3 : Hid (∀ W, Strs W (.slice LA L.length cap) L → Calls Tryd.prog 14 #[.slice LA L.length cap, .slice LA L.length cap] W fun e w' => e = .returned (rat o) ∧ Below W.heap.size W w'))
    (CR : Hid (∀ W, Calls Tryd.prog 15 #[str a, str b] W fun e w' => e = .returned (rat r3) ∧ Below W.heap.size W w'))
    (CR2 : Hid (∀ W, Calls Tryd.prog 15 #[str b, str a] W fun e w' => e = .returned (rat r3) ∧ Below W.heap.size W w'))
    (CN : Hid (∀ W, Calls Tryd.prog 16 #[.int .i64 x, .int .i64 y, .int .i64 t] W fun e w' => e = .returned (rat r4) ∧ Below W.heap.size W w'))
    (CN2 : Hid (∀ W, Calls Tryd.prog 16 #[.int .i64 y, .int .i64 x, .int .i64 t] W fun e w' => e = .returned (rat r4) ∧ Below W.heap.size W w'))
    (CN3 : Hid (∀ W, Calls Tryd.prog 16 #[.int .i64 x, .int .i64 x, .int .i64 t] W fun e w' => e = .returned (rat r5) ∧ Below W.heap.size W w'))
    (CO : Hid (∀ W, Calls Tryd.prog 18 #[.int .i64 1, .int .i64 1] W fun e w' => e = .returned (rat o) ∧ Below W.heap.size W w'))
    (hq : decide (r5 = o) = false) (ht : 1000000000 ≤ t) (ha : 200 < a.length)
    (w : World) (hu : Strs w (.slice LA L.length cap) L) (hv : Strs w (.slice MA M.length cap2) M) :
    Calls Tryd.prog 5 #[.agg #[str a, str b, str c, .slice LA L.length cap, .slice MA M.length cap2, .int .i64 x, .int .i64 y, .int .i64 t]] w fun e w' => e = .returned (.bool true) ∧ Below w.heap.size w w' := by
  have HU := Lib.hid hu
  have HV := Lib.hid hv
  clear hu hv
  have ns := fun r (W : World) => neq_same r W
  have es := fun r (W : World) => eql_same r W
  have hd : decide (t < 1000000000) = false := decide_eq_false (by omega)
  have ht0 : 0 ≤ t := by omega
  have hl : decide ((200 : Int) < (a.length : Int)) = true := by simp; omega
  have e5 : ∀ W : World, (binOp .eql 33 (rat r5) (rat o)).run Tryd.prog W = .ok (.bool false) W := fun W => by rw [seql_rat, hq]
  clear hq
  obtain ⟨k0, k1, k2, k3, k4, k5, k6, k7⟩ := cell_box8 w (str a) (str b) (str c) (.slice LA L.length cap) (.slice MA M.length cap2) (.int .i64 x) (.int .i64 y) (.int .i64 t) 30
  go_enter Tryd.func5, Tryd.ntmps5
  go_wp2_with fail
  refine (head_any _).mono ?_
  rintro e1 w1 ⟨rfl, hv⟩
  have HB := Lib.hid (below_box w (Obj.cells #[str a, str b, str c, .slice LA L.length cap, .slice MA M.length cap2, .int .i64 x, .int .i64 y, .int .i64 t] 30))
  replace HU := Lib.hid (HU.out.below HB.out)
  replace HV := Lib.hid (HV.out.below HB.out)
  obtain ⟨wx, hwx⟩ : ∃ wx, w.alloc (Obj.cells #[str a, str b, str c, .slice LA L.length cap, .slice MA M.length cap2, .int .i64 x, .int .i64 y, .int .i64 t] 30) = wx := ⟨_, rfl⟩
  rw [hwx] at hv HB HU HV k0 k1 k2 k3 k4 k5 k6 k7
  clear hwx
  replace k2 := cellB hv k2
  replace k0 := cellB hv k0
  replace k1 := cellB hv k1
  replace k3 := cellB hv k3
  replace k4 := cellB hv k4
  replace k5 := cellB hv k5
  replace k6 := cellB hv k6
  replace k7 := cellB hv k7
  replace HU := Lib.hid (HU.out.below hv)
  replace HV := Lib.hid (HV.out.below hv)
  replace HB := Lib.hid (below_up HB.out hv HB.out.size)
  clear hv
  go_wp2_with fail
  refine (small_any a b c _ _ L M x y t w1 HU.out HV.out).mono ?_
  rw [HH.out]
  rintro e2 w2 ⟨rfl, hv⟩
  clear k2
  replace k0 := cellB hv k0
  replace k1 := cellB hv k1
  replace k3 := cellB hv k3
  replace k4 := cellB hv k4
  replace k5 := cellB hv k5
  replace k6 := cellB hv k6
  replace k7 := cellB hv k7
  replace HU := Lib.hid (HU.out.below hv)
  replace HV := Lib.hid (HV.out.below hv)
  replace HB := Lib.hid (below_up HB.out hv HB.out.size)
  clear hv
  obtain ⟨bx, hbx⟩ : ∃ bx, w.heap.size = bx := ⟨_, rfl⟩
  have HE : Hid (w.heap.size = bx) := Lib.hid hbx
  have HBX : Hid (∀ W, Below bx w W → bx ≤ W.heap.size) := Lib.hid (fun W h => hbx ▸ h.size)
  rw [hbx] at k0 k1 k3 k4 k5 k6 k7 HB ⊢
  clear hbx
  go_wp2_with fail
  refine (CA.out _).mono ?_
  rintro e3 v1 ⟨rfl, hv⟩
  replace k0 := cellB hv k0
  replace k1 := cellB hv k1
  replace k3 := cellB hv k3
  replace k4 := cellB hv k4
  replace k5 := cellB hv k5
  replace k6 := cellB hv k6
  replace k7 := cellB hv k7
  replace HU := Lib.hid (HU.out.below hv)
  replace HV := Lib.hid (HV.out.below hv)
  replace HB := Lib.hid (below_up HB.out hv (HBX.out _ HB.out))
  clear hv
  have hv := below_box v1 (Obj.cells #[Value.int IntKind.i64 r1.1, Value.int IntKind.i64 r1.2] 33)
  replace k0 := cellB hv k0
  replace k1 := cellB hv k1
  replace k3 := cellB hv k3
  replace k4 := cellB hv k4
  replace k5 := cellB hv k5
  replace k6 := cellB hv k6
  replace k7 := cellB hv k7
  replace HU := Lib.hid (HU.out.below hv)
  replace HV := Lib.hid (HV.out.below hv)
  replace HB := Lib.hid (below_up HB.out hv (HBX.out _ HB.out))
  clear hv
  have A0 := (own2_new v1 r1.1 r1.2 33).c0
  have A1 := (own2_new v1 r1.1 r1.2 33).c1
  go_wp2_with fail
  refine (CJ.out _ HU.out HV.out).mono ?_
  rintro e4 v2 ⟨rfl, hv⟩
  replace k0 := cellB hv k0
  replace k1 := cellB hv k1
  replace k3 := cellB hv k3
  replace k4 := cellB hv k4
  replace k5 := cellB hv k5
  replace k6 := cellB hv k6
  replace k7 := cellB hv k7
  replace A0 := cellB hv A0
  replace A1 := cellB hv A1
  replace HU := Lib.hid (HU.out.below hv)
  replace HV := Lib.hid (HV.out.below hv)
  replace HB := Lib.hid (below_up HB.out hv (HBX.out _ HB.out))
  clear hv
  obtain ⟨b1, hbl⟩ : ∃ bl, v1.heap.size = bl := ⟨_, rfl⟩
  rw [hbl] at A0 A1 ⊢
  clear hbl
  have hv := below_box v2 (Obj.cells #[Value.int IntKind.i64 r2.1, Value.int IntKind.i64 r2.2] 33)
  replace k0 := cellB hv k0
  replace k1 := cellB hv k1
  replace k3 := cellB hv k3
  replace k4 := cellB hv k4
  replace k5 := cellB hv k5
  replace k6 := cellB hv k6
  replace k7 := cellB hv k7
  replace A0 := cellB hv A0
  replace A1 := cellB hv A1
  replace HU := Lib.hid (HU.out.below hv)
  replace HV := Lib.hid (HV.out.below hv)
  replace HB := Lib.hid (below_up HB.out hv (HBX.out _ HB.out))
  clear hv
  have B0 := (own2_new v2 r2.1 r2.2 33).c0
  have B1 := (own2_new v2 r2.1 r2.2 33).c1
  go_wp2_with fail
  refine (CR.out _).mono ?_
  rintro e5 v3 ⟨rfl, hv⟩
  replace k0 := cellB hv k0
  replace k1 := cellB hv k1
  replace k3 := cellB hv k3
  replace k4 := cellB hv k4
  replace k5 := cellB hv k5
  replace k6 := cellB hv k6
  replace k7 := cellB hv k7
  replace A0 := cellB hv A0
  replace A1 := cellB hv A1
  replace B0 := cellB hv B0
  replace B1 := cellB hv B1
  replace HU := Lib.hid (HU.out.below hv)
  replace HV := Lib.hid (HV.out.below hv)
  replace HB := Lib.hid (below_up HB.out hv (HBX.out _ HB.out))
  clear hv
  obtain ⟨b2, hbl⟩ : ∃ bl, v2.heap.size = bl := ⟨_, rfl⟩
  rw [hbl] at B0 B1 ⊢
  clear hbl
  have hv := below_box v3 (Obj.cells #[Value.int IntKind.i64 r3.1, Value.int IntKind.i64 r3.2] 33)
  replace k0 := cellB hv k0
  replace k1 := cellB hv k1
  replace k3 := cellB hv k3
  replace k4 := cellB hv k4
  replace k5 := cellB hv k5
  replace k6 := cellB hv k6
  replace k7 := cellB hv k7
  replace A0 := cellB hv A0
  replace A1 := cellB hv A1
  replace B0 := cellB hv B0
  replace B1 := cellB hv B1
  replace HU := Lib.hid (HU.out.below hv)
  replace HV := Lib.hid (HV.out.below hv)
  replace HB := Lib.hid (below_up HB.out hv (HBX.out _ HB.out))
  clear hv
  have C0 := (own2_new v3 r3.1 r3.2 33).c0
  have C1 := (own2_new v3 r3.1 r3.2 33).c1
  go_wp2_with fail
  refine (CN.out _).mono ?_
  rintro e6 v4 ⟨rfl, hv⟩
  replace k0 := cellB hv k0
  replace k1 := cellB hv k1
  replace k3 := cellB hv k3
  replace k4 := cellB hv k4
  replace k5 := cellB hv k5
  replace k6 := cellB hv k6
  replace k7 := cellB hv k7
  replace A0 := cellB hv A0
  replace A1 := cellB hv A1
  replace B0 := cellB hv B0
  replace B1 := cellB hv B1
  replace C0 := cellB hv C0
  replace C1 := cellB hv C1
  replace HU := Lib.hid (HU.out.below hv)
  replace HV := Lib.hid (HV.out.below hv)
  replace HB := Lib.hid (below_up HB.out hv (HBX.out _ HB.out))
  clear hv
  obtain ⟨b3, hbl⟩ : ∃ bl, v3.heap.size = bl := ⟨_, rfl⟩
  rw [hbl] at C0 C1 ⊢
  clear hbl
  have hv := below_box v4 (Obj.cells #[Value.int IntKind.i64 r4.1, Value.int IntKind.i64 r4.2] 33)
  replace k0 := cellB hv k0
  replace k1 := cellB hv k1
  replace k3 := cellB hv k3
  replace k4 := cellB hv k4
  replace k5 := cellB hv k5
  replace k6 := cellB hv k6
  replace k7 := cellB hv k7
  replace A0 := cellB hv A0
  replace A1 := cellB hv A1
  replace B0 := cellB hv B0
  replace B1 := cellB hv B1
  replace C0 := cellB hv C0
  replace C1 := cellB hv C1
  replace HU := Lib.hid (HU.out.below hv)
  replace HV := Lib.hid (HV.out.below hv)
  replace HB := Lib.hid (below_up HB.out hv (HBX.out _ HB.out))
  clear hv
  have D0 := (own2_new v4 r4.1 r4.2 33).c0
  have D1 := (own2_new v4 r4.1 r4.2 33).c1
  go_wp2_with fail
  refine (unit_ok _ U1.out _).mono ?_
  rintro e vv ⟨rfl, hv⟩
  replace k0 := cellB hv k0
  replace k1 := cellB hv k1
  replace k3 := cellB hv k3
  replace k4 := cellB hv k4
  replace k5 := cellB hv k5
  replace k6 := cellB hv k6
  replace k7 := cellB hv k7
  replace A0 := cellB hv A0
  replace A1 := cellB hv A1
  replace B0 := cellB hv B0
  replace B1 := cellB hv B1
  replace C0 := cellB hv C0
  replace C1 := cellB hv C1
  replace D0 := cellB hv D0
  replace D1 := cellB hv D1
  replace HU := Lib.hid (HU.out.below hv)
  replace HV := Lib.hid (HV.out.below hv)
  replace HB := Lib.hid (below_up HB.out hv (HBX.out _ HB.out))
  clear hv
  obtain ⟨b4, hbl⟩ : ∃ bl, v4.heap.size = bl := ⟨_, rfl⟩
  rw [hbl] at D0 D1 ⊢
  clear hbl
  go_wp2_with fail
  refine (unit_ok _ U2.out _).mono ?_
  rintro e vv ⟨rfl, hv⟩
  replace k0 := cellB hv k0
  replace k1 := cellB hv k1
  replace k3 := cellB hv k3
  replace k4 := cellB hv k4
  replace k5 := cellB hv k5
  replace k6 := cellB hv k6
  replace k7 := cellB hv k7
  replace A0 := cellB hv A0
  replace A1 := cellB hv A1
  replace B0 := cellB hv B0
  replace B1 := cellB hv B1
  replace C0 := cellB hv C0
  replace C1 := cellB hv C1
  replace D0 := cellB hv D0
  replace D1 := cellB hv D1
  replace HU := Lib.hid (HU.out.below hv)
  replace HV := Lib.hid (HV.out.below hv)
  replace HB := Lib.hid (below_up HB.out hv (HBX.out _ HB.out))
  clear hv
  go_wp2_with fail
  refine (unit_ok _ U3.out _).mono ?_
  rintro e vv ⟨rfl, hv⟩
  replace k0 := cellB hv k0
  replace k1 := cellB hv k1
  replace k3 := cellB hv k3
  replace k4 := cellB hv k4
  replace k5 := cellB hv k5
  replace k6 := cellB hv k6
  replace k7 := cellB hv k7
  replace A0 := cellB hv A0
  replace A1 := cellB hv A1
  replace B0 := cellB hv B0
  replace B1 := cellB hv B1
  replace C0 := cellB hv C0
  replace C1 := cellB hv C1
  replace D0 := cellB hv D0
  replace D1 := cellB hv D1
  replace HU := Lib.hid (HU.out.below hv)
  replace HV := Lib.hid (HV.out.below hv)
  replace HB := Lib.hid (below_up HB.out hv (HBX.out _ HB.out))
  clear hv
  go_wp2_with fail
  refine (unit_ok _ U4.out _).mono ?_
  rintro e vv ⟨rfl, hv⟩
  replace k0 := cellB hv k0
  replace k1 := cellB hv k1
  replace k3 := cellB hv k3
  replace k4 := cellB hv k4
  replace k5 := cellB hv k5
  replace k6 := cellB hv k6
  replace k7 := cellB hv k7
  replace A0 := cellB hv A0
  replace A1 := cellB hv A1
  replace B0 := cellB hv B0
  replace B1 := cellB hv B1
  replace C0 := cellB hv C0
  replace C1 := cellB hv C1
  replace D0 := cellB hv D0
  replace D1 := cellB hv D1
  replace HU := Lib.hid (HU.out.below hv)
  replace HV := Lib.hid (HV.out.below hv)
  replace HB := Lib.hid (below_up HB.out hv (HBX.out _ HB.out))
  clear hv
  go_wp2_with fail
  have pk0 := k0
  have pk1 := k1
  have pk3 := k3
  have pk4 := k4
  have pk5 := k5
  have pk6 := k6
  have pk7 := k7
  have pA0 := A0
  have pA1 := A1
  have pB0 := B0
  have pB1 := B1
  have pC0 := C0
  have pC1 := C1
  have pD0 := D0
  have pD1 := D1
  have hv := below_drewN vv.heap.size vv 1
  replace k0 := cellB hv k0
  replace k1 := cellB hv k1
  replace k3 := cellB hv k3
  replace k4 := cellB hv k4
  replace k5 := cellB hv k5
  replace k6 := cellB hv k6
  replace k7 := cellB hv k7
  replace A0 := cellB hv A0
  replace A1 := cellB hv A1
  replace B0 := cellB hv B0
  replace B1 := cellB hv B1
  replace C0 := cellB hv C0
  replace C1 := cellB hv C1
  replace D0 := cellB hv D0
  replace D1 := cellB hv D1
  replace HU := Lib.hid (HU.out.below hv)
  replace HV := Lib.hid (HV.out.below hv)
  replace HB := Lib.hid (below_up HB.out hv (HBX.out _ HB.out))
  clear hv
  refine wp_region_held_drew (S := (fun w' => w'.cell? ⟨bx, 0, none⟩ = some (str a) ∧ w'.cell? ⟨bx, 1, none⟩ = some (str b) ∧ w'.cell? ⟨bx, 3, none⟩ = some (.slice LA L.length cap) ∧ w'.cell? ⟨bx, 4, none⟩ = some (.slice MA M.length cap2) ∧ w'.cell? ⟨bx, 5, none⟩ = some (.int .i64 x) ∧ w'.cell? ⟨bx, 6, none⟩ = some (.int .i64 y) ∧ w'.cell? ⟨bx, 7, none⟩ = some (.int .i64 t) ∧ w'.cell? ⟨b1, 0, none⟩ = some (.int .i64 r1.1) ∧ w'.cell? ⟨b1, 1, none⟩ = some (.int .i64 r1.2) ∧ w'.cell? ⟨b2, 0, none⟩ = some (.int .i64 r2.1) ∧ w'.cell? ⟨b2, 1, none⟩ = some (.int .i64 r2.2) ∧ w'.cell? ⟨b3, 0, none⟩ = some (.int .i64 r3.1) ∧ w'.cell? ⟨b3, 1, none⟩ = some (.int .i64 r3.2) ∧ w'.cell? ⟨b4, 0, none⟩ = some (.int .i64 r4.1) ∧ w'.cell? ⟨b4, 1, none⟩ = some (.int .i64 r4.2))) (by kernel_rfl) ?_ (fun hHeld => ?_)
  · try dsimp only
    go_keep
  refine wpAnyH_take (i := 0) (v := ?_) (by (simp only [List.getElem?_toArray, List.getElem?_cons_zero]; rfl)) (by kernel_rfl) (by kernel_rfl) (by kernel_rfl) (by intro _ _ _ h; exact h) (Or.inl ⟨by kernel_rfl, ?_⟩) hHeld ?_
  case refine_2 =>
    intro w hSw
    try dsimp only at hSw
    go_simp
    try with_reducible rfl
  try simp only [Act.put, List.setIfInBounds_toArray, List.set_cons_zero, List.set_cons_succ]
  refine wpAnyH_take (i := 2) (v := ?_) (by (simp only [List.getElem?_toArray, List.getElem?_cons_succ, List.getElem?_cons_zero]; rfl)) (by kernel_rfl) (by kernel_rfl) (by kernel_rfl) (by intro _ _ _ h; exact h) (Or.inl ⟨by kernel_rfl, ?_⟩) hHeld ?_
  case refine_2 =>
    intro w hSw
    try dsimp only at hSw
    go_simp
    try with_reducible rfl
  try simp only [Act.put, List.setIfInBounds_toArray, List.set_cons_zero, List.set_cons_succ]
  refine wpAnyH_take (i := 5) (v := ?_) (by (simp only [List.getElem?_toArray, List.getElem?_cons_succ, List.getElem?_cons_zero]; rfl)) (by kernel_rfl) (by kernel_rfl) (by kernel_rfl) (by intro _ _ _ h; exact h) (Or.inl ⟨by kernel_rfl, ?_⟩) hHeld ?_
  case refine_2 =>
    intro w hSw
    try dsimp only at hSw
    go_simp
    try with_reducible rfl
  try simp only [Act.put, List.setIfInBounds_toArray, List.set_cons_zero, List.set_cons_succ]
  refine wpAnyH_take (i := 1) (v := ?_) (by (simp only [List.getElem?_toArray, List.getElem?_cons_succ, List.getElem?_cons_zero]; rfl)) (by kernel_rfl) (by kernel_rfl) (by kernel_rfl) (by intro _ _ _ h; exact h) (Or.inl ⟨by kernel_rfl, ?_⟩) hHeld ?_
  case refine_2 =>
    intro w hSw
    try dsimp only at hSw
    go_simp
    try with_reducible rfl
  try simp only [Act.put, List.setIfInBounds_toArray, List.set_cons_zero, List.set_cons_succ]
  refine wpAnyH_take (i := 3) (v := ?_) (by (simp only [List.getElem?_toArray, List.getElem?_cons_succ, List.getElem?_cons_zero]; rfl)) (by kernel_rfl) (by kernel_rfl) (by kernel_rfl) (by intro _ _ _ h; exact h) (Or.inl ⟨by kernel_rfl, ?_⟩) hHeld ?_
  case refine_2 =>
    intro w hSw
    try dsimp only at hSw
    go_simp
    try with_reducible rfl
  try simp only [Act.put, List.setIfInBounds_toArray, List.set_cons_zero, List.set_cons_succ]
  refine wpAnyH_ready (rs := [4]) (by kernel_rfl) (by simp) ?_
  refine AllReadyH.cons (by (simp only [List.getElem?_toArray, List.getElem?_cons_succ, List.getElem?_cons_zero]; rfl)) (fun K hK => ?_) AllReadyH.nil
  go_simp
  refine (CA2.out _).mono ?_
  rintro e vv ⟨rfl, hv⟩
  replace k0 := cellB hv k0
  replace k1 := cellB hv k1
  replace k3 := cellB hv k3
  replace k4 := cellB hv k4
  replace k5 := cellB hv k5
  replace k6 := cellB hv k6
  replace k7 := cellB hv k7
  replace A0 := cellB hv A0
  replace A1 := cellB hv A1
  replace B0 := cellB hv B0
  replace B1 := cellB hv B1
  replace C0 := cellB hv C0
  replace C1 := cellB hv C1
  replace D0 := cellB hv D0
  replace D1 := cellB hv D1
  replace HU := Lib.hid (HU.out.below hv)
  replace HV := Lib.hid (HV.out.below hv)
  replace HB := Lib.hid (below_up HB.out hv (HBX.out _ HB.out))
  clear hv
  try go_wp2_with fail
  clear hHeld
  refine hK.out _ _ ?_ (fun hHeld => ?_)
  · try dsimp only
    go_keep
  clear hK K
  try simp only [Act.put, List.setIfInBounds_toArray, List.set_cons_zero, List.set_cons_succ]
  refine wpAnyH_take (i := 6) (v := ?_) (by (simp only [List.getElem?_toArray, List.getElem?_cons_succ, List.getElem?_cons_zero]; rfl)) (by kernel_rfl) (by kernel_rfl) (by kernel_rfl) (by intro _ _ _ h; exact h) (Or.inl ⟨by kernel_rfl, ?_⟩) hHeld ?_
  case refine_2 =>
    intro w hSw
    try dsimp only at hSw
    go_simp
    try with_reducible rfl
  try simp only [Act.put, List.setIfInBounds_toArray, List.set_cons_zero, List.set_cons_succ]
  refine wpAnyH_take (i := 7) (v := ?_) (by (simp only [List.getElem?_toArray, List.getElem?_cons_succ, List.getElem?_cons_zero]; rfl)) (by kernel_rfl) (by kernel_rfl) (by kernel_rfl) (by intro _ _ _ h; exact h) (Or.inl ⟨by kernel_rfl, ?_⟩) hHeld ?_
  case refine_2 =>
    intro w hSw
    try dsimp only at hSw
    go_simp
    try with_reducible rfl
  try simp only [Act.put, List.setIfInBounds_toArray, List.set_cons_zero, List.set_cons_succ]
  refine wpAnyH_take (i := 8) (v := ?_) (by (simp only [List.getElem?_toArray, List.getElem?_cons_succ, List.getElem?_cons_zero]; rfl)) (by kernel_rfl) (by kernel_rfl) (by kernel_rfl) (by intro _ _ _ h; exact h) (Or.inl ⟨by kernel_rfl, ?_⟩) hHeld ?_
  case refine_2 =>
    intro w hSw
    try dsimp only at hSw
    go_simp
    try with_reducible rfl
  try simp only [Act.put, List.setIfInBounds_toArray, List.set_cons_zero, List.set_cons_succ]
  refine wpAnyH_take (i := 10) (v := ?_) (by (simp only [List.getElem?_toArray, List.getElem?_cons_succ, List.getElem?_cons_zero]; rfl)) (by kernel_rfl) (by kernel_rfl) (by kernel_rfl) (by intro _ _ _ h; exact h) (Or.inl ⟨by kernel_rfl, ?_⟩) hHeld ?_
  case refine_2 =>
    intro w hSw
    try dsimp only at hSw
    go_simp
    try with_reducible rfl
  try simp only [Act.put, List.setIfInBounds_toArray, List.set_cons_zero, List.set_cons_succ]
  refine wpAnyH_take (i := 13) (v := ?_) (by (simp only [List.getElem?_toArray, List.getElem?_cons_succ, List.getElem?_cons_zero]; rfl)) (by kernel_rfl) (by kernel_rfl) (by kernel_rfl) (by intro _ _ _ h; exact h) (Or.inl ⟨by kernel_rfl, ?_⟩) hHeld ?_
  case refine_2 =>
    intro w hSw
    try dsimp only at hSw
    go_simp
    try with_reducible rfl
  try simp only [Act.put, List.setIfInBounds_toArray, List.set_cons_zero, List.set_cons_succ]
  refine wpAnyH_take (i := 9) (v := ?_) (by (simp only [List.getElem?_toArray, List.getElem?_cons_succ, List.getElem?_cons_zero]; rfl)) (by kernel_rfl) (by kernel_rfl) (by kernel_rfl) (by intro _ _ _ h; exact h) (Or.inl ⟨by kernel_rfl, ?_⟩) hHeld ?_
  case refine_2 =>
    intro w hSw
    try dsimp only at hSw
    go_simp
    try with_reducible rfl
  try simp only [Act.put, List.setIfInBounds_toArray, List.set_cons_zero, List.set_cons_succ]
  refine wpAnyH_take (i := 11) (v := ?_) (by (simp only [List.getElem?_toArray, List.getElem?_cons_succ, List.getElem?_cons_zero]; rfl)) (by kernel_rfl) (by kernel_rfl) (by kernel_rfl) (by intro _ _ _ h; exact h) (Or.inl ⟨by kernel_rfl, ?_⟩) hHeld ?_
  case refine_2 =>
    intro w hSw
    try dsimp only at hSw
    go_simp
    try with_reducible rfl
  try simp only [Act.put, List.setIfInBounds_toArray, List.set_cons_zero, List.set_cons_succ]
  refine wpAnyH_ready (rs := [12]) (by kernel_rfl) (by simp) ?_
  refine AllReadyH.cons (by (simp only [List.getElem?_toArray, List.getElem?_cons_succ, List.getElem?_cons_zero]; rfl)) (fun K hK => ?_) AllReadyH.nil
  go_simp
  refine (CJ2.out _ HU.out HV.out).mono ?_
  rintro e vv ⟨rfl, hv⟩
  replace k0 := cellB hv k0
  replace k1 := cellB hv k1
  replace k3 := cellB hv k3
  replace k4 := cellB hv k4
  replace k5 := cellB hv k5
  replace k6 := cellB hv k6
  replace k7 := cellB hv k7
  replace A0 := cellB hv A0
  replace A1 := cellB hv A1
  replace B0 := cellB hv B0
  replace B1 := cellB hv B1
  replace C0 := cellB hv C0
  replace C1 := cellB hv C1
  replace D0 := cellB hv D0
  replace D1 := cellB hv D1
  replace HU := Lib.hid (HU.out.below hv)
  replace HV := Lib.hid (HV.out.below hv)
  replace HB := Lib.hid (below_up HB.out hv (HBX.out _ HB.out))
  clear hv
  try go_wp2_with fail
  clear hHeld
  refine hK.out _ _ ?_ (fun hHeld => ?_)
  · try dsimp only
    go_keep
  clear hK K
  try simp only [Act.put, List.setIfInBounds_toArray, List.set_cons_zero, List.set_cons_succ]
  refine wpAnyH_take (i := 14) (v := ?_) (by (simp only [List.getElem?_toArray, List.getElem?_cons_succ, List.getElem?_cons_zero]; rfl)) (by kernel_rfl) (by kernel_rfl) (by kernel_rfl) (by intro _ _ _ h; exact h) (Or.inl ⟨by kernel_rfl, ?_⟩) hHeld ?_
  case refine_2 =>
    intro w hSw
    try dsimp only at hSw
    go_simp
    try with_reducible rfl
  try simp only [Act.put, List.setIfInBounds_toArray, List.set_cons_zero, List.set_cons_succ]
  refine wpAnyH_take (i := 15) (v := ?_) (by (simp only [List.getElem?_toArray, List.getElem?_cons_succ, List.getElem?_cons_zero]; rfl)) (by kernel_rfl) (by kernel_rfl) (by kernel_rfl) (by intro _ _ _ h; exact h) (Or.inl ⟨by kernel_rfl, ?_⟩) hHeld ?_
  case refine_2 =>
    intro w hSw
    try dsimp only at hSw
    go_simp
    try with_reducible rfl
  try simp only [Act.put, List.setIfInBounds_toArray, List.set_cons_zero, List.set_cons_succ]
  refine wpAnyH_take (i := 16) (v := ?_) (by (simp only [List.getElem?_toArray, List.getElem?_cons_succ, List.getElem?_cons_zero]; rfl)) (by kernel_rfl) (by kernel_rfl) (by kernel_rfl) (by intro _ _ _ h; exact h) (Or.inl ⟨by kernel_rfl, ?_⟩) hHeld ?_
  case refine_2 =>
    intro w hSw
    try dsimp only at hSw
    go_simp
    try with_reducible rfl
  try simp only [Act.put, List.setIfInBounds_toArray, List.set_cons_zero, List.set_cons_succ]
  refine wpAnyH_take (i := 17) (v := ?_) (by (simp only [List.getElem?_toArray, List.getElem?_cons_succ, List.getElem?_cons_zero]; rfl)) (by kernel_rfl) (by kernel_rfl) (by kernel_rfl) (by intro _ _ _ h; exact h) (Or.inl ⟨by kernel_rfl, ?_⟩) hHeld ?_
  case refine_2 =>
    intro w hSw
    try dsimp only at hSw
    go_simp
    try with_reducible rfl
  try simp only [Act.put, List.setIfInBounds_toArray, List.set_cons_zero, List.set_cons_succ]
  refine wpAnyH_take (i := 19) (v := ?_) (by (simp only [List.getElem?_toArray, List.getElem?_cons_succ, List.getElem?_cons_zero]; rfl)) (by kernel_rfl) (by kernel_rfl) (by kernel_rfl) (by intro _ _ _ h; exact h) (Or.inl ⟨by kernel_rfl, ?_⟩) hHeld ?_
  case refine_2 =>
    intro w hSw
    try dsimp only at hSw
    go_simp
    try with_reducible rfl
  try simp only [Act.put, List.setIfInBounds_toArray, List.set_cons_zero, List.set_cons_succ]
  refine wpAnyH_take (i := 22) (v := ?_) (by (simp only [List.getElem?_toArray, List.getElem?_cons_succ, List.getElem?_cons_zero]; rfl)) (by kernel_rfl) (by kernel_rfl) (by kernel_rfl) (by intro _ _ _ h; exact h) (Or.inl ⟨by kernel_rfl, ?_⟩) hHeld ?_
  case refine_2 =>
    intro w hSw
    try dsimp only at hSw
    go_simp
    try with_reducible rfl
  try simp only [Act.put, List.setIfInBounds_toArray, List.set_cons_zero, List.set_cons_succ]
  refine wpAnyH_take (i := 18) (v := ?_) (by (simp only [List.getElem?_toArray, List.getElem?_cons_succ, List.getElem?_cons_zero]; rfl)) (by kernel_rfl) (by kernel_rfl) (by kernel_rfl) (by intro _ _ _ h; exact h) (Or.inl ⟨by kernel_rfl, ?_⟩) hHeld ?_
  case refine_2 =>
    intro w hSw
    try dsimp only at hSw
    go_simp
    try with_reducible rfl
  try simp only [Act.put, List.setIfInBounds_toArray, List.set_cons_zero, List.set_cons_succ]
  refine wpAnyH_take (i := 20) (v := ?_) (by (simp only [List.getElem?_toArray, List.getElem?_cons_succ, List.getElem?_cons_zero]; rfl)) (by kernel_rfl) (by kernel_rfl) (by kernel_rfl) (by intro _ _ _ h; exact h) (Or.inl ⟨by kernel_rfl, ?_⟩) hHeld ?_
  case refine_2 =>
    intro w hSw
    try dsimp only at hSw
    go_simp
    try with_reducible rfl
  try simp only [Act.put, List.setIfInBounds_toArray, List.set_cons_zero, List.set_cons_succ]
  refine wpAnyH_ready (rs := [21]) (by kernel_rfl) (by simp) ?_
  refine AllReadyH.cons (by (simp only [List.getElem?_toArray, List.getElem?_cons_succ, List.getElem?_cons_zero]; rfl)) (fun K hK => ?_) AllReadyH.nil
  go_simp
  refine (CR2.out _).mono ?_
  rintro e vv ⟨rfl, hv⟩
  replace k0 := cellB hv k0
  replace k1 := cellB hv k1
  replace k3 := cellB hv k3
  replace k4 := cellB hv k4
  replace k5 := cellB hv k5
  replace k6 := cellB hv k6
  replace k7 := cellB hv k7
  replace A0 := cellB hv A0
  replace A1 := cellB hv A1
  replace B0 := cellB hv B0
  replace B1 := cellB hv B1
  replace C0 := cellB hv C0
  replace C1 := cellB hv C1
  replace D0 := cellB hv D0
  replace D1 := cellB hv D1
  replace HU := Lib.hid (HU.out.below hv)
  replace HV := Lib.hid (HV.out.below hv)
  replace HB := Lib.hid (below_up HB.out hv (HBX.out _ HB.out))
  clear hv
  try go_wp2_with fail
  clear hHeld
  refine hK.out _ _ ?_ (fun hHeld => ?_)
  · try dsimp only
    go_keep
  clear hK K
  try simp only [Act.put, List.setIfInBounds_toArray, List.set_cons_zero, List.set_cons_succ]
  refine wpAnyH_take (i := 23) (v := ?_) (by (simp only [List.getElem?_toArray, List.getElem?_cons_succ, List.getElem?_cons_zero]; rfl)) (by kernel_rfl) (by kernel_rfl) (by kernel_rfl) (by intro _ _ _ h; exact h) (Or.inl ⟨by kernel_rfl, ?_⟩) hHeld ?_
  case refine_2 =>
    intro w hSw
    try dsimp only at hSw
    go_simp
    try with_reducible rfl
  try simp only [Act.put, List.setIfInBounds_toArray, List.set_cons_zero, List.set_cons_succ]
  refine wpAnyH_take (i := 24) (v := ?_) (by (simp only [List.getElem?_toArray, List.getElem?_cons_succ, List.getElem?_cons_zero]; rfl)) (by kernel_rfl) (by kernel_rfl) (by kernel_rfl) (by intro _ _ _ h; exact h) (Or.inl ⟨by kernel_rfl, ?_⟩) hHeld ?_
  case refine_2 =>
    intro w hSw
    try dsimp only at hSw
    go_simp
    try with_reducible rfl
  try simp only [Act.put, List.setIfInBounds_toArray, List.set_cons_zero, List.set_cons_succ]
  refine wpAnyH_take (i := 25) (v := ?_) (by (simp only [List.getElem?_toArray, List.getElem?_cons_succ, List.getElem?_cons_zero]; rfl)) (by kernel_rfl) (by kernel_rfl) (by kernel_rfl) (by intro _ _ _ h; exact h) (Or.inl ⟨by kernel_rfl, ?_⟩) hHeld ?_
  case refine_2 =>
    intro w hSw
    try dsimp only at hSw
    go_simp
    try with_reducible rfl
  try simp only [Act.put, List.setIfInBounds_toArray, List.set_cons_zero, List.set_cons_succ]
  refine wpAnyH_take (i := 26) (v := ?_) (by (simp only [List.getElem?_toArray, List.getElem?_cons_succ, List.getElem?_cons_zero]; rfl)) (by kernel_rfl) (by kernel_rfl) (by kernel_rfl) (by intro _ _ _ h; exact h) (Or.inl ⟨by kernel_rfl, ?_⟩) hHeld ?_
  case refine_2 =>
    intro w hSw
    try dsimp only at hSw
    go_simp
    try with_reducible rfl
  try simp only [Act.put, List.setIfInBounds_toArray, List.set_cons_zero, List.set_cons_succ]
  refine wpAnyH_take (i := 28) (v := ?_) (by (simp only [List.getElem?_toArray, List.getElem?_cons_succ, List.getElem?_cons_zero]; rfl)) (by kernel_rfl) (by kernel_rfl) (by kernel_rfl) (by intro _ _ _ h; exact h) (Or.inl ⟨by kernel_rfl, ?_⟩) hHeld ?_
  case refine_2 =>
    intro w hSw
    try dsimp only at hSw
    go_simp
    try with_reducible rfl
  try simp only [Act.put, List.setIfInBounds_toArray, List.set_cons_zero, List.set_cons_succ]
  refine wpAnyH_take (i := 30) (v := ?_) (by (simp only [List.getElem?_toArray, List.getElem?_cons_succ, List.getElem?_cons_zero]; rfl)) (by kernel_rfl) (by kernel_rfl) (by kernel_rfl) (by intro _ _ _ h; exact h) (Or.inl ⟨by kernel_rfl, ?_⟩) hHeld ?_
  case refine_2 =>
    intro w hSw
    try dsimp only at hSw
    go_simp
    try with_reducible rfl
  try simp only [Act.put, List.setIfInBounds_toArray, List.set_cons_zero, List.set_cons_succ]
  refine wpAnyH_take (i := 33) (v := ?_) (by (simp only [List.getElem?_toArray, List.getElem?_cons_succ, List.getElem?_cons_zero]; rfl)) (by kernel_rfl) (by kernel_rfl) (by kernel_rfl) (by intro _ _ _ h; exact h) (Or.inl ⟨by kernel_rfl, ?_⟩) hHeld ?_
  case refine_2 =>
    intro w hSw
    try dsimp only at hSw
    go_simp
    try with_reducible rfl
  try simp only [Act.put, List.setIfInBounds_toArray, List.set_cons_zero, List.set_cons_succ]
  refine wpAnyH_take (i := 27) (v := ?_) (by (simp only [List.getElem?_toArray, List.getElem?_cons_succ, List.getElem?_cons_zero]; rfl)) (by kernel_rfl) (by kernel_rfl) (by kernel_rfl) (by intro _ _ _ h; exact h) (Or.inl ⟨by kernel_rfl, ?_⟩) hHeld ?_
  case refine_2 =>
    intro w hSw
    try dsimp only at hSw
    go_simp
    try with_reducible rfl
  try simp only [Act.put, List.setIfInBounds_toArray, List.set_cons_zero, List.set_cons_succ]
  refine wpAnyH_take (i := 29) (v := ?_) (by (simp only [List.getElem?_toArray, List.getElem?_cons_succ, List.getElem?_cons_zero]; rfl)) (by kernel_rfl) (by kernel_rfl) (by kernel_rfl) (by intro _ _ _ h; exact h) (Or.inl ⟨by kernel_rfl, ?_⟩) hHeld ?_
  case refine_2 =>
    intro w hSw
    try dsimp only at hSw
    go_simp
    try with_reducible rfl
  try simp only [Act.put, List.setIfInBounds_toArray, List.set_cons_zero, List.set_cons_succ]
  refine wpAnyH_take (i := 31) (v := ?_) (by (simp only [List.getElem?_toArray, List.getElem?_cons_succ, List.getElem?_cons_zero]; rfl)) (by kernel_rfl) (by kernel_rfl) (by kernel_rfl) (by intro _ _ _ h; exact h) (Or.inl ⟨by kernel_rfl, ?_⟩) hHeld ?_
  case refine_2 =>
    intro w hSw
    try dsimp only at hSw
    go_simp
    try with_reducible rfl
  try simp only [Act.put, List.setIfInBounds_toArray, List.set_cons_zero, List.set_cons_succ]
  refine wpAnyH_ready (rs := [32]) (by kernel_rfl) (by simp) ?_
  refine AllReadyH.cons (by (simp only [List.getElem?_toArray, List.getElem?_cons_succ, List.getElem?_cons_zero]; rfl)) (fun K hK => ?_) AllReadyH.nil
  go_simp
  refine (CN2.out _).mono ?_
  rintro e vv ⟨rfl, hv⟩
  replace k0 := cellB hv k0
  replace k1 := cellB hv k1
  replace k3 := cellB hv k3
  replace k4 := cellB hv k4
  replace k5 := cellB hv k5
  replace k6 := cellB hv k6
  replace k7 := cellB hv k7
  replace A0 := cellB hv A0
  replace A1 := cellB hv A1
  replace B0 := cellB hv B0
  replace B1 := cellB hv B1
  replace C0 := cellB hv C0
  replace C1 := cellB hv C1
  replace D0 := cellB hv D0
  replace D1 := cellB hv D1
  replace HU := Lib.hid (HU.out.below hv)
  replace HV := Lib.hid (HV.out.below hv)
  replace HB := Lib.hid (below_up HB.out hv (HBX.out _ HB.out))
  clear hv
  try go_wp2_with fail
  clear hHeld
  refine hK.out _ _ ?_ (fun hHeld => ?_)
  · try dsimp only
    go_keep
  clear hK K
  try simp only [Act.put, List.setIfInBounds_toArray, List.set_cons_zero, List.set_cons_succ]
  refine wpAnyH_take (i := 34) (v := ?_) (by (simp only [List.getElem?_toArray, List.getElem?_cons_succ, List.getElem?_cons_zero]; rfl)) (by kernel_rfl) (by kernel_rfl) (by kernel_rfl) (by intro _ _ _ h; exact h) (Or.inl ⟨by kernel_rfl, ?_⟩) hHeld ?_
  case refine_2 =>
    intro w hSw
    try dsimp only at hSw
    go_simp
    try with_reducible rfl
  try simp only [Act.put, List.setIfInBounds_toArray, List.set_cons_zero, List.set_cons_succ]
  refine wpAnyH_take (i := 35) (v := ?_) (by (simp only [List.getElem?_toArray, List.getElem?_cons_succ, List.getElem?_cons_zero]; rfl)) (by kernel_rfl) (by kernel_rfl) (by kernel_rfl) (by intro _ _ _ h; exact h) (Or.inl ⟨by kernel_rfl, ?_⟩) hHeld ?_
  case refine_2 =>
    intro w hSw
    try dsimp only at hSw
    go_simp
    try with_reducible rfl
  try simp only [Act.put, List.setIfInBounds_toArray, List.set_cons_zero, List.set_cons_succ]
  refine wpAnyH_done (by kernel_rfl) ?_ _
  clear ns A0 A1 B0 B1 C0 C1 D0 D1
  go_wp2_with fail
  refine (CO.out _).mono ?_
  rintro e v5 ⟨rfl, hv⟩
  replace k0 := cellB hv k0
  replace k1 := cellB hv k1
  replace k3 := cellB hv k3
  replace k4 := cellB hv k4
  replace k5 := cellB hv k5
  replace k6 := cellB hv k6
  replace k7 := cellB hv k7
  replace HU := Lib.hid (HU.out.below hv)
  replace HV := Lib.hid (HV.out.below hv)
  replace HB := Lib.hid (below_up HB.out hv (HBX.out _ HB.out))
  clear hv
  have hv := below_box v5 (Obj.cells #[Value.int IntKind.i64 o.1, Value.int IntKind.i64 o.2] 33)
  replace k0 := cellB hv k0
  replace k1 := cellB hv k1
  replace k3 := cellB hv k3
  replace k4 := cellB hv k4
  replace k5 := cellB hv k5
  replace k6 := cellB hv k6
  replace k7 := cellB hv k7
  replace HU := Lib.hid (HU.out.below hv)
  replace HV := Lib.hid (HV.out.below hv)
  replace HB := Lib.hid (below_up HB.out hv (HBX.out _ HB.out))
  clear hv
  have O0 := (own2_new v5 o.1 o.2 33).c0
  have O1 := (own2_new v5 o.1 o.2 33).c1
  go_wp2_with fail
  obtain ⟨W, hW⟩ : ∃ W, v5.alloc (Obj.cells #[Value.int IntKind.i64 o.1, Value.int IntKind.i64 o.2] 33) = W := ⟨_, rfl⟩
  rw [hW] at k0 k1 k3 k4 k5 k6 k7 O0 O1 HU HV HB ⊢
  clear hW
  obtain ⟨b5, hbl⟩ : ∃ bl, v5.heap.size = bl := ⟨_, rfl⟩
  rw [hbl] at O0 O1 ⊢
  clear hbl
  clear pk0 pk1 pk3 pk4 pk5 pk6 pk7 pA0 pA1 pB0 pB1 pC0 pC1 pD0 pD1
  have pk0 := k0
  have pk1 := k1
  have pk3 := k3
  have pk4 := k4
  have pk5 := k5
  have pk6 := k6
  have pk7 := k7
  have pO0 := O0
  have pO1 := O1
  have hv := below_drewN W.heap.size W 1
  replace k0 := cellB hv k0
  replace k1 := cellB hv k1
  replace k3 := cellB hv k3
  replace k4 := cellB hv k4
  replace k5 := cellB hv k5
  replace k6 := cellB hv k6
  replace k7 := cellB hv k7
  replace O0 := cellB hv O0
  replace O1 := cellB hv O1
  replace HU := Lib.hid (HU.out.below hv)
  replace HV := Lib.hid (HV.out.below hv)
  replace HB := Lib.hid (below_up HB.out hv (HBX.out _ HB.out))
  clear hv
  refine wp_region_held_drew (S := (fun w' => w'.cell? ⟨bx, 0, none⟩ = some (str a) ∧ w'.cell? ⟨bx, 1, none⟩ = some (str b) ∧ w'.cell? ⟨bx, 3, none⟩ = some (.slice LA L.length cap) ∧ w'.cell? ⟨bx, 4, none⟩ = some (.slice MA M.length cap2) ∧ w'.cell? ⟨bx, 5, none⟩ = some (.int .i64 x) ∧ w'.cell? ⟨bx, 6, none⟩ = some (.int .i64 y) ∧ w'.cell? ⟨bx, 7, none⟩ = some (.int .i64 t) ∧ w'.cell? ⟨b5, 0, none⟩ = some (.int .i64 o.1) ∧ w'.cell? ⟨b5, 1, none⟩ = some (.int .i64 o.2))) (by kernel_rfl) ?_ (fun hHeld => ?_)
  · try dsimp only
    go_keep
  refine wpAnyH_take (i := 0) (v := ?_) (by (simp only [List.getElem?_toArray, List.getElem?_cons_zero]; rfl)) (by kernel_rfl) (by kernel_rfl) (by kernel_rfl) (by intro _ _ _ h; exact h) (Or.inl ⟨by kernel_rfl, ?_⟩) hHeld ?_
  case refine_2 =>
    intro w hSw
    try dsimp only at hSw
    go_simp
    try with_reducible rfl
  try simp only [Act.put, List.setIfInBounds_toArray, List.set_cons_zero, List.set_cons_succ]
  refine wpAnyH_take (i := 1) (v := ?_) (by (simp only [List.getElem?_toArray, List.getElem?_cons_succ, List.getElem?_cons_zero]; rfl)) (by kernel_rfl) (by kernel_rfl) (by kernel_rfl) (by intro _ _ _ h; exact h) (Or.inl ⟨by kernel_rfl, ?_⟩) hHeld ?_
  case refine_2 =>
    intro w hSw
    try dsimp only at hSw
    go_simp
    try with_reducible rfl
  try simp only [Act.put, List.setIfInBounds_toArray, List.set_cons_zero, List.set_cons_succ]
  refine wpAnyH_take (i := 2) (v := ?_) (by (simp only [List.getElem?_toArray, List.getElem?_cons_succ, List.getElem?_cons_zero]; rfl)) (by kernel_rfl) (by kernel_rfl) (by kernel_rfl) (by intro _ _ _ h; exact h) (Or.inl ⟨by kernel_rfl, ?_⟩) hHeld ?_
  case refine_2 =>
    intro w hSw
    try dsimp only at hSw
    go_simp
    try with_reducible rfl
  try simp only [Act.put, List.setIfInBounds_toArray, List.set_cons_zero, List.set_cons_succ]
  refine wpAnyH_take (i := 4) (v := ?_) (by (simp only [List.getElem?_toArray, List.getElem?_cons_succ, List.getElem?_cons_zero]; rfl)) (by kernel_rfl) (by kernel_rfl) (by kernel_rfl) (by intro _ _ _ h; exact h) (Or.inl ⟨by kernel_rfl, ?_⟩) hHeld ?_
  case refine_2 =>
    intro w hSw
    try dsimp only at hSw
    go_simp
    try with_reducible rfl
  try simp only [Act.put, List.setIfInBounds_toArray, List.set_cons_zero, List.set_cons_succ]
  refine wpAnyH_take (i := 7) (v := ?_) (by (simp only [List.getElem?_toArray, List.getElem?_cons_succ, List.getElem?_cons_zero]; rfl)) (by kernel_rfl) (by kernel_rfl) (by kernel_rfl) (by intro _ _ _ h; exact h) (Or.inl ⟨by kernel_rfl, ?_⟩) hHeld ?_
  case refine_2 =>
    intro w hSw
    try dsimp only at hSw
    go_simp
    try with_reducible rfl
  try simp only [Act.put, List.setIfInBounds_toArray, List.set_cons_zero, List.set_cons_succ]
  refine wpAnyH_take (i := 3) (v := ?_) (by (simp only [List.getElem?_toArray, List.getElem?_cons_succ, List.getElem?_cons_zero]; rfl)) (by kernel_rfl) (by kernel_rfl) (by kernel_rfl) (by intro _ _ _ h; exact h) (Or.inl ⟨by kernel_rfl, ?_⟩) hHeld ?_
  case refine_2 =>
    intro w hSw
    try dsimp only at hSw
    go_simp
    try with_reducible rfl
  try simp only [Act.put, List.setIfInBounds_toArray, List.set_cons_zero, List.set_cons_succ]
  refine wpAnyH_take (i := 5) (v := ?_) (by (simp only [List.getElem?_toArray, List.getElem?_cons_succ, List.getElem?_cons_zero]; rfl)) (by kernel_rfl) (by kernel_rfl) (by kernel_rfl) (by intro _ _ _ h; exact h) (Or.inl ⟨by kernel_rfl, ?_⟩) hHeld ?_
  case refine_2 =>
    intro w hSw
    try dsimp only at hSw
    go_simp
    try with_reducible rfl
  try simp only [Act.put, List.setIfInBounds_toArray, List.set_cons_zero, List.set_cons_succ]
  refine wpAnyH_ready (rs := [6]) (by kernel_rfl) (by simp) ?_
  refine AllReadyH.cons (by (simp only [List.getElem?_toArray, List.getElem?_cons_succ, List.getElem?_cons_zero]; rfl)) (fun K hK => ?_) AllReadyH.nil
  go_simp
  refine (CA3.out _).mono ?_
  rintro e vv ⟨rfl, hv⟩
  replace k0 := cellB hv k0
  replace k1 := cellB hv k1
  replace k3 := cellB hv k3
  replace k4 := cellB hv k4
  replace k5 := cellB hv k5
  replace k6 := cellB hv k6
  replace k7 := cellB hv k7
  replace O0 := cellB hv O0
  replace O1 := cellB hv O1
  replace HU := Lib.hid (HU.out.below hv)
  replace HV := Lib.hid (HV.out.below hv)
  replace HB := Lib.hid (below_up HB.out hv (HBX.out _ HB.out))
  clear hv
  try go_wp2_with fail
  clear hHeld
  refine hK.out _ _ ?_ (fun hHeld => ?_)
  · try dsimp only
    go_keep
  clear hK K
  try simp only [Act.put, List.setIfInBounds_toArray, List.set_cons_zero, List.set_cons_succ]
  refine wpAnyH_take (i := 8) (v := ?_) (by (simp only [List.getElem?_toArray, List.getElem?_cons_succ, List.getElem?_cons_zero]; rfl)) (by kernel_rfl) (by kernel_rfl) (by kernel_rfl) (by intro _ _ _ h; exact h) (Or.inl ⟨by kernel_rfl, ?_⟩) hHeld ?_
  case refine_2 =>
    intro w hSw
    try dsimp only at hSw
    go_simp
    try with_reducible rfl
  try simp only [Act.put, List.setIfInBounds_toArray, List.set_cons_zero, List.set_cons_succ]
  refine wpAnyH_take (i := 9) (v := ?_) (by (simp only [List.getElem?_toArray, List.getElem?_cons_succ, List.getElem?_cons_zero]; rfl)) (by kernel_rfl) (by kernel_rfl) (by kernel_rfl) (by intro _ _ _ h; exact h) (Or.inl ⟨by kernel_rfl, ?_⟩) hHeld ?_
  case refine_2 =>
    intro w hSw
    try dsimp only at hSw
    go_simp
    try with_reducible rfl
  try simp only [Act.put, List.setIfInBounds_toArray, List.set_cons_zero, List.set_cons_succ]
  refine wpAnyH_take (i := 10) (v := ?_) (by (simp only [List.getElem?_toArray, List.getElem?_cons_succ, List.getElem?_cons_zero]; rfl)) (by kernel_rfl) (by kernel_rfl) (by kernel_rfl) (by intro _ _ _ h; exact h) (Or.inl ⟨by kernel_rfl, ?_⟩) hHeld ?_
  case refine_2 =>
    intro w hSw
    try dsimp only at hSw
    go_simp
    try with_reducible rfl
  try simp only [Act.put, List.setIfInBounds_toArray, List.set_cons_zero, List.set_cons_succ]
  refine wpAnyH_take (i := 11) (v := ?_) (by (simp only [List.getElem?_toArray, List.getElem?_cons_succ, List.getElem?_cons_zero]; rfl)) (by kernel_rfl) (by kernel_rfl) (by kernel_rfl) (by intro _ _ _ h; exact h) (Or.inl ⟨by kernel_rfl, ?_⟩) hHeld ?_
  case refine_2 =>
    intro w hSw
    try dsimp only at hSw
    go_simp
    try with_reducible rfl
  try simp only [Act.put, List.setIfInBounds_toArray, List.set_cons_zero, List.set_cons_succ]
  refine wpAnyH_take (i := 13) (v := ?_) (by (simp only [List.getElem?_toArray, List.getElem?_cons_succ, List.getElem?_cons_zero]; rfl)) (by kernel_rfl) (by kernel_rfl) (by kernel_rfl) (by intro _ _ _ h; exact h) (Or.inl ⟨by kernel_rfl, ?_⟩) hHeld ?_
  case refine_2 =>
    intro w hSw
    try dsimp only at hSw
    go_simp
    try with_reducible rfl
  try simp only [Act.put, List.setIfInBounds_toArray, List.set_cons_zero, List.set_cons_succ]
  refine wpAnyH_take (i := 16) (v := ?_) (by (simp only [List.getElem?_toArray, List.getElem?_cons_succ, List.getElem?_cons_zero]; rfl)) (by kernel_rfl) (by kernel_rfl) (by kernel_rfl) (by intro _ _ _ h; exact h) (Or.inl ⟨by kernel_rfl, ?_⟩) hHeld ?_
  case refine_2 =>
    intro w hSw
    try dsimp only at hSw
    go_simp
    try with_reducible rfl
  try simp only [Act.put, List.setIfInBounds_toArray, List.set_cons_zero, List.set_cons_succ]
  refine wpAnyH_take (i := 12) (v := ?_) (by (simp only [List.getElem?_toArray, List.getElem?_cons_succ, List.getElem?_cons_zero]; rfl)) (by kernel_rfl) (by kernel_rfl) (by kernel_rfl) (by intro _ _ _ h; exact h) (Or.inl ⟨by kernel_rfl, ?_⟩) hHeld ?_
  case refine_2 =>
    intro w hSw
    try dsimp only at hSw
    go_simp
    try with_reducible rfl
  try simp only [Act.put, List.setIfInBounds_toArray, List.set_cons_zero, List.set_cons_succ]
  refine wpAnyH_take (i := 14) (v := ?_) (by (simp only [List.getElem?_toArray, List.getElem?_cons_succ, List.getElem?_cons_zero]; rfl)) (by kernel_rfl) (by kernel_rfl) (by kernel_rfl) (by intro _ _ _ h; exact h) (Or.inl ⟨by kernel_rfl, ?_⟩) hHeld ?_
  case refine_2 =>
    intro w hSw
    try dsimp only at hSw
    go_simp
    try with_reducible rfl
  try simp only [Act.put, List.setIfInBounds_toArray, List.set_cons_zero, List.set_cons_succ]
  refine wpAnyH_ready (rs := [15]) (by kernel_rfl) (by simp) ?_
  refine AllReadyH.cons (by (simp only [List.getElem?_toArray, List.getElem?_cons_succ, List.getElem?_cons_zero]; rfl)) (fun K hK => ?_) AllReadyH.nil
  go_simp
  refine (CJ3.out _ HU.out).mono ?_
  rintro e vv ⟨rfl, hv⟩
  replace k0 := cellB hv k0
  replace k1 := cellB hv k1
  replace k3 := cellB hv k3
  replace k4 := cellB hv k4
  replace k5 := cellB hv k5
  replace k6 := cellB hv k6
  replace k7 := cellB hv k7
  replace O0 := cellB hv O0
  replace O1 := cellB hv O1
  replace HU := Lib.hid (HU.out.below hv)
  replace HV := Lib.hid (HV.out.below hv)
  replace HB := Lib.hid (below_up HB.out hv (HBX.out _ HB.out))
  clear hv
  try go_wp2_with fail
  clear hHeld
  refine hK.out _ _ ?_ (fun hHeld => ?_)
  · try dsimp only
    go_keep
  clear hK K
  try simp only [Act.put, List.setIfInBounds_toArray, List.set_cons_zero, List.set_cons_succ]
  refine wpAnyH_take (i := 17) (v := ?_) (by (simp only [List.getElem?_toArray, List.getElem?_cons_succ, List.getElem?_cons_zero]; rfl)) (by kernel_rfl) (by kernel_rfl) (by kernel_rfl) (by intro _ _ _ h; exact h) (Or.inl ⟨by kernel_rfl, ?_⟩) hHeld ?_
  case refine_2 =>
    intro w hSw
    try dsimp only at hSw
    go_simp
    try with_reducible rfl
  try simp only [Act.put, List.setIfInBounds_toArray, List.set_cons_zero, List.set_cons_succ]
  refine wpAnyH_take (i := 18) (v := ?_) (by (simp only [List.getElem?_toArray, List.getElem?_cons_succ, List.getElem?_cons_zero]; rfl)) (by kernel_rfl) (by kernel_rfl) (by kernel_rfl) (by intro _ _ _ h; exact h) (Or.inl ⟨by kernel_rfl, ?_⟩) hHeld ?_
  case refine_2 =>
    intro w hSw
    try dsimp only at hSw
    go_simp
    try with_reducible rfl
  try simp only [Act.put, List.setIfInBounds_toArray, List.set_cons_zero, List.set_cons_succ]
  refine wpAnyH_take (i := 19) (v := ?_) (by (simp only [List.getElem?_toArray, List.getElem?_cons_succ, List.getElem?_cons_zero]; rfl)) (by kernel_rfl) (by kernel_rfl) (by kernel_rfl) (by intro _ _ _ h; exact h) (Or.inl ⟨by kernel_rfl, ?_⟩) hHeld ?_
  case refine_2 =>
    intro w hSw
    try dsimp only at hSw
    go_simp
    try with_reducible rfl
  try simp only [Act.put, List.setIfInBounds_toArray, List.set_cons_zero, List.set_cons_succ]
  refine wpAnyH_take (i := 20) (v := ?_) (by (simp only [List.getElem?_toArray, List.getElem?_cons_succ, List.getElem?_cons_zero]; rfl)) (by kernel_rfl) (by kernel_rfl) (by kernel_rfl) (by intro _ _ _ h; exact h) (Or.inl ⟨by kernel_rfl, ?_⟩) hHeld ?_
  case refine_2 =>
    intro w hSw
    try dsimp only at hSw
    go_simp
    try with_reducible rfl
  try simp only [Act.put, List.setIfInBounds_toArray, List.set_cons_zero, List.set_cons_succ]
  refine wpAnyH_take (i := 21) (v := ?_) (by (simp only [List.getElem?_toArray, List.getElem?_cons_succ, List.getElem?_cons_zero]; rfl)) (by kernel_rfl) (by kernel_rfl) (by kernel_rfl) (by intro _ _ _ h; exact h) (Or.inl ⟨by kernel_rfl, ?_⟩) hHeld ?_
  case refine_2 =>
    intro w hSw
    try dsimp only at hSw
    go_simp
    try with_reducible rfl
  try simp only [Act.put, List.setIfInBounds_toArray, List.set_cons_zero, List.set_cons_succ]
  refine wpAnyH_take (i := 22) (v := ?_) (by (simp only [List.getElem?_toArray, List.getElem?_cons_succ, List.getElem?_cons_zero]; rfl)) (by kernel_rfl) (by kernel_rfl) (by kernel_rfl) (by intro _ _ _ h; exact h) (Or.inl ⟨by kernel_rfl, ?_⟩) hHeld ?_
  case refine_2 =>
    intro w hSw
    try dsimp only at hSw
    go_simp
    try with_reducible rfl
  try simp only [Act.put, List.setIfInBounds_toArray, List.set_cons_zero, List.set_cons_succ]
  refine wpAnyH_take (i := 23) (v := ?_) (by (simp only [List.getElem?_toArray, List.getElem?_cons_succ, List.getElem?_cons_zero]; rfl)) (by kernel_rfl) (by kernel_rfl) (by kernel_rfl) (by intro _ _ _ h; exact h) (Or.inl ⟨by kernel_rfl, ?_⟩) hHeld ?_
  case refine_2 =>
    intro w hSw
    try dsimp only at hSw
    go_simp
    try with_reducible rfl
  try simp only [Act.put, List.setIfInBounds_toArray, List.set_cons_zero, List.set_cons_succ]
  refine wpAnyH_take (i := 24) (v := ?_) (by (simp only [List.getElem?_toArray, List.getElem?_cons_succ, List.getElem?_cons_zero]; rfl)) (by kernel_rfl) (by kernel_rfl) (by kernel_rfl) (by intro _ _ _ h; exact h) (Or.inl ⟨by kernel_rfl, ?_⟩) hHeld ?_
  case refine_2 =>
    intro w hSw
    try dsimp only at hSw
    go_simp
    try with_reducible rfl
  try simp only [Act.put, List.setIfInBounds_toArray, List.set_cons_zero, List.set_cons_succ]
  refine wpAnyH_take (i := 25) (v := undef) (by (simp only [List.getElem?_toArray, List.getElem?_cons_succ, List.getElem?_cons_zero]; rfl)) (by kernel_rfl) (by kernel_rfl) (by kernel_rfl) (by intro _ _ _ h; exact h) (Or.inr ⟨by kernel_rfl, rfl⟩) hHeld ?_
  try simp only [Act.put, List.setIfInBounds_toArray, List.set_cons_zero, List.set_cons_succ]
  refine wpAnyH_take (i := 27) (v := undef) (by (simp only [List.getElem?_toArray, List.getElem?_cons_succ, List.getElem?_cons_zero]; rfl)) (by kernel_rfl) (by kernel_rfl) (by kernel_rfl) (by intro _ _ _ h; exact h) (Or.inr ⟨by kernel_rfl, rfl⟩) hHeld ?_
  try simp only [Act.put, List.setIfInBounds_toArray, List.set_cons_zero, List.set_cons_succ]
  refine wpAnyH_take (i := 30) (v := undef) (by (simp only [List.getElem?_toArray, List.getElem?_cons_succ, List.getElem?_cons_zero]; rfl)) (by kernel_rfl) (by kernel_rfl) (by kernel_rfl) (by intro _ _ _ h; exact h) (Or.inr ⟨by kernel_rfl, rfl⟩) hHeld ?_
  try simp only [Act.put, List.setIfInBounds_toArray, List.set_cons_zero, List.set_cons_succ]
  refine wpAnyH_take (i := 26) (v := undef) (by (simp only [List.getElem?_toArray, List.getElem?_cons_succ, List.getElem?_cons_zero]; rfl)) (by kernel_rfl) (by kernel_rfl) (by kernel_rfl) (by intro _ _ _ h; exact h) (Or.inr ⟨by kernel_rfl, rfl⟩) hHeld ?_
  try simp only [Act.put, List.setIfInBounds_toArray, List.set_cons_zero, List.set_cons_succ]
  refine wpAnyH_take (i := 28) (v := undef) (by (simp only [List.getElem?_toArray, List.getElem?_cons_succ, List.getElem?_cons_zero]; rfl)) (by kernel_rfl) (by kernel_rfl) (by kernel_rfl) (by intro _ _ _ h; exact h) (Or.inr ⟨by kernel_rfl, rfl⟩) hHeld ?_
  try simp only [Act.put, List.setIfInBounds_toArray, List.set_cons_zero, List.set_cons_succ]
  refine wpAnyH_take (i := 29) (v := undef) (by (simp only [List.getElem?_toArray, List.getElem?_cons_succ, List.getElem?_cons_zero]; rfl)) (by kernel_rfl) (by kernel_rfl) (by kernel_rfl) (by intro _ _ _ h; exact h) (Or.inr ⟨by kernel_rfl, rfl⟩) hHeld ?_
  try simp only [Act.put, List.setIfInBounds_toArray, List.set_cons_zero, List.set_cons_succ]
  refine wpAnyH_take (i := 31) (v := undef) (by (simp only [List.getElem?_toArray, List.getElem?_cons_succ, List.getElem?_cons_zero]; rfl)) (by kernel_rfl) (by kernel_rfl) (by kernel_rfl) (by intro _ _ _ h; exact h) (Or.inr ⟨by kernel_rfl, rfl⟩) hHeld ?_
  try simp only [Act.put, List.setIfInBounds_toArray, List.set_cons_zero, List.set_cons_succ]
  refine wpAnyH_take (i := 32) (v := ?_) (by (simp only [List.getElem?_toArray, List.getElem?_cons_succ, List.getElem?_cons_zero]; rfl)) (by kernel_rfl) (by kernel_rfl) (by kernel_rfl) (by intro _ _ _ h; exact h) (Or.inl ⟨by kernel_rfl, ?_⟩) hHeld ?_
  case refine_2 =>
    intro w hSw
    try dsimp only at hSw
    go_simp
    try with_reducible rfl
  try simp only [Act.put, List.setIfInBounds_toArray, List.set_cons_zero, List.set_cons_succ]
  refine wpAnyH_take (i := 33) (v := ?_) (by (simp only [List.getElem?_toArray, List.getElem?_cons_succ, List.getElem?_cons_zero]; rfl)) (by kernel_rfl) (by kernel_rfl) (by kernel_rfl) (by intro _ _ _ h; exact h) (Or.inl ⟨by kernel_rfl, ?_⟩) hHeld ?_
  case refine_2 =>
    intro w hSw
    try dsimp only at hSw
    go_simp
    try with_reducible rfl
  try simp only [Act.put, List.setIfInBounds_toArray, List.set_cons_zero, List.set_cons_succ]
  refine wpAnyH_take (i := 34) (v := ?_) (by (simp only [List.getElem?_toArray, List.getElem?_cons_succ, List.getElem?_cons_zero]; rfl)) (by kernel_rfl) (by kernel_rfl) (by kernel_rfl) (by intro _ _ _ h; exact h) (Or.inl ⟨by kernel_rfl, ?_⟩) hHeld ?_
  case refine_2 =>
    intro w hSw
    try dsimp only at hSw
    go_simp
    try with_reducible rfl
  try simp only [Act.put, List.setIfInBounds_toArray, List.set_cons_zero, List.set_cons_succ]
  refine wpAnyH_take (i := 35) (v := ?_) (by (simp only [List.getElem?_toArray, List.getElem?_cons_succ, List.getElem?_cons_zero]; rfl)) (by kernel_rfl) (by kernel_rfl) (by kernel_rfl) (by intro _ _ _ h; exact h) (Or.inl ⟨by kernel_rfl, ?_⟩) hHeld ?_
  case refine_2 =>
    intro w hSw
    try dsimp only at hSw
    go_simp
    try with_reducible rfl
  try simp only [Act.put, List.setIfInBounds_toArray, List.set_cons_zero, List.set_cons_succ]
  refine wpAnyH_take (i := 37) (v := ?_) (by (simp only [List.getElem?_toArray, List.getElem?_cons_succ, List.getElem?_cons_zero]; rfl)) (by kernel_rfl) (by kernel_rfl) (by kernel_rfl) (by intro _ _ _ h; exact h) (Or.inl ⟨by kernel_rfl, ?_⟩) hHeld ?_
  case refine_2 =>
    intro w hSw
    try dsimp only at hSw
    go_simp
    try with_reducible rfl
  try simp only [Act.put, List.setIfInBounds_toArray, List.set_cons_zero, List.set_cons_succ]
  refine wpAnyH_take (i := 39) (v := ?_) (by (simp only [List.getElem?_toArray, List.getElem?_cons_succ, List.getElem?_cons_zero]; rfl)) (by kernel_rfl) (by kernel_rfl) (by kernel_rfl) (by intro _ _ _ h; exact h) (Or.inl ⟨by kernel_rfl, ?_⟩) hHeld ?_
  case refine_2 =>
    intro w hSw
    try dsimp only at hSw
    go_simp
    try with_reducible rfl
  try simp only [Act.put, List.setIfInBounds_toArray, List.set_cons_zero, List.set_cons_succ]
  refine wpAnyH_take (i := 42) (v := ?_) (by (simp only [List.getElem?_toArray, List.getElem?_cons_succ, List.getElem?_cons_zero]; rfl)) (by kernel_rfl) (by kernel_rfl) (by kernel_rfl) (by intro _ _ _ h; exact h) (Or.inl ⟨by kernel_rfl, ?_⟩) hHeld ?_
  case refine_2 =>
    intro w hSw
    try dsimp only at hSw
    go_simp
    try with_reducible rfl
  try simp only [Act.put, List.setIfInBounds_toArray, List.set_cons_zero, List.set_cons_succ]
  refine wpAnyH_take (i := 44) (v := ?_) (by (simp only [List.getElem?_toArray, List.getElem?_cons_succ, List.getElem?_cons_zero]; rfl)) (by kernel_rfl) (by kernel_rfl) (by kernel_rfl) (by intro _ _ _ h; exact h) (Or.inl ⟨by kernel_rfl, ?_⟩) hHeld ?_
  case refine_2 =>
    intro w hSw
    try dsimp only at hSw
    go_simp
    try with_reducible rfl
  try simp only [Act.put, List.setIfInBounds_toArray, List.set_cons_zero, List.set_cons_succ]
  refine wpAnyH_take (i := 36) (v := ?_) (by (simp only [List.getElem?_toArray, List.getElem?_cons_succ, List.getElem?_cons_zero]; rfl)) (by kernel_rfl) (by kernel_rfl) (by kernel_rfl) (by intro _ _ _ h; exact h) (Or.inl ⟨by kernel_rfl, ?_⟩) hHeld ?_
  case refine_2 =>
    intro w hSw
    try dsimp only at hSw
    go_simp
    try with_reducible rfl
  try simp only [Act.put, List.setIfInBounds_toArray, List.set_cons_zero, List.set_cons_succ]
  refine wpAnyH_take (i := 38) (v := ?_) (by (simp only [List.getElem?_toArray, List.getElem?_cons_succ, List.getElem?_cons_zero]; rfl)) (by kernel_rfl) (by kernel_rfl) (by kernel_rfl) (by intro _ _ _ h; exact h) (Or.inl ⟨by kernel_rfl, ?_⟩) hHeld ?_
  case refine_2 =>
    intro w hSw
    try dsimp only at hSw
    go_simp
    try with_reducible rfl
  try simp only [Act.put, List.setIfInBounds_toArray, List.set_cons_zero, List.set_cons_succ]
  refine wpAnyH_take (i := 40) (v := ?_) (by (simp only [List.getElem?_toArray, List.getElem?_cons_succ, List.getElem?_cons_zero]; rfl)) (by kernel_rfl) (by kernel_rfl) (by kernel_rfl) (by intro _ _ _ h; exact h) (Or.inl ⟨by kernel_rfl, ?_⟩) hHeld ?_
  case refine_2 =>
    intro w hSw
    try dsimp only at hSw
    go_simp
    try with_reducible rfl
  try simp only [Act.put, List.setIfInBounds_toArray, List.set_cons_zero, List.set_cons_succ]
  refine wpAnyH_ready (rs := [41]) (by kernel_rfl) (by simp) ?_
  refine AllReadyH.cons (by (simp only [List.getElem?_toArray, List.getElem?_cons_succ, List.getElem?_cons_zero]; rfl)) (fun K hK => ?_) AllReadyH.nil
  go_simp
  refine (CN3.out _).mono ?_
  rintro e vv ⟨rfl, hv⟩
  replace k0 := cellB hv k0
  replace k1 := cellB hv k1
  replace k3 := cellB hv k3
  replace k4 := cellB hv k4
  replace k5 := cellB hv k5
  replace k6 := cellB hv k6
  replace k7 := cellB hv k7
  replace O0 := cellB hv O0
  replace O1 := cellB hv O1
  replace HU := Lib.hid (HU.out.below hv)
  replace HV := Lib.hid (HV.out.below hv)
  replace HB := Lib.hid (below_up HB.out hv (HBX.out _ HB.out))
  clear hv
  try go_wp2_with fail
  clear hHeld
  refine hK.out _ _ ?_ (fun hHeld => ?_)
  · try dsimp only
    go_keep
  clear hK K
  try simp only [Act.put, List.setIfInBounds_toArray, List.set_cons_zero, List.set_cons_succ]
  refine wpAnyH_take (i := 43) (v := ?_) (by (simp only [List.getElem?_toArray, List.getElem?_cons_succ, List.getElem?_cons_zero]; rfl)) (by kernel_rfl) (by kernel_rfl) (by kernel_rfl) (by intro _ _ _ h; exact h) (Or.inl ⟨by kernel_rfl, ?_⟩) hHeld ?_
  case refine_2 =>
    intro w hSw
    try dsimp only at hSw
    go_simp
    try with_reducible rfl
  try simp only [Act.put, List.setIfInBounds_toArray, List.set_cons_zero, List.set_cons_succ]
  refine wpAnyH_take (i := 45) (v := ?_) (by (simp only [List.getElem?_toArray, List.getElem?_cons_succ, List.getElem?_cons_zero]; rfl)) (by kernel_rfl) (by kernel_rfl) (by kernel_rfl) (by intro _ _ _ h; exact h) (Or.inl ⟨by kernel_rfl, ?_⟩) hHeld ?_
  case refine_2 =>
    intro w hSw
    try dsimp only at hSw
    go_simp
    try with_reducible rfl
  try simp only [Act.put, List.setIfInBounds_toArray, List.set_cons_zero, List.set_cons_succ]
  refine wpAnyH_take (i := 46) (v := ?_) (by (simp only [List.getElem?_toArray, List.getElem?_cons_succ, List.getElem?_cons_zero]; rfl)) (by kernel_rfl) (by kernel_rfl) (by kernel_rfl) (by intro _ _ _ h; exact h) (Or.inl ⟨by kernel_rfl, ?_⟩) hHeld ?_
  case refine_2 =>
    intro w hSw
    try dsimp only at hSw
    go_simp
    try with_reducible rfl
  try simp only [Act.put, List.setIfInBounds_toArray, List.set_cons_zero, List.set_cons_succ]
  refine wpAnyH_take (i := 47) (v := ?_) (by (simp only [List.getElem?_toArray, List.getElem?_cons_succ, List.getElem?_cons_zero]; rfl)) (by kernel_rfl) (by kernel_rfl) (by kernel_rfl) (by intro _ _ _ h; exact h) (Or.inl ⟨by kernel_rfl, ?_⟩) hHeld ?_
  case refine_2 =>
    intro w hSw
    try dsimp only at hSw
    go_simp
    try with_reducible rfl
  try simp only [Act.put, List.setIfInBounds_toArray, List.set_cons_zero, List.set_cons_succ]
  refine wpAnyH_done (by kernel_rfl) ?_ _
  go_wp2_with fail
  go_ret
  exact ⟨rfl, by rw [HE.out]; exact HB.out⟩
end Go.Proofs.YtendkghifcjffaaDoor
