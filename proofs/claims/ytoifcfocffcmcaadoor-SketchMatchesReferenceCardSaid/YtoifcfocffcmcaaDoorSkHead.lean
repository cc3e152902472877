/- The contract of the laws' fixed examples. -/
import Derived.Test.YtoifcfocffcmcaaDoorSkMake
import Derived.Test.YtoifcfocffcmcaaDoorSkBands
import Derived.Test.YtoifcfocffcmcaaDoorSkEst
import Derived.Test.YtoifcfocffcmcaaDoorSkEq
namespace Go.Proofs.YtoifcfocffcmcaaDoor
open Go.RowKit

/-- A literal's list. -/
theorem ints_lit (w : World) (l : List Int) (T : TypeId) : Ints (w.alloc (.cells (l.map (Value.int .i64)).toArray T)) (.slice (some ⟨w.heap.size, 0, none⟩) l.length l.length) l :=
  ⟨_, _, rfl, Nat.le_refl _, (fun e => by cases e), fun i hi => ⟨_, 0, rfl, by
    have h : (w.alloc (.cells (l.map (Value.int .i64)).toArray T)).heap[w.heap.size]? = some (.cells (l.map (Value.int .i64)).toArray T) := World.alloc_heap_new w _
    unfold World.cell?
    rw [h]
    simp [hi]⟩⟩
theorem strs_lit (w : World) (l : List (List UInt8)) (T : TypeId) : Strs (w.alloc (.cells (l.map str).toArray T)) (.slice (some ⟨w.heap.size, 0, none⟩) l.length l.length) l :=
  ⟨_, _, rfl, Nat.le_refl _, (fun e => by cases e), fun i hi => ⟨_, 0, rfl, by
    have h : (w.alloc (.cells (l.map str).toArray T)).heap[w.heap.size]? = some (.cells (l.map str).toArray T) := World.alloc_heap_new w _
    unfold World.cell?
    rw [h]
    simp [hi]⟩⟩
/-! ### The examples. -/
theorem ex_make : makeT [] 3 = ([-1, -1, -1], 0) := by decide +kernel
theorem ex_make2 : makeT [[97]] 65 = ([], 1) := by decide +kernel
theorem ex_est : estT [1, 2, 3, 4] [1, 5, 3, 4] = (3, 4, 0) := by decide +kernel
theorem ex_bands : bandsT [7, 8, 9, 10] 2 = ([[48, 58, 55, 46, 56], [49, 58, 57, 46, 49, 48]], 0) := by decide +kernel
theorem ex_bands2 : bandsT [7, 8, 9] 2 = ([], 1) := by decide +kernel
theorem ex_uni : unionT [1, -1] [1, 1] = ([], 1) := by decide +kernel
theorem ex_uni2 : unionT [1, 9] [5, 2] = ([1, 2], 0) := by decide +kernel
theorem ex_h1 : hashT [] 0 = 11 := by decide +kernel
theorem ex_h2 : hashT [] 1 = 48282 := by decide +kernel
theorem ex_h3 : hashT [97] 0 = 4730569 := by decide +kernel
/-- Two literals, one behind the other. -/
theorem lits2 (W : World) (X Y : List Int) : Ints ((W.alloc (.cells (X.map (Value.int .i64)).toArray 3)).alloc (.cells (Y.map (Value.int .i64)).toArray 3)) (.slice (some ⟨W.heap.size, 0, none⟩) X.length X.length) X ∧
    Ints ((W.alloc (.cells (X.map (Value.int .i64)).toArray 3)).alloc (.cells (Y.map (Value.int .i64)).toArray 3)) (.slice (some ⟨W.heap.size + 1, 0, none⟩) Y.length Y.length) Y := by
  have h2 := ints_lit (W.alloc (.cells (X.map (Value.int .i64)).toArray 3)) Y 3
  rw [World.size_alloc] at h2
  exact ⟨(ints_lit W X 3).below (below_box _ _), h2⟩
theorem below_two' (W : World) (A B : Obj) {w' : World} (hb : Below ((W.alloc A).alloc B).heap.size ((W.alloc A).alloc B) w') : Below W.heap.size W w' :=
  below_next (below_box W A) (by simp) hb
theorem est_lits (X Y : List Int) (r : Int × Int × Int) (hX : X.length ≤ 4000) (hY : Y.length ≤ 4000) (hr : estT X Y = r) (W : World) :
    Calls Tryd.prog 16 #[.slice (some ⟨W.heap.size, 0, none⟩) X.length X.length, .slice (some ⟨W.heap.size + 1, 0, none⟩) Y.length Y.length] ((W.alloc (.cells (X.map (Value.int .i64)).toArray 3)).alloc (.cells (Y.map (Value.int .i64)).toArray 3))
      (L1.RatioPost W r) := by
  refine (est_any X Y _ _ _ hX hY (lits2 W X Y).1 (lits2 W X Y).2).mono ?_
  rintro e w1 ⟨rfl, hb⟩
  exact ⟨by rw [hr], below_two' _ _ _ hb⟩
theorem uni_lits (X Y : List Int) (r : List Int × Int) (hX : X.length ≤ 4000) (hY : Y.length ≤ 4000) (hr : unionT X Y = r) (W : World) :
    Calls Tryd.prog 14 #[.slice (some ⟨W.heap.size, 0, none⟩) X.length X.length, .slice (some ⟨W.heap.size + 1, 0, none⟩) Y.length Y.length] ((W.alloc (.cells (X.map (Value.int .i64)).toArray 3)).alloc (.cells (Y.map (Value.int .i64)).toArray 3))
      (ListPost W r) := by
  refine (union_any X Y _ _ _ hX hY (lits2 W X Y).1 (lits2 W X Y).2).mono ?_
  rintro e w1 ⟨v, rfl, hi, hb⟩
  rw [hr] at hi
  exact ⟨v, by rw [hr], hi, below_two' _ _ _ hb⟩

theorem bands_lit (X : List Int) (rows : Int) (r : List (List UInt8) × Int) (hX : X.length ≤ 4000) (hr0 : -9223372036854775808 ≤ rows) (hr1 : rows ≤ 9223372036854775807) (hr : bandsT X rows = r) (W : World) (b : Nat) (hb : b = W.heap.size) (ht : Tab W) :
    Calls Tryd.prog 18 #[.slice (some ⟨b, 0, none⟩) X.length X.length, .int .i64 rows] (W.alloc (.cells (X.map (Value.int .i64)).toArray 3)) (KeysPost W r) := by
  subst hb
  refine (bands_any X rows _ _ hX hr0 hr1 (ints_lit W X 3) (ht.alloc _)).mono ?_
  rintro e w1 ⟨v, rfl, hi, hb⟩
  rw [hr] at hi
  exact ⟨v, by rw [hr], hi, below_up (below_box W _) hb (by simp)⟩
theorem make_lit (X : List (List UInt8)) (n : Int) (r : List Int × Int) (hX : X.length ≤ 100) (hx : ∀ t ∈ X, t.length ≤ 1000) (hr : makeT X n = r) (W : World) :
    Calls Tryd.prog 12 #[.slice (some ⟨W.heap.size, 0, none⟩) X.length X.length, .int .i64 n] (W.alloc (.cells (X.map str).toArray 9)) (ListPost W r) := by
  refine (make_any X n _ _ hX hx (strs_lit W X 9)).mono ?_
  rintro e w1 ⟨v, rfl, hi, hb⟩
  rw [hr] at hi
  exact ⟨v, by rw [hr], hi, below_up (below_box W _) hb (by simp)⟩

theorem ints_with (X Y : List Int) (v : Value) (hX : X.length ≤ 4000) (he : X = Y) (W : World) (h : Ints W v X) :
    Calls Tryd.prog 22 #[v, .slice (some ⟨W.heap.size, 0, none⟩) Y.length Y.length] (W.alloc (.cells (Y.map (Value.int .i64)).toArray 3)) fun e w' => e = .returned (.bool true) ∧ Below W.heap.size W w' := by
  refine (ints_ref X Y _ _ _ hX (h.below (below_box _ _)) (ints_lit W Y 3)).mono ?_
  rintro e w1 ⟨rfl, hb⟩
  exact ⟨bool_ret (decide_eq_true he), below_up (below_box W _) hb (by simp)⟩
theorem strs_with (X Y : List (List UInt8)) (v : Value) (hX : X.length ≤ 4000) (he : X = Y) (W : World) (h : Strs W v X) :
    Calls Tryd.prog 23 #[v, .slice (some ⟨W.heap.size, 0, none⟩) Y.length Y.length] (W.alloc (.cells (Y.map str).toArray 9)) fun e w' => e = .returned (.bool true) ∧ Below W.heap.size W w' := by
  refine (strings_ref X Y _ _ _ hX (h.below (below_box _ _)) (strs_lit W Y 9)).mono ?_
  rintro e w1 ⟨rfl, hb⟩
  exact ⟨bool_ret (decide_eq_true he), below_up (below_box W _) hb (by simp)⟩

set_option maxRecDepth 100000 in
set_option maxHeartbeats 4000000 in
theorem head_any (w : World) (ht : Tab w) : Calls Tryd.prog 10 #[] w fun e w' => e = .returned (.bool true) ∧ Below w.heap.size w w' := by
  have HT := Lib.hid ht
  clear ht
  go_enter Tryd.func10, Tryd.ntmps10
  go_wp2_with fail
  refine (make_any [] 3 _ w (by decide) (by decide) (strs_nil w)).mono ?_
  rw [ex_make]
  rintro e1 w1 ⟨va, rfl, hva, hb⟩
  have HB1 := Lib.hid hb
  have HVA := Lib.hid hva
  clear hb hva
  go_wp2_with fail
  refine (est_lits [1, 2, 3, 4] [1, 5, 3, 4] (3, 4, 0) (by decide) (by decide) ex_est w1).mono ?_
  rintro e2 w2 ⟨rfl, hb⟩
  have HB2 := Lib.hid (below_up HB1.out hb HB1.out.size)
  have HVA := Lib.hid (HVA.out.below hb)
  clear hb
  have A : Own2 (w2.alloc (Obj.cells #[.int .i64 3, .int .i64 4] 31)) w2.heap.size 3 4 := own2_new w2 3 4 _
  have HA := Lib.hid A
  clear A
  go_wp2_with fail
  refine (bands_lit [7, 8, 9, 10] 2 _ (by decide) (by decide) (by decide) ex_bands (w2.alloc (Obj.cells #[.int .i64 3, .int .i64 4] 31)) (w2.heap.size + 1) (by simp) ((HT.out.below HB2.out).alloc _)).mono ?_
  rintro e3 w3 ⟨vb, rfl, hvb, hb⟩
  have HB3 := Lib.hid (below_next HB2.out HB2.out.size hb)
  have HVA := Lib.hid ((HVA.out.below (below_box _ _)).below hb)
  have HA := Lib.hid (HA.out.below hb)
  have HVB := Lib.hid hvb
  clear hb hvb
  go_wp2_with fail
  refine (make_lit [[97]] 65 _ (by decide) (by decide) ex_make2 w3).mono ?_
  rintro e4 w4 ⟨vc, rfl, _, hb⟩
  have HB4 := Lib.hid (below_up HB3.out hb HB3.out.size)
  have HVA := Lib.hid (HVA.out.below hb)
  have HA := Lib.hid (HA.out.below hb)
  have HVB := Lib.hid (HVB.out.below hb)
  clear hb
  go_wp2_with fail
  refine (bands_lit [7, 8, 9] 2 _ (by decide) (by decide) (by decide) ex_bands2 w4 _ rfl (HT.out.below HB4.out)).mono ?_
  rintro e5 w5 ⟨vd, rfl, _, hb⟩
  have HB5 := Lib.hid (below_up HB4.out hb HB4.out.size)
  have HVA := Lib.hid (HVA.out.below hb)
  have HA := Lib.hid (HA.out.below hb)
  have HVB := Lib.hid (HVB.out.below hb)
  clear hb
  go_wp2_with fail
  refine (uni_lits [1, -1] [1, 1] _ (by decide) (by decide) ex_uni w5).mono ?_
  rintro e6 w6 ⟨ve, rfl, _, hb⟩
  have HB6 := Lib.hid (below_up HB5.out hb HB5.out.size)
  have HVA := Lib.hid (HVA.out.below hb)
  have HA := Lib.hid (HA.out.below hb)
  have HVB := Lib.hid (HVB.out.below hb)
  clear hb
  go_wp2_with fail
  refine (uni_lits [1, 9] [5, 2] _ (by decide) (by decide) ex_uni2 w6).mono ?_
  rintro e7 w7 ⟨vu, rfl, hvu, hb⟩
  have HB7 := Lib.hid (below_up HB6.out hb HB6.out.size)
  have HVA := Lib.hid (HVA.out.below hb)
  have HA := Lib.hid (HA.out.below hb)
  have HVB := Lib.hid (HVB.out.below hb)
  have HVU := Lib.hid hvu
  clear hb hvu
  go_wp2_with fail
  refine (hash_any [] 0 (by decide) _).mono ?_
  rw [ex_h1]
  rintro e8 w8 ⟨rfl, hb⟩
  have HB8 := Lib.hid (below_up HB7.out hb HB7.out.size)
  have HVA := Lib.hid (HVA.out.below hb)
  have HA := Lib.hid (HA.out.below hb)
  have HVB := Lib.hid (HVB.out.below hb)
  have HVU := Lib.hid (HVU.out.below hb)
  clear hb
  go_wp2_with fail
  refine (hash_any [] 1 (by decide) _).mono ?_
  rw [ex_h2]
  rintro e9 w9 ⟨rfl, hb⟩
  have HB9 := Lib.hid (below_up HB8.out hb HB8.out.size)
  have HVA := Lib.hid (HVA.out.below hb)
  have HA := Lib.hid (HA.out.below hb)
  have HVB := Lib.hid (HVB.out.below hb)
  have HVU := Lib.hid (HVU.out.below hb)
  clear hb
  go_wp2_with fail
  refine (hash_any [97] 0 (by decide) _).mono ?_
  rw [ex_h3]
  rintro e10 w10 ⟨rfl, hb⟩
  have HB10 := Lib.hid (below_up HB9.out hb HB9.out.size)
  have HVA := Lib.hid (HVA.out.below hb)
  have HA := Lib.hid (HA.out.below hb)
  have HVB := Lib.hid (HVB.out.below hb)
  have HVU := Lib.hid (HVU.out.below hb)
  clear hb
  go_wp2_with fail
  refine (ints_with [-1, -1, -1] [-1, -1, -1] va (by decide) rfl w10 HVA.out).mono ?_
  rintro e11 w11 ⟨rfl, hb⟩
  have HB11 := Lib.hid (below_up HB10.out hb HB10.out.size)
  have HVA := Lib.hid (HVA.out.below hb)
  have HA := Lib.hid (HA.out.below hb)
  have HVB := Lib.hid (HVB.out.below hb)
  have HVU := Lib.hid (HVU.out.below hb)
  clear hb
  have r0 := HA.out.c0
  have r1 := HA.out.c1
  go_wp2_with fail
  refine (strs_with [[48, 58, 55, 46, 56], [49, 58, 57, 46, 49, 48]] [[48, 58, 55, 46, 56], [49, 58, 57, 46, 49, 48]] vb (by decide) rfl w11 HVB.out).mono ?_
  rintro e12 w12 ⟨rfl, hb⟩
  have HB12 := Lib.hid (below_up HB11.out hb HB11.out.size)
  have HVU := Lib.hid (HVU.out.below hb)
  clear hb r0 r1
  go_wp2_with fail
  refine (ints_with [1, 2] [1, 2] vu (by decide) rfl w12 HVU.out).mono ?_
  rintro e13 w13 ⟨rfl, hb⟩
  have HB13 := Lib.hid (below_up HB12.out hb HB12.out.size)
  clear hb
  go_wp2_with fail
  go_ret
  exact ⟨rfl, HB13.out⟩
end Go.Proofs.YtoifcfocffcmcaaDoor
