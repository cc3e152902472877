/- MeasureMatchesReference in plain words: the program's functions and the reference's agree. -/
import Derived.Test.YtendkghifcjffaaGreatDoorFOf
import Derived.Test.YtendkghifcjffaaGreatDoorMHead
import Derived.Test.YtendkghifcjffaaGreatDoorMFew
namespace Go.Proofs.YtendkghifcjffaaGreatDoor
open Go.RowKit

theorem cell_box8 (w : World) (v0 v1 v2 v3 v4 v5 v6 v7 : Value) (T : TypeId) :
    (w.alloc (.cells #[v0, v1, v2, v3, v4, v5, v6, v7] T)).cell? ⟨w.heap.size, 0, none⟩ = some v0 ∧ (w.alloc (.cells #[v0, v1, v2, v3, v4, v5, v6, v7] T)).cell? ⟨w.heap.size, 1, none⟩ = some v1 ∧
    (w.alloc (.cells #[v0, v1, v2, v3, v4, v5, v6, v7] T)).cell? ⟨w.heap.size, 2, none⟩ = some v2 ∧ (w.alloc (.cells #[v0, v1, v2, v3, v4, v5, v6, v7] T)).cell? ⟨w.heap.size, 3, none⟩ = some v3 ∧
    (w.alloc (.cells #[v0, v1, v2, v3, v4, v5, v6, v7] T)).cell? ⟨w.heap.size, 4, none⟩ = some v4 ∧ (w.alloc (.cells #[v0, v1, v2, v3, v4, v5, v6, v7] T)).cell? ⟨w.heap.size, 5, none⟩ = some v5 ∧
    (w.alloc (.cells #[v0, v1, v2, v3, v4, v5, v6, v7] T)).cell? ⟨w.heap.size, 6, none⟩ = some v6 ∧ (w.alloc (.cells #[v0, v1, v2, v3, v4, v5, v6, v7] T)).cell? ⟨w.heap.size, 7, none⟩ = some v7 := by
  have h : (w.alloc (.cells #[v0, v1, v2, v3, v4, v5, v6, v7] T)).heap[w.heap.size]? = some (.cells #[v0, v1, v2, v3, v4, v5, v6, v7] T) := heap_alloc_new w _
  refine ⟨?_, ?_, ?_, ?_, ?_, ?_, ?_, ?_⟩ <;> (unfold World.cell?; rw [h]; rfl)
theorem short_at (n : Int) (l : List (List UInt8)) (hl : l.length ≤ 1000) (W : World) (k : Nat) (hk : k = W.heap.size) :
    Calls Tryz.prog 7 #[.int .i64 n, .slice (some ⟨k, 0, none⟩) l.length l.length] (W.alloc (.cells (l.map str).toArray 9)) fun e w' => e = .returned (.bool (shortB n l)) ∧ Below W.heap.size W w' := by
  subst hk
  exact short_lit n l hl W

set_option maxRecDepth 100000 in
theorem small_any (a b c : List UInt8) (u v : Value) (L M : List (List UInt8)) (x y t : Int) (w : World) (hu : Strs w u L) (hv : Strs w v M) :
    Calls Tryz.prog 6 #[.agg #[str a, str b, str c, u, v, .int .i64 x, .int .i64 y, .int .i64 t]] w fun e w' => e = .returned (.bool (shortB 300 [a, b, c] && fewB [L, M])) ∧ Below w.heap.size w w' := by
  have HU := Lib.hid hu
  have HV := Lib.hid hv
  obtain ⟨A, cap, rfl, hcap, _, _⟩ := hu
  obtain ⟨A2, cap2, rfl, hcap2, _, _⟩ := hv
  obtain ⟨k0, k1, k2, k3, k4, k5, k6, k7⟩ := cell_box8 w (str a) (str b) (str c) (.slice A L.length cap) (.slice A2 M.length cap2) (.int .i64 x) (.int .i64 y) (.int .i64 t) 24
  have K3 := Lib.hid k3
  have K4 := Lib.hid k4
  clear k0 k1 k2 k3 k4 k5 k6 k7
  cases h : shortB 300 [a, b, c]
  · go_enter Tryz.func6, Tryz.ntmps6
    go_wp2_with fail
    refine (short_at 300 [a, b, c] (by simp) _ _ (by simp)).mono ?_
    rw [h]
    rintro e w1 ⟨rfl, hb⟩
    have HB1 := Lib.hid (below_up (below_box w _) hb (by simp))
    clear hb
    go_wp2_with fail
    go_ret
    exact ⟨rfl, HB1.out⟩
  · go_enter Tryz.func6, Tryz.ntmps6
    go_wp2_with fail
    refine (short_at 300 [a, b, c] (by simp) _ _ (by simp)).mono ?_
    rw [h]
    rintro e w1 ⟨rfl, hb⟩
    have HB1 := Lib.hid (below_up (below_box w _) hb (by simp))
    have k3 := cellB hb K3.out
    have k4 := cellB hb K4.out
    clear hb
    go_wp2_with fail
    refine (few_lit [L, M] [_, _] 22 w1 rfl (by simp) (fun i h1 h2 => by
      match i, h1 with
      | 0, _ => exact HU.out.below HB1.out
      | 1, _ => exact HV.out.below HB1.out)).mono ?_
    rintro e2 w2 ⟨rfl, hb⟩
    have HB2 := Lib.hid (below_up HB1.out hb HB1.out.size)
    clear hb
    go_wp2_with fail
    go_ret
    exact ⟨by simp, HB2.out⟩

theorem seql_rat (r s : Int × Int) (W : World) : (binOp .eql 32 (rat r) (rat s)).run Tryz.prog W = .ok (.bool (decide (r = s))) W := by
  obtain ⟨a, b⟩ := r
  obtain ⟨c, d⟩ := s
  by_cases h1 : a = c
  · by_cases h2 : b = d
    · subst h1 h2
      simp [go_sem]
    · have e2 : (b == d) = false := by simpa using h2
      subst h1
      simp [go_sem, e2, h2]
  · have e1 : (a == c) = false := by simpa using h1
    simp [go_sem, e1, h1]
theorem eql_same (r : Int × Int) (W : World) : (binOp .eql 32 (rat r) (rat r)).run Tryz.prog W = .ok (.bool true) W := by
  rw [seql_rat]
  simp

theorem cell_box3 (w : World) (v0 v1 v2 : Value) (T : TypeId) :
    (w.alloc (.cells #[v0, v1, v2] T)).cell? ⟨w.heap.size, 0, none⟩ = some v0 ∧ (w.alloc (.cells #[v0, v1, v2] T)).cell? ⟨w.heap.size, 1, none⟩ = some v1 ∧
    (w.alloc (.cells #[v0, v1, v2] T)).cell? ⟨w.heap.size, 2, none⟩ = some v2 := by
  have h : (w.alloc (.cells #[v0, v1, v2] T)).heap[w.heap.size]? = some (.cells #[v0, v1, v2] T) := heap_alloc_new w _
  refine ⟨?_, ?_, ?_⟩ <;> (unfold World.cell?; rw [h]; rfl)

set_option maxRecDepth 100000 in
set_option maxHeartbeats 8000000 in
theorem mat_small (a b c : List UInt8) (LA MA : Option Addr) (cap cap2 : Nat) (L M : List (List UInt8)) (x y t m : Int) (k n : Int) (s : List UInt8) (k2 n2 : Int) (s2 : List UInt8) (HH : Hid ((shortB 300 [a, b, c] && fewB [L, M]) = false)) (w : World) (hu : Strs w (.slice LA L.length cap) L) (hv : Strs w (.slice MA M.length cap2) M) :
    Calls Tryz.prog 3 #[.agg #[str a, str b, str c, .slice LA L.length cap, .slice MA M.length cap2, .int .i64 x, .int .i64 y, .int .i64 t], .int .i64 m, V k n s, V k2 n2 s2] w fun e w' => e = .returned (.bool true) ∧ Below w.heap.size w w' := by
  have HU := Lib.hid hu
  have HV := Lib.hid hv
  clear hu hv
  obtain ⟨z0, z1, z2, z3, z4, z5, z6, z7⟩ := cell_box8 w (str a) (str b) (str c) (.slice LA L.length cap) (.slice MA M.length cap2) (.int .i64 x) (.int .i64 y) (.int .i64 t) 24
  have HB := Lib.hid (below_box w (Obj.cells #[str a, str b, str c, .slice LA L.length cap, .slice MA M.length cap2, .int .i64 x, .int .i64 y, .int .i64 t] 24))
  replace HU := Lib.hid (HU.out.below HB.out)
  replace HV := Lib.hid (HV.out.below HB.out)
  obtain ⟨g0, g1, g2⟩ := cell_box3 (w.alloc (Obj.cells #[str a, str b, str c, .slice LA L.length cap, .slice MA M.length cap2, .int .i64 x, .int .i64 y, .int .i64 t] 24)) (.int .i64 k) (.int .i64 n) (str s) 26
  have hv := below_box (w.alloc (Obj.cells #[str a, str b, str c, .slice LA L.length cap, .slice MA M.length cap2, .int .i64 x, .int .i64 y, .int .i64 t] 24)) (Obj.cells #[.int .i64 k, .int .i64 n, .string ⟨s.toArray⟩] 26)
  replace z0 := cellB hv z0
  replace z1 := cellB hv z1
  replace z2 := cellB hv z2
  replace z3 := cellB hv z3
  replace z4 := cellB hv z4
  replace z5 := cellB hv z5
  replace z6 := cellB hv z6
  replace z7 := cellB hv z7
  replace HU := Lib.hid (HU.out.below hv)
  replace HV := Lib.hid (HV.out.below hv)
  replace HB := Lib.hid (below_up HB.out hv HB.out.size)
  clear hv
  obtain ⟨h0, h1, h2⟩ := cell_box3 ((w.alloc (Obj.cells #[str a, str b, str c, .slice LA L.length cap, .slice MA M.length cap2, .int .i64 x, .int .i64 y, .int .i64 t] 24)).alloc (Obj.cells #[.int .i64 k, .int .i64 n, .string ⟨s.toArray⟩] 26)) (.int .i64 k2) (.int .i64 n2) (str s2) 26
  have hv := below_box ((w.alloc (Obj.cells #[str a, str b, str c, .slice LA L.length cap, .slice MA M.length cap2, .int .i64 x, .int .i64 y, .int .i64 t] 24)).alloc (Obj.cells #[.int .i64 k, .int .i64 n, .string ⟨s.toArray⟩] 26)) (Obj.cells #[.int .i64 k2, .int .i64 n2, .string ⟨s2.toArray⟩] 26)
  replace z0 := cellB hv z0
  replace z1 := cellB hv z1
  replace z2 := cellB hv z2
  replace z3 := cellB hv z3
  replace z4 := cellB hv z4
  replace z5 := cellB hv z5
  replace z6 := cellB hv z6
  replace z7 := cellB hv z7
  replace g0 := cellB hv g0
  replace g1 := cellB hv g1
  replace g2 := cellB hv g2
  replace HU := Lib.hid (HU.out.below hv)
  replace HV := Lib.hid (HV.out.below hv)
  replace HB := Lib.hid (below_up HB.out hv HB.out.size)
  clear hv
  simp only [World.size_alloc] at g0 g1 g2 h0 h1 h2
  go_enter Tryz.func3, Tryz.ntmps3
  go_wp2_with fail
  refine (head_any _).mono ?_
  rintro e1 w1 ⟨rfl, hv⟩
  obtain ⟨wx, hwx⟩ : ∃ wx, ((w.alloc (Obj.cells #[str a, str b, str c, .slice LA L.length cap, .slice MA M.length cap2, .int .i64 x, .int .i64 y, .int .i64 t] 24)).alloc (Obj.cells #[.int .i64 k, .int .i64 n, .string ⟨s.toArray⟩] 26)).alloc (Obj.cells #[.int .i64 k2, .int .i64 n2, .string ⟨s2.toArray⟩] 26) = wx := ⟨_, rfl⟩
  rw [hwx] at hv HB HU HV z0 z1 z2 z3 z4 z5 z6 z7 g0 g1 g2 h0 h1 h2
  clear hwx
  replace z0 := cellB hv z0
  replace z1 := cellB hv z1
  replace z2 := cellB hv z2
  replace z3 := cellB hv z3
  replace z4 := cellB hv z4
  replace z5 := cellB hv z5
  replace z6 := cellB hv z6
  replace z7 := cellB hv z7
  replace g0 := cellB hv g0
  replace g1 := cellB hv g1
  replace g2 := cellB hv g2
  replace h0 := cellB hv h0
  replace h1 := cellB hv h1
  replace h2 := cellB hv h2
  replace HU := Lib.hid (HU.out.below hv)
  replace HV := Lib.hid (HV.out.below hv)
  replace HB := Lib.hid (below_up HB.out hv HB.out.size)
  clear hv
  go_wp2_with fail
  refine (small_any a b c _ _ L M x y t w1 HU.out HV.out).mono ?_
  rw [HH.out]
  rintro e2 w2 ⟨rfl, hv⟩
  replace z0 := cellB hv z0
  replace z1 := cellB hv z1
  replace z2 := cellB hv z2
  replace z3 := cellB hv z3
  replace z4 := cellB hv z4
  replace z5 := cellB hv z5
  replace z6 := cellB hv z6
  replace z7 := cellB hv z7
  replace g0 := cellB hv g0
  replace g1 := cellB hv g1
  replace g2 := cellB hv g2
  replace h0 := cellB hv h0
  replace h1 := cellB hv h1
  replace h2 := cellB hv h2
  replace HU := Lib.hid (HU.out.below hv)
  replace HV := Lib.hid (HV.out.below hv)
  replace HB := Lib.hid (below_up HB.out hv HB.out.size)
  clear hv
  go_wp2_with fail
  go_ret
  exact ⟨rfl, HB.out⟩

set_option maxRecDepth 100000 in
set_option maxHeartbeats 8000000 in
theorem mat_short (a b c : List UInt8) (LA MA : Option Addr) (cap cap2 : Nat) (L M : List (List UInt8)) (x y t m : Int) (k n : Int) (s : List UInt8) (k2 n2 : Int) (s2 : List UInt8) (HH : Hid ((shortB 300 [a, b, c] && fewB [L, M]) = true)) (HS : Hid (shortB 300 [s, s2] = false)) (w : World) (hu : Strs w (.slice LA L.length cap) L) (hv : Strs w (.slice MA M.length cap2) M) :
    Calls Tryz.prog 3 #[.agg #[str a, str b, str c, .slice LA L.length cap, .slice MA M.length cap2, .int .i64 x, .int .i64 y, .int .i64 t], .int .i64 m, V k n s, V k2 n2 s2] w fun e w' => e = .returned (.bool true) ∧ Below w.heap.size w w' := by
  have HU := Lib.hid hu
  have HV := Lib.hid hv
  clear hu hv
  obtain ⟨z0, z1, z2, z3, z4, z5, z6, z7⟩ := cell_box8 w (str a) (str b) (str c) (.slice LA L.length cap) (.slice MA M.length cap2) (.int .i64 x) (.int .i64 y) (.int .i64 t) 24
  have HB := Lib.hid (below_box w (Obj.cells #[str a, str b, str c, .slice LA L.length cap, .slice MA M.length cap2, .int .i64 x, .int .i64 y, .int .i64 t] 24))
  replace HU := Lib.hid (HU.out.below HB.out)
  replace HV := Lib.hid (HV.out.below HB.out)
  obtain ⟨g0, g1, g2⟩ := cell_box3 (w.alloc (Obj.cells #[str a, str b, str c, .slice LA L.length cap, .slice MA M.length cap2, .int .i64 x, .int .i64 y, .int .i64 t] 24)) (.int .i64 k) (.int .i64 n) (str s) 26
  have hv := below_box (w.alloc (Obj.cells #[str a, str b, str c, .slice LA L.length cap, .slice MA M.length cap2, .int .i64 x, .int .i64 y, .int .i64 t] 24)) (Obj.cells #[.int .i64 k, .int .i64 n, .string ⟨s.toArray⟩] 26)
  replace z0 := cellB hv z0
  replace z1 := cellB hv z1
  replace z2 := cellB hv z2
  replace z3 := cellB hv z3
  replace z4 := cellB hv z4
  replace z5 := cellB hv z5
  replace z6 := cellB hv z6
  replace z7 := cellB hv z7
  replace HU := Lib.hid (HU.out.below hv)
  replace HV := Lib.hid (HV.out.below hv)
  replace HB := Lib.hid (below_up HB.out hv HB.out.size)
  clear hv
  obtain ⟨h0, h1, h2⟩ := cell_box3 ((w.alloc (Obj.cells #[str a, str b, str c, .slice LA L.length cap, .slice MA M.length cap2, .int .i64 x, .int .i64 y, .int .i64 t] 24)).alloc (Obj.cells #[.int .i64 k, .int .i64 n, .string ⟨s.toArray⟩] 26)) (.int .i64 k2) (.int .i64 n2) (str s2) 26
  have hv := below_box ((w.alloc (Obj.cells #[str a, str b, str c, .slice LA L.length cap, .slice MA M.length cap2, .int .i64 x, .int .i64 y, .int .i64 t] 24)).alloc (Obj.cells #[.int .i64 k, .int .i64 n, .string ⟨s.toArray⟩] 26)) (Obj.cells #[.int .i64 k2, .int .i64 n2, .string ⟨s2.toArray⟩] 26)
  replace z0 := cellB hv z0
  replace z1 := cellB hv z1
  replace z2 := cellB hv z2
  replace z3 := cellB hv z3
  replace z4 := cellB hv z4
  replace z5 := cellB hv z5
  replace z6 := cellB hv z6
  replace z7 := cellB hv z7
  replace g0 := cellB hv g0
  replace g1 := cellB hv g1
  replace g2 := cellB hv g2
  replace HU := Lib.hid (HU.out.below hv)
  replace HV := Lib.hid (HV.out.below hv)
  replace HB := Lib.hid (below_up HB.out hv HB.out.size)
  clear hv
  simp only [World.size_alloc] at g0 g1 g2 h0 h1 h2
  go_enter Tryz.func3, Tryz.ntmps3
  go_wp2_with fail
  refine (head_any _).mono ?_
  rintro e1 w1 ⟨rfl, hv⟩
  obtain ⟨wx, hwx⟩ : ∃ wx, ((w.alloc (Obj.cells #[str a, str b, str c, .slice LA L.length cap, .slice MA M.length cap2, .int .i64 x, .int .i64 y, .int .i64 t] 24)).alloc (Obj.cells #[.int .i64 k, .int .i64 n, .string ⟨s.toArray⟩] 26)).alloc (Obj.cells #[.int .i64 k2, .int .i64 n2, .string ⟨s2.toArray⟩] 26) = wx := ⟨_, rfl⟩
  rw [hwx] at hv HB HU HV z0 z1 z2 z3 z4 z5 z6 z7 g0 g1 g2 h0 h1 h2
  clear hwx
  replace z0 := cellB hv z0
  replace z1 := cellB hv z1
  replace z2 := cellB hv z2
  replace z3 := cellB hv z3
  replace z4 := cellB hv z4
  replace z5 := cellB hv z5
  replace z6 := cellB hv z6
  replace z7 := cellB hv z7
  replace g0 := cellB hv g0
  replace g1 := cellB hv g1
  replace g2 := cellB hv g2
  replace h0 := cellB hv h0
  replace h1 := cellB hv h1
  replace h2 := cellB hv h2
  replace HU := Lib.hid (HU.out.below hv)
  replace HV := Lib.hid (HV.out.below hv)
  replace HB := Lib.hid (below_up HB.out hv HB.out.size)
  clear hv
  go_wp2_with fail
  refine (small_any a b c _ _ L M x y t w1 HU.out HV.out).mono ?_
  rw [HH.out]
  rintro e2 w2 ⟨rfl, hv⟩
  replace z0 := cellB hv z0
  replace z1 := cellB hv z1
  replace z2 := cellB hv z2
  replace z3 := cellB hv z3
  replace z4 := cellB hv z4
  replace z5 := cellB hv z5
  replace z6 := cellB hv z6
  replace z7 := cellB hv z7
  replace g0 := cellB hv g0
  replace g1 := cellB hv g1
  replace g2 := cellB hv g2
  replace h0 := cellB hv h0
  replace h1 := cellB hv h1
  replace h2 := cellB hv h2
  replace HU := Lib.hid (HU.out.below hv)
  replace HV := Lib.hid (HV.out.below hv)
  replace HB := Lib.hid (below_up HB.out hv HB.out.size)
  clear hv
  go_wp2_with fail
  refine (short_at 300 [s, s2] (by simp) _ _ (by simp)).mono ?_
  rw [HS.out]
  rintro e3 w3 ⟨rfl, hv⟩
  replace z0 := cellB hv z0
  replace z1 := cellB hv z1
  replace z2 := cellB hv z2
  replace z3 := cellB hv z3
  replace z4 := cellB hv z4
  replace z5 := cellB hv z5
  replace z6 := cellB hv z6
  replace z7 := cellB hv z7
  replace g0 := cellB hv g0
  replace g1 := cellB hv g1
  replace g2 := cellB hv g2
  replace h0 := cellB hv h0
  replace h1 := cellB hv h1
  replace h2 := cellB hv h2
  replace HU := Lib.hid (HU.out.below hv)
  replace HV := Lib.hid (HV.out.below hv)
  replace HB := Lib.hid (below_up HB.out hv HB.out.size)
  clear hv
  go_wp2_with fail
  go_ret
  exact ⟨rfl, HB.out⟩

set_option maxRecDepth 100000 in
set_option maxHeartbeats 8000000 in
theorem mat_main (a b c : List UInt8) (LA MA : Option Addr) (cap cap2 : Nat) (L M : List (List UInt8)) (x y t m : Int) (k n : Int) (s : List UInt8) (k2 n2 : Int) (s2 : List UInt8) (d er : Int) (ra rj ro rn r : Int × Int)
    (HH : Hid ((shortB 300 [a, b, c] && fewB [L, M]) = true)) (HS : Hid (shortB 300 [s, s2] = true))
    (CE1 : Hid (∀ W, Calls Tryz.prog 8 #[str a, str b] W fun e w' => e = .returned (.int .i64 d) ∧ Below W.heap.size W w'))
    (CE2 : Hid (∀ W, Calls Tryz.prog 9 #[str a, str b] W fun e w' => e = .returned (.int .i64 d) ∧ Below W.heap.size W w'))
    (CA1 : Hid (∀ W, Calls Tryz.prog 10 #[str a, str b] W fun e w' => e = .returned (rat ra) ∧ Below W.heap.size W w'))
    (CA2 : Hid (∀ W, Calls Tryz.prog 11 #[str a, str b] W fun e w' => e = .returned (rat ra) ∧ Below W.heap.size W w'))
    (CJ1 : Hid (∀ W, Strs W (.slice LA L.length cap) L → Strs W (.slice MA M.length cap2) M → Calls Tryz.prog 12 #[.slice LA L.length cap, .slice MA M.length cap2] W fun e w' => e = .returned (rat rj) ∧ Below W.heap.size W w'))
    (CJ2 : Hid (∀ W, Strs W (.slice LA L.length cap) L → Strs W (.slice MA M.length cap2) M → Calls Tryz.prog 13 #[.slice LA L.length cap, .slice MA M.length cap2] W fun e w' => e = .returned (rat rj) ∧ Below W.heap.size W w'))
    (CO1 : Hid (∀ W, Calls Tryz.prog 14 #[.int .i64 m, .int .i64 t, V k n s, V k2 n2 s2] W fun e w' => e = .returned (.tuple #[rat r, .int .i64 er]) ∧ Below W.heap.size W w'))
    (CO2 : Hid (∀ W, Calls Tryz.prog 15 #[.int .i64 m, .int .i64 t, V k n s, V k2 n2 s2] W fun e w' => e = .returned (.tuple #[rat r, .int .i64 er]) ∧ Below W.heap.size W w'))
    (CR1 : Hid (∀ W, Calls Tryz.prog 16 #[str a, str b] W fun e w' => e = .returned (rat ro) ∧ Below W.heap.size W w'))
    (CR2 : Hid (∀ W, Calls Tryz.prog 17 #[str a, str b] W fun e w' => e = .returned (rat ro) ∧ Below W.heap.size W w'))
    (CN1 : Hid (∀ W, Calls Tryz.prog 18 #[.int .i64 x, .int .i64 y, .int .i64 t] W fun e w' => e = .returned (rat rn) ∧ Below W.heap.size W w'))
    (CN2 : Hid (∀ W, Calls Tryz.prog 19 #[.int .i64 x, .int .i64 y, .int .i64 t] W fun e w' => e = .returned (rat rn) ∧ Below W.heap.size W w'))
    (w : World) (hu : Strs w (.slice LA L.length cap) L) (hv : Strs w (.slice MA M.length cap2) M) :
    Calls Tryz.prog 3 #[.agg #[str a, str b, str c, .slice LA L.length cap, .slice MA M.length cap2, .int .i64 x, .int .i64 y, .int .i64 t], .int .i64 m, V k n s, V k2 n2 s2] w fun e w' => e = .returned (.bool true) ∧ Below w.heap.size w w' := by
  have HU := Lib.hid hu
  have HV := Lib.hid hv
  clear hu hv
  obtain ⟨z0, z1, z2, z3, z4, z5, z6, z7⟩ := cell_box8 w (str a) (str b) (str c) (.slice LA L.length cap) (.slice MA M.length cap2) (.int .i64 x) (.int .i64 y) (.int .i64 t) 24
  have HB := Lib.hid (below_box w (Obj.cells #[str a, str b, str c, .slice LA L.length cap, .slice MA M.length cap2, .int .i64 x, .int .i64 y, .int .i64 t] 24))
  replace HU := Lib.hid (HU.out.below HB.out)
  replace HV := Lib.hid (HV.out.below HB.out)
  obtain ⟨g0, g1, g2⟩ := cell_box3 (w.alloc (Obj.cells #[str a, str b, str c, .slice LA L.length cap, .slice MA M.length cap2, .int .i64 x, .int .i64 y, .int .i64 t] 24)) (.int .i64 k) (.int .i64 n) (str s) 26
  have hv := below_box (w.alloc (Obj.cells #[str a, str b, str c, .slice LA L.length cap, .slice MA M.length cap2, .int .i64 x, .int .i64 y, .int .i64 t] 24)) (Obj.cells #[.int .i64 k, .int .i64 n, .string ⟨s.toArray⟩] 26)
  replace z0 := cellB hv z0
  replace z1 := cellB hv z1
  replace z2 := cellB hv z2
  replace z3 := cellB hv z3
  replace z4 := cellB hv z4
  replace z5 := cellB hv z5
  replace z6 := cellB hv z6
  replace z7 := cellB hv z7
  replace HU := Lib.hid (HU.out.below hv)
  replace HV := Lib.hid (HV.out.below hv)
  replace HB := Lib.hid (below_up HB.out hv HB.out.size)
  clear hv
  obtain ⟨h0, h1, h2⟩ := cell_box3 ((w.alloc (Obj.cells #[str a, str b, str c, .slice LA L.length cap, .slice MA M.length cap2, .int .i64 x, .int .i64 y, .int .i64 t] 24)).alloc (Obj.cells #[.int .i64 k, .int .i64 n, .string ⟨s.toArray⟩] 26)) (.int .i64 k2) (.int .i64 n2) (str s2) 26
  have hv := below_box ((w.alloc (Obj.cells #[str a, str b, str c, .slice LA L.length cap, .slice MA M.length cap2, .int .i64 x, .int .i64 y, .int .i64 t] 24)).alloc (Obj.cells #[.int .i64 k, .int .i64 n, .string ⟨s.toArray⟩] 26)) (Obj.cells #[.int .i64 k2, .int .i64 n2, .string ⟨s2.toArray⟩] 26)
  replace z0 := cellB hv z0
  replace z1 := cellB hv z1
  replace z2 := cellB hv z2
  replace z3 := cellB hv z3
  replace z4 := cellB hv z4
  replace z5 := cellB hv z5
  replace z6 := cellB hv z6
  replace z7 := cellB hv z7
  replace g0 := cellB hv g0
  replace g1 := cellB hv g1
  replace g2 := cellB hv g2
  replace HU := Lib.hid (HU.out.below hv)
  replace HV := Lib.hid (HV.out.below hv)
  replace HB := Lib.hid (below_up HB.out hv HB.out.size)
  clear hv
  simp only [World.size_alloc] at g0 g1 g2 h0 h1 h2
  go_enter Tryz.func3, Tryz.ntmps3
  go_wp2_with fail
  refine (head_any _).mono ?_
  rintro e1 w1 ⟨rfl, hv⟩
  obtain ⟨wx, hwx⟩ : ∃ wx, ((w.alloc (Obj.cells #[str a, str b, str c, .slice LA L.length cap, .slice MA M.length cap2, .int .i64 x, .int .i64 y, .int .i64 t] 24)).alloc (Obj.cells #[.int .i64 k, .int .i64 n, .string ⟨s.toArray⟩] 26)).alloc (Obj.cells #[.int .i64 k2, .int .i64 n2, .string ⟨s2.toArray⟩] 26) = wx := ⟨_, rfl⟩
  rw [hwx] at hv HB HU HV z0 z1 z2 z3 z4 z5 z6 z7 g0 g1 g2 h0 h1 h2
  clear hwx
  replace z0 := cellB hv z0
  replace z1 := cellB hv z1
  replace z2 := cellB hv z2
  replace z3 := cellB hv z3
  replace z4 := cellB hv z4
  replace z5 := cellB hv z5
  replace z6 := cellB hv z6
  replace z7 := cellB hv z7
  replace g0 := cellB hv g0
  replace g1 := cellB hv g1
  replace g2 := cellB hv g2
  replace h0 := cellB hv h0
  replace h1 := cellB hv h1
  replace h2 := cellB hv h2
  replace HU := Lib.hid (HU.out.below hv)
  replace HV := Lib.hid (HV.out.below hv)
  replace HB := Lib.hid (below_up HB.out hv HB.out.size)
  clear hv
  go_wp2_with fail
  refine (small_any a b c _ _ L M x y t w1 HU.out HV.out).mono ?_
  rw [HH.out]
  rintro e2 w2 ⟨rfl, hv⟩
  replace z0 := cellB hv z0
  replace z1 := cellB hv z1
  replace z2 := cellB hv z2
  replace z3 := cellB hv z3
  replace z4 := cellB hv z4
  replace z5 := cellB hv z5
  replace z6 := cellB hv z6
  replace z7 := cellB hv z7
  replace g0 := cellB hv g0
  replace g1 := cellB hv g1
  replace g2 := cellB hv g2
  replace h0 := cellB hv h0
  replace h1 := cellB hv h1
  replace h2 := cellB hv h2
  replace HU := Lib.hid (HU.out.below hv)
  replace HV := Lib.hid (HV.out.below hv)
  replace HB := Lib.hid (below_up HB.out hv HB.out.size)
  clear hv
  go_wp2_with fail
  refine (short_at 300 [s, s2] (by simp) _ _ (by simp)).mono ?_
  rw [HS.out]
  rintro e3 w3 ⟨rfl, hv⟩
  replace z0 := cellB hv z0
  replace z1 := cellB hv z1
  replace z2 := cellB hv z2
  replace z3 := cellB hv z3
  replace z4 := cellB hv z4
  replace z5 := cellB hv z5
  replace z6 := cellB hv z6
  replace z7 := cellB hv z7
  replace g0 := cellB hv g0
  replace g1 := cellB hv g1
  replace g2 := cellB hv g2
  replace h0 := cellB hv h0
  replace h1 := cellB hv h1
  replace h2 := cellB hv h2
  replace HU := Lib.hid (HU.out.below hv)
  replace HV := Lib.hid (HV.out.below hv)
  replace HB := Lib.hid (below_up HB.out hv HB.out.size)
  clear hv
  clear z2
  obtain ⟨bx, hbx⟩ : ∃ bx, w.heap.size = bx := ⟨_, rfl⟩
  obtain ⟨ba, hba⟩ : ∃ ba, bx + 1 = ba := ⟨_, rfl⟩
  obtain ⟨bb, hbb⟩ : ∃ bb, ba + 1 = bb := ⟨_, rfl⟩
  have HE : Hid (w.heap.size = bx) := Lib.hid hbx
  have HBX : Hid (∀ W, Below bx w W → bx ≤ W.heap.size) := Lib.hid (fun W h => hbx ▸ h.size)
  rw [hbx] at z0 z1 z3 z4 z5 z6 z7 g0 g1 g2 h0 h1 h2 HB ⊢
  rw [hba] at g0 g1 g2 h0 h1 h2 ⊢
  rw [hbb] at h0 h1 h2 ⊢
  clear hbx hba hbb
  have es := fun r (W : World) => eql_same r W
  go_wp2_with fail
  have pz0 := z0
  have pz1 := z1
  have pz3 := z3
  have pz4 := z4
  have pz5 := z5
  have pz6 := z6
  have pz7 := z7
  have pg0 := g0
  have pg1 := g1
  have pg2 := g2
  have ph0 := h0
  have ph1 := h1
  have ph2 := h2
  have hv := below_drewN w3.heap.size w3 1
  replace z0 := cellB hv z0
  replace z1 := cellB hv z1
  replace z3 := cellB hv z3
  replace z4 := cellB hv z4
  replace z5 := cellB hv z5
  replace z6 := cellB hv z6
  replace z7 := cellB hv z7
  replace g0 := cellB hv g0
  replace g1 := cellB hv g1
  replace g2 := cellB hv g2
  replace h0 := cellB hv h0
  replace h1 := cellB hv h1
  replace h2 := cellB hv h2
  replace HU := Lib.hid (HU.out.below hv)
  replace HV := Lib.hid (HV.out.below hv)
  replace HB := Lib.hid (below_up HB.out hv (HBX.out _ HB.out))
  clear hv
  refine wp_region_held_drew (S := (fun w' => w'.cell? ⟨bx, 0, none⟩ = some (str a) ∧ w'.cell? ⟨bx, 1, none⟩ = some (str b) ∧ w'.cell? ⟨bx, 3, none⟩ = some (.slice LA L.length cap) ∧ w'.cell? ⟨bx, 4, none⟩ = some (.slice MA M.length cap2) ∧ w'.cell? ⟨bx, 5, none⟩ = some (.int .i64 x) ∧ w'.cell? ⟨bx, 6, none⟩ = some (.int .i64 y) ∧ w'.cell? ⟨bx, 7, none⟩ = some (.int .i64 t) ∧ w'.cell? ⟨ba, 0, none⟩ = some (.int .i64 k) ∧ w'.cell? ⟨ba, 1, none⟩ = some (.int .i64 n) ∧ w'.cell? ⟨ba, 2, none⟩ = some (str s) ∧ w'.cell? ⟨bb, 0, none⟩ = some (.int .i64 k2) ∧ w'.cell? ⟨bb, 1, none⟩ = some (.int .i64 n2) ∧ w'.cell? ⟨bb, 2, none⟩ = some (str s2))) (by kernel_rfl) ?_ (fun hHeld => ?_)
  · try dsimp only
    go_keep
  refine wpAnyH_take (i := 0) (v := ?_) (by (simp only [List.getElem?_toArray, List.getElem?_cons_zero]; rfl)) (by kernel_rfl) (by kernel_rfl) (by kernel_rfl) (by intro _ _ _ h; exact h) (Or.inl ⟨by kernel_rfl, ?_⟩) hHeld ?_
  case refine_2 =>
    intro w hSw
    try dsimp only at hSw
    go_simp
    try with_reducible rfl
  try simp only [Act.put, List.setIfInBounds_toArray, List.set_cons_zero, List.set_cons_succ]
  refine wpAnyH_take (i := 2) (v := ?_) (by (simp only [List.getElem?_toArray, List.getElem?_cons_succ, List.getElem?_cons_zero]; rfl)) (by kernel_rfl) (by kernel_rfl) (by kernel_rfl) (by intro _ _ _ h; exact h) (Or.inl ⟨by kernel_rfl, ?_⟩) hHeld ?_
  case refine_2 =>
    intro w hSw
    try dsimp only at hSw
    go_simp
    try with_reducible rfl
  try simp only [Act.put, List.setIfInBounds_toArray, List.set_cons_zero, List.set_cons_succ]
  refine wpAnyH_take (i := 5) (v := ?_) (by (simp only [List.getElem?_toArray, List.getElem?_cons_succ, List.getElem?_cons_zero]; rfl)) (by kernel_rfl) (by kernel_rfl) (by kernel_rfl) (by intro _ _ _ h; exact h) (Or.inl ⟨by kernel_rfl, ?_⟩) hHeld ?_
  case refine_2 =>
    intro w hSw
    try dsimp only at hSw
    go_simp
    try with_reducible rfl
  try simp only [Act.put, List.setIfInBounds_toArray, List.set_cons_zero, List.set_cons_succ]
  refine wpAnyH_take (i := 7) (v := ?_) (by (simp only [List.getElem?_toArray, List.getElem?_cons_succ, List.getElem?_cons_zero]; rfl)) (by kernel_rfl) (by kernel_rfl) (by kernel_rfl) (by intro _ _ _ h; exact h) (Or.inl ⟨by kernel_rfl, ?_⟩) hHeld ?_
  case refine_2 =>
    intro w hSw
    try dsimp only at hSw
    go_simp
    try with_reducible rfl
  try simp only [Act.put, List.setIfInBounds_toArray, List.set_cons_zero, List.set_cons_succ]
  refine wpAnyH_take (i := 1) (v := ?_) (by (simp only [List.getElem?_toArray, List.getElem?_cons_succ, List.getElem?_cons_zero]; rfl)) (by kernel_rfl) (by kernel_rfl) (by kernel_rfl) (by intro _ _ _ h; exact h) (Or.inl ⟨by kernel_rfl, ?_⟩) hHeld ?_
  case refine_2 =>
    intro w hSw
    try dsimp only at hSw
    go_simp
    try with_reducible rfl
  try simp only [Act.put, List.setIfInBounds_toArray, List.set_cons_zero, List.set_cons_succ]
  refine wpAnyH_take (i := 3) (v := ?_) (by (simp only [List.getElem?_toArray, List.getElem?_cons_succ, List.getElem?_cons_zero]; rfl)) (by kernel_rfl) (by kernel_rfl) (by kernel_rfl) (by intro _ _ _ h; exact h) (Or.inl ⟨by kernel_rfl, ?_⟩) hHeld ?_
  case refine_2 =>
    intro w hSw
    try dsimp only at hSw
    go_simp
    try with_reducible rfl
  try simp only [Act.put, List.setIfInBounds_toArray, List.set_cons_zero, List.set_cons_succ]
  refine wpAnyH_take (i := 6) (v := ?_) (by (simp only [List.getElem?_toArray, List.getElem?_cons_succ, List.getElem?_cons_zero]; rfl)) (by kernel_rfl) (by kernel_rfl) (by kernel_rfl) (by intro _ _ _ h; exact h) (Or.inl ⟨by kernel_rfl, ?_⟩) hHeld ?_
  case refine_2 =>
    intro w hSw
    try dsimp only at hSw
    go_simp
    try with_reducible rfl
  try simp only [Act.put, List.setIfInBounds_toArray, List.set_cons_zero, List.set_cons_succ]
  refine wpAnyH_take (i := 8) (v := ?_) (by (simp only [List.getElem?_toArray, List.getElem?_cons_succ, List.getElem?_cons_zero]; rfl)) (by kernel_rfl) (by kernel_rfl) (by kernel_rfl) (by intro _ _ _ h; exact h) (Or.inl ⟨by kernel_rfl, ?_⟩) hHeld ?_
  case refine_2 =>
    intro w hSw
    try dsimp only at hSw
    go_simp
    try with_reducible rfl
  try simp only [Act.put, List.setIfInBounds_toArray, List.set_cons_zero, List.set_cons_succ]
  refine wpAnyH_ready (rs := [4]) (by kernel_rfl) (by simp) ?_
  refine AllReadyH.cons (by (simp only [List.getElem?_toArray, List.getElem?_cons_succ, List.getElem?_cons_zero]; rfl)) (fun K hK => ?_) AllReadyH.nil
  go_simp
  refine (CE1.out _).mono ?_
  rintro e vv ⟨rfl, hv⟩
  replace z0 := cellB hv z0
  replace z1 := cellB hv z1
  replace z3 := cellB hv z3
  replace z4 := cellB hv z4
  replace z5 := cellB hv z5
  replace z6 := cellB hv z6
  replace z7 := cellB hv z7
  replace g0 := cellB hv g0
  replace g1 := cellB hv g1
  replace g2 := cellB hv g2
  replace h0 := cellB hv h0
  replace h1 := cellB hv h1
  replace h2 := cellB hv h2
  replace HU := Lib.hid (HU.out.below hv)
  replace HV := Lib.hid (HV.out.below hv)
  replace HB := Lib.hid (below_up HB.out hv (HBX.out _ HB.out))
  clear hv
  try go_wp2_with fail
  clear hHeld
  refine hK.out _ _ ?_ (fun hHeld => ?_)
  · try dsimp only
    go_keep
  clear hK K
  try simp only [Act.put, List.setIfInBounds_toArray, List.set_cons_zero, List.set_cons_succ]
  refine wpAnyH_ready (rs := [9]) (by kernel_rfl) (by simp) ?_
  refine AllReadyH.cons (by (simp only [List.getElem?_toArray, List.getElem?_cons_succ, List.getElem?_cons_zero]; rfl)) (fun K hK => ?_) AllReadyH.nil
  go_simp
  refine (CE2.out _).mono ?_
  rintro e vv ⟨rfl, hv⟩
  replace z0 := cellB hv z0
  replace z1 := cellB hv z1
  replace z3 := cellB hv z3
  replace z4 := cellB hv z4
  replace z5 := cellB hv z5
  replace z6 := cellB hv z6
  replace z7 := cellB hv z7
  replace g0 := cellB hv g0
  replace g1 := cellB hv g1
  replace g2 := cellB hv g2
  replace h0 := cellB hv h0
  replace h1 := cellB hv h1
  replace h2 := cellB hv h2
  replace HU := Lib.hid (HU.out.below hv)
  replace HV := Lib.hid (HV.out.below hv)
  replace HB := Lib.hid (below_up HB.out hv (HBX.out _ HB.out))
  clear hv
  try go_wp2_with fail
  clear hHeld
  refine hK.out _ _ ?_ (fun hHeld => ?_)
  · try dsimp only
    go_keep
  clear hK K
  try simp only [Act.put, List.setIfInBounds_toArray, List.set_cons_zero, List.set_cons_succ]
  refine wpAnyH_take (i := 10) (v := ?_) (by (simp only [List.getElem?_toArray, List.getElem?_cons_succ, List.getElem?_cons_zero]; rfl)) (by kernel_rfl) (by kernel_rfl) (by kernel_rfl) (by intro _ _ _ h; exact h) (Or.inl ⟨by kernel_rfl, ?_⟩) hHeld ?_
  case refine_2 =>
    intro w hSw
    try dsimp only at hSw
    go_simp
    try with_reducible rfl
  try simp only [Act.put, List.setIfInBounds_toArray, List.set_cons_zero, List.set_cons_succ]
  refine wpAnyH_take (i := 11) (v := ?_) (by (simp only [List.getElem?_toArray, List.getElem?_cons_succ, List.getElem?_cons_zero]; rfl)) (by kernel_rfl) (by kernel_rfl) (by kernel_rfl) (by intro _ _ _ h; exact h) (Or.inl ⟨by kernel_rfl, ?_⟩) hHeld ?_
  case refine_2 =>
    intro w hSw
    try dsimp only at hSw
    go_simp
    try with_reducible rfl
  try simp only [Act.put, List.setIfInBounds_toArray, List.set_cons_zero, List.set_cons_succ]
  refine wpAnyH_take (i := 12) (v := ?_) (by (simp only [List.getElem?_toArray, List.getElem?_cons_succ, List.getElem?_cons_zero]; rfl)) (by kernel_rfl) (by kernel_rfl) (by kernel_rfl) (by intro _ _ _ h; exact h) (Or.inl ⟨by kernel_rfl, ?_⟩) hHeld ?_
  case refine_2 =>
    intro w hSw
    try dsimp only at hSw
    go_simp
    try with_reducible rfl
  try simp only [Act.put, List.setIfInBounds_toArray, List.set_cons_zero, List.set_cons_succ]
  refine wpAnyH_take (i := 14) (v := ?_) (by (simp only [List.getElem?_toArray, List.getElem?_cons_succ, List.getElem?_cons_zero]; rfl)) (by kernel_rfl) (by kernel_rfl) (by kernel_rfl) (by intro _ _ _ h; exact h) (Or.inl ⟨by kernel_rfl, ?_⟩) hHeld ?_
  case refine_2 =>
    intro w hSw
    try dsimp only at hSw
    go_simp
    try with_reducible rfl
  try simp only [Act.put, List.setIfInBounds_toArray, List.set_cons_zero, List.set_cons_succ]
  refine wpAnyH_take (i := 17) (v := ?_) (by (simp only [List.getElem?_toArray, List.getElem?_cons_succ, List.getElem?_cons_zero]; rfl)) (by kernel_rfl) (by kernel_rfl) (by kernel_rfl) (by intro _ _ _ h; exact h) (Or.inl ⟨by kernel_rfl, ?_⟩) hHeld ?_
  case refine_2 =>
    intro w hSw
    try dsimp only at hSw
    go_simp
    try with_reducible rfl
  try simp only [Act.put, List.setIfInBounds_toArray, List.set_cons_zero, List.set_cons_succ]
  refine wpAnyH_take (i := 19) (v := ?_) (by (simp only [List.getElem?_toArray, List.getElem?_cons_succ, List.getElem?_cons_zero]; rfl)) (by kernel_rfl) (by kernel_rfl) (by kernel_rfl) (by intro _ _ _ h; exact h) (Or.inl ⟨by kernel_rfl, ?_⟩) hHeld ?_
  case refine_2 =>
    intro w hSw
    try dsimp only at hSw
    go_simp
    try with_reducible rfl
  try simp only [Act.put, List.setIfInBounds_toArray, List.set_cons_zero, List.set_cons_succ]
  refine wpAnyH_take (i := 13) (v := ?_) (by (simp only [List.getElem?_toArray, List.getElem?_cons_succ, List.getElem?_cons_zero]; rfl)) (by kernel_rfl) (by kernel_rfl) (by kernel_rfl) (by intro _ _ _ h; exact h) (Or.inl ⟨by kernel_rfl, ?_⟩) hHeld ?_
  case refine_2 =>
    intro w hSw
    try dsimp only at hSw
    go_simp
    try with_reducible rfl
  try simp only [Act.put, List.setIfInBounds_toArray, List.set_cons_zero, List.set_cons_succ]
  refine wpAnyH_take (i := 15) (v := ?_) (by (simp only [List.getElem?_toArray, List.getElem?_cons_succ, List.getElem?_cons_zero]; rfl)) (by kernel_rfl) (by kernel_rfl) (by kernel_rfl) (by intro _ _ _ h; exact h) (Or.inl ⟨by kernel_rfl, ?_⟩) hHeld ?_
  case refine_2 =>
    intro w hSw
    try dsimp only at hSw
    go_simp
    try with_reducible rfl
  try simp only [Act.put, List.setIfInBounds_toArray, List.set_cons_zero, List.set_cons_succ]
  refine wpAnyH_take (i := 18) (v := ?_) (by (simp only [List.getElem?_toArray, List.getElem?_cons_succ, List.getElem?_cons_zero]; rfl)) (by kernel_rfl) (by kernel_rfl) (by kernel_rfl) (by intro _ _ _ h; exact h) (Or.inl ⟨by kernel_rfl, ?_⟩) hHeld ?_
  case refine_2 =>
    intro w hSw
    try dsimp only at hSw
    go_simp
    try with_reducible rfl
  try simp only [Act.put, List.setIfInBounds_toArray, List.set_cons_zero, List.set_cons_succ]
  refine wpAnyH_take (i := 20) (v := ?_) (by (simp only [List.getElem?_toArray, List.getElem?_cons_succ, List.getElem?_cons_zero]; rfl)) (by kernel_rfl) (by kernel_rfl) (by kernel_rfl) (by intro _ _ _ h; exact h) (Or.inl ⟨by kernel_rfl, ?_⟩) hHeld ?_
  case refine_2 =>
    intro w hSw
    try dsimp only at hSw
    go_simp
    try with_reducible rfl
  try simp only [Act.put, List.setIfInBounds_toArray, List.set_cons_zero, List.set_cons_succ]
  refine wpAnyH_ready (rs := [16]) (by kernel_rfl) (by simp) ?_
  refine AllReadyH.cons (by (simp only [List.getElem?_toArray, List.getElem?_cons_succ, List.getElem?_cons_zero]; rfl)) (fun K hK => ?_) AllReadyH.nil
  go_simp
  refine (CA1.out _).mono ?_
  rintro e vv ⟨rfl, hv⟩
  replace z0 := cellB hv z0
  replace z1 := cellB hv z1
  replace z3 := cellB hv z3
  replace z4 := cellB hv z4
  replace z5 := cellB hv z5
  replace z6 := cellB hv z6
  replace z7 := cellB hv z7
  replace g0 := cellB hv g0
  replace g1 := cellB hv g1
  replace g2 := cellB hv g2
  replace h0 := cellB hv h0
  replace h1 := cellB hv h1
  replace h2 := cellB hv h2
  replace HU := Lib.hid (HU.out.below hv)
  replace HV := Lib.hid (HV.out.below hv)
  replace HB := Lib.hid (below_up HB.out hv (HBX.out _ HB.out))
  clear hv
  try go_wp2_with fail
  clear hHeld
  refine hK.out _ _ ?_ (fun hHeld => ?_)
  · try dsimp only
    go_keep
  clear hK K
  try simp only [Act.put, List.setIfInBounds_toArray, List.set_cons_zero, List.set_cons_succ]
  refine wpAnyH_ready (rs := [21]) (by kernel_rfl) (by simp) ?_
  refine AllReadyH.cons (by (simp only [List.getElem?_toArray, List.getElem?_cons_succ, List.getElem?_cons_zero]; rfl)) (fun K hK => ?_) AllReadyH.nil
  go_simp
  refine (CA2.out _).mono ?_
  rintro e vv ⟨rfl, hv⟩
  replace z0 := cellB hv z0
  replace z1 := cellB hv z1
  replace z3 := cellB hv z3
  replace z4 := cellB hv z4
  replace z5 := cellB hv z5
  replace z6 := cellB hv z6
  replace z7 := cellB hv z7
  replace g0 := cellB hv g0
  replace g1 := cellB hv g1
  replace g2 := cellB hv g2
  replace h0 := cellB hv h0
  replace h1 := cellB hv h1
  replace h2 := cellB hv h2
  replace HU := Lib.hid (HU.out.below hv)
  replace HV := Lib.hid (HV.out.below hv)
  replace HB := Lib.hid (below_up HB.out hv (HBX.out _ HB.out))
  clear hv
  try go_wp2_with fail
  clear hHeld
  refine hK.out _ _ ?_ (fun hHeld => ?_)
  · try dsimp only
    go_keep
  clear hK K
  try simp only [Act.put, List.setIfInBounds_toArray, List.set_cons_zero, List.set_cons_succ]
  refine wpAnyH_take (i := 22) (v := ?_) (by (simp only [List.getElem?_toArray, List.getElem?_cons_succ, List.getElem?_cons_zero]; rfl)) (by kernel_rfl) (by kernel_rfl) (by kernel_rfl) (by intro _ _ _ h; exact h) (Or.inl ⟨by kernel_rfl, ?_⟩) hHeld ?_
  case refine_2 =>
    intro w hSw
    try dsimp only at hSw
    go_simp
    try with_reducible rfl
  try simp only [Act.put, List.setIfInBounds_toArray, List.set_cons_zero, List.set_cons_succ]
  refine wpAnyH_take (i := 23) (v := ?_) (by (simp only [List.getElem?_toArray, List.getElem?_cons_succ, List.getElem?_cons_zero]; rfl)) (by kernel_rfl) (by kernel_rfl) (by kernel_rfl) (by intro _ _ _ h; exact h) (Or.inl ⟨by kernel_rfl, ?_⟩) hHeld ?_
  case refine_2 =>
    intro w hSw
    try dsimp only at hSw
    go_simp
    try with_reducible rfl
  try simp only [Act.put, List.setIfInBounds_toArray, List.set_cons_zero, List.set_cons_succ]
  refine wpAnyH_take (i := 24) (v := ?_) (by (simp only [List.getElem?_toArray, List.getElem?_cons_succ, List.getElem?_cons_zero]; rfl)) (by kernel_rfl) (by kernel_rfl) (by kernel_rfl) (by intro _ _ _ h; exact h) (Or.inl ⟨by kernel_rfl, ?_⟩) hHeld ?_
  case refine_2 =>
    intro w hSw
    try dsimp only at hSw
    go_simp
    try with_reducible rfl
  try simp only [Act.put, List.setIfInBounds_toArray, List.set_cons_zero, List.set_cons_succ]
  refine wpAnyH_take (i := 25) (v := ?_) (by (simp only [List.getElem?_toArray, List.getElem?_cons_succ, List.getElem?_cons_zero]; rfl)) (by kernel_rfl) (by kernel_rfl) (by kernel_rfl) (by intro _ _ _ h; exact h) (Or.inl ⟨by kernel_rfl, ?_⟩) hHeld ?_
  case refine_2 =>
    intro w hSw
    try dsimp only at hSw
    go_simp
    try with_reducible rfl
  try simp only [Act.put, List.setIfInBounds_toArray, List.set_cons_zero, List.set_cons_succ]
  refine wpAnyH_take (i := 27) (v := ?_) (by (simp only [List.getElem?_toArray, List.getElem?_cons_succ, List.getElem?_cons_zero]; rfl)) (by kernel_rfl) (by kernel_rfl) (by kernel_rfl) (by intro _ _ _ h; exact h) (Or.inl ⟨by kernel_rfl, ?_⟩) hHeld ?_
  case refine_2 =>
    intro w hSw
    try dsimp only at hSw
    go_simp
    try with_reducible rfl
  try simp only [Act.put, List.setIfInBounds_toArray, List.set_cons_zero, List.set_cons_succ]
  refine wpAnyH_take (i := 30) (v := ?_) (by (simp only [List.getElem?_toArray, List.getElem?_cons_succ, List.getElem?_cons_zero]; rfl)) (by kernel_rfl) (by kernel_rfl) (by kernel_rfl) (by intro _ _ _ h; exact h) (Or.inl ⟨by kernel_rfl, ?_⟩) hHeld ?_
  case refine_2 =>
    intro w hSw
    try dsimp only at hSw
    go_simp
    try with_reducible rfl
  try simp only [Act.put, List.setIfInBounds_toArray, List.set_cons_zero, List.set_cons_succ]
  refine wpAnyH_take (i := 32) (v := ?_) (by (simp only [List.getElem?_toArray, List.getElem?_cons_succ, List.getElem?_cons_zero]; rfl)) (by kernel_rfl) (by kernel_rfl) (by kernel_rfl) (by intro _ _ _ h; exact h) (Or.inl ⟨by kernel_rfl, ?_⟩) hHeld ?_
  case refine_2 =>
    intro w hSw
    try dsimp only at hSw
    go_simp
    try with_reducible rfl
  try simp only [Act.put, List.setIfInBounds_toArray, List.set_cons_zero, List.set_cons_succ]
  refine wpAnyH_take (i := 26) (v := ?_) (by (simp only [List.getElem?_toArray, List.getElem?_cons_succ, List.getElem?_cons_zero]; rfl)) (by kernel_rfl) (by kernel_rfl) (by kernel_rfl) (by intro _ _ _ h; exact h) (Or.inl ⟨by kernel_rfl, ?_⟩) hHeld ?_
  case refine_2 =>
    intro w hSw
    try dsimp only at hSw
    go_simp
    try with_reducible rfl
  try simp only [Act.put, List.setIfInBounds_toArray, List.set_cons_zero, List.set_cons_succ]
  refine wpAnyH_take (i := 28) (v := ?_) (by (simp only [List.getElem?_toArray, List.getElem?_cons_succ, List.getElem?_cons_zero]; rfl)) (by kernel_rfl) (by kernel_rfl) (by kernel_rfl) (by intro _ _ _ h; exact h) (Or.inl ⟨by kernel_rfl, ?_⟩) hHeld ?_
  case refine_2 =>
    intro w hSw
    try dsimp only at hSw
    go_simp
    try with_reducible rfl
  try simp only [Act.put, List.setIfInBounds_toArray, List.set_cons_zero, List.set_cons_succ]
  refine wpAnyH_take (i := 31) (v := ?_) (by (simp only [List.getElem?_toArray, List.getElem?_cons_succ, List.getElem?_cons_zero]; rfl)) (by kernel_rfl) (by kernel_rfl) (by kernel_rfl) (by intro _ _ _ h; exact h) (Or.inl ⟨by kernel_rfl, ?_⟩) hHeld ?_
  case refine_2 =>
    intro w hSw
    try dsimp only at hSw
    go_simp
    try with_reducible rfl
  try simp only [Act.put, List.setIfInBounds_toArray, List.set_cons_zero, List.set_cons_succ]
  refine wpAnyH_take (i := 33) (v := ?_) (by (simp only [List.getElem?_toArray, List.getElem?_cons_succ, List.getElem?_cons_zero]; rfl)) (by kernel_rfl) (by kernel_rfl) (by kernel_rfl) (by intro _ _ _ h; exact h) (Or.inl ⟨by kernel_rfl, ?_⟩) hHeld ?_
  case refine_2 =>
    intro w hSw
    try dsimp only at hSw
    go_simp
    try with_reducible rfl
  try simp only [Act.put, List.setIfInBounds_toArray, List.set_cons_zero, List.set_cons_succ]
  refine wpAnyH_ready (rs := [29]) (by kernel_rfl) (by simp) ?_
  refine AllReadyH.cons (by (simp only [List.getElem?_toArray, List.getElem?_cons_succ, List.getElem?_cons_zero]; rfl)) (fun K hK => ?_) AllReadyH.nil
  go_simp
  refine (CJ1.out _ HU.out HV.out).mono ?_
  rintro e vv ⟨rfl, hv⟩
  replace z0 := cellB hv z0
  replace z1 := cellB hv z1
  replace z3 := cellB hv z3
  replace z4 := cellB hv z4
  replace z5 := cellB hv z5
  replace z6 := cellB hv z6
  replace z7 := cellB hv z7
  replace g0 := cellB hv g0
  replace g1 := cellB hv g1
  replace g2 := cellB hv g2
  replace h0 := cellB hv h0
  replace h1 := cellB hv h1
  replace h2 := cellB hv h2
  replace HU := Lib.hid (HU.out.below hv)
  replace HV := Lib.hid (HV.out.below hv)
  replace HB := Lib.hid (below_up HB.out hv (HBX.out _ HB.out))
  clear hv
  try go_wp2_with fail
  clear hHeld
  refine hK.out _ _ ?_ (fun hHeld => ?_)
  · try dsimp only
    go_keep
  clear hK K
  try simp only [Act.put, List.setIfInBounds_toArray, List.set_cons_zero, List.set_cons_succ]
  refine wpAnyH_ready (rs := [34]) (by kernel_rfl) (by simp) ?_
  refine AllReadyH.cons (by (simp only [List.getElem?_toArray, List.getElem?_cons_succ, List.getElem?_cons_zero]; rfl)) (fun K hK => ?_) AllReadyH.nil
  go_simp
  refine (CJ2.out _ HU.out HV.out).mono ?_
  rintro e vv ⟨rfl, hv⟩
  replace z0 := cellB hv z0
  replace z1 := cellB hv z1
  replace z3 := cellB hv z3
  replace z4 := cellB hv z4
  replace z5 := cellB hv z5
  replace z6 := cellB hv z6
  replace z7 := cellB hv z7
  replace g0 := cellB hv g0
  replace g1 := cellB hv g1
  replace g2 := cellB hv g2
  replace h0 := cellB hv h0
  replace h1 := cellB hv h1
  replace h2 := cellB hv h2
  replace HU := Lib.hid (HU.out.below hv)
  replace HV := Lib.hid (HV.out.below hv)
  replace HB := Lib.hid (below_up HB.out hv (HBX.out _ HB.out))
  clear hv
  try go_wp2_with fail
  clear hHeld
  refine hK.out _ _ ?_ (fun hHeld => ?_)
  · try dsimp only
    go_keep
  clear hK K
  try simp only [Act.put, List.setIfInBounds_toArray, List.set_cons_zero, List.set_cons_succ]
  refine wpAnyH_take (i := 35) (v := ?_) (by (simp only [List.getElem?_toArray, List.getElem?_cons_succ, List.getElem?_cons_zero]; rfl)) (by kernel_rfl) (by kernel_rfl) (by kernel_rfl) (by intro _ _ _ h; exact h) (Or.inl ⟨by kernel_rfl, ?_⟩) hHeld ?_
  case refine_2 =>
    intro w hSw
    try dsimp only at hSw
    go_simp
    try with_reducible rfl
  try simp only [Act.put, List.setIfInBounds_toArray, List.set_cons_zero, List.set_cons_succ]
  refine wpAnyH_take (i := 36) (v := ?_) (by (simp only [List.getElem?_toArray, List.getElem?_cons_succ, List.getElem?_cons_zero]; rfl)) (by kernel_rfl) (by kernel_rfl) (by kernel_rfl) (by intro _ _ _ h; exact h) (Or.inl ⟨by kernel_rfl, ?_⟩) hHeld ?_
  case refine_2 =>
    intro w hSw
    try dsimp only at hSw
    go_simp
    try with_reducible rfl
  try simp only [Act.put, List.setIfInBounds_toArray, List.set_cons_zero, List.set_cons_succ]
  refine wpAnyH_take (i := 37) (v := ?_) (by (simp only [List.getElem?_toArray, List.getElem?_cons_succ, List.getElem?_cons_zero]; rfl)) (by kernel_rfl) (by kernel_rfl) (by kernel_rfl) (by intro _ _ _ h; exact h) (Or.inl ⟨by kernel_rfl, ?_⟩) hHeld ?_
  case refine_2 =>
    intro w hSw
    try dsimp only at hSw
    go_simp
    try with_reducible rfl
  try simp only [Act.put, List.setIfInBounds_toArray, List.set_cons_zero, List.set_cons_succ]
  refine wpAnyH_done (by kernel_rfl) ?_ _
  try clear pz0 pz1 pz3 pz4 pz5 pz6 pz7 pg0 pg1 pg2 ph0 ph1 ph2
  go_wp2_with fail
  refine (CO1.out _).mono ?_
  rintro e v1 ⟨rfl, hv⟩
  replace z0 := cellB hv z0
  replace z1 := cellB hv z1
  replace z3 := cellB hv z3
  replace z4 := cellB hv z4
  replace z5 := cellB hv z5
  replace z6 := cellB hv z6
  replace z7 := cellB hv z7
  replace g0 := cellB hv g0
  replace g1 := cellB hv g1
  replace g2 := cellB hv g2
  replace h0 := cellB hv h0
  replace h1 := cellB hv h1
  replace h2 := cellB hv h2
  replace HU := Lib.hid (HU.out.below hv)
  replace HV := Lib.hid (HV.out.below hv)
  replace HB := Lib.hid (below_up HB.out hv (HBX.out _ HB.out))
  clear hv
  have hv := below_box v1 (Obj.cells #[Value.int IntKind.i64 r.1, Value.int IntKind.i64 r.2] 32)
  replace z0 := cellB hv z0
  replace z1 := cellB hv z1
  replace z3 := cellB hv z3
  replace z4 := cellB hv z4
  replace z5 := cellB hv z5
  replace z6 := cellB hv z6
  replace z7 := cellB hv z7
  replace g0 := cellB hv g0
  replace g1 := cellB hv g1
  replace g2 := cellB hv g2
  replace h0 := cellB hv h0
  replace h1 := cellB hv h1
  replace h2 := cellB hv h2
  replace HU := Lib.hid (HU.out.below hv)
  replace HV := Lib.hid (HV.out.below hv)
  replace HB := Lib.hid (below_up HB.out hv (HBX.out _ HB.out))
  clear hv
  have A0 := (own2_new v1 r.1 r.2 32).c0
  have A1 := (own2_new v1 r.1 r.2 32).c1
  go_wp2_with fail
  refine (CO2.out _).mono ?_
  rintro e v2 ⟨rfl, hv⟩
  replace z0 := cellB hv z0
  replace z1 := cellB hv z1
  replace z3 := cellB hv z3
  replace z4 := cellB hv z4
  replace z5 := cellB hv z5
  replace z6 := cellB hv z6
  replace z7 := cellB hv z7
  replace g0 := cellB hv g0
  replace g1 := cellB hv g1
  replace g2 := cellB hv g2
  replace h0 := cellB hv h0
  replace h1 := cellB hv h1
  replace h2 := cellB hv h2
  replace A0 := cellB hv A0
  replace A1 := cellB hv A1
  replace HU := Lib.hid (HU.out.below hv)
  replace HV := Lib.hid (HV.out.below hv)
  replace HB := Lib.hid (below_up HB.out hv (HBX.out _ HB.out))
  clear hv
  obtain ⟨b1, hbl⟩ : ∃ bl, v1.heap.size = bl := ⟨_, rfl⟩
  rw [hbl] at A0 A1 ⊢
  clear hbl
  have hv := below_box v2 (Obj.cells #[Value.int IntKind.i64 r.1, Value.int IntKind.i64 r.2] 32)
  replace z0 := cellB hv z0
  replace z1 := cellB hv z1
  replace z3 := cellB hv z3
  replace z4 := cellB hv z4
  replace z5 := cellB hv z5
  replace z6 := cellB hv z6
  replace z7 := cellB hv z7
  replace g0 := cellB hv g0
  replace g1 := cellB hv g1
  replace g2 := cellB hv g2
  replace h0 := cellB hv h0
  replace h1 := cellB hv h1
  replace h2 := cellB hv h2
  replace A0 := cellB hv A0
  replace A1 := cellB hv A1
  replace HU := Lib.hid (HU.out.below hv)
  replace HV := Lib.hid (HV.out.below hv)
  replace HB := Lib.hid (below_up HB.out hv (HBX.out _ HB.out))
  clear hv
  have B0 := (own2_new v2 r.1 r.2 32).c0
  have B1 := (own2_new v2 r.1 r.2 32).c1
  go_wp2_with fail
  obtain ⟨W, hW⟩ : ∃ W, v2.alloc (Obj.cells #[Value.int IntKind.i64 r.1, Value.int IntKind.i64 r.2] 32) = W := ⟨_, rfl⟩
  rw [hW] at z0 z1 z3 z4 z5 z6 z7 g0 g1 g2 h0 h1 h2 A0 A1 B0 B1 HU HV HB ⊢
  clear hW
  obtain ⟨b2, hbl⟩ : ∃ bl, v2.heap.size = bl := ⟨_, rfl⟩
  rw [hbl] at B0 B1 ⊢
  clear hbl
  clear z3 z4 g0 g1 g2 h0 h1 h2
  have pz0 := z0
  have pz1 := z1
  have pz5 := z5
  have pz6 := z6
  have pz7 := z7
  have pA0 := A0
  have pA1 := A1
  have pB0 := B0
  have pB1 := B1
  have hv := below_drewN W.heap.size W 1
  replace z0 := cellB hv z0
  replace z1 := cellB hv z1
  replace z5 := cellB hv z5
  replace z6 := cellB hv z6
  replace z7 := cellB hv z7
  replace A0 := cellB hv A0
  replace A1 := cellB hv A1
  replace B0 := cellB hv B0
  replace B1 := cellB hv B1
  replace HU := Lib.hid (HU.out.below hv)
  replace HV := Lib.hid (HV.out.below hv)
  replace HB := Lib.hid (below_up HB.out hv (HBX.out _ HB.out))
  clear hv
  refine wp_region_held_drew (S := (fun w' => w'.cell? ⟨bx, 0, none⟩ = some (str a) ∧ w'.cell? ⟨bx, 1, none⟩ = some (str b) ∧ w'.cell? ⟨bx, 5, none⟩ = some (.int .i64 x) ∧ w'.cell? ⟨bx, 6, none⟩ = some (.int .i64 y) ∧ w'.cell? ⟨bx, 7, none⟩ = some (.int .i64 t) ∧ w'.cell? ⟨b1, 0, none⟩ = some (.int .i64 r.1) ∧ w'.cell? ⟨b1, 1, none⟩ = some (.int .i64 r.2) ∧ w'.cell? ⟨b2, 0, none⟩ = some (.int .i64 r.1) ∧ w'.cell? ⟨b2, 1, none⟩ = some (.int .i64 r.2))) (by kernel_rfl) ?_ (fun hHeld => ?_)
  · try dsimp only
    go_keep
  refine wpAnyH_take (i := 0) (v := ?_) (by (simp only [List.getElem?_toArray, List.getElem?_cons_zero]; rfl)) (by kernel_rfl) (by kernel_rfl) (by kernel_rfl) (by intro _ _ _ h; exact h) (Or.inl ⟨by kernel_rfl, ?_⟩) hHeld ?_
  case refine_2 =>
    intro w hSw
    try dsimp only at hSw
    go_simp
    try with_reducible rfl
  try simp only [Act.put, List.setIfInBounds_toArray, List.set_cons_zero, List.set_cons_succ]
  refine wpAnyH_take (i := 1) (v := ?_) (by (simp only [List.getElem?_toArray, List.getElem?_cons_succ, List.getElem?_cons_zero]; rfl)) (by kernel_rfl) (by kernel_rfl) (by kernel_rfl) (by intro _ _ _ h; exact h) (Or.inl ⟨by kernel_rfl, ?_⟩) hHeld ?_
  case refine_2 =>
    intro w hSw
    try dsimp only at hSw
    go_simp
    try with_reducible rfl
  try simp only [Act.put, List.setIfInBounds_toArray, List.set_cons_zero, List.set_cons_succ]
  refine wpAnyH_take (i := 2) (v := ?_) (by (simp only [List.getElem?_toArray, List.getElem?_cons_succ, List.getElem?_cons_zero]; rfl)) (by kernel_rfl) (by kernel_rfl) (by kernel_rfl) (by intro _ _ _ h; exact h) (Or.inl ⟨by kernel_rfl, ?_⟩) hHeld ?_
  case refine_2 =>
    intro w hSw
    try dsimp only at hSw
    go_simp
    try with_reducible rfl
  try simp only [Act.put, List.setIfInBounds_toArray, List.set_cons_zero, List.set_cons_succ]
  refine wpAnyH_take (i := 3) (v := ?_) (by (simp only [List.getElem?_toArray, List.getElem?_cons_succ, List.getElem?_cons_zero]; rfl)) (by kernel_rfl) (by kernel_rfl) (by kernel_rfl) (by intro _ _ _ h; exact h) (Or.inl ⟨by kernel_rfl, ?_⟩) hHeld ?_
  case refine_2 =>
    intro w hSw
    try dsimp only at hSw
    go_simp
    try with_reducible rfl
  try simp only [Act.put, List.setIfInBounds_toArray, List.set_cons_zero, List.set_cons_succ]
  refine wpAnyH_take (i := 4) (v := ?_) (by (simp only [List.getElem?_toArray, List.getElem?_cons_succ, List.getElem?_cons_zero]; rfl)) (by kernel_rfl) (by kernel_rfl) (by kernel_rfl) (by intro _ _ _ h; exact h) (Or.inl ⟨by kernel_rfl, ?_⟩) hHeld ?_
  case refine_2 =>
    intro w hSw
    try dsimp only at hSw
    go_simp
    try with_reducible rfl
  try simp only [Act.put, List.setIfInBounds_toArray, List.set_cons_zero, List.set_cons_succ]
  refine wpAnyH_take (i := 5) (v := ?_) (by (simp only [List.getElem?_toArray, List.getElem?_cons_succ, List.getElem?_cons_zero]; rfl)) (by kernel_rfl) (by kernel_rfl) (by kernel_rfl) (by intro _ _ _ h; exact h) (Or.inl ⟨by kernel_rfl, ?_⟩) hHeld ?_
  case refine_2 =>
    intro w hSw
    try dsimp only at hSw
    go_simp
    try with_reducible rfl
  try simp only [Act.put, List.setIfInBounds_toArray, List.set_cons_zero, List.set_cons_succ]
  refine wpAnyH_take (i := 7) (v := ?_) (by (simp only [List.getElem?_toArray, List.getElem?_cons_succ, List.getElem?_cons_zero]; rfl)) (by kernel_rfl) (by kernel_rfl) (by kernel_rfl) (by intro _ _ _ h; exact h) (Or.inl ⟨by kernel_rfl, ?_⟩) hHeld ?_
  case refine_2 =>
    intro w hSw
    try dsimp only at hSw
    go_simp
    try with_reducible rfl
  try simp only [Act.put, List.setIfInBounds_toArray, List.set_cons_zero, List.set_cons_succ]
  refine wpAnyH_take (i := 10) (v := ?_) (by (simp only [List.getElem?_toArray, List.getElem?_cons_succ, List.getElem?_cons_zero]; rfl)) (by kernel_rfl) (by kernel_rfl) (by kernel_rfl) (by intro _ _ _ h; exact h) (Or.inl ⟨by kernel_rfl, ?_⟩) hHeld ?_
  case refine_2 =>
    intro w hSw
    try dsimp only at hSw
    go_simp
    try with_reducible rfl
  try simp only [Act.put, List.setIfInBounds_toArray, List.set_cons_zero, List.set_cons_succ]
  refine wpAnyH_take (i := 12) (v := ?_) (by (simp only [List.getElem?_toArray, List.getElem?_cons_succ, List.getElem?_cons_zero]; rfl)) (by kernel_rfl) (by kernel_rfl) (by kernel_rfl) (by intro _ _ _ h; exact h) (Or.inl ⟨by kernel_rfl, ?_⟩) hHeld ?_
  case refine_2 =>
    intro w hSw
    try dsimp only at hSw
    go_simp
    try with_reducible rfl
  try simp only [Act.put, List.setIfInBounds_toArray, List.set_cons_zero, List.set_cons_succ]
  refine wpAnyH_take (i := 6) (v := ?_) (by (simp only [List.getElem?_toArray, List.getElem?_cons_succ, List.getElem?_cons_zero]; rfl)) (by kernel_rfl) (by kernel_rfl) (by kernel_rfl) (by intro _ _ _ h; exact h) (Or.inl ⟨by kernel_rfl, ?_⟩) hHeld ?_
  case refine_2 =>
    intro w hSw
    try dsimp only at hSw
    go_simp
    try with_reducible rfl
  try simp only [Act.put, List.setIfInBounds_toArray, List.set_cons_zero, List.set_cons_succ]
  refine wpAnyH_take (i := 8) (v := ?_) (by (simp only [List.getElem?_toArray, List.getElem?_cons_succ, List.getElem?_cons_zero]; rfl)) (by kernel_rfl) (by kernel_rfl) (by kernel_rfl) (by intro _ _ _ h; exact h) (Or.inl ⟨by kernel_rfl, ?_⟩) hHeld ?_
  case refine_2 =>
    intro w hSw
    try dsimp only at hSw
    go_simp
    try with_reducible rfl
  try simp only [Act.put, List.setIfInBounds_toArray, List.set_cons_zero, List.set_cons_succ]
  refine wpAnyH_take (i := 11) (v := ?_) (by (simp only [List.getElem?_toArray, List.getElem?_cons_succ, List.getElem?_cons_zero]; rfl)) (by kernel_rfl) (by kernel_rfl) (by kernel_rfl) (by intro _ _ _ h; exact h) (Or.inl ⟨by kernel_rfl, ?_⟩) hHeld ?_
  case refine_2 =>
    intro w hSw
    try dsimp only at hSw
    go_simp
    try with_reducible rfl
  try simp only [Act.put, List.setIfInBounds_toArray, List.set_cons_zero, List.set_cons_succ]
  refine wpAnyH_take (i := 13) (v := ?_) (by (simp only [List.getElem?_toArray, List.getElem?_cons_succ, List.getElem?_cons_zero]; rfl)) (by kernel_rfl) (by kernel_rfl) (by kernel_rfl) (by intro _ _ _ h; exact h) (Or.inl ⟨by kernel_rfl, ?_⟩) hHeld ?_
  case refine_2 =>
    intro w hSw
    try dsimp only at hSw
    go_simp
    try with_reducible rfl
  try simp only [Act.put, List.setIfInBounds_toArray, List.set_cons_zero, List.set_cons_succ]
  refine wpAnyH_ready (rs := [9]) (by kernel_rfl) (by simp) ?_
  refine AllReadyH.cons (by (simp only [List.getElem?_toArray, List.getElem?_cons_succ, List.getElem?_cons_zero]; rfl)) (fun K hK => ?_) AllReadyH.nil
  go_simp
  refine (CR1.out _).mono ?_
  rintro e vv ⟨rfl, hv⟩
  replace z0 := cellB hv z0
  replace z1 := cellB hv z1
  replace z5 := cellB hv z5
  replace z6 := cellB hv z6
  replace z7 := cellB hv z7
  replace A0 := cellB hv A0
  replace A1 := cellB hv A1
  replace B0 := cellB hv B0
  replace B1 := cellB hv B1
  replace HU := Lib.hid (HU.out.below hv)
  replace HV := Lib.hid (HV.out.below hv)
  replace HB := Lib.hid (below_up HB.out hv (HBX.out _ HB.out))
  clear hv
  try go_wp2_with fail
  clear hHeld
  refine hK.out _ _ ?_ (fun hHeld => ?_)
  · try dsimp only
    go_keep
  clear hK K
  try simp only [Act.put, List.setIfInBounds_toArray, List.set_cons_zero, List.set_cons_succ]
  refine wpAnyH_ready (rs := [14]) (by kernel_rfl) (by simp) ?_
  refine AllReadyH.cons (by (simp only [List.getElem?_toArray, List.getElem?_cons_succ, List.getElem?_cons_zero]; rfl)) (fun K hK => ?_) AllReadyH.nil
  go_simp
  refine (CR2.out _).mono ?_
  rintro e vv ⟨rfl, hv⟩
  replace z0 := cellB hv z0
  replace z1 := cellB hv z1
  replace z5 := cellB hv z5
  replace z6 := cellB hv z6
  replace z7 := cellB hv z7
  replace A0 := cellB hv A0
  replace A1 := cellB hv A1
  replace B0 := cellB hv B0
  replace B1 := cellB hv B1
  replace HU := Lib.hid (HU.out.below hv)
  replace HV := Lib.hid (HV.out.below hv)
  replace HB := Lib.hid (below_up HB.out hv (HBX.out _ HB.out))
  clear hv
  try go_wp2_with fail
  clear hHeld
  refine hK.out _ _ ?_ (fun hHeld => ?_)
  · try dsimp only
    go_keep
  clear hK K
  try simp only [Act.put, List.setIfInBounds_toArray, List.set_cons_zero, List.set_cons_succ]
  refine wpAnyH_take (i := 15) (v := ?_) (by (simp only [List.getElem?_toArray, List.getElem?_cons_succ, List.getElem?_cons_zero]; rfl)) (by kernel_rfl) (by kernel_rfl) (by kernel_rfl) (by intro _ _ _ h; exact h) (Or.inl ⟨by kernel_rfl, ?_⟩) hHeld ?_
  case refine_2 =>
    intro w hSw
    try dsimp only at hSw
    go_simp
    try with_reducible rfl
  try simp only [Act.put, List.setIfInBounds_toArray, List.set_cons_zero, List.set_cons_succ]
  refine wpAnyH_take (i := 16) (v := ?_) (by (simp only [List.getElem?_toArray, List.getElem?_cons_succ, List.getElem?_cons_zero]; rfl)) (by kernel_rfl) (by kernel_rfl) (by kernel_rfl) (by intro _ _ _ h; exact h) (Or.inl ⟨by kernel_rfl, ?_⟩) hHeld ?_
  case refine_2 =>
    intro w hSw
    try dsimp only at hSw
    go_simp
    try with_reducible rfl
  try simp only [Act.put, List.setIfInBounds_toArray, List.set_cons_zero, List.set_cons_succ]
  refine wpAnyH_take (i := 17) (v := ?_) (by (simp only [List.getElem?_toArray, List.getElem?_cons_succ, List.getElem?_cons_zero]; rfl)) (by kernel_rfl) (by kernel_rfl) (by kernel_rfl) (by intro _ _ _ h; exact h) (Or.inl ⟨by kernel_rfl, ?_⟩) hHeld ?_
  case refine_2 =>
    intro w hSw
    try dsimp only at hSw
    go_simp
    try with_reducible rfl
  try simp only [Act.put, List.setIfInBounds_toArray, List.set_cons_zero, List.set_cons_succ]
  refine wpAnyH_take (i := 18) (v := ?_) (by (simp only [List.getElem?_toArray, List.getElem?_cons_succ, List.getElem?_cons_zero]; rfl)) (by kernel_rfl) (by kernel_rfl) (by kernel_rfl) (by intro _ _ _ h; exact h) (Or.inl ⟨by kernel_rfl, ?_⟩) hHeld ?_
  case refine_2 =>
    intro w hSw
    try dsimp only at hSw
    go_simp
    try with_reducible rfl
  try simp only [Act.put, List.setIfInBounds_toArray, List.set_cons_zero, List.set_cons_succ]
  refine wpAnyH_take (i := 20) (v := ?_) (by (simp only [List.getElem?_toArray, List.getElem?_cons_succ, List.getElem?_cons_zero]; rfl)) (by kernel_rfl) (by kernel_rfl) (by kernel_rfl) (by intro _ _ _ h; exact h) (Or.inl ⟨by kernel_rfl, ?_⟩) hHeld ?_
  case refine_2 =>
    intro w hSw
    try dsimp only at hSw
    go_simp
    try with_reducible rfl
  try simp only [Act.put, List.setIfInBounds_toArray, List.set_cons_zero, List.set_cons_succ]
  refine wpAnyH_take (i := 22) (v := ?_) (by (simp only [List.getElem?_toArray, List.getElem?_cons_succ, List.getElem?_cons_zero]; rfl)) (by kernel_rfl) (by kernel_rfl) (by kernel_rfl) (by intro _ _ _ h; exact h) (Or.inl ⟨by kernel_rfl, ?_⟩) hHeld ?_
  case refine_2 =>
    intro w hSw
    try dsimp only at hSw
    go_simp
    try with_reducible rfl
  try simp only [Act.put, List.setIfInBounds_toArray, List.set_cons_zero, List.set_cons_succ]
  refine wpAnyH_take (i := 25) (v := ?_) (by (simp only [List.getElem?_toArray, List.getElem?_cons_succ, List.getElem?_cons_zero]; rfl)) (by kernel_rfl) (by kernel_rfl) (by kernel_rfl) (by intro _ _ _ h; exact h) (Or.inl ⟨by kernel_rfl, ?_⟩) hHeld ?_
  case refine_2 =>
    intro w hSw
    try dsimp only at hSw
    go_simp
    try with_reducible rfl
  try simp only [Act.put, List.setIfInBounds_toArray, List.set_cons_zero, List.set_cons_succ]
  refine wpAnyH_take (i := 27) (v := ?_) (by (simp only [List.getElem?_toArray, List.getElem?_cons_succ, List.getElem?_cons_zero]; rfl)) (by kernel_rfl) (by kernel_rfl) (by kernel_rfl) (by intro _ _ _ h; exact h) (Or.inl ⟨by kernel_rfl, ?_⟩) hHeld ?_
  case refine_2 =>
    intro w hSw
    try dsimp only at hSw
    go_simp
    try with_reducible rfl
  try simp only [Act.put, List.setIfInBounds_toArray, List.set_cons_zero, List.set_cons_succ]
  refine wpAnyH_take (i := 29) (v := ?_) (by (simp only [List.getElem?_toArray, List.getElem?_cons_succ, List.getElem?_cons_zero]; rfl)) (by kernel_rfl) (by kernel_rfl) (by kernel_rfl) (by intro _ _ _ h; exact h) (Or.inl ⟨by kernel_rfl, ?_⟩) hHeld ?_
  case refine_2 =>
    intro w hSw
    try dsimp only at hSw
    go_simp
    try with_reducible rfl
  try simp only [Act.put, List.setIfInBounds_toArray, List.set_cons_zero, List.set_cons_succ]
  refine wpAnyH_take (i := 19) (v := ?_) (by (simp only [List.getElem?_toArray, List.getElem?_cons_succ, List.getElem?_cons_zero]; rfl)) (by kernel_rfl) (by kernel_rfl) (by kernel_rfl) (by intro _ _ _ h; exact h) (Or.inl ⟨by kernel_rfl, ?_⟩) hHeld ?_
  case refine_2 =>
    intro w hSw
    try dsimp only at hSw
    go_simp
    try with_reducible rfl
  try simp only [Act.put, List.setIfInBounds_toArray, List.set_cons_zero, List.set_cons_succ]
  refine wpAnyH_take (i := 21) (v := ?_) (by (simp only [List.getElem?_toArray, List.getElem?_cons_succ, List.getElem?_cons_zero]; rfl)) (by kernel_rfl) (by kernel_rfl) (by kernel_rfl) (by intro _ _ _ h; exact h) (Or.inl ⟨by kernel_rfl, ?_⟩) hHeld ?_
  case refine_2 =>
    intro w hSw
    try dsimp only at hSw
    go_simp
    try with_reducible rfl
  try simp only [Act.put, List.setIfInBounds_toArray, List.set_cons_zero, List.set_cons_succ]
  refine wpAnyH_take (i := 23) (v := ?_) (by (simp only [List.getElem?_toArray, List.getElem?_cons_succ, List.getElem?_cons_zero]; rfl)) (by kernel_rfl) (by kernel_rfl) (by kernel_rfl) (by intro _ _ _ h; exact h) (Or.inl ⟨by kernel_rfl, ?_⟩) hHeld ?_
  case refine_2 =>
    intro w hSw
    try dsimp only at hSw
    go_simp
    try with_reducible rfl
  try simp only [Act.put, List.setIfInBounds_toArray, List.set_cons_zero, List.set_cons_succ]
  refine wpAnyH_take (i := 26) (v := ?_) (by (simp only [List.getElem?_toArray, List.getElem?_cons_succ, List.getElem?_cons_zero]; rfl)) (by kernel_rfl) (by kernel_rfl) (by kernel_rfl) (by intro _ _ _ h; exact h) (Or.inl ⟨by kernel_rfl, ?_⟩) hHeld ?_
  case refine_2 =>
    intro w hSw
    try dsimp only at hSw
    go_simp
    try with_reducible rfl
  try simp only [Act.put, List.setIfInBounds_toArray, List.set_cons_zero, List.set_cons_succ]
  refine wpAnyH_take (i := 28) (v := ?_) (by (simp only [List.getElem?_toArray, List.getElem?_cons_succ, List.getElem?_cons_zero]; rfl)) (by kernel_rfl) (by kernel_rfl) (by kernel_rfl) (by intro _ _ _ h; exact h) (Or.inl ⟨by kernel_rfl, ?_⟩) hHeld ?_
  case refine_2 =>
    intro w hSw
    try dsimp only at hSw
    go_simp
    try with_reducible rfl
  try simp only [Act.put, List.setIfInBounds_toArray, List.set_cons_zero, List.set_cons_succ]
  refine wpAnyH_take (i := 30) (v := ?_) (by (simp only [List.getElem?_toArray, List.getElem?_cons_succ, List.getElem?_cons_zero]; rfl)) (by kernel_rfl) (by kernel_rfl) (by kernel_rfl) (by intro _ _ _ h; exact h) (Or.inl ⟨by kernel_rfl, ?_⟩) hHeld ?_
  case refine_2 =>
    intro w hSw
    try dsimp only at hSw
    go_simp
    try with_reducible rfl
  try simp only [Act.put, List.setIfInBounds_toArray, List.set_cons_zero, List.set_cons_succ]
  refine wpAnyH_ready (rs := [24]) (by kernel_rfl) (by simp) ?_
  refine AllReadyH.cons (by (simp only [List.getElem?_toArray, List.getElem?_cons_succ, List.getElem?_cons_zero]; rfl)) (fun K hK => ?_) AllReadyH.nil
  go_simp
  refine (CN1.out _).mono ?_
  rintro e vv ⟨rfl, hv⟩
  replace z0 := cellB hv z0
  replace z1 := cellB hv z1
  replace z5 := cellB hv z5
  replace z6 := cellB hv z6
  replace z7 := cellB hv z7
  replace A0 := cellB hv A0
  replace A1 := cellB hv A1
  replace B0 := cellB hv B0
  replace B1 := cellB hv B1
  replace HU := Lib.hid (HU.out.below hv)
  replace HV := Lib.hid (HV.out.below hv)
  replace HB := Lib.hid (below_up HB.out hv (HBX.out _ HB.out))
  clear hv
  try go_wp2_with fail
  clear hHeld
  refine hK.out _ _ ?_ (fun hHeld => ?_)
  · try dsimp only
    go_keep
  clear hK K
  try simp only [Act.put, List.setIfInBounds_toArray, List.set_cons_zero, List.set_cons_succ]
  refine wpAnyH_ready (rs := [31]) (by kernel_rfl) (by simp) ?_
  refine AllReadyH.cons (by (simp only [List.getElem?_toArray, List.getElem?_cons_succ, List.getElem?_cons_zero]; rfl)) (fun K hK => ?_) AllReadyH.nil
  go_simp
  refine (CN2.out _).mono ?_
  rintro e vv ⟨rfl, hv⟩
  replace z0 := cellB hv z0
  replace z1 := cellB hv z1
  replace z5 := cellB hv z5
  replace z6 := cellB hv z6
  replace z7 := cellB hv z7
  replace A0 := cellB hv A0
  replace A1 := cellB hv A1
  replace B0 := cellB hv B0
  replace B1 := cellB hv B1
  replace HU := Lib.hid (HU.out.below hv)
  replace HV := Lib.hid (HV.out.below hv)
  replace HB := Lib.hid (below_up HB.out hv (HBX.out _ HB.out))
  clear hv
  try go_wp2_with fail
  clear hHeld
  refine hK.out _ _ ?_ (fun hHeld => ?_)
  · try dsimp only
    go_keep
  clear hK K
  try simp only [Act.put, List.setIfInBounds_toArray, List.set_cons_zero, List.set_cons_succ]
  refine wpAnyH_take (i := 32) (v := ?_) (by (simp only [List.getElem?_toArray, List.getElem?_cons_succ, List.getElem?_cons_zero]; rfl)) (by kernel_rfl) (by kernel_rfl) (by kernel_rfl) (by intro _ _ _ h; exact h) (Or.inl ⟨by kernel_rfl, ?_⟩) hHeld ?_
  case refine_2 =>
    intro w hSw
    try dsimp only at hSw
    go_simp
    try with_reducible rfl
  try simp only [Act.put, List.setIfInBounds_toArray, List.set_cons_zero, List.set_cons_succ]
  refine wpAnyH_take (i := 33) (v := ?_) (by (simp only [List.getElem?_toArray, List.getElem?_cons_succ, List.getElem?_cons_zero]; rfl)) (by kernel_rfl) (by kernel_rfl) (by kernel_rfl) (by intro _ _ _ h; exact h) (Or.inl ⟨by kernel_rfl, ?_⟩) hHeld ?_
  case refine_2 =>
    intro w hSw
    try dsimp only at hSw
    go_simp
    try with_reducible rfl
  try simp only [Act.put, List.setIfInBounds_toArray, List.set_cons_zero, List.set_cons_succ]
  refine wpAnyH_take (i := 34) (v := ?_) (by (simp only [List.getElem?_toArray, List.getElem?_cons_succ, List.getElem?_cons_zero]; rfl)) (by kernel_rfl) (by kernel_rfl) (by kernel_rfl) (by intro _ _ _ h; exact h) (Or.inl ⟨by kernel_rfl, ?_⟩) hHeld ?_
  case refine_2 =>
    intro w hSw
    try dsimp only at hSw
    go_simp
    try with_reducible rfl
  try simp only [Act.put, List.setIfInBounds_toArray, List.set_cons_zero, List.set_cons_succ]
  refine wpAnyH_take (i := 35) (v := ?_) (by (simp only [List.getElem?_toArray, List.getElem?_cons_succ, List.getElem?_cons_zero]; rfl)) (by kernel_rfl) (by kernel_rfl) (by kernel_rfl) (by intro _ _ _ h; exact h) (Or.inl ⟨by kernel_rfl, ?_⟩) hHeld ?_
  case refine_2 =>
    intro w hSw
    try dsimp only at hSw
    go_simp
    try with_reducible rfl
  try simp only [Act.put, List.setIfInBounds_toArray, List.set_cons_zero, List.set_cons_succ]
  refine wpAnyH_take (i := 36) (v := ?_) (by (simp only [List.getElem?_toArray, List.getElem?_cons_succ, List.getElem?_cons_zero]; rfl)) (by kernel_rfl) (by kernel_rfl) (by kernel_rfl) (by intro _ _ _ h; exact h) (Or.inl ⟨by kernel_rfl, ?_⟩) hHeld ?_
  case refine_2 =>
    intro w hSw
    try dsimp only at hSw
    go_simp
    try with_reducible rfl
  try simp only [Act.put, List.setIfInBounds_toArray, List.set_cons_zero, List.set_cons_succ]
  refine wpAnyH_take (i := 37) (v := ?_) (by (simp only [List.getElem?_toArray, List.getElem?_cons_succ, List.getElem?_cons_zero]; rfl)) (by kernel_rfl) (by kernel_rfl) (by kernel_rfl) (by intro _ _ _ h; exact h) (Or.inl ⟨by kernel_rfl, ?_⟩) hHeld ?_
  case refine_2 =>
    intro w hSw
    try dsimp only at hSw
    go_simp
    try with_reducible rfl
  try simp only [Act.put, List.setIfInBounds_toArray, List.set_cons_zero, List.set_cons_succ]
  refine wpAnyH_take (i := 38) (v := ?_) (by (simp only [List.getElem?_toArray, List.getElem?_cons_succ, List.getElem?_cons_zero]; rfl)) (by kernel_rfl) (by kernel_rfl) (by kernel_rfl) (by intro _ _ _ h; exact h) (Or.inl ⟨by kernel_rfl, ?_⟩) hHeld ?_
  case refine_2 =>
    intro w hSw
    try dsimp only at hSw
    go_simp
    try with_reducible rfl
  try simp only [Act.put, List.setIfInBounds_toArray, List.set_cons_zero, List.set_cons_succ]
  refine wpAnyH_take (i := 39) (v := ?_) (by (simp only [List.getElem?_toArray, List.getElem?_cons_succ, List.getElem?_cons_zero]; rfl)) (by kernel_rfl) (by kernel_rfl) (by kernel_rfl) (by intro _ _ _ h; exact h) (Or.inl ⟨by kernel_rfl, ?_⟩) hHeld ?_
  case refine_2 =>
    intro w hSw
    try dsimp only at hSw
    go_simp
    try with_reducible rfl
  try simp only [Act.put, List.setIfInBounds_toArray, List.set_cons_zero, List.set_cons_succ]
  refine wpAnyH_take (i := 40) (v := ?_) (by (simp only [List.getElem?_toArray, List.getElem?_cons_succ, List.getElem?_cons_zero]; rfl)) (by kernel_rfl) (by kernel_rfl) (by kernel_rfl) (by intro _ _ _ h; exact h) (Or.inl ⟨by kernel_rfl, ?_⟩) hHeld ?_
  case refine_2 =>
    intro w hSw
    try dsimp only at hSw
    go_simp
    try with_reducible rfl
  try simp only [Act.put, List.setIfInBounds_toArray, List.set_cons_zero, List.set_cons_succ]
  refine wpAnyH_take (i := 41) (v := ?_) (by (simp only [List.getElem?_toArray, List.getElem?_cons_succ, List.getElem?_cons_zero]; rfl)) (by kernel_rfl) (by kernel_rfl) (by kernel_rfl) (by intro _ _ _ h; exact h) (Or.inl ⟨by kernel_rfl, ?_⟩) hHeld ?_
  case refine_2 =>
    intro w hSw
    try dsimp only at hSw
    go_simp
    try with_reducible rfl
  try simp only [Act.put, List.setIfInBounds_toArray, List.set_cons_zero, List.set_cons_succ]
  refine wpAnyH_take (i := 42) (v := ?_) (by (simp only [List.getElem?_toArray, List.getElem?_cons_succ, List.getElem?_cons_zero]; rfl)) (by kernel_rfl) (by kernel_rfl) (by kernel_rfl) (by intro _ _ _ h; exact h) (Or.inl ⟨by kernel_rfl, ?_⟩) hHeld ?_
  case refine_2 =>
    intro w hSw
    try dsimp only at hSw
    go_simp
    try with_reducible rfl
  try simp only [Act.put, List.setIfInBounds_toArray, List.set_cons_zero, List.set_cons_succ]
  refine wpAnyH_take (i := 43) (v := ?_) (by (simp only [List.getElem?_toArray, List.getElem?_cons_succ, List.getElem?_cons_zero]; rfl)) (by kernel_rfl) (by kernel_rfl) (by kernel_rfl) (by intro _ _ _ h; exact h) (Or.inl ⟨by kernel_rfl, ?_⟩) hHeld ?_
  case refine_2 =>
    intro w hSw
    try dsimp only at hSw
    go_simp
    try with_reducible rfl
  try simp only [Act.put, List.setIfInBounds_toArray, List.set_cons_zero, List.set_cons_succ]
  refine wpAnyH_take (i := 44) (v := ?_) (by (simp only [List.getElem?_toArray, List.getElem?_cons_succ, List.getElem?_cons_zero]; rfl)) (by kernel_rfl) (by kernel_rfl) (by kernel_rfl) (by intro _ _ _ h; exact h) (Or.inl ⟨by kernel_rfl, ?_⟩) hHeld ?_
  case refine_2 =>
    intro w hSw
    try dsimp only at hSw
    go_simp
    try with_reducible rfl
  try simp only [Act.put, List.setIfInBounds_toArray, List.set_cons_zero, List.set_cons_succ]
  refine wpAnyH_done (by kernel_rfl) ?_ _
  go_wp2_with fail
  go_ret
  exact ⟨rfl, by rw [HE.out]; exact HB.out⟩

theorem match_any (a b c : List UInt8) (u v : Value) (L M : List (List UInt8)) (x y t m : Int) (k n : Int) (s : List UInt8) (k2 n2 : Int) (s2 : List UInt8)
    (hx0 : -9223372036854775808 ≤ x) (hx1 : x ≤ 9223372036854775807) (hy0 : -9223372036854775808 ≤ y) (hy1 : y ≤ 9223372036854775807) (hm : (Lit.int .i64 m).wf = true) (w : World) (hu : Strs w u L) (hv : Strs w v M) :
    Calls Tryz.prog 3 #[.agg #[str a, str b, str c, u, v, .int .i64 x, .int .i64 y, .int .i64 t], .int .i64 m, V k n s, V k2 n2 s2] w fun e w' => e = .returned (.bool true) ∧ Below w.heap.size w w' := by
  have hu2 := hu
  have hv2 := hv
  obtain ⟨A, cap, rfl, _, _, _⟩ := hu2
  obtain ⟨A2, cap2, rfl, _, _, _⟩ := hv2
  cases h : (shortB 300 [a, b, c] && fewB [L, M]) with
  | false => exact mat_small a b c A A2 cap cap2 L M x y t m k n s k2 n2 s2 (Lib.hid h) w hu hv
  | true =>
    cases hs : shortB 300 [s, s2] with
    | false => exact mat_short a b c A A2 cap cap2 L M x y t m k n s k2 n2 s2 (Lib.hid h) (Lib.hid hs) w hu hv
    | true =>
      have hsf := h
      rw [Bool.and_eq_true] at hsf
      obtain ⟨h3, hf⟩ := hsf
      have hs2 : a.length ≤ 300 ∧ b.length ≤ 300 ∧ c.length ≤ 300 := by
        unfold shortB at h3
        simp at h3
        omega
      have hL := few_each hf L (by simp)
      have hM := few_each hf M (by simp)
      have eL : ∀ z ∈ L, z.length ≤ 2000 := fun z hz => by have := hL.2 z hz; omega
      have eM : ∀ z ∈ M, z.length ≤ 2000 := fun z hz => by have := hM.2 z hz; omega
      obtain ⟨ha, hb, hc⟩ := hs2
      exact mat_main a b c A A2 cap cap2 L M x y t m k n s k2 n2 s2 _ _ _ _ _ _ _ (Lib.hid h) (Lib.hid hs)
        (Lib.hid (edit_any a b (by omega) (by omega))) (Lib.hid (edit_ref a b (by omega) (by omega)))
        (Lib.hid (alike_any a b (by omega) (by omega))) (Lib.hid (alike_ref a b (by omega) (by omega)))
        (Lib.hid (fun W h1 h2 => jaccard_any L M _ _ W (by omega) (by omega) eL eM h1 h2)) (Lib.hid (fun W h1 h2 => jaccard_ref L M _ _ W (by omega) (by omega) h1 h2))
        (Lib.hid (of_any m t k n s k2 n2 s2 hm)) (Lib.hid (of_ref m t k n s k2 n2 s2))
        (Lib.hid (jaro_any a b)) (Lib.hid (jaro_ref a b))
        (Lib.hid (near_any x y t hx0 hx1 hy0 hy1)) (Lib.hid (near_ref x y t hx0 hx1 hy0 hy1)) w hu hv
end Go.Proofs.YtendkghifcjffaaGreatDoor
