/- What small answers: sizes of a row. -/
import Derived.Test.YtendkghifcjffaaDoorMUnit
import Derived.Test.YtendkghifcjffaaDoorMFew
import Derived.Test.YtendkghifcjffaaDoorOfM
namespace Go.Proofs.YtendkghifcjffaaDoor
open Go.RowKit

theorem cell_box8 (w : World) (v0 v1 v2 v3 v4 v5 v6 v7 : Value) (T : TypeId) :
    (w.alloc (.cells #[v0, v1, v2, v3, v4, v5, v6, v7] T)).cell? ⟨w.heap.size, 0, none⟩ = some v0 ∧ (w.alloc (.cells #[v0, v1, v2, v3, v4, v5, v6, v7] T)).cell? ⟨w.heap.size, 1, none⟩ = some v1 ∧
    (w.alloc (.cells #[v0, v1, v2, v3, v4, v5, v6, v7] T)).cell? ⟨w.heap.size, 2, none⟩ = some v2 ∧ (w.alloc (.cells #[v0, v1, v2, v3, v4, v5, v6, v7] T)).cell? ⟨w.heap.size, 3, none⟩ = some v3 ∧
    (w.alloc (.cells #[v0, v1, v2, v3, v4, v5, v6, v7] T)).cell? ⟨w.heap.size, 4, none⟩ = some v4 ∧ (w.alloc (.cells #[v0, v1, v2, v3, v4, v5, v6, v7] T)).cell? ⟨w.heap.size, 5, none⟩ = some v5 ∧
    (w.alloc (.cells #[v0, v1, v2, v3, v4, v5, v6, v7] T)).cell? ⟨w.heap.size, 6, none⟩ = some v6 ∧ (w.alloc (.cells #[v0, v1, v2, v3, v4, v5, v6, v7] T)).cell? ⟨w.heap.size, 7, none⟩ = some v7 := by
  have h : (w.alloc (.cells #[v0, v1, v2, v3, v4, v5, v6, v7] T)).heap[w.heap.size]? = some (.cells #[v0, v1, v2, v3, v4, v5, v6, v7] T) := heap_alloc_new w _
  refine ⟨?_, ?_, ?_, ?_, ?_, ?_, ?_, ?_⟩ <;> (unfold World.cell?; rw [h]; rfl)
theorem short_at (n : Int) (l : List (List UInt8)) (hl : l.length ≤ 1000) (W : World) (k : Nat) (hk : k = W.heap.size) :
    Calls Tryd.prog 10 #[.int .i64 n, .slice (some ⟨k, 0, none⟩) l.length l.length] (W.alloc (.cells (l.map str).toArray 9)) fun e w' => e = .returned (.bool (shortB n l)) ∧ Below W.heap.size W w' := by
  subst hk
  exact short_lit n l hl W

set_option maxRecDepth 100000 in
theorem small_any (a b c : List UInt8) (u v : Value) (L M : List (List UInt8)) (x y t : Int) (w : World) (hu : Strs w u L) (hv : Strs w v M) :
    Calls Tryd.prog 12 #[.agg #[str a, str b, str c, u, v, .int .i64 x, .int .i64 y, .int .i64 t]] w fun e w' => e = .returned (.bool (shortB 300 [a, b, c] && fewB [L, M])) ∧ Below w.heap.size w w' := by
  have HU := Lib.hid hu
  have HV := Lib.hid hv
  obtain ⟨A, cap, rfl, hcap, _, _⟩ := hu
  obtain ⟨A2, cap2, rfl, hcap2, _, _⟩ := hv
  obtain ⟨k0, k1, k2, k3, k4, k5, k6, k7⟩ := cell_box8 w (str a) (str b) (str c) (.slice A L.length cap) (.slice A2 M.length cap2) (.int .i64 x) (.int .i64 y) (.int .i64 t) 30
  have K3 := Lib.hid k3
  have K4 := Lib.hid k4
  clear k0 k1 k2 k3 k4 k5 k6 k7
  cases h : shortB 300 [a, b, c]
  · go_enter Tryd.func12, Tryd.ntmps12
    go_wp2_with fail
    refine (short_at 300 [a, b, c] (by simp) _ _ (by simp)).mono ?_
    rw [h]
    rintro e w1 ⟨rfl, hb⟩
    have HB1 := Lib.hid (below_up (below_box w _) hb (by simp))
    clear hb
    go_wp2_with fail
    go_ret
    exact ⟨rfl, HB1.out⟩
  · go_enter Tryd.func12, Tryd.ntmps12
    go_wp2_with fail
    refine (short_at 300 [a, b, c] (by simp) _ _ (by simp)).mono ?_
    rw [h]
    rintro e w1 ⟨rfl, hb⟩
    have HB1 := Lib.hid (below_up (below_box w _) hb (by simp))
    have k3 := cellB hb K3.out
    have k4 := cellB hb K4.out
    clear hb
    go_wp2_with fail
    refine (few_lit [L, M] [_, _] 28 w1 rfl (by simp) (fun i h1 h2 => by
      match i, h1 with
      | 0, _ => exact HU.out.below HB1.out
      | 1, _ => exact HV.out.below HB1.out)).mono ?_
    rintro e2 w2 ⟨rfl, hb⟩
    have HB2 := Lib.hid (below_up HB1.out hb HB1.out.size)
    clear hb
    go_wp2_with fail
    go_ret
    exact ⟨by simp, HB2.out⟩

theorem seql_rat (r s : Int × Int) (W : World) : (binOp .eql 33 (rat r) (rat s)).run Tryd.prog W = .ok (.bool (decide (r = s))) W := by
  obtain ⟨a, b⟩ := r
  obtain ⟨c, d⟩ := s
  by_cases h1 : a = c
  · by_cases h2 : b = d
    · subst h1 h2
      simp [go_sem]
    · have e2 : (b == d) = false := by simpa using h2
      subst h1
      simp [go_sem, e2, h2]
  · have e1 : (a == c) = false := by simpa using h1
    simp [go_sem, e1, h1]
theorem sneq_rat (r s : Int × Int) (W : World) : (binOp .neq 33 (rat r) (rat s)).run Tryd.prog W = .ok (.bool (!decide (r = s))) W := by
  obtain ⟨a, b⟩ := r
  obtain ⟨c, d⟩ := s
  by_cases h1 : a = c
  · by_cases h2 : b = d
    · subst h1 h2
      simp [go_sem]
    · have e2 : (b == d) = false := by simpa using h2
      subst h1
      simp [go_sem, e2, h2]
  · have e1 : (a == c) = false := by simpa using h1
    simp [go_sem, e1, h1]
theorem neq_same (r : Int × Int) (W : World) : (binOp .neq 33 (rat r) (rat r)).run Tryd.prog W = .ok (.bool false) W := by
  rw [sneq_rat]
  simp
theorem eql_same (r : Int × Int) (W : World) : (binOp .eql 33 (rat r) (rat r)).run Tryd.prog W = .ok (.bool true) W := by
  rw [seql_rat]
  simp
set_option maxRecDepth 100000 in
theorem sim_l (a b c : List UInt8) (u v : Value) (L M : List (List UInt8)) (x y t : Int) (h : (shortB 300 [a, b, c] && fewB [L, M]) = false) (w : World) (hu : Strs w u L) (hv : Strs w v M) :
    Calls Tryd.prog 5 #[.agg #[str a, str b, str c, u, v, .int .i64 x, .int .i64 y, .int .i64 t]] w fun e w' => e = .returned (.bool true) ∧ Below w.heap.size w w' := by
  have HU := Lib.hid hu
  have HV := Lib.hid hv
  obtain ⟨A, cap, rfl, hcap, _, _⟩ := hu
  obtain ⟨A2, cap2, rfl, hcap2, _, _⟩ := hv
  obtain ⟨k0, k1, k2, k3, k4, k5, k6, k7⟩ := cell_box8 w (str a) (str b) (str c) (.slice A L.length cap) (.slice A2 M.length cap2) (.int .i64 x) (.int .i64 y) (.int .i64 t) 30
  go_enter Tryd.func5, Tryd.ntmps5
  go_wp2_with fail
  refine (head_any _).mono ?_
  rintro e1 w1 ⟨rfl, hb⟩
  have HB1 := Lib.hid (below_up (below_box w _) hb (by simp))
  replace k0 := cellB hb k0
  replace k1 := cellB hb k1
  replace k2 := cellB hb k2
  replace k3 := cellB hb k3
  replace k4 := cellB hb k4
  replace k5 := cellB hb k5
  replace k6 := cellB hb k6
  replace k7 := cellB hb k7
  clear hb
  go_wp2_with fail
  refine (small_any a b c _ _ L M x y t w1 (HU.out.below HB1.out) (HV.out.below HB1.out)).mono ?_
  rw [h]
  rintro e2 w2 ⟨rfl, hb⟩
  have HB2 := Lib.hid (below_up HB1.out hb HB1.out.size)
  clear hb
  go_wp2_with fail
  go_ret
  exact ⟨rfl, HB2.out⟩

end Go.Proofs.YtendkghifcjffaaDoor
