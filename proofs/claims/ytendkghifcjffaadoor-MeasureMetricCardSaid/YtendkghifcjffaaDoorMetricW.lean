/- MeasureMetric in plain words: the edit distance is 0 for equal texts alone, symmetric, obeys the triangle inequality, and lies between the difference of the lengths and the greater one. -/
import Derived.Test.YtendkghifcjffaaDoorMLaw
namespace Go.Proofs.YtendkghifcjffaaDoor
open Go.RowKit

set_option maxRecDepth 100000 in
theorem metric_l (a b c : List UInt8) (h : shortB 300 [a, b, c] = false) (w : World) :
    Calls Tryd.prog 3 #[str a, str b, str c] w fun e w' => e = .returned (.bool true) ∧ Below w.heap.size w w' := by
  go_enter Tryd.func3, Tryd.ntmps3
  go_wp2_with fail
  refine (head_any _).mono ?_
  rintro e1 w1 ⟨rfl, hb⟩
  have HB1 := Lib.hid hb
  clear hb
  go_wp2_with fail
  refine (short_lit 300 [a, b, c] (by simp) w1).mono ?_
  rw [h]
  rintro e2 w2 ⟨rfl, hb⟩
  have HB2 := Lib.hid (below_up HB1.out hb HB1.out.size)
  clear hb
  go_wp2_with fail
  go_ret
  exact ⟨rfl, HB2.out⟩

set_option maxRecDepth 100000 in
set_option maxHeartbeats 4000000 in
theorem metric_m (a b c : List UInt8) (h : shortB 300 [a, b, c] = true) (ha : a.length ≤ 1000) (hb : b.length ≤ 1000) (hc : c.length ≤ 1000) (w : World) :
    Calls Tryd.prog 3 #[str a, str b, str c] w fun e w' => e = .returned (.bool true) ∧ Below w.heap.size w w' := by
  have C1 := Lib.hid (edit_any a b ha hb)
  have C2 := Lib.hid (edit_any b a hb ha)
  have C3 := Lib.hid (edit_any a c ha hc)
  have C4 := Lib.hid (edit_any c b hc hb)
  have hs := lev_sym b a
  have hz : (a = b) = (lev a b = 0) := by
    rw [eq_iff_iff]
    exact ⟨fun e => by rw [e, lev_self], lev_zero a b⟩
  have ht := lev_tri a c b
  obtain ⟨hl1, hl2, hl3⟩ := lev_len a b
  have l4 := (lev_len a c).2.2
  have l5 := (lev_len c b).2.2
  rw [hs] at C2
  have HH := Lib.hid h
  obtain ⟨d, hd⟩ : ∃ d, lev a b = d := ⟨_, rfl⟩
  obtain ⟨p, hp⟩ : ∃ p, lev a c = p := ⟨_, rfl⟩
  obtain ⟨q, hq⟩ : ∃ q, lev c b = q := ⟨_, rfl⟩
  rw [hd] at C1 C2 hz ht hl1 hl2 hl3
  rw [hp] at C3 ht l4
  rw [hq] at C4 ht l5
  have hab : (a == b) = ((d : Int) == 0) := by
    rw [Bool.eq_iff_iff]
    simp only [beq_iff_eq, hz]
    omega
  have hm : max (a.length : Int) (b.length : Int) = ((max a.length b.length : Nat) : Int) := by omega
  have hn : min (a.length : Int) (b.length : Int) = ((min a.length b.length : Nat) : Int) := by omega
  have mx := fun (x y : Int) (W : World) => run_max2 (P := Tryd.prog) #[3, 3] 3 x y W
  have mn := fun (x y : Int) (W : World) => run_min2 (P := Tryd.prog) #[3, 3] 3 x y W
  clear hs hz hd hp hq h
  go_enter Tryd.func3, Tryd.ntmps3
  go_wp2_with fail
  refine (head_any _).mono ?_
  rintro e1 w1 ⟨rfl, hb⟩
  have HB1 := Lib.hid hb
  clear hb
  go_wp2_with fail
  refine (short_lit 300 [a, b, c] (by simp) w1).mono ?_
  rw [HH.out]
  rintro e2 w2 ⟨rfl, hb⟩
  have HB2 := Lib.hid (below_up HB1.out hb HB1.out.size)
  clear hb
  go_wp2_with fail
  refine (C1.out _).mono ?_
  rintro e3 w3 ⟨rfl, hb⟩
  have HB3 := Lib.hid (below_up HB2.out hb HB2.out.size)
  clear hb
  go_wp2_with fail
  refine (C2.out _).mono ?_
  rintro e4 w4 ⟨rfl, hb⟩
  have HB4 := Lib.hid (below_up HB3.out hb HB3.out.size)
  clear hb
  go_wp2_with fail
  refine (C3.out _).mono ?_
  rintro e5 w5 ⟨rfl, hb⟩
  have HB5 := Lib.hid (below_up HB4.out hb HB4.out.size)
  clear hb
  go_wp2_with fail
  refine (C4.out _).mono ?_
  rintro e6 w6 ⟨rfl, hb⟩
  have HB6 := Lib.hid (below_up HB5.out hb HB5.out.size)
  clear hb
  go_wp2_with fail
  go_ret
  exact ⟨rfl, HB6.out⟩

theorem short3 {n : Nat} {a b c : List UInt8} (h : shortB n [a, b, c] = true) : a.length ≤ n ∧ b.length ≤ n ∧ c.length ≤ n := by
  unfold shortB at h
  simp at h
  omega
theorem metric_any (a b c : List UInt8) (w : World) :
    Calls Tryd.prog 3 #[str a, str b, str c] w fun e w' => e = .returned (.bool true) ∧ Below w.heap.size w w' := by
  cases h : shortB 300 [a, b, c] with
  | false => exact metric_l a b c h w
  | true =>
    have := short3 (n := 300) h
    exact metric_m a b c h (by omega) (by omega) (by omega) w
end Go.Proofs.YtendkghifcjffaaDoor
