/- The walk of RatioLowest. -/
import Derived.Test.YtpmggfmhkjafkaaDoorOrderW
import Derived.Test.YtpmggfmhkjafkaaDoorRefGcd
namespace Go.Proofs.YtpmggfmhkjafkaaDoor
open Go.RowKit

set_option linter.unusedVariables false

set_option maxRecDepth 100000 in
set_option maxHeartbeats 1600000 in
theorem lowest_zero (n d x y : Int) (hx : n.tmod 2000000001 = x) (hy : d.tmod 2000000001 = y) (bx : -2000000000 ≤ x ∧ x ≤ 2000000000) (by' : -2000000000 ≤ y ∧ y ≤ 2000000000) (hz : (y == 0) = true) (hm : mk x y = (0, 0, 1)) (w : World) (he : Env w) :
    Calls Tryd.prog 4 #[.int .i64 n, .int .i64 d] w fun e w' => e = .returned (.bool true) ∧ Below w.heap.size w w' := by
  have Hhx := Lib.hid hx
  have Hhy := Lib.hid hy
  have Hhm := Lib.hid hm
  clear hx hy hm
  go_enter Tryd.func4, Tryd.ntmps4
  go_wp2_with fail
  refine (head_any _ he).mono ?_
  rintro e w1 ⟨rfl, hb⟩
  have HB := hb
  clear hb he
  go_wp2_with fail
  rw [Hhx.out, Hhy.out]
  have K := fun W h1 h2 h3 h4 => make_any x y W h1 h2 h3 h4
  rw [Hhm.out] at K
  refine (K _ (by omega) (by omega) (by omega) (by omega)).mono ?_
  clear K
  rintro e w2 ⟨rfl, hb⟩
  replace HB := below_up HB hb HB.size
  clear hb
  go_wp2_with fail
  go_ret
  exact ⟨rfl, HB.alloc HB.size _⟩

set_option maxRecDepth 100000 in
set_option maxHeartbeats 1600000 in
theorem lowest_big1 (n d x y : Int) (hx : n.tmod 2000000001 = x) (hy : d.tmod 2000000001 = y) (bx : -2000000000 ≤ x ∧ x ≤ 2000000000) (by' : -2000000000 ≤ y ∧ y ≤ 2000000000) (hz : (y == 0) = false) (X Y g : Nat) (hX : max x (-x) = (X : Int)) (hY : max y (-y) = (Y : Int)) (hg : Nat.gcd X Y = g) (g0 : 0 < g) (g1 : g ≤ 2000000000) (X1 : X ≤ 2000000000) (Y1 : Y ≤ 2000000000) (q1 : 0 ≤ (X : Int) / g) (q2 : (X : Int) / g ≤ 2000000000) (q3 : 0 ≤ (Y : Int) / g) (q4 : (Y : Int) / g ≤ 2000000000) (hm : mk x y = (0, 0, 2)) (c1 : 1000000000 < (Y : Int) / g) (w : World) (he : Env w) :
    Calls Tryd.prog 4 #[.int .i64 n, .int .i64 d] w fun e w' => e = .returned (.bool true) ∧ Below w.heap.size w w' := by
  have Hhx := Lib.hid hx
  have Hhy := Lib.hid hy
  have Hhm := Lib.hid hm
  have Hhg := Lib.hid hg
  clear hx hy hm hg
  go_enter Tryd.func4, Tryd.ntmps4
  go_wp2_with fail
  refine (head_any _ he).mono ?_
  rintro e w1 ⟨rfl, hb⟩
  have HB := hb
  clear hb he
  go_wp2_with fail
  rw [Hhx.out, Hhy.out]
  have K := fun W h1 h2 h3 h4 => make_any x y W h1 h2 h3 h4
  rw [Hhm.out] at K
  refine (K _ (by omega) (by omega) (by omega) (by omega)).mono ?_
  clear K
  rintro e w2 ⟨rfl, hb⟩
  replace HB := below_up HB hb HB.size
  clear hb
  go_wp2_with fail
  refine (refgcd_any X Y (by omega) (by omega) _).mono ?_
  rintro e w3 ⟨rfl, k, rfl⟩
  rw [Hhg.out]
  have A : Rat2 ((w2.alloc (Obj.cells #[Value.int IntKind.i64 (0), Value.int IntKind.i64 (0)] 23)).drewN k) w2.heap.size (0) (0) := Rat2.below ⟨by simp [go_sem], by simp [go_sem]⟩ (below_drewN _ _ k)
  replace HB := dN (HB.alloc HB.size (Obj.cells #[Value.int IntKind.i64 (0), Value.int IntKind.i64 (0)] 23)) k
  generalize (w2.alloc (Obj.cells #[Value.int IntKind.i64 (0), Value.int IntKind.i64 (0)] 23)).drewN k = w3 at *
  have zAc0 := A.c0
  have zAc1 := A.c1
  go_wp2_with fail
  go_ret
  exact ⟨rfl, HB⟩

set_option maxRecDepth 100000 in
set_option maxHeartbeats 1600000 in
theorem lowest_big2 (n d x y : Int) (hx : n.tmod 2000000001 = x) (hy : d.tmod 2000000001 = y) (bx : -2000000000 ≤ x ∧ x ≤ 2000000000) (by' : -2000000000 ≤ y ∧ y ≤ 2000000000) (hz : (y == 0) = false) (X Y g : Nat) (hX : max x (-x) = (X : Int)) (hY : max y (-y) = (Y : Int)) (hg : Nat.gcd X Y = g) (g0 : 0 < g) (g1 : g ≤ 2000000000) (X1 : X ≤ 2000000000) (Y1 : Y ≤ 2000000000) (q1 : 0 ≤ (X : Int) / g) (q2 : (X : Int) / g ≤ 2000000000) (q3 : 0 ≤ (Y : Int) / g) (q4 : (Y : Int) / g ≤ 2000000000) (hm : mk x y = (0, 0, 2)) (c1 : (Y : Int) / g ≤ 1000000000) (c2 : 1000000000 < (X : Int) / g) (w : World) (he : Env w) :
    Calls Tryd.prog 4 #[.int .i64 n, .int .i64 d] w fun e w' => e = .returned (.bool true) ∧ Below w.heap.size w w' := by
  have Hhx := Lib.hid hx
  have Hhy := Lib.hid hy
  have Hhm := Lib.hid hm
  have Hhg := Lib.hid hg
  clear hx hy hm hg
  go_enter Tryd.func4, Tryd.ntmps4
  go_wp2_with fail
  refine (head_any _ he).mono ?_
  rintro e w1 ⟨rfl, hb⟩
  have HB := hb
  clear hb he
  go_wp2_with fail
  rw [Hhx.out, Hhy.out]
  have K := fun W h1 h2 h3 h4 => make_any x y W h1 h2 h3 h4
  rw [Hhm.out] at K
  refine (K _ (by omega) (by omega) (by omega) (by omega)).mono ?_
  clear K
  rintro e w2 ⟨rfl, hb⟩
  replace HB := below_up HB hb HB.size
  clear hb
  go_wp2_with fail
  refine (refgcd_any X Y (by omega) (by omega) _).mono ?_
  rintro e w3 ⟨rfl, k, rfl⟩
  rw [Hhg.out]
  have A : Rat2 ((w2.alloc (Obj.cells #[Value.int IntKind.i64 (0), Value.int IntKind.i64 (0)] 23)).drewN k) w2.heap.size (0) (0) := Rat2.below ⟨by simp [go_sem], by simp [go_sem]⟩ (below_drewN _ _ k)
  replace HB := dN (HB.alloc HB.size (Obj.cells #[Value.int IntKind.i64 (0), Value.int IntKind.i64 (0)] 23)) k
  generalize (w2.alloc (Obj.cells #[Value.int IntKind.i64 (0), Value.int IntKind.i64 (0)] 23)).drewN k = w3 at *
  have zAc0 := A.c0
  have zAc1 := A.c1
  go_wp2_with fail
  go_ret
  exact ⟨rfl, HB⟩

set_option maxRecDepth 100000 in
set_option maxHeartbeats 1600000 in
theorem lowest_ok (n d x y : Int) (hx : n.tmod 2000000001 = x) (hy : d.tmod 2000000001 = y) (bx : -2000000000 ≤ x ∧ x ≤ 2000000000) (by' : -2000000000 ≤ y ∧ y ≤ 2000000000) (hz : (y == 0) = false) (X Y g : Nat) (hX : max x (-x) = (X : Int)) (hY : max y (-y) = (Y : Int)) (hg : Nat.gcd X Y = g) (g0 : 0 < g) (g1 : g ≤ 2000000000) (X1 : X ≤ 2000000000) (Y1 : Y ≤ 2000000000) (q1 : 0 ≤ (X : Int) / g) (q2 : (X : Int) / g ≤ 2000000000) (q3 : 0 ≤ (Y : Int) / g) (q4 : (Y : Int) / g ≤ 2000000000) (a b : Int) (hm : mk x y = (a, b, 0)) (hv : vldB a b = true) (he1 : a * y = x * b) (hb2 : (b == (Y : Int) / g) = true) (c1 : (Y : Int) / g ≤ 1000000000) (c2 : (X : Int) / g ≤ 1000000000) (w : World) (he : Env w) :
    Calls Tryd.prog 4 #[.int .i64 n, .int .i64 d] w fun e w' => e = .returned (.bool true) ∧ Below w.heap.size w w' := by
  have Hhx := Lib.hid hx
  have Hhy := Lib.hid hy
  have Hhm := Lib.hid hm
  have Hhg := Lib.hid hg
  have Hhe1 := Lib.hid he1
  clear hx hy hm hg he1
  go_enter Tryd.func4, Tryd.ntmps4
  go_wp2_with fail
  refine (head_any _ he).mono ?_
  rintro e w1 ⟨rfl, hb⟩
  have HB := hb
  clear hb he
  go_wp2_with fail
  rw [Hhx.out, Hhy.out]
  have K := fun W h1 h2 h3 h4 => make_any x y W h1 h2 h3 h4
  rw [Hhm.out] at K
  refine (K _ (by omega) (by omega) (by omega) (by omega)).mono ?_
  clear K
  rintro e w2 ⟨rfl, hb⟩
  replace HB := below_up HB hb HB.size
  clear hb
  go_wp2_with fail
  refine (refgcd_any X Y (by omega) (by omega) _).mono ?_
  rintro e w3 ⟨rfl, k, rfl⟩
  rw [Hhg.out]
  have A : Rat2 ((w2.alloc (Obj.cells #[Value.int IntKind.i64 (a), Value.int IntKind.i64 (b)] 23)).drewN k) w2.heap.size (a) (b) := Rat2.below ⟨by simp [go_sem], by simp [go_sem]⟩ (below_drewN _ _ k)
  replace HB := dN (HB.alloc HB.size (Obj.cells #[Value.int IntKind.i64 (a), Value.int IntKind.i64 (b)] 23)) k
  generalize (w2.alloc (Obj.cells #[Value.int IntKind.i64 (a), Value.int IntKind.i64 (b)] 23)).drewN k = w3 at *
  have zAc0 := A.c0
  have zAc1 := A.c1
  go_wp2_with fail
  refine (valid_any a b _).mono ?_
  rintro e w4 ⟨rfl, hb⟩
  replace A := A.below hb
  replace HB := below_up HB hb HB.size
  clear hb
  clear zAc0 zAc1
  have zAc0 := A.c0
  have zAc1 := A.c1
  have he1 := Hhe1.out
  go_wp2_with fail
  go_ret
  exact ⟨rfl, HB⟩

end Go.Proofs.YtpmggfmhkjafkaaDoor
