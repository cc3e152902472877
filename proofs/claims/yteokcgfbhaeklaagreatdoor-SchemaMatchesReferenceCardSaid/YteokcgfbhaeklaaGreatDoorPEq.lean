/- The contracts of the reference's comparisons: texts, Ints, Rows, Attrs, SameTable and Same. -/
import Derived.Test.YteokcgfbhaeklaaGreatDoorScSort
import Derived.Test.YteokcgfbhaeklaaGreatDoorPBase
namespace Go.Proofs.YteokcgfbhaeklaaGreatDoor
open Go.RowKit

theorem eq_step {α : Type} {a b : List α} (hl : a.length = b.length) (h : ∀ j (h1 : j < a.length) (h2 : j < b.length), a[j] = b[j]) : a = b := List.ext_getElem hl h
theorem ne_at {α : Type} {a b : List α} {k : Nat} (h1 : k < a.length) (h2 : k < b.length) (h : ¬ a[k] = b[k]) : ¬ a = b := fun e => h (by subst e; rfl)
def EqTo {α : Type} (a b : List α) (k : Nat) : Prop := ∀ j (_ : j < k) (h1 : j < a.length) (h2 : j < b.length), a[j] = b[j]
theorem eqTo_succ {α : Type} {a b : List α} {k : Nat} (h : EqTo a b k) (h1 : k < a.length) (h2 : k < b.length) (e : a[k] = b[k]) : EqTo a b (k + 1) := fun j hj a1 a2 => by
  by_cases q : j = k
  · subst q; exact e
  · exact h j (by omega) a1 a2
theorem eqTo_all {α : Type} {a b : List α} {k : Nat} (h : EqTo a b k) (hl : a.length = b.length) (hk : a.length ≤ k) : a = b := eq_step hl (fun j h1 h2 => h j (by omega) h1 h2)
theorem dN2 {w : World} {n m : Nat} : (w.drewN n).drewN m = w.drewN (n + m) := by
  simp [World.drewN, Nat.add_assoc]
/-- What a function returns that only reads. -/
def QuietPost (w : World) (r : Bool) (e : Ending) (w' : World) : Prop := e = .returned (.bool r) ∧ ∃ n, w' = w.drewN n

set_option maxRecDepth 100000 in
set_option maxHeartbeats 2000000 in
theorem ints_ref (a b : List Int) (u v : Value) (ha : a.length ≤ 4000) (w : World) (h1 : Ints w u a) (h2 : Ints w v b) [DecidableEq (List Int)] :
    Calls Tryz.prog 47 #[u, v] w (QuietPost w (decide (a = b))) := by
  obtain ⟨A, ca, rfl, hca⟩ : ∃ A c, u = .slice A a.length c ∧ a.length ≤ c := by
    obtain ⟨A, c, e, hc, _⟩ := h1
    exact ⟨A, c, e, hc⟩
  obtain ⟨B, cb, rfl, hcb⟩ : ∃ A c, v = .slice A b.length c ∧ b.length ≤ c := by
    obtain ⟨A, c, e, hc, _⟩ := h2
    exact ⟨A, c, e, hc⟩
  have H1 := Lib.hid h1
  have H2 := Lib.hid h2
  clear h1 h2
  by_cases hl : a.length = b.length
  · have q0 : ((a.length : Int) != (b.length : Int)) = false := by simp [hl]
    have HL := Lib.hid hl
    have hle : a.length ≤ b.length := by omega
    clear hl
    go_enter Tryz.func47, Tryz.ntmps47
    go_wp2_with fail
    go_loopw [5] (fun i wr => ∃ k : Nat, k ≤ a.length ∧ i = .int .i64 (k : Int) ∧ EqTo a b k ∧ ∃ n, wr = w.drewN n) (fun i _ => a.length - (intOf i).toNat)
    case atStart => exact ⟨0, by omega, by simp, fun j hj => by omega, 0, rfl⟩
    case round =>
      obtain ⟨k, hk, rfl, he, nd, hw⟩ := hrel
      have HE := Lib.hid he
      have HW := Lib.hid hw
      have HBW : Below w.heap.size w wr := by rw [hw]; exact below_drewN _ _ _
      clear he hw
      by_cases hlt : k < a.length
      · obtain ⟨_, _, b1, o1, rfl, hc1⟩ := Slc.spot H1.out (by omega)
        obtain ⟨_, _, b2, o2, rfl, hc2⟩ := Slc.spot H2.out (by omega)
        have hkb : k < b.length := by omega
        obtain ⟨x, hx⟩ : ∃ x, a[k] = x := ⟨_, rfl⟩
        obtain ⟨y, hy⟩ : ∃ y, b[k] = y := ⟨_, rfl⟩
        have X1 := hc1 k hlt
        have X2 := hc2 k hkb
        rw [hx] at X1
        rw [hy] at X2
        have x0 : ∀ m, (wr.drewN m).cell? ⟨b1, o1 + k, none⟩ = some (.int .i64 x) := fun m => by have := cellB HBW X1; rw [Nat.mul_one] at this; exact this
        have y0 : ∀ m, (wr.drewN m).cell? ⟨b2, o2 + k, none⟩ = some (.int .i64 y) := fun m => by have := cellB HBW X2; rw [Nat.mul_one] at this; exact this
        have HX := Lib.hid hx
        have HY := Lib.hid hy
        have i1 : (0 : Int) ≤ (k : Int) := by omega
        have i2 : (k : Int) < (a.length : Int) := by omega
        have i3 : (k : Int) < (b.length : Int) := by omega
        clear hx hy hc1 hc2 X1 X2 HBW
        by_cases e : x = y
        · have HN := Lib.hid (eqTo_succ HE.out hlt hkb (by rw [HX.out, HY.out]; exact e))
          have d1 : (x != y) = false := by simp [e]
          clear e
          go_wp2_with fail
          go_quiet (fail)
          go_wp2_with fail
          go_roundw
          case rel => exact ⟨k + 1, by omega, by simp, HN.out, _, by rw [HW.out, dN2]⟩
          case measure => simp [intOf]; omega
        · have HN := Lib.hid (ne_at hlt hkb (by rw [HX.out, HY.out]; exact e))
          have d1 : (x != y) = true := by simpa using e
          clear e
          go_wp2_with fail
          go_quiet (fail)
          go_wp2_with fail
          go_ret
          exact ⟨bool_ret (decide_eq_false HN.out).symm, _, by rw [HW.out, dN2]⟩
      · have HN := Lib.hid (eqTo_all HE.out HL.out (by omega))
        go_wp2_with fail
        go_ret
        exact ⟨bool_ret (decide_eq_true HN.out).symm, nd, HW.out⟩
  · have q0 : ((a.length : Int) != (b.length : Int)) = true := by simp; omega
    have HL := Lib.hid hl
    clear hl
    go_enter Tryz.func47, Tryz.ntmps47
    go_wp2_with fail
    go_ret
    exact ⟨bool_ret (decide_eq_false (fun e => HL.out (by rw [e]))).symm, 0, rfl⟩

set_option maxRecDepth 100000 in
set_option maxHeartbeats 2000000 in
theorem texts_ref (a b : List Txt) (u v : Value) (ha : a.length ≤ 4000) (w : World) (h1 : Strs w u a) (h2 : Strs w v b) [DecidableEq (List Txt)] :
    Calls Tryz.prog 71 #[u, v] w (QuietPost w (decide (a = b))) := by
  obtain ⟨A, ca, rfl, hca⟩ : ∃ A c, u = .slice A a.length c ∧ a.length ≤ c := by
    obtain ⟨A, c, e, hc, _⟩ := h1
    exact ⟨A, c, e, hc⟩
  obtain ⟨B, cb, rfl, hcb⟩ : ∃ A c, v = .slice A b.length c ∧ b.length ≤ c := by
    obtain ⟨A, c, e, hc, _⟩ := h2
    exact ⟨A, c, e, hc⟩
  have H1 := Lib.hid h1
  have H2 := Lib.hid h2
  clear h1 h2
  by_cases hl : a.length = b.length
  · have q0 : ((a.length : Int) != (b.length : Int)) = false := by simp [hl]
    have HL := Lib.hid hl
    have hle : a.length ≤ b.length := by omega
    clear hl
    go_enter Tryz.func71, Tryz.ntmps71
    go_wp2_with fail
    go_loopw [5] (fun i wr => ∃ k : Nat, k ≤ a.length ∧ i = .int .i64 (k : Int) ∧ EqTo a b k ∧ ∃ n, wr = w.drewN n) (fun i _ => a.length - (intOf i).toNat)
    case atStart => exact ⟨0, by omega, by simp, fun j hj => by omega, 0, rfl⟩
    case round =>
      obtain ⟨k, hk, rfl, he, nd, hw⟩ := hrel
      have HE := Lib.hid he
      have HW := Lib.hid hw
      have HBW : Below w.heap.size w wr := by rw [hw]; exact below_drewN _ _ _
      clear he hw
      by_cases hlt : k < a.length
      · obtain ⟨_, _, b1, o1, rfl, hc1⟩ := Strs.spot H1.out (by omega)
        obtain ⟨_, _, b2, o2, rfl, hc2⟩ := Strs.spot H2.out (by omega)
        have hkb : k < b.length := by omega
        obtain ⟨x, hx⟩ : ∃ x, a[k] = x := ⟨_, rfl⟩
        obtain ⟨y, hy⟩ : ∃ y, b[k] = y := ⟨_, rfl⟩
        have X1 := hc1 k hlt
        have X2 := hc2 k hkb
        rw [hx] at X1
        rw [hy] at X2
        have x0 : ∀ m, (wr.drewN m).cell? ⟨b1, o1 + k, none⟩ = some (str x) := fun m => by have := cellB HBW X1; exact this
        have y0 : ∀ m, (wr.drewN m).cell? ⟨b2, o2 + k, none⟩ = some (str y) := fun m => by have := cellB HBW X2; exact this
        have HX := Lib.hid hx
        have HY := Lib.hid hy
        have i1 : (0 : Int) ≤ (k : Int) := by omega
        have i2 : (k : Int) < (a.length : Int) := by omega
        have i3 : (k : Int) < (b.length : Int) := by omega
        clear hx hy hc1 hc2 X1 X2 HBW
        by_cases e : x = y
        · have HN := Lib.hid (eqTo_succ HE.out hlt hkb (by rw [HX.out, HY.out]; exact e))
          have d1 : decide (x = y) = true := decide_eq_true e
          have d2 : (x == y) = true := by simpa using e
          have d3 : (x != y) = false := by simp [e]
          clear e
          go_wp2_with fail
          go_quiet (fail)
          go_wp2_with fail
          go_roundw
          case rel => exact ⟨k + 1, by omega, by simp, HN.out, _, by rw [HW.out, dN2]⟩
          case measure => simp [intOf]; omega
        · have HN := Lib.hid (ne_at hlt hkb (by rw [HX.out, HY.out]; exact e))
          have d1 : decide (x = y) = false := decide_eq_false e
          have d2 : (x == y) = false := by simpa using e
          have d3 : (x != y) = true := by simpa using e
          clear e
          go_wp2_with fail
          go_quiet (fail)
          go_wp2_with fail
          go_ret
          exact ⟨bool_ret (decide_eq_false HN.out).symm, _, by rw [HW.out, dN2]⟩
      · have HN := Lib.hid (eqTo_all HE.out HL.out (by omega))
        go_wp2_with fail
        go_ret
        exact ⟨bool_ret (decide_eq_true HN.out).symm, nd, HW.out⟩
  · have q0 : ((a.length : Int) != (b.length : Int)) = true := by simp; omega
    have HL := Lib.hid hl
    clear hl
    go_enter Tryz.func71, Tryz.ntmps71
    go_wp2_with fail
    go_ret
    exact ⟨bool_ret (decide_eq_false (fun e => HL.out (by rw [e]))).symm, 0, rfl⟩

set_option maxRecDepth 100000 in
set_option maxHeartbeats 2000000 in
theorem rows_ref (a b : List T3) (u v : Value) (ha : a.length ≤ 4000) (w : World) (h1 : Vals w u a) (h2 : Vals w v b) [DecidableEq (List T3)] :
    Calls Tryz.prog 16 #[u, v] w (QuietPost w (decide (a = b))) := by
  obtain ⟨A, ca, rfl, hca⟩ : ∃ A c, u = .slice A a.length c ∧ a.length ≤ c := by
    obtain ⟨A, c, e, hc, _⟩ := h1
    exact ⟨A, c, e, hc⟩
  obtain ⟨B, cb, rfl, hcb⟩ : ∃ A c, v = .slice A b.length c ∧ b.length ≤ c := by
    obtain ⟨A, c, e, hc, _⟩ := h2
    exact ⟨A, c, e, hc⟩
  have H1 := Lib.hid h1
  have H2 := Lib.hid h2
  clear h1 h2
  by_cases hl : a.length = b.length
  · have q0 : ((a.length : Int) != (b.length : Int)) = false := by simp [hl]
    have HL := Lib.hid hl
    have hle : a.length ≤ b.length := by omega
    clear hl
    go_enter Tryz.func16, Tryz.ntmps16
    go_wp2_with fail
    go_loopw [5] (fun i wr => ∃ k : Nat, k ≤ a.length ∧ i = .int .i64 (k : Int) ∧ EqTo a b k ∧ ∃ n, wr = w.drewN n) (fun i _ => a.length - (intOf i).toNat)
    case atStart => exact ⟨0, by omega, by simp, fun j hj => by omega, 0, rfl⟩
    case round =>
      obtain ⟨k, hk, rfl, he, nd, hw⟩ := hrel
      have HE := Lib.hid he
      have HW := Lib.hid hw
      have HBW : Below w.heap.size w wr := by rw [hw]; exact below_drewN _ _ _
      clear he hw
      by_cases hlt : k < a.length
      · obtain ⟨_, _, b1, o1, rfl, hc1⟩ := Slc.spot H1.out (by omega)
        obtain ⟨_, _, b2, o2, rfl, hc2⟩ := Slc.spot H2.out (by omega)
        have hkb : k < b.length := by omega
        obtain ⟨x, hx⟩ : ∃ x, a[k] = x := ⟨_, rfl⟩
        obtain ⟨y, hy⟩ : ∃ y, b[k] = y := ⟨_, rfl⟩
        have X1 := hc1 k hlt
        have X2 := hc2 k hkb
        rw [hx] at X1
        rw [hy] at X2
        have x0 : ∀ m, (wr.drewN m).cell? ⟨b1, o1 + k * 3, none⟩ = some (.int .i64 x.1) := fun m => (X1.below HBW).c0
        have x1 : ∀ m, (wr.drewN m).cell? ⟨b1, o1 + k * 3 + 1, none⟩ = some (.int .i64 x.2.1) := fun m => (X1.below HBW).c1
        have x2 : ∀ m, (wr.drewN m).cell? ⟨b1, o1 + k * 3 + 2, none⟩ = some (str x.2.2) := fun m => (X1.below HBW).c2
        have y0 : ∀ m, (wr.drewN m).cell? ⟨b2, o2 + k * 3, none⟩ = some (.int .i64 y.1) := fun m => (X2.below HBW).c0
        have y1 : ∀ m, (wr.drewN m).cell? ⟨b2, o2 + k * 3 + 1, none⟩ = some (.int .i64 y.2.1) := fun m => (X2.below HBW).c1
        have y2 : ∀ m, (wr.drewN m).cell? ⟨b2, o2 + k * 3 + 2, none⟩ = some (str y.2.2) := fun m => (X2.below HBW).c2
        have HX := Lib.hid hx
        have HY := Lib.hid hy
        have i1 : (0 : Int) ≤ (k : Int) := by omega
        have i2 : (k : Int) < (a.length : Int) := by omega
        have i3 : (k : Int) < (b.length : Int) := by omega
        clear hx hy hc1 hc2 X1 X2 HBW
        by_cases e : x = y
        · have HN := Lib.hid (eqTo_succ HE.out hlt hkb (by rw [HX.out, HY.out]; exact e))
          have d1 : ∀ W, (binOp .neq 26 (.agg #[.int .i64 x.1, .int .i64 x.2.1, str x.2.2]) (.agg #[.int .i64 y.1, .int .i64 y.2.1, str y.2.2])).run Tryz.prog W = .ok (.bool false) W := fun W => by subst e; exact L2.neq_no _ _ _ W
          clear e
          go_wp2_with fail
          go_quiet (fail)
          go_wp2_with fail
          go_roundw
          case rel => exact ⟨k + 1, by omega, by simp, HN.out, _, by rw [HW.out, dN2]⟩
          case measure => simp [intOf]; omega
        · have HN := Lib.hid (ne_at hlt hkb (by rw [HX.out, HY.out]; exact e))
          have d1 : ∀ W, (binOp .neq 26 (.agg #[.int .i64 x.1, .int .i64 x.2.1, str x.2.2]) (.agg #[.int .i64 y.1, .int .i64 y.2.1, str y.2.2])).run Tryz.prog W = .ok (.bool true) W := fun W => L2.neq_yes (fun h => e (Prod.ext h.1 (Prod.ext h.2.1 h.2.2))) W
          clear e
          go_wp2_with fail
          go_quiet (fail)
          go_wp2_with fail
          go_ret
          exact ⟨bool_ret (decide_eq_false HN.out).symm, _, by rw [HW.out, dN2]⟩
      · have HN := Lib.hid (eqTo_all HE.out HL.out (by omega))
        go_wp2_with fail
        go_ret
        exact ⟨bool_ret (decide_eq_true HN.out).symm, nd, HW.out⟩
  · have q0 : ((a.length : Int) != (b.length : Int)) = true := by simp; omega
    have HL := Lib.hid hl
    clear hl
    go_enter Tryz.func16, Tryz.ntmps16
    go_wp2_with fail
    go_ret
    exact ⟨bool_ret (decide_eq_false (fun e => HL.out (by rw [e]))).symm, 0, rfl⟩
end Go.Proofs.YteokcgfbhaeklaaGreatDoor

/- The contract of the reference's Attrs. -/
namespace Go.Proofs.YteokcgfbhaeklaaGreatDoor
open Go.RowKit

theorem texts_quiet (a b : List Txt) (u v : Value) (r : Bool) (hr : decide (a = b) = r) (ha : a.length ≤ 4000) (w : World) (h1 : Strs w u a) (h2 : Strs w v b) :
    Calls Tryz.prog 71 #[u, v] w fun e w' => e = .returned (.bool r) ∧ ∃ n, w' = w.drewN n :=
  (texts_ref a b u v ha w h1 h2).mono fun e w' h => ⟨by rw [h.1, hr], h.2⟩
set_option maxRecDepth 100000 in
set_option maxHeartbeats 8000000 in
theorem attrs_ref (a b : List AttrT) (u v : Value) (ha : a.length ≤ 4000) (hwa : ∀ x ∈ a, x.was.length ≤ 4000) (w : World) (h1 : Attrs w u a) (h2 : Attrs w v b) :
    Calls Tryz.prog 48 #[u, v] w (QuietPost w (decide (a = b))) := by
  obtain ⟨A, ca, rfl, hca⟩ := h1.form
  obtain ⟨B, cb, rfl, hcb⟩ := h2.form
  have H1 := Lib.hid h1
  have H2 := Lib.hid h2
  have HWA := Lib.hid hwa
  clear h1 h2 hwa
  by_cases hl : a.length = b.length
  · have q0 : ((a.length : Int) != (b.length : Int)) = false := by simp [hl]
    have HL := Lib.hid hl
    have hle : a.length ≤ b.length := by omega
    clear hl
    go_enter Tryz.func48, Tryz.ntmps48
    go_wp2_with fail
    go_loopw [5] (fun i wr => ∃ k : Nat, k ≤ a.length ∧ i = .int .i64 (k : Int) ∧ EqTo a b k ∧ ∃ n, wr = w.drewN n) (fun i _ => a.length - (intOf i).toNat)
    case atStart => exact ⟨0, by omega, by simp, fun j hj => by omega, 0, rfl⟩
    case round =>
      obtain ⟨k, hk, rfl, he, nd, hw⟩ := hrel
      have HE := Lib.hid he
      have HW := Lib.hid hw
      have HBW : Below w.heap.size w wr := by rw [hw]; exact below_drewN _ _ _
      clear he hw
      by_cases hlt : k < a.length
      · obtain ⟨_, _, b1, o1, rfl, hc1⟩ := Slc.spot H1.out (by omega)
        obtain ⟨_, _, b2, o2, rfl, hc2⟩ := Slc.spot H2.out (by omega)
        have hkb : k < b.length := by omega
        obtain ⟨x, hx⟩ : ∃ x, a[k] = x := ⟨_, rfl⟩
        obtain ⟨y, hy⟩ : ∃ y, b[k] = y := ⟨_, rfl⟩
        have X1 := hc1 k hlt
        have X2 := hc2 k hkb
        rw [hx] at X1
        rw [hy] at X2
        obtain ⟨wx, hax, hsx⟩ := X1
        obtain ⟨wy, hay, hsy⟩ := X2
        obtain ⟨Ax, cx, rfl, _⟩ : ∃ A c, wx = .slice A x.was.length c ∧ x.was.length ≤ c := by
          obtain ⟨A, c, e, hc, _⟩ := hsx
          exact ⟨A, c, e, hc⟩
        obtain ⟨Ay, cy, rfl, _⟩ : ∃ A c, wy = .slice A y.was.length c ∧ y.was.length ≤ c := by
          obtain ⟨A, c, e, hc, _⟩ := hsy
          exact ⟨A, c, e, hc⟩
        obtain ⟨r, hr⟩ : ∃ r, decide (x.was = y.was) = r := ⟨_, rfl⟩
        have CT := Lib.hid (fun W (hW : Below w.heap.size w W) => texts_quiet x.was y.was _ _ r hr (HWA.out x (by rw [← hx]; exact List.getElem_mem hlt)) W (hsx.below hW) (hsy.below hW))
        have HR := Lib.hid hr
        have x0 : ∀ m, (wr.drewN m).cell? ⟨b1, o1 + k * 6, none⟩ = some (str x.name) := fun m => (hax.below HBW).c0
        have x1 : ∀ m, (wr.drewN m).cell? ⟨b1, o1 + k * 6 + 1, none⟩ = some (.int .i64 x.kind) := fun m => (hax.below HBW).c1
        have x2 : ∀ m, (wr.drewN m).cell? ⟨b1, o1 + k * 6 + 2, none⟩ = some (.slice Ax x.was.length cx) := fun m => (hax.below HBW).c2
        have x3 : ∀ m, (wr.drewN m).cell? ⟨b1, o1 + k * 6 + 3, none⟩ = some (.int .i64 x.dft.1) := fun m => (hax.below HBW).c3
        have x4 : ∀ m, (wr.drewN m).cell? ⟨b1, o1 + k * 6 + 4, none⟩ = some (.int .i64 x.dft.2.1) := fun m => (hax.below HBW).c4
        have x5 : ∀ m, (wr.drewN m).cell? ⟨b1, o1 + k * 6 + 5, none⟩ = some (str x.dft.2.2) := fun m => (hax.below HBW).c5
        have y0 : ∀ m, (wr.drewN m).cell? ⟨b2, o2 + k * 6, none⟩ = some (str y.name) := fun m => (hay.below HBW).c0
        have y1 : ∀ m, (wr.drewN m).cell? ⟨b2, o2 + k * 6 + 1, none⟩ = some (.int .i64 y.kind) := fun m => (hay.below HBW).c1
        have y2 : ∀ m, (wr.drewN m).cell? ⟨b2, o2 + k * 6 + 2, none⟩ = some (.slice Ay y.was.length cy) := fun m => (hay.below HBW).c2
        have y3 : ∀ m, (wr.drewN m).cell? ⟨b2, o2 + k * 6 + 3, none⟩ = some (.int .i64 y.dft.1) := fun m => (hay.below HBW).c3
        have y4 : ∀ m, (wr.drewN m).cell? ⟨b2, o2 + k * 6 + 4, none⟩ = some (.int .i64 y.dft.2.1) := fun m => (hay.below HBW).c4
        have y5 : ∀ m, (wr.drewN m).cell? ⟨b2, o2 + k * 6 + 5, none⟩ = some (str y.dft.2.2) := fun m => (hay.below HBW).c5
        have HX := Lib.hid hx
        have HY := Lib.hid hy
        have HBH := Lib.hid HBW
        have i1 : (0 : Int) ≤ (k : Int) := by omega
        have i2 : (k : Int) < (a.length : Int) := by omega
        have i3 : (k : Int) < (b.length : Int) := by omega
        clear hx hy hc1 hc2 HBW hax hay hsx hsy hr
        by_cases e1 : x.name = y.name
        · have d1 : decide (x.name = y.name) = true := decide_eq_true e1
          have d1b : (x.name == y.name) = true := by simpa using e1
          have d1c : (x.name != y.name) = false := by simp [e1]
          by_cases e2 : x.kind = y.kind
          · have d2 : (x.kind != y.kind) = false := by simp [e2]
            by_cases e3 : x.dft = y.dft
            · have d3 : ∀ W, (binOp .neq 26 (.agg #[.int .i64 x.dft.1, .int .i64 x.dft.2.1, str x.dft.2.2]) (.agg #[.int .i64 y.dft.1, .int .i64 y.dft.2.1, str y.dft.2.2])).run Tryz.prog W = .ok (.bool false) W := fun W => by rw [e3]; exact L2.neq_no _ _ _ W
              cases r
              · have HN := Lib.hid (ne_at hlt hkb (by rw [HX.out, HY.out]; intro e; have := HR.out; rw [e] at this; simp at this))
                clear e1 e2 e3
                go_wp2_with fail
                go_quiet ((go_at_call 71; exact Calls.quiet_of (CT.out _ (HBH.out.trans (by first | exact Below.refl _ _ | exact below_drewN _ _ _)))))
                go_wp2_with fail
                go_ret
                exact ⟨bool_ret (decide_eq_false HN.out).symm, _, by rw [HW.out, dN2]⟩
              · have HN := Lib.hid (eqTo_succ HE.out hlt hkb (by rw [HX.out, HY.out]; exact AttrT.ext' e1 e2 (of_decide_eq_true HR.out) e3))
                clear e1 e2 e3
                go_wp2_with fail
                go_quiet ((go_at_call 71; exact Calls.quiet_of (CT.out _ (HBH.out.trans (by first | exact Below.refl _ _ | exact below_drewN _ _ _)))))
                go_wp2_with fail
                go_roundw
                case rel => exact ⟨k + 1, by omega, by simp, HN.out, _, by rw [HW.out, dN2]⟩
                case measure => simp [intOf]; omega
            · have d3 : ∀ W, (binOp .neq 26 (.agg #[.int .i64 x.dft.1, .int .i64 x.dft.2.1, str x.dft.2.2]) (.agg #[.int .i64 y.dft.1, .int .i64 y.dft.2.1, str y.dft.2.2])).run Tryz.prog W = .ok (.bool true) W := fun W => L2.neq_yes (fun h => e3 (Prod.ext h.1 (Prod.ext h.2.1 h.2.2))) W
              have HN := Lib.hid (ne_at hlt hkb (by rw [HX.out, HY.out]; intro e; exact e3 (by rw [e])))
              clear e1 e2 e3
              go_wp2_with fail
              go_quiet (fail)
              go_wp2_with fail
              go_ret
              exact ⟨bool_ret (decide_eq_false HN.out).symm, _, by rw [HW.out, dN2]⟩
          · have d2 : (x.kind != y.kind) = true := by simpa using e2
            have HN := Lib.hid (ne_at hlt hkb (by rw [HX.out, HY.out]; intro e; exact e2 (by rw [e])))
            clear e1 e2
            go_wp2_with fail
            go_quiet (fail)
            go_wp2_with fail
            go_ret
            exact ⟨bool_ret (decide_eq_false HN.out).symm, _, by rw [HW.out, dN2]⟩
        · have d1 : decide (x.name = y.name) = false := decide_eq_false e1
          have d1b : (x.name == y.name) = false := by simpa using e1
          have d1c : (x.name != y.name) = true := by simpa using e1
          have HN := Lib.hid (ne_at hlt hkb (by rw [HX.out, HY.out]; intro e; exact e1 (by rw [e])))
          clear e1
          go_wp2_with fail
          go_quiet (fail)
          go_wp2_with fail
          go_ret
          exact ⟨bool_ret (decide_eq_false HN.out).symm, _, by rw [HW.out, dN2]⟩
      · have HN := Lib.hid (eqTo_all HE.out HL.out (by omega))
        go_wp2_with fail
        go_ret
        exact ⟨bool_ret (decide_eq_true HN.out).symm, nd, HW.out⟩
  · have q0 : ((a.length : Int) != (b.length : Int)) = true := by simp; omega
    have HL := Lib.hid hl
    clear hl
    go_enter Tryz.func48, Tryz.ntmps48
    go_wp2_with fail
    go_ret
    exact ⟨bool_ret (decide_eq_false (fun e => HL.out (by rw [e]))).symm, 0, rfl⟩
end Go.Proofs.YteokcgfbhaeklaaGreatDoor

/- The contracts of the reference's SameTable and Same. -/
namespace Go.Proofs.YteokcgfbhaeklaaGreatDoor
open Go.RowKit

theorem below_quiet {w w' : World} (h : ∃ n, w' = w.drewN n) : Below w.heap.size w w' := by
  obtain ⟨n, rfl⟩ := h
  exact below_drewN _ _ _
set_option maxRecDepth 100000 in
set_option maxHeartbeats 4000000 in
theorem sameTable_ref (x y : TabT) (va vk ua uk : Value) (h1 : x.attrs.length ≤ 4000) (h2 : x.key.length ≤ 4000) (h3 : ∀ a ∈ x.attrs, a.was.length ≤ 4000) (w : World) (xa : Attrs w va x.attrs) (xk : Ints w vk x.key) (ya : Attrs w ua y.attrs) (yk : Ints w uk y.key) :
    Calls Tryz.prog 25 #[.agg #[str x.name, va, vk], .agg #[str y.name, ua, uk]] w (BoolPost w (decide (x = y))) := by
  obtain ⟨r1, e1⟩ : ∃ r, decide (x.key = y.key) = r := ⟨_, rfl⟩
  obtain ⟨r2, e2⟩ : ∃ r, decide (x.attrs = y.attrs) = r := ⟨_, rfl⟩
  have C1 := Lib.hid (fun W (hW : Below w.heap.size w W) => by
    have := ints_ref x.key y.key vk uk h2 W (xk.below hW) (yk.below hW)
    rw [e1] at this
    exact this)
  have C2 := Lib.hid (fun W (hW : Below w.heap.size w W) => by
    have := attrs_ref x.attrs y.attrs va ua h1 h3 W (xa.below hW) (ya.below hW)
    rw [e2] at this
    exact this)
  have HB0 := Lib.hid (((below_box w (.cells #[str x.name, va, vk] 44)).alloc (by simp) (.cells #[str y.name, ua, uk] 44)))
  obtain ⟨nx, hx⟩ : ∃ nx, x.name = nx := ⟨_, rfl⟩
  obtain ⟨ny, hy⟩ : ∃ ny, y.name = ny := ⟨_, rfl⟩
  have HX := Lib.hid hx
  have HY := Lib.hid hy
  rw [hx, hy]
  rw [hx, hy] at HB0
  have E1 := Lib.hid e1
  have E2 := Lib.hid e2
  clear hx hy e1 e2 xa xk ya yk h1 h2 h3
  by_cases q : nx = ny
  · have d1 : decide (nx = ny) = true := decide_eq_true q
    have d2 : (nx == ny) = true := by simpa using q
    have HQ := Lib.hid q
    clear q
    cases r1
    · have HF := Lib.hid (show decide (x = y) = false from decide_eq_false (fun e => by have := E1.out; rw [e] at this; simp at this))
      go_enter Tryz.func25, Tryz.ntmps25
      go_wp2_with fail
      refine (C1.out _ HB0.out).mono ?_
      rintro e w1 ⟨rfl, hb⟩
      have HB1 := Lib.hid (below_up HB0.out (below_quiet hb) (by simp; omega))
      clear hb
      go_wp2_with fail
      go_ret
      exact ⟨bool_ret HF.out.symm, HB1.out⟩
    · have HF := Lib.hid (show decide (x = y) = r2 by
        rw [← E2.out, Bool.eq_iff_iff, decide_eq_true_eq, decide_eq_true_eq]
        exact ⟨fun e => by rw [e], fun e => TabT.ext' (by rw [HX.out, HY.out]; exact HQ.out) e (of_decide_eq_true E1.out)⟩)
      go_enter Tryz.func25, Tryz.ntmps25
      go_wp2_with fail
      refine (C1.out _ HB0.out).mono ?_
      rintro e w1 ⟨rfl, hb⟩
      have hb1 := below_quiet hb
      have HB1 := Lib.hid (below_up HB0.out hb1 (by simp; omega))
      have t1 : w1.cell? ⟨w.heap.size, 1, none⟩ = some va := cellB hb1 (by simp [go_sem])
      have t2 : w1.cell? ⟨w.heap.size + 1, 1, none⟩ = some ua := cellB hb1 (by simp [go_sem])
      clear hb hb1
      go_wp2_with fail
      refine (C2.out _ HB1.out).mono ?_
      rintro e w2 ⟨rfl, hb⟩
      have HB2 := Lib.hid (below_up HB1.out (below_quiet hb) HB1.out.size)
      clear hb t1 t2
      go_wp2_with fail
      go_ret
      exact ⟨bool_ret HF.out.symm, HB2.out⟩
  · have d1 : decide (nx = ny) = false := decide_eq_false q
    have d2 : (nx == ny) = false := by simpa using q
    have HF := Lib.hid (show decide (x = y) = false from decide_eq_false (fun e => q (by rw [← HX.out, ← HY.out, e])))
    clear q
    go_enter Tryz.func25, Tryz.ntmps25
    go_wp2_with fail
    go_ret
    exact ⟨bool_ret HF.out.symm, HB0.out⟩

set_option maxRecDepth 100000 in
set_option maxHeartbeats 4000000 in
theorem same_ref (a b : List TabT) (u v : Value) (hm : Mid a) (w : World) (h1 : Tabs w u a) (h2 : Tabs w v b) :
    Calls Tryz.prog 15 #[.agg #[u], .agg #[v]] w (BoolPost w (decide (a = b))) := by
  obtain ⟨A, ca, rfl, hca⟩ := h1.form
  obtain ⟨B, cb, rfl, hcb⟩ := h2.form
  have H1 := Lib.hid h1
  have H2 := Lib.hid h2
  have HM := Lib.hid hm
  have hal : a.length ≤ 24 := hm.1
  clear h1 h2 hm
  obtain ⟨X, hX⟩ : ∃ X, (w.alloc (.cells #[.slice A a.length ca] 24)).alloc (.cells #[.slice B b.length cb] 24) = X := ⟨_, rfl⟩
  have HX0 := Lib.hid hX
  have e1 : X.cell? ⟨w.heap.size, 0, none⟩ = some (.slice A a.length ca) := by rw [← hX]; simp [go_sem]
  have e2 : X.cell? ⟨w.heap.size + 1, 0, none⟩ = some (.slice B b.length cb) := by rw [← hX]; simp [go_sem]
  have HBX : Hid (Below w.heap.size w X) := Lib.hid (by rw [← hX]; exact (below_box w _).alloc (by simp) _)
  clear hX
  by_cases hl : a.length = b.length
  · have q0 : ((a.length : Int) != (b.length : Int)) = false := by simp [hl]
    have HL := Lib.hid hl
    have hle : a.length ≤ b.length := by omega
    clear hl
    go_enter Tryz.func15, Tryz.ntmps15
    go_wp2_with fail
    rw [HX0.out]
    go_loopw [5] (fun i wr => ∃ k : Nat, k ≤ a.length ∧ i = .int .i64 (k : Int) ∧ EqTo a b k ∧ Below X.heap.size X wr) (fun i _ => a.length - (intOf i).toNat)
    case atStart => exact ⟨0, by omega, by simp, fun j hj => by omega, Below.refl _ _⟩
    case round =>
      obtain ⟨k, hk, rfl, he, hw⟩ := hrel
      have HE := Lib.hid he
      have HW := Lib.hid hw
      have HBW := Lib.hid (HBX.out.trans (hw.mono HBX.out.size))
      have b1' := cellB hw e1
      have b2' := cellB hw e2
      clear he hw
      by_cases hlt : k < a.length
      · obtain ⟨_, _, b1, o1, rfl, hc1⟩ := Slc.spot H1.out (by omega)
        obtain ⟨_, _, b2, o2, rfl, hc2⟩ := Slc.spot H2.out (by omega)
        have hkb : k < b.length := by omega
        obtain ⟨x, hx⟩ : ∃ x, a[k] = x := ⟨_, rfl⟩
        obtain ⟨y, hy⟩ : ∃ y, b[k] = y := ⟨_, rfl⟩
        have X1 := hc1 k hlt
        have X2 := hc2 k hkb
        rw [hx] at X1
        rw [hy] at X2
        obtain ⟨xa, xk, hax, hxa, hxk⟩ := X1
        obtain ⟨ya, yk, hay, hya, hyk⟩ := X2
        obtain ⟨Aa, na, rfl, _⟩ := hxa.form
        obtain ⟨Ak, nk, rfl, _⟩ := hxk.form
        obtain ⟨Ba, ma, rfl, _⟩ := hya.form
        obtain ⟨Bk, mk, rfl, _⟩ := hyk.form
        obtain ⟨r, hr⟩ : ∃ r, decide (x = y) = r := ⟨_, rfl⟩
        have hmx := HM.out.2 x (by rw [← hx]; exact List.getElem_mem hlt)
        have CT := Lib.hid (fun W (hW : Below w.heap.size w W) => by
          have := sameTable_ref x y _ _ _ _ (by omega) (by omega) (fun a ha => by have := hmx.2.2 a ha; omega) W (hxa.below hW) (hxk.below hW) (hya.below hW) (hyk.below hW)
          rw [hr] at this
          exact this)
        have HR := Lib.hid hr
        have x0 := (hax.below HBW.out).c0
        have x1 := (hax.below HBW.out).c1
        have x2 := (hax.below HBW.out).c2
        have y0 := (hay.below HBW.out).c0
        have y1 := (hay.below HBW.out).c1
        have y2 := (hay.below HBW.out).c2
        have HX := Lib.hid hx
        have HY := Lib.hid hy
        have i1 : (0 : Int) ≤ (k : Int) := by omega
        have i2 : (k : Int) < (a.length : Int) := by omega
        have i3 : (k : Int) < (b.length : Int) := by omega
        clear hx hy hc1 hc2 hax hay hxa hxk hya hyk hr hmx
        go_wp2_with fail
        go_region_held3 (fun w' => w'.cell? ⟨w.heap.size, 0, none⟩ = some (.slice (some ⟨b1, o1, none⟩) a.length ca) ∧ w'.cell? ⟨w.heap.size + 1, 0, none⟩ = some (.slice (some ⟨b2, o2, none⟩) b.length cb) ∧ w'.cell? ⟨b1, o1 + k * 3, none⟩ = some (str x.name) ∧ w'.cell? ⟨b1, o1 + k * 3 + 1, none⟩ = some (.slice Aa x.attrs.length na) ∧ w'.cell? ⟨b1, o1 + k * 3 + 2, none⟩ = some (.slice Ak x.key.length nk) ∧ w'.cell? ⟨b2, o2 + k * 3, none⟩ = some (str y.name) ∧ w'.cell? ⟨b2, o2 + k * 3 + 1, none⟩ = some (.slice Ba y.attrs.length ma) ∧ w'.cell? ⟨b2, o2 + k * 3 + 2, none⟩ = some (.slice Bk y.key.length mk)) (go_keep)
          (first | (go_at_call 25; refine (CT.out _ (HBW.out.trans (below_drewN _ _ 1))).mono ?_; rintro e w2 ⟨rfl, hb⟩; have hb1 := (below_drewN wr.heap.size wr 1).trans hb; have g1 := Lib.hid hb1; have p0 := cellB hb1 b1'; have p1 := cellB hb1 b2'; have p2 := cellB hb1 x0; have p3 := cellB hb1 x1; have p4 := cellB hb1 x2; have p5 := cellB hb1 y0; have p6 := cellB hb1 y1; have p7 := cellB hb1 y2; clear hb hb1))
        have HW2 := Lib.hid (HW.out.trans (g1.out.mono HW.out.size))
        clear p0 p1 p2 p3 p4 p5 p6 p7 x0 x1 x2 y0 y1 y2 b1' b2' CT
        cases r
        · have HN := Lib.hid (ne_at hlt hkb (by rw [HX.out, HY.out]; exact of_decide_eq_false HR.out))
          go_wp2_with fail
          go_ret
          exact ⟨bool_ret (decide_eq_false HN.out).symm, HBW.out.trans (g1.out.mono HBW.out.size)⟩
        · have HN := Lib.hid (eqTo_succ HE.out hlt hkb (by rw [HX.out, HY.out]; exact of_decide_eq_true HR.out))
          clear g1
          go_wp2_with fail
          go_roundw
          case rel => exact ⟨k + 1, by omega, by simp, HN.out, HW2.out⟩
          case measure => simp [intOf]; omega
      · have HN := Lib.hid (eqTo_all HE.out HL.out (by omega))
        go_wp2_with fail
        go_ret
        exact ⟨bool_ret (decide_eq_true HN.out).symm, HBW.out⟩
  · have q0 : ((a.length : Int) != (b.length : Int)) = true := by simp; omega
    have HL := Lib.hid hl
    clear hl
    go_enter Tryz.func15, Tryz.ntmps15
    go_wp2_with fail
    rw [HX0.out]
    go_ret
    exact ⟨bool_ret (decide_eq_false (fun e => HL.out (by rw [e]))).symm, HBX.out⟩
end Go.Proofs.YteokcgfbhaeklaaGreatDoor

