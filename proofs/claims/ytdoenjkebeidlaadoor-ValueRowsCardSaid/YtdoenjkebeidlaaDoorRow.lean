/- Rows in memory; the contracts of short, CompareRows and the reference's CompareRows on them. -/
import Derived.Test.YtdoenjkebeidlaaDoorShort
import Derived.Test.YtdoenjkebeidlaaDoorCmp
import Derived.Test.YtdoenjkebeidlaaDoorRefA
import Derived.Test.YtdoenjkebeidlaaDoorMathQ
namespace Go.Proofs.YtdoenjkebeidlaaDoor
open Go.RowKit

/-- A slice at A whose cells are the values vs. -/
def Row (w : World) (A : Option Addr) (vs : List T3) : Prop :=
  ∀ i (h : i < vs.length), ∃ b off, A = some ⟨b, off, none⟩ ∧ w.cell? ⟨b, off + i * 3, none⟩ = some (.int .i64 (vs[i]).1) ∧ w.cell? ⟨b, off + i * 3 + 1, none⟩ = some (.int .i64 (vs[i]).2.1) ∧ w.cell? ⟨b, off + i * 3 + 2, none⟩ = some (.string ⟨(vs[i]).2.2.toArray⟩)
theorem Row.below {w w1 : World} {A : Option Addr} {vs : List T3} (h : Row w A vs) (hb : Below w.heap.size w w1) : Row w1 A vs := fun i hi => by
  obtain ⟨b, off, h1, h2, h3, h4⟩ := h i hi
  exact ⟨b, off, h1, cellB hb h2, cellB hb h3, cellB hb h4⟩

theorem cellA {w : World} {b o : Nat} {v : Value} (h : w.cell? ⟨b, o, none⟩ = some v) (ob : Obj) : (w.alloc ob).cell? ⟨b, o, none⟩ = some v :=
  cellB ((Below.refl _ _).alloc (Nat.le_refl _) _) h

theorem short_row (vs : List T3) (A : Option Addr) (cap : Nat) (hl : vs.length ≤ 20) (w : World) (hr : Row w A vs) :
    Calls Tryd.prog 12 #[.slice A vs.length cap] w fun e w' => e = .returned (.bool (shortB (vs.map fun v => v.2.2))) ∧ w = w' := by
  obtain ⟨ts, hts⟩ : ∃ ts, vs.map (fun v => v.2.2) = ts := ⟨_, rfl⟩
  have hlen : ts.length = vs.length := by rw [← hts, List.length_map]
  by_cases h0 : vs.length = 0
  · have e : ts = [] := List.length_eq_zero_iff.1 (by omega)
    rw [hts, e, h0]
    clear hts hlen
    go_enter Tryd.func12, Tryd.ntmps12
    go_wp2_with fail
    refine wp_loop_rounds 1 ?_
    rw [rounds_succ]
    go_wp2_with fail
    go_ret
    exact ⟨rfl, rfl⟩
  · obtain ⟨b, off, rfl, _⟩ := hr 0 (by omega)
    rw [hts, ← hlen]
    refine short_any ts b off cap (by omega) w (fun i h => ?_)
    obtain ⟨b', off', e, _, _, h3⟩ := hr i (by omega)
    obtain ⟨rfl, rfl⟩ : b' = b ∧ off' = off := by simp at e; exact ⟨e.1.symm, e.2.symm⟩
    rw [h3]
    subst hts
    simp

set_option maxRecDepth 100000 in
set_option maxHeartbeats 1600000 in
theorem cmpfunc_any (xs ys : List T3) (A B : Option Addr) (ca cb : Nat) (hx : xs.length ≤ 20) (hy : ys.length ≤ 20) (w : World) (ra : Row w A xs) (rb : Row w B ys) :
    Calls Tryd.prog 45 #[.slice A xs.length ca, .slice B ys.length cb, .func (Fn.func 19) #[] #[]] w fun e w' => e = .returned (.int .i64 (cmpR xs ys)) ∧ Below w.heap.size w w' := by
  have HX := Lib.hid hx
  have HY := Lib.hid hy
  have RA := Lib.hid ra
  have RB := Lib.hid rb
  clear hx hy ra rb
  go_enter Tryd.func45, Tryd.ntmps45
  go_wp2_with fail
  go_loopw [13] (fun i wr => ∃ k : Nat, k ≤ xs.length ∧ k ≤ ys.length ∧ i = .int .i64 (k : Int) ∧ cmpR xs ys = cmpR (xs.drop k) (ys.drop k) ∧ Below w.heap.size w wr) (fun i _ => xs.length - (intOf i).toNat)
  case atStart => exact ⟨0, by omega, by omega, by simp, by simp, Below.refl _ _⟩
  case round =>
    obtain ⟨k, hk, hk2, rfl, hc, hb⟩ := hrel
    have HC := Lib.hid hc
    have HB := Lib.hid hb
    clear hc hb
    have hX := HX.out
    have hY := HY.out
    by_cases hlt : k < xs.length
    · obtain ⟨b, off, rfl, a0, a1, a2⟩ := (RA.out.below HB.out) k hlt
      by_cases hlt2 : k < ys.length
      · obtain ⟨b2, off2, rfl, b0, b1, b2'⟩ := (RB.out.below HB.out) k hlt2
        obtain ⟨c, hcc⟩ : ∃ c, cmpT xs[k] ys[k] = c := ⟨_, rfl⟩
        have HCC := Lib.hid hcc
        clear hcc
        have y0 := cellA b0; have y1 := cellA b1; have y2 := cellA b2'
        go_wp2_with fail
        have C := fun W => compare_any (xs[k]).1 (xs[k]).2.1 (xs[k]).2.2 (ys[k]).1 (ys[k]).2.1 (ys[k]).2.2 W
        rw [show cmpV (xs[k]).1 (xs[k]).2.1 (xs[k]).2.2 (ys[k]).1 (ys[k]).2.1 (ys[k]).2.2 = c from HCC.out] at C
        refine (C _).mono ?_
        clear C
        rintro e w1 ⟨rfl, hb1⟩
        have HB1 := Lib.hid (below_up ((HB.out.alloc HB.out.size _).alloc (by have := HB.out.size; simp; omega) _) hb1 (by have := HB.out.size; simp; omega))
        clear hb1 y0 y1 y2 a0 a1 a2 b0 b1 b2'
        by_cases h0 : c = 0
        · have HN := Lib.hid (cmpR_drop_eq HC.out hlt hlt2 (HCC.out.trans h0))
          subst h0
          go_wp2_with fail
          go_roundw
          case rel => exact ⟨k + 1, by omega, by omega, by simp, HN.out, HB1.out⟩
          case measure => simp [intOf]; omega
        · have HN := Lib.hid (cmpR_drop_ne HC.out hlt hlt2 HCC.out h0)
          have q1 : (c != 0) = true := by simpa using h0
          clear h0
          go_wp2_with fail
          go_ret
          exact ⟨ret_int HN.out.symm, HB1.out⟩
      · have HG := Lib.hid (cmpR_drop_gt HC.out hlt (by omega))
        go_wp2_with fail
        go_ret
        exact ⟨ret_int HG.out.symm, HB.out.alloc HB.out.size _⟩
    · have HG := Lib.hid (cmpR_drop_end HC.out (by omega))
      by_cases hlt2 : xs.length < ys.length
      · go_wp2_with fail
        go_ret
        exact ⟨ret_int (by rw [HG.out, if_pos (by omega)]), HB.out⟩
      · go_wp2_with fail
        go_ret
        exact ⟨ret_int (by rw [HG.out, if_neg (by omega)]), HB.out⟩

theorem comparerows_any (xs ys : List T3) (A B : Option Addr) (ca cb : Nat) (hx : xs.length ≤ 20) (hy : ys.length ≤ 20) (w : World) (ra : Row w A xs) (rb : Row w B ys) :
    Calls Tryd.prog 25 #[.slice A xs.length ca, .slice B ys.length cb] w fun e w' => e = .returned (.int .i64 (cmpR xs ys)) ∧ Below w.heap.size w w' := by
  have HX := Lib.hid hx
  have HY := Lib.hid hy
  have RA := Lib.hid ra
  have RB := Lib.hid rb
  clear hx hy ra rb
  go_enter Tryd.func25, Tryd.ntmps25
  go_wp2_with fail
  refine (cmpfunc_any xs ys A B ca cb HX.out HY.out _ RA.out RB.out).mono ?_
  rintro e w1 ⟨rfl, hb⟩
  have HB := Lib.hid hb
  clear hb
  go_wp2_with fail
  go_ret
  exact ⟨rfl, HB.out⟩

set_option maxRecDepth 100000 in
set_option maxHeartbeats 1600000 in
theorem refrows_any (xs ys : List T3) (A B : Option Addr) (ca cb : Nat) (hx : xs.length ≤ 20) (hy : ys.length ≤ 20) (w : World) (ra : Row w A xs) (rb : Row w B ys) :
    Calls Tryd.prog 26 #[.slice A xs.length ca, .slice B ys.length cb] w fun e w' => e = .returned (.int .i64 (cmpR xs ys)) ∧ Below w.heap.size w w' := by
  have HX := Lib.hid hx
  have HY := Lib.hid hy
  have RA := Lib.hid ra
  have RB := Lib.hid rb
  clear hx hy ra rb
  go_enter Tryd.func26, Tryd.ntmps26
  go_wp2_with fail
  go_loopw [5] (fun i wr => ∃ k : Nat, k ≤ xs.length ∧ k ≤ ys.length ∧ i = .int .i64 (k : Int) ∧ cmpR xs ys = cmpR (xs.drop k) (ys.drop k) ∧ Below w.heap.size w wr) (fun i _ => xs.length - (intOf i).toNat)
  case atStart => exact ⟨0, by omega, by omega, by simp, by simp, Below.refl _ _⟩
  case round =>
    obtain ⟨k, hk, hk2, rfl, hc, hb⟩ := hrel
    have HC := Lib.hid hc
    have HB := Lib.hid hb
    clear hc hb
    have hX := HX.out
    have hY := HY.out
    by_cases hlt : k < xs.length
    · by_cases hlt2 : k < ys.length
      · obtain ⟨b, off, rfl, a0, a1, a2⟩ := (RA.out.below HB.out) k hlt
        obtain ⟨b2, off2, rfl, b0, b1, b2'⟩ := (RB.out.below HB.out) k hlt2
        obtain ⟨c, hcc⟩ : ∃ c, cmpT xs[k] ys[k] = c := ⟨_, rfl⟩
        have HCC := Lib.hid hcc
        clear hcc
        have i1 : (0 : Int) ≤ (k : Int) := by omega
        have i2 : (k : Int) < (xs.length : Int) := by omega
        have i3 : (k : Int) < (ys.length : Int) := by omega
        go_wp2_with fail
        have CT : Hid (∀ W, Calls Tryd.prog 20 #[V (xs[k]).1 (xs[k]).2.1 (xs[k]).2.2, V (ys[k]).1 (ys[k]).2.1 (ys[k]).2.2] W fun e w' => e = .returned (.int .i64 c) ∧ Below W.heap.size W w') := Lib.hid (fun W => by
          have C := refcompare_any (xs[k]).1 (xs[k]).2.1 (xs[k]).2.2 (ys[k]).1 (ys[k]).2.1 (ys[k]).2.2 W
          rw [show cmpV (xs[k]).1 (xs[k]).2.1 (xs[k]).2.2 (ys[k]).1 (ys[k]).2.1 (ys[k]).2.2 = c from HCC.out] at C
          exact C)
        go_region_held3 (fun w' => w'.cell? ⟨b, off + k * 3, none⟩ = some (.int .i64 (xs[k]).1) ∧ w'.cell? ⟨b, off + k * 3 + 1, none⟩ = some (.int .i64 (xs[k]).2.1) ∧ w'.cell? ⟨b, off + k * 3 + 2, none⟩ = some (.string ⟨(xs[k]).2.2.toArray⟩) ∧ w'.cell? ⟨b2, off2 + k * 3, none⟩ = some (.int .i64 (ys[k]).1) ∧ w'.cell? ⟨b2, off2 + k * 3 + 1, none⟩ = some (.int .i64 (ys[k]).2.1) ∧ w'.cell? ⟨b2, off2 + k * 3 + 2, none⟩ = some (.string ⟨(ys[k]).2.2.toArray⟩)) (go_keep)
          (first | (go_at_call 20; refine (CT.out _).mono ?_; rintro e v1 ⟨rfl, hv1⟩; have g1 := Lib.hid ((below_drewN _ wr 1).trans hv1); clear hv1; have p0 := cellB g1.out a0; have p1 := cellB g1.out a1; have p2 := cellB g1.out a2; have q0 := cellB g1.out b0; have q1 := cellB g1.out b1; have q2 := cellB g1.out b2'))
        have HB1 := Lib.hid (below_up HB.out g1.out HB.out.size)
        clear g1 p0 p1 p2 q0 q1 q2 a0 a1 a2 b0 b1 b2' CT
        by_cases h0 : c = 0
        · have HN := Lib.hid (cmpR_drop_eq HC.out hlt hlt2 (HCC.out.trans h0))
          subst h0
          go_wp2_with fail
          go_roundw
          case rel => exact ⟨k + 1, by omega, by omega, by simp, HN.out, HB1.out⟩
          case measure => simp [intOf]; omega
        · have HN := Lib.hid (cmpR_drop_ne HC.out hlt hlt2 HCC.out h0)
          have q1 : (c != 0) = true := by simpa using h0
          clear h0
          go_wp2_with fail
          go_ret
          exact ⟨ret_int HN.out.symm, HB1.out⟩
      · have HG := Lib.hid (cmpR_drop_gt HC.out hlt (by omega))
        go_wp2_with fail
        refine (sign_any xs.length ys.length _).mono ?_
        rintro e w1 ⟨rfl, rfl⟩
        go_wp2_with fail
        go_ret
        exact ⟨ret_int (by rw [HG.out, cmpI_gt (by omega)]), HB.out⟩
    · have HG := Lib.hid (cmpR_drop_end HC.out (by omega))
      go_wp2_with fail
      refine (sign_any xs.length ys.length _).mono ?_
      rintro e w1 ⟨rfl, rfl⟩
      go_wp2_with fail
      go_ret
      refine ⟨ret_int ?_, HB.out⟩
      rw [HG.out]
      split
      · rw [cmpI_lt (by omega)]
      · rw [show (xs.length : Int) = ys.length by omega, cmpI_self]
end Go.Proofs.YtdoenjkebeidlaaDoor
