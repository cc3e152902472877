/- The walks of ValueRows. -/
import Derived.Test.YtdoenjkebeidlaaDoorHead
import Derived.Test.YtdoenjkebeidlaaDoorRow
import Derived.Test.YtdoenjkebeidlaaDoorEql
namespace Go.Proofs.YtdoenjkebeidlaaDoor
open Go.RowKit

/-- The texts of a row are short. -/
abbrev shortR (vs : List T3) : Bool := shortB (vs.map fun v => v.2.2)

set_option maxRecDepth 100000 in
set_option maxHeartbeats 3200000 in
theorem rows_l1 (A B C : Option Addr) (la lb lc ca cb cc : Nat) (h : 20 < la) (w : World) (he : Env w) :
    Calls Tryd.prog 4 #[.slice A la ca, .slice B lb cb, .slice C lc cc] w fun e w' => e = .returned (.bool true) ∧ Below w.heap.size w w' := by
  go_enter Tryd.func4, Tryd.ntmps4
  go_wp2_with fail
  refine (head_any _ he).mono ?_
  rintro e w1 ⟨rfl, hb⟩
  have HB := Lib.hid hb
  clear hb
  go_wp2_with fail
  go_ret
  exact ⟨rfl, HB.out⟩

set_option maxRecDepth 100000 in
set_option maxHeartbeats 3200000 in
theorem rows_l2 (A B C : Option Addr) (la lb lc ca cb cc : Nat) (h0 : ¬ 20 < la) (h : 20 < lb) (w : World) (he : Env w) :
    Calls Tryd.prog 4 #[.slice A la ca, .slice B lb cb, .slice C lc cc] w fun e w' => e = .returned (.bool true) ∧ Below w.heap.size w w' := by
  go_enter Tryd.func4, Tryd.ntmps4
  go_wp2_with fail
  refine (head_any _ he).mono ?_
  rintro e w1 ⟨rfl, hb⟩
  have HB := Lib.hid hb
  clear hb
  go_wp2_with fail
  go_ret
  exact ⟨rfl, HB.out⟩

set_option maxRecDepth 100000 in
set_option maxHeartbeats 3200000 in
theorem rows_l3 (A B C : Option Addr) (la lb lc ca cb cc : Nat) (h0 : ¬ 20 < la) (h1 : ¬ 20 < lb) (h : 20 < lc) (w : World) (he : Env w) :
    Calls Tryd.prog 4 #[.slice A la ca, .slice B lb cb, .slice C lc cc] w fun e w' => e = .returned (.bool true) ∧ Below w.heap.size w w' := by
  go_enter Tryd.func4, Tryd.ntmps4
  go_wp2_with fail
  refine (head_any _ he).mono ?_
  rintro e w1 ⟨rfl, hb⟩
  have HB := Lib.hid hb
  clear hb
  go_wp2_with fail
  go_ret
  exact ⟨rfl, HB.out⟩

set_option maxRecDepth 100000 in
set_option maxHeartbeats 3200000 in
theorem rows_s1 (A B C : Option Addr) (xs ys zs : List T3) (ca cb cc : Nat) (hx : xs.length ≤ 20) (hy : ys.length ≤ 20) (hz : zs.length ≤ 20) (sxs : shortR xs = false) (w : World) (ra : Row w A xs) (rb : Row w B ys) (rc : Row w C zs) (he : Env w) :
    Calls Tryd.prog 4 #[.slice A xs.length ca, .slice B ys.length cb, .slice C zs.length cc] w fun e w' => e = .returned (.bool true) ∧ Below w.heap.size w w' := by
  have HX := Lib.hid hx
  have HY := Lib.hid hy
  have HZ := Lib.hid hz
  go_enter Tryd.func4, Tryd.ntmps4
  go_wp2_with fail
  refine (head_any _ he).mono ?_
  rintro e w1 ⟨rfl, hb⟩
  have HB := Lib.hid hb
  have RA := Lib.hid (ra.below hb)
  have RB := Lib.hid (rb.below hb)
  have RC := Lib.hid (rc.below hb)
  clear hb ra rb rc he
  have n1 : ¬ 20 < xs.length := by have := HX.out; omega
  have n2 : ¬ 20 < ys.length := by have := HY.out; omega
  have n3 : ¬ 20 < zs.length := by have := HZ.out; omega
  go_wp2_with fail
  have C := short_row xs A ca HX.out _ RA.out
  rw [show shortB (List.map (fun v => v.2.2) xs) = false from sxs] at C
  refine C.mono ?_
  clear C
  rintro e w2 ⟨rfl, rfl⟩
  go_wp2_with fail
  go_ret
  exact ⟨rfl, HB.out⟩

set_option maxRecDepth 100000 in
set_option maxHeartbeats 3200000 in
theorem rows_s2 (A B C : Option Addr) (xs ys zs : List T3) (ca cb cc : Nat) (hx : xs.length ≤ 20) (hy : ys.length ≤ 20) (hz : zs.length ≤ 20) (sxs : shortR xs = true) (sys : shortR ys = false) (w : World) (ra : Row w A xs) (rb : Row w B ys) (rc : Row w C zs) (he : Env w) :
    Calls Tryd.prog 4 #[.slice A xs.length ca, .slice B ys.length cb, .slice C zs.length cc] w fun e w' => e = .returned (.bool true) ∧ Below w.heap.size w w' := by
  have HX := Lib.hid hx
  have HY := Lib.hid hy
  have HZ := Lib.hid hz
  go_enter Tryd.func4, Tryd.ntmps4
  go_wp2_with fail
  refine (head_any _ he).mono ?_
  rintro e w1 ⟨rfl, hb⟩
  have HB := Lib.hid hb
  have RA := Lib.hid (ra.below hb)
  have RB := Lib.hid (rb.below hb)
  have RC := Lib.hid (rc.below hb)
  clear hb ra rb rc he
  have n1 : ¬ 20 < xs.length := by have := HX.out; omega
  have n2 : ¬ 20 < ys.length := by have := HY.out; omega
  have n3 : ¬ 20 < zs.length := by have := HZ.out; omega
  go_wp2_with fail
  have C := short_row xs A ca HX.out _ RA.out
  rw [show shortB (List.map (fun v => v.2.2) xs) = true from sxs] at C
  refine C.mono ?_
  clear C
  rintro e w2 ⟨rfl, rfl⟩
  go_wp2_with fail
  have C := short_row ys B cb HY.out _ RB.out
  rw [show shortB (List.map (fun v => v.2.2) ys) = false from sys] at C
  refine C.mono ?_
  clear C
  rintro e w2 ⟨rfl, rfl⟩
  go_wp2_with fail
  go_ret
  exact ⟨rfl, HB.out⟩

set_option maxRecDepth 100000 in
set_option maxHeartbeats 3200000 in
theorem rows_s3 (A B C : Option Addr) (xs ys zs : List T3) (ca cb cc : Nat) (hx : xs.length ≤ 20) (hy : ys.length ≤ 20) (hz : zs.length ≤ 20) (sxs : shortR xs = true) (sys : shortR ys = true) (szs : shortR zs = false) (w : World) (ra : Row w A xs) (rb : Row w B ys) (rc : Row w C zs) (he : Env w) :
    Calls Tryd.prog 4 #[.slice A xs.length ca, .slice B ys.length cb, .slice C zs.length cc] w fun e w' => e = .returned (.bool true) ∧ Below w.heap.size w w' := by
  have HX := Lib.hid hx
  have HY := Lib.hid hy
  have HZ := Lib.hid hz
  go_enter Tryd.func4, Tryd.ntmps4
  go_wp2_with fail
  refine (head_any _ he).mono ?_
  rintro e w1 ⟨rfl, hb⟩
  have HB := Lib.hid hb
  have RA := Lib.hid (ra.below hb)
  have RB := Lib.hid (rb.below hb)
  have RC := Lib.hid (rc.below hb)
  clear hb ra rb rc he
  have n1 : ¬ 20 < xs.length := by have := HX.out; omega
  have n2 : ¬ 20 < ys.length := by have := HY.out; omega
  have n3 : ¬ 20 < zs.length := by have := HZ.out; omega
  go_wp2_with fail
  have C := short_row xs A ca HX.out _ RA.out
  rw [show shortB (List.map (fun v => v.2.2) xs) = true from sxs] at C
  refine C.mono ?_
  clear C
  rintro e w2 ⟨rfl, rfl⟩
  go_wp2_with fail
  have C := short_row ys B cb HY.out _ RB.out
  rw [show shortB (List.map (fun v => v.2.2) ys) = true from sys] at C
  refine C.mono ?_
  clear C
  rintro e w2 ⟨rfl, rfl⟩
  go_wp2_with fail
  have C := short_row zs C cc HZ.out _ RC.out
  rw [show shortB (List.map (fun v => v.2.2) zs) = false from szs] at C
  refine C.mono ?_
  clear C
  rintro e w2 ⟨rfl, rfl⟩
  go_wp2_with fail
  go_ret
  exact ⟨rfl, HB.out⟩

set_option maxRecDepth 100000 in
set_option maxHeartbeats 3200000 in
theorem rows_p (A B C : Option Addr) (xs ys zs : List T3) (ca cb cc : Nat) (hx : xs.length ≤ 20) (hy : ys.length ≤ 20) (hz : zs.length ≤ 20) (sxs : shortR xs = true) (sys : shortR ys = true) (szs : shortR zs = true) (hc : cmpR xs ys = 1) (hc2 : cmpR ys xs = -1) (hne : ¬ xs = ys) (w : World) (ra : Row w A xs) (rb : Row w B ys) (rc : Row w C zs) (he : Env w) :
    Calls Tryd.prog 4 #[.slice A xs.length ca, .slice B ys.length cb, .slice C zs.length cc] w fun e w' => e = .returned (.bool true) ∧ Below w.heap.size w w' := by
  have HC := Lib.hid hc; clear hc
  have HC2 := Lib.hid hc2; clear hc2
  have HN := Lib.hid hne; clear hne
  have HX := Lib.hid hx
  have HY := Lib.hid hy
  have HZ := Lib.hid hz
  go_enter Tryd.func4, Tryd.ntmps4
  go_wp2_with fail
  refine (head_any _ he).mono ?_
  rintro e w1 ⟨rfl, hb⟩
  have HB := Lib.hid hb
  have RA := Lib.hid (ra.below hb)
  have RB := Lib.hid (rb.below hb)
  have RC := Lib.hid (rc.below hb)
  clear hb ra rb rc he
  have n1 : ¬ 20 < xs.length := by have := HX.out; omega
  have n2 : ¬ 20 < ys.length := by have := HY.out; omega
  have n3 : ¬ 20 < zs.length := by have := HZ.out; omega
  go_wp2_with fail
  have C := short_row xs A ca HX.out _ RA.out
  rw [show shortB (List.map (fun v => v.2.2) xs) = true from sxs] at C
  refine C.mono ?_
  clear C
  rintro e w2 ⟨rfl, rfl⟩
  go_wp2_with fail
  have C := short_row ys B cb HY.out _ RB.out
  rw [show shortB (List.map (fun v => v.2.2) ys) = true from sys] at C
  refine C.mono ?_
  clear C
  rintro e w2 ⟨rfl, rfl⟩
  go_wp2_with fail
  have C := short_row zs C cc HZ.out _ RC.out
  rw [show shortB (List.map (fun v => v.2.2) zs) = true from szs] at C
  refine C.mono ?_
  clear C
  rintro e w2 ⟨rfl, rfl⟩
  go_wp2_with fail
  have C := comparerows_any xs ys A B ca cb HX.out HY.out _ RA.out RB.out
  rw [HC.out] at C
  refine C.mono ?_
  clear C
  rintro e w3 ⟨rfl, hb⟩
  replace RA := Lib.hid (RA.out.below hb)
  replace RB := Lib.hid (RB.out.below hb)
  replace RC := Lib.hid (RC.out.below hb)
  replace HB := Lib.hid (below_up HB.out hb HB.out.size)
  clear hb
  go_wp2_with fail
  have C := refrows_any xs ys A B ca cb HX.out HY.out _ RA.out RB.out
  rw [HC.out] at C
  refine C.mono ?_
  clear C
  rintro e w4 ⟨rfl, hb⟩
  replace RA := Lib.hid (RA.out.below hb)
  replace RB := Lib.hid (RB.out.below hb)
  replace RC := Lib.hid (RC.out.below hb)
  replace HB := Lib.hid (below_up HB.out hb HB.out.size)
  clear hb
  go_wp2_with fail
  have C := comparerows_any ys xs B A cb ca HY.out HX.out _ RB.out RA.out
  rw [HC2.out] at C
  refine C.mono ?_
  clear C
  rintro e w5 ⟨rfl, hb⟩
  replace RA := Lib.hid (RA.out.below hb)
  replace RB := Lib.hid (RB.out.below hb)
  replace RC := Lib.hid (RC.out.below hb)
  replace HB := Lib.hid (below_up HB.out hb HB.out.size)
  clear hb
  go_wp2_with fail
  have hX := HX.out
  have hY := HY.out
  go_loopw [9, 10] (fun s i wr => ∃ k : Nat, k ≤ xs.length ∧ k ≤ ys.length ∧ i = .int .i64 (k : Int) ∧ s = .bool (sameB xs ys k) ∧ Below w5.heap.size w5 wr) (fun _ i _ => xs.length - (intOf i).toNat)
  case atStart => exact ⟨0, by omega, by omega, by simp, by rw [sameB_zero]; congr 1; rw [Bool.eq_iff_iff]; simp; omega, Below.refl _ _⟩
  case round =>
    obtain ⟨k, hk, hk2, rfl, rfl, hb⟩ := hrel
    have HL := Lib.hid hb
    clear hb
    by_cases hlt : k < xs.length
    · by_cases hlt2 : k < ys.length
      · have i1 : (0 : Int) ≤ (k : Int) := by omega
        have i2 : (k : Int) < (xs.length : Int) := by omega
        have i3 : (k : Int) < (ys.length : Int) := by omega
        cases hsm : sameB xs ys k
        · go_wp2_with fail
          go_quiet (fail)
          go_wp2_with fail
          go_roundw
          case rel => exact ⟨k + 1, by omega, by omega, by simp, by rw [sameB_false hsm], dN HL.out _⟩
          case measure => simp [intOf]; omega
        · obtain ⟨b, off, hA, a0, a1, a2⟩ := (RA.out.below HL.out) k hlt
          obtain ⟨b2, off2, hB, b0, b1, b2'⟩ := (RB.out.below HL.out) k hlt2
          subst hA
          subst hB
          by_cases hxy : xs[k] = ys[k]
          · rw [← hxy] at b0 b1 b2'
            have qe := eql_yes (xs[k]).1 (xs[k]).2.1 (xs[k]).2.2
            have HM := Lib.hid (show sameB xs ys (k + 1) = true by rw [sameB_step hsm hlt hlt2]; simpa using hxy)
            clear hxy
            go_wp2_with fail
            go_quiet (fail)
            go_wp2_with fail
            go_roundw
            case rel => exact ⟨k + 1, by omega, by omega, by simp, by rw [HM.out], dN HL.out _⟩
            case measure => simp [intOf]; omega
          · have qe := eql_no (k := (xs[k]).1) (n := (xs[k]).2.1) (t := (xs[k]).2.2) (k2 := (ys[k]).1) (n2 := (ys[k]).2.1) (t2 := (ys[k]).2.2) (fun h => hxy (Prod.ext h.1 (Prod.ext h.2.1 h.2.2)))
            have HM := Lib.hid (show sameB xs ys (k + 1) = false by rw [sameB_step hsm hlt hlt2]; simpa using hxy)
            clear hxy
            go_wp2_with fail
            go_quiet (fail)
            go_wp2_with fail
            go_roundw
            case rel => exact ⟨k + 1, by omega, by omega, by simp, by rw [HM.out], dN HL.out _⟩
            case measure => simp [intOf]; omega
      · have HS := Lib.hid (show sameB xs ys k = false by rw [sameB_all (by omega)]; simpa using HN.out)
        have hsame := HS.out
        clear HS
        have RA2 := Lib.hid (RA.out.below HL.out)
        have RB2 := Lib.hid (RB.out.below HL.out)
        have RC2 := Lib.hid (RC.out.below HL.out)
        have HB2 := Lib.hid (below_up HB.out HL.out HB.out.size)
        clear RA RB RC HB HL
        go_wp2_with fail
        go_ret
        exact ⟨rfl, HB2.out⟩
    · have HS := Lib.hid (show sameB xs ys k = false by rw [sameB_all (by omega)]; simpa using HN.out)
      have hsame := HS.out
      clear HS
      have RA2 := Lib.hid (RA.out.below HL.out)
      have RB2 := Lib.hid (RB.out.below HL.out)
      have RC2 := Lib.hid (RC.out.below HL.out)
      have HB2 := Lib.hid (below_up HB.out HL.out HB.out.size)
      clear RA RB RC HB HL
      go_wp2_with fail
      go_ret
      exact ⟨rfl, HB2.out⟩

set_option maxRecDepth 100000 in
set_option maxHeartbeats 3200000 in
theorem rows_mgt (A B C : Option Addr) (xs ys zs : List T3) (ca cb cc : Nat) (hx : xs.length ≤ 20) (hy : ys.length ≤ 20) (hz : zs.length ≤ 20) (sxs : shortR xs = true) (sys : shortR ys = true) (szs : shortR zs = true) (hc : cmpR xs ys = -1) (hc2 : cmpR ys xs = 1) (hne : ¬ xs = ys) (d : Int) (hd : cmpR ys zs = d) (hdd : 0 < d) (w : World) (ra : Row w A xs) (rb : Row w B ys) (rc : Row w C zs) (he : Env w) :
    Calls Tryd.prog 4 #[.slice A xs.length ca, .slice B ys.length cb, .slice C zs.length cc] w fun e w' => e = .returned (.bool true) ∧ Below w.heap.size w w' := by
  have HC := Lib.hid hc; clear hc
  have HC2 := Lib.hid hc2; clear hc2
  have HD := Lib.hid hd; clear hd
  have HN := Lib.hid hne; clear hne
  have HX := Lib.hid hx
  have HY := Lib.hid hy
  have HZ := Lib.hid hz
  go_enter Tryd.func4, Tryd.ntmps4
  go_wp2_with fail
  refine (head_any _ he).mono ?_
  rintro e w1 ⟨rfl, hb⟩
  have HB := Lib.hid hb
  have RA := Lib.hid (ra.below hb)
  have RB := Lib.hid (rb.below hb)
  have RC := Lib.hid (rc.below hb)
  clear hb ra rb rc he
  have n1 : ¬ 20 < xs.length := by have := HX.out; omega
  have n2 : ¬ 20 < ys.length := by have := HY.out; omega
  have n3 : ¬ 20 < zs.length := by have := HZ.out; omega
  go_wp2_with fail
  have C := short_row xs A ca HX.out _ RA.out
  rw [show shortB (List.map (fun v => v.2.2) xs) = true from sxs] at C
  refine C.mono ?_
  clear C
  rintro e w2 ⟨rfl, rfl⟩
  go_wp2_with fail
  have C := short_row ys B cb HY.out _ RB.out
  rw [show shortB (List.map (fun v => v.2.2) ys) = true from sys] at C
  refine C.mono ?_
  clear C
  rintro e w2 ⟨rfl, rfl⟩
  go_wp2_with fail
  have C := short_row zs C cc HZ.out _ RC.out
  rw [show shortB (List.map (fun v => v.2.2) zs) = true from szs] at C
  refine C.mono ?_
  clear C
  rintro e w2 ⟨rfl, rfl⟩
  go_wp2_with fail
  have C := comparerows_any xs ys A B ca cb HX.out HY.out _ RA.out RB.out
  rw [HC.out] at C
  refine C.mono ?_
  clear C
  rintro e w3 ⟨rfl, hb⟩
  replace RA := Lib.hid (RA.out.below hb)
  replace RB := Lib.hid (RB.out.below hb)
  replace RC := Lib.hid (RC.out.below hb)
  replace HB := Lib.hid (below_up HB.out hb HB.out.size)
  clear hb
  go_wp2_with fail
  have C := refrows_any xs ys A B ca cb HX.out HY.out _ RA.out RB.out
  rw [HC.out] at C
  refine C.mono ?_
  clear C
  rintro e w4 ⟨rfl, hb⟩
  replace RA := Lib.hid (RA.out.below hb)
  replace RB := Lib.hid (RB.out.below hb)
  replace RC := Lib.hid (RC.out.below hb)
  replace HB := Lib.hid (below_up HB.out hb HB.out.size)
  clear hb
  go_wp2_with fail
  have C := comparerows_any ys xs B A cb ca HY.out HX.out _ RB.out RA.out
  rw [HC2.out] at C
  refine C.mono ?_
  clear C
  rintro e w5 ⟨rfl, hb⟩
  replace RA := Lib.hid (RA.out.below hb)
  replace RB := Lib.hid (RB.out.below hb)
  replace RC := Lib.hid (RC.out.below hb)
  replace HB := Lib.hid (below_up HB.out hb HB.out.size)
  clear hb
  go_wp2_with fail
  have hX := HX.out
  have hY := HY.out
  go_loopw [9, 10] (fun s i wr => ∃ k : Nat, k ≤ xs.length ∧ k ≤ ys.length ∧ i = .int .i64 (k : Int) ∧ s = .bool (sameB xs ys k) ∧ Below w5.heap.size w5 wr) (fun _ i _ => xs.length - (intOf i).toNat)
  case atStart => exact ⟨0, by omega, by omega, by simp, by rw [sameB_zero]; congr 1; rw [Bool.eq_iff_iff]; simp; omega, Below.refl _ _⟩
  case round =>
    obtain ⟨k, hk, hk2, rfl, rfl, hb⟩ := hrel
    have HL := Lib.hid hb
    clear hb
    by_cases hlt : k < xs.length
    · by_cases hlt2 : k < ys.length
      · have i1 : (0 : Int) ≤ (k : Int) := by omega
        have i2 : (k : Int) < (xs.length : Int) := by omega
        have i3 : (k : Int) < (ys.length : Int) := by omega
        cases hsm : sameB xs ys k
        · go_wp2_with fail
          go_quiet (fail)
          go_wp2_with fail
          go_roundw
          case rel => exact ⟨k + 1, by omega, by omega, by simp, by rw [sameB_false hsm], dN HL.out _⟩
          case measure => simp [intOf]; omega
        · obtain ⟨b, off, hA, a0, a1, a2⟩ := (RA.out.below HL.out) k hlt
          obtain ⟨b2, off2, hB, b0, b1, b2'⟩ := (RB.out.below HL.out) k hlt2
          subst hA
          subst hB
          by_cases hxy : xs[k] = ys[k]
          · rw [← hxy] at b0 b1 b2'
            have qe := eql_yes (xs[k]).1 (xs[k]).2.1 (xs[k]).2.2
            have HM := Lib.hid (show sameB xs ys (k + 1) = true by rw [sameB_step hsm hlt hlt2]; simpa using hxy)
            clear hxy
            go_wp2_with fail
            go_quiet (fail)
            go_wp2_with fail
            go_roundw
            case rel => exact ⟨k + 1, by omega, by omega, by simp, by rw [HM.out], dN HL.out _⟩
            case measure => simp [intOf]; omega
          · have qe := eql_no (k := (xs[k]).1) (n := (xs[k]).2.1) (t := (xs[k]).2.2) (k2 := (ys[k]).1) (n2 := (ys[k]).2.1) (t2 := (ys[k]).2.2) (fun h => hxy (Prod.ext h.1 (Prod.ext h.2.1 h.2.2)))
            have HM := Lib.hid (show sameB xs ys (k + 1) = false by rw [sameB_step hsm hlt hlt2]; simpa using hxy)
            clear hxy
            go_wp2_with fail
            go_quiet (fail)
            go_wp2_with fail
            go_roundw
            case rel => exact ⟨k + 1, by omega, by omega, by simp, by rw [HM.out], dN HL.out _⟩
            case measure => simp [intOf]; omega
      · have HS := Lib.hid (show sameB xs ys k = false by rw [sameB_all (by omega)]; simpa using HN.out)
        have hsame := HS.out
        clear HS
        have RA2 := Lib.hid (RA.out.below HL.out)
        have RB2 := Lib.hid (RB.out.below HL.out)
        have RC2 := Lib.hid (RC.out.below HL.out)
        have HB2 := Lib.hid (below_up HB.out HL.out HB.out.size)
        clear RA RB RC HB HL
        go_wp2_with fail
        clear hsame
        have C := comparerows_any ys zs B C cb cc HY.out HZ.out _ RB2.out RC2.out
        rw [HD.out] at C
        refine C.mono ?_
        clear C
        rintro e w6 ⟨rfl, hb⟩
        replace RA2 := Lib.hid (RA2.out.below hb)
        replace RB2 := Lib.hid (RB2.out.below hb)
        replace RC2 := Lib.hid (RC2.out.below hb)
        replace HB2 := Lib.hid (below_up HB2.out hb HB2.out.size)
        clear hb
        go_wp2_with fail
        go_ret
        exact ⟨rfl, HB2.out⟩
    · have HS := Lib.hid (show sameB xs ys k = false by rw [sameB_all (by omega)]; simpa using HN.out)
      have hsame := HS.out
      clear HS
      have RA2 := Lib.hid (RA.out.below HL.out)
      have RB2 := Lib.hid (RB.out.below HL.out)
      have RC2 := Lib.hid (RC.out.below HL.out)
      have HB2 := Lib.hid (below_up HB.out HL.out HB.out.size)
      clear RA RB RC HB HL
      go_wp2_with fail
      clear hsame
      have C := comparerows_any ys zs B C cb cc HY.out HZ.out _ RB2.out RC2.out
      rw [HD.out] at C
      refine C.mono ?_
      clear C
      rintro e w6 ⟨rfl, hb⟩
      replace RA2 := Lib.hid (RA2.out.below hb)
      replace RB2 := Lib.hid (RB2.out.below hb)
      replace RC2 := Lib.hid (RC2.out.below hb)
      replace HB2 := Lib.hid (below_up HB2.out hb HB2.out.size)
      clear hb
      go_wp2_with fail
      go_ret
      exact ⟨rfl, HB2.out⟩

set_option maxRecDepth 100000 in
set_option maxHeartbeats 3200000 in
theorem rows_mle (A B C : Option Addr) (xs ys zs : List T3) (ca cb cc : Nat) (hx : xs.length ≤ 20) (hy : ys.length ≤ 20) (hz : zs.length ≤ 20) (sxs : shortR xs = true) (sys : shortR ys = true) (szs : shortR zs = true) (hc : cmpR xs ys = -1) (hc2 : cmpR ys xs = 1) (hne : ¬ xs = ys) (d : Int) (hd : cmpR ys zs = d) (hdd : d ≤ 0) (f : Int) (hf : cmpR xs zs = f) (hff : f ≤ 0) (w : World) (ra : Row w A xs) (rb : Row w B ys) (rc : Row w C zs) (he : Env w) :
    Calls Tryd.prog 4 #[.slice A xs.length ca, .slice B ys.length cb, .slice C zs.length cc] w fun e w' => e = .returned (.bool true) ∧ Below w.heap.size w w' := by
  have HC := Lib.hid hc; clear hc
  have HC2 := Lib.hid hc2; clear hc2
  have HD := Lib.hid hd; clear hd
  have HF := Lib.hid hf; clear hf
  have HN := Lib.hid hne; clear hne
  have HX := Lib.hid hx
  have HY := Lib.hid hy
  have HZ := Lib.hid hz
  go_enter Tryd.func4, Tryd.ntmps4
  go_wp2_with fail
  refine (head_any _ he).mono ?_
  rintro e w1 ⟨rfl, hb⟩
  have HB := Lib.hid hb
  have RA := Lib.hid (ra.below hb)
  have RB := Lib.hid (rb.below hb)
  have RC := Lib.hid (rc.below hb)
  clear hb ra rb rc he
  have n1 : ¬ 20 < xs.length := by have := HX.out; omega
  have n2 : ¬ 20 < ys.length := by have := HY.out; omega
  have n3 : ¬ 20 < zs.length := by have := HZ.out; omega
  go_wp2_with fail
  have C := short_row xs A ca HX.out _ RA.out
  rw [show shortB (List.map (fun v => v.2.2) xs) = true from sxs] at C
  refine C.mono ?_
  clear C
  rintro e w2 ⟨rfl, rfl⟩
  go_wp2_with fail
  have C := short_row ys B cb HY.out _ RB.out
  rw [show shortB (List.map (fun v => v.2.2) ys) = true from sys] at C
  refine C.mono ?_
  clear C
  rintro e w2 ⟨rfl, rfl⟩
  go_wp2_with fail
  have C := short_row zs C cc HZ.out _ RC.out
  rw [show shortB (List.map (fun v => v.2.2) zs) = true from szs] at C
  refine C.mono ?_
  clear C
  rintro e w2 ⟨rfl, rfl⟩
  go_wp2_with fail
  have C := comparerows_any xs ys A B ca cb HX.out HY.out _ RA.out RB.out
  rw [HC.out] at C
  refine C.mono ?_
  clear C
  rintro e w3 ⟨rfl, hb⟩
  replace RA := Lib.hid (RA.out.below hb)
  replace RB := Lib.hid (RB.out.below hb)
  replace RC := Lib.hid (RC.out.below hb)
  replace HB := Lib.hid (below_up HB.out hb HB.out.size)
  clear hb
  go_wp2_with fail
  have C := refrows_any xs ys A B ca cb HX.out HY.out _ RA.out RB.out
  rw [HC.out] at C
  refine C.mono ?_
  clear C
  rintro e w4 ⟨rfl, hb⟩
  replace RA := Lib.hid (RA.out.below hb)
  replace RB := Lib.hid (RB.out.below hb)
  replace RC := Lib.hid (RC.out.below hb)
  replace HB := Lib.hid (below_up HB.out hb HB.out.size)
  clear hb
  go_wp2_with fail
  have C := comparerows_any ys xs B A cb ca HY.out HX.out _ RB.out RA.out
  rw [HC2.out] at C
  refine C.mono ?_
  clear C
  rintro e w5 ⟨rfl, hb⟩
  replace RA := Lib.hid (RA.out.below hb)
  replace RB := Lib.hid (RB.out.below hb)
  replace RC := Lib.hid (RC.out.below hb)
  replace HB := Lib.hid (below_up HB.out hb HB.out.size)
  clear hb
  go_wp2_with fail
  have hX := HX.out
  have hY := HY.out
  go_loopw [9, 10] (fun s i wr => ∃ k : Nat, k ≤ xs.length ∧ k ≤ ys.length ∧ i = .int .i64 (k : Int) ∧ s = .bool (sameB xs ys k) ∧ Below w5.heap.size w5 wr) (fun _ i _ => xs.length - (intOf i).toNat)
  case atStart => exact ⟨0, by omega, by omega, by simp, by rw [sameB_zero]; congr 1; rw [Bool.eq_iff_iff]; simp; omega, Below.refl _ _⟩
  case round =>
    obtain ⟨k, hk, hk2, rfl, rfl, hb⟩ := hrel
    have HL := Lib.hid hb
    clear hb
    by_cases hlt : k < xs.length
    · by_cases hlt2 : k < ys.length
      · have i1 : (0 : Int) ≤ (k : Int) := by omega
        have i2 : (k : Int) < (xs.length : Int) := by omega
        have i3 : (k : Int) < (ys.length : Int) := by omega
        cases hsm : sameB xs ys k
        · go_wp2_with fail
          go_quiet (fail)
          go_wp2_with fail
          go_roundw
          case rel => exact ⟨k + 1, by omega, by omega, by simp, by rw [sameB_false hsm], dN HL.out _⟩
          case measure => simp [intOf]; omega
        · obtain ⟨b, off, hA, a0, a1, a2⟩ := (RA.out.below HL.out) k hlt
          obtain ⟨b2, off2, hB, b0, b1, b2'⟩ := (RB.out.below HL.out) k hlt2
          subst hA
          subst hB
          by_cases hxy : xs[k] = ys[k]
          · rw [← hxy] at b0 b1 b2'
            have qe := eql_yes (xs[k]).1 (xs[k]).2.1 (xs[k]).2.2
            have HM := Lib.hid (show sameB xs ys (k + 1) = true by rw [sameB_step hsm hlt hlt2]; simpa using hxy)
            clear hxy
            go_wp2_with fail
            go_quiet (fail)
            go_wp2_with fail
            go_roundw
            case rel => exact ⟨k + 1, by omega, by omega, by simp, by rw [HM.out], dN HL.out _⟩
            case measure => simp [intOf]; omega
          · have qe := eql_no (k := (xs[k]).1) (n := (xs[k]).2.1) (t := (xs[k]).2.2) (k2 := (ys[k]).1) (n2 := (ys[k]).2.1) (t2 := (ys[k]).2.2) (fun h => hxy (Prod.ext h.1 (Prod.ext h.2.1 h.2.2)))
            have HM := Lib.hid (show sameB xs ys (k + 1) = false by rw [sameB_step hsm hlt hlt2]; simpa using hxy)
            clear hxy
            go_wp2_with fail
            go_quiet (fail)
            go_wp2_with fail
            go_roundw
            case rel => exact ⟨k + 1, by omega, by omega, by simp, by rw [HM.out], dN HL.out _⟩
            case measure => simp [intOf]; omega
      · have HS := Lib.hid (show sameB xs ys k = false by rw [sameB_all (by omega)]; simpa using HN.out)
        have hsame := HS.out
        clear HS
        have RA2 := Lib.hid (RA.out.below HL.out)
        have RB2 := Lib.hid (RB.out.below HL.out)
        have RC2 := Lib.hid (RC.out.below HL.out)
        have HB2 := Lib.hid (below_up HB.out HL.out HB.out.size)
        clear RA RB RC HB HL
        go_wp2_with fail
        clear hsame
        have C := comparerows_any ys zs B C cb cc HY.out HZ.out _ RB2.out RC2.out
        rw [HD.out] at C
        refine C.mono ?_
        clear C
        rintro e w6 ⟨rfl, hb⟩
        replace RA2 := Lib.hid (RA2.out.below hb)
        replace RB2 := Lib.hid (RB2.out.below hb)
        replace RC2 := Lib.hid (RC2.out.below hb)
        replace HB2 := Lib.hid (below_up HB2.out hb HB2.out.size)
        clear hb
        go_wp2_with fail
        have C := comparerows_any xs zs A C ca cc HX.out HZ.out _ RA2.out RC2.out
        rw [HF.out] at C
        refine C.mono ?_
        clear C
        rintro e w7 ⟨rfl, hb⟩
        replace RA2 := Lib.hid (RA2.out.below hb)
        replace RB2 := Lib.hid (RB2.out.below hb)
        replace RC2 := Lib.hid (RC2.out.below hb)
        replace HB2 := Lib.hid (below_up HB2.out hb HB2.out.size)
        clear hb
        go_wp2_with fail
        go_ret
        exact ⟨rfl, HB2.out⟩
    · have HS := Lib.hid (show sameB xs ys k = false by rw [sameB_all (by omega)]; simpa using HN.out)
      have hsame := HS.out
      clear HS
      have RA2 := Lib.hid (RA.out.below HL.out)
      have RB2 := Lib.hid (RB.out.below HL.out)
      have RC2 := Lib.hid (RC.out.below HL.out)
      have HB2 := Lib.hid (below_up HB.out HL.out HB.out.size)
      clear RA RB RC HB HL
      go_wp2_with fail
      clear hsame
      have C := comparerows_any ys zs B C cb cc HY.out HZ.out _ RB2.out RC2.out
      rw [HD.out] at C
      refine C.mono ?_
      clear C
      rintro e w6 ⟨rfl, hb⟩
      replace RA2 := Lib.hid (RA2.out.below hb)
      replace RB2 := Lib.hid (RB2.out.below hb)
      replace RC2 := Lib.hid (RC2.out.below hb)
      replace HB2 := Lib.hid (below_up HB2.out hb HB2.out.size)
      clear hb
      go_wp2_with fail
      have C := comparerows_any xs zs A C ca cc HX.out HZ.out _ RA2.out RC2.out
      rw [HF.out] at C
      refine C.mono ?_
      clear C
      rintro e w7 ⟨rfl, hb⟩
      replace RA2 := Lib.hid (RA2.out.below hb)
      replace RB2 := Lib.hid (RB2.out.below hb)
      replace RC2 := Lib.hid (RC2.out.below hb)
      replace HB2 := Lib.hid (below_up HB2.out hb HB2.out.size)
      clear hb
      go_wp2_with fail
      go_ret
      exact ⟨rfl, HB2.out⟩

set_option maxRecDepth 100000 in
set_option maxHeartbeats 3200000 in
theorem rows_zgt (A B C : Option Addr) (xs zs : List T3) (ca cb cc : Nat) (hx : xs.length ≤ 20) (hz : zs.length ≤ 20) (sxs : shortR xs = true) (szs : shortR zs = true) (hc : cmpR xs xs = 0) (hc2 : cmpR xs xs = 0) (d : Int) (hd : cmpR xs zs = d) (hdd : 0 < d) (w : World) (ra : Row w A xs) (rb : Row w B xs) (rc : Row w C zs) (he : Env w) :
    Calls Tryd.prog 4 #[.slice A xs.length ca, .slice B xs.length cb, .slice C zs.length cc] w fun e w' => e = .returned (.bool true) ∧ Below w.heap.size w w' := by
  have HC := Lib.hid hc; clear hc
  have HC2 := Lib.hid hc2; clear hc2
  have HD := Lib.hid hd; clear hd
  have HX := Lib.hid hx
  have HZ := Lib.hid hz
  go_enter Tryd.func4, Tryd.ntmps4
  go_wp2_with fail
  refine (head_any _ he).mono ?_
  rintro e w1 ⟨rfl, hb⟩
  have HB := Lib.hid hb
  have RA := Lib.hid (ra.below hb)
  have RB := Lib.hid (rb.below hb)
  have RC := Lib.hid (rc.below hb)
  clear hb ra rb rc he
  have n1 : ¬ 20 < xs.length := by have := HX.out; omega
  have n3 : ¬ 20 < zs.length := by have := HZ.out; omega
  go_wp2_with fail
  have C := short_row xs A ca HX.out _ RA.out
  rw [show shortB (List.map (fun v => v.2.2) xs) = true from sxs] at C
  refine C.mono ?_
  clear C
  rintro e w2 ⟨rfl, rfl⟩
  go_wp2_with fail
  have C := short_row xs B cb HX.out _ RB.out
  rw [show shortB (List.map (fun v => v.2.2) xs) = true from sxs] at C
  refine C.mono ?_
  clear C
  rintro e w2 ⟨rfl, rfl⟩
  go_wp2_with fail
  have C := short_row zs C cc HZ.out _ RC.out
  rw [show shortB (List.map (fun v => v.2.2) zs) = true from szs] at C
  refine C.mono ?_
  clear C
  rintro e w2 ⟨rfl, rfl⟩
  go_wp2_with fail
  have C := comparerows_any xs xs A B ca cb HX.out HX.out _ RA.out RB.out
  rw [HC.out] at C
  refine C.mono ?_
  clear C
  rintro e w3 ⟨rfl, hb⟩
  replace RA := Lib.hid (RA.out.below hb)
  replace RB := Lib.hid (RB.out.below hb)
  replace RC := Lib.hid (RC.out.below hb)
  replace HB := Lib.hid (below_up HB.out hb HB.out.size)
  clear hb
  go_wp2_with fail
  have C := refrows_any xs xs A B ca cb HX.out HX.out _ RA.out RB.out
  rw [HC.out] at C
  refine C.mono ?_
  clear C
  rintro e w4 ⟨rfl, hb⟩
  replace RA := Lib.hid (RA.out.below hb)
  replace RB := Lib.hid (RB.out.below hb)
  replace RC := Lib.hid (RC.out.below hb)
  replace HB := Lib.hid (below_up HB.out hb HB.out.size)
  clear hb
  go_wp2_with fail
  have C := comparerows_any xs xs B A cb ca HX.out HX.out _ RB.out RA.out
  rw [HC2.out] at C
  refine C.mono ?_
  clear C
  rintro e w5 ⟨rfl, hb⟩
  replace RA := Lib.hid (RA.out.below hb)
  replace RB := Lib.hid (RB.out.below hb)
  replace RC := Lib.hid (RC.out.below hb)
  replace HB := Lib.hid (below_up HB.out hb HB.out.size)
  clear hb
  go_wp2_with fail
  have hX := HX.out
  go_loopw [9, 10] (fun s i wr => ∃ k : Nat, k ≤ xs.length ∧ k ≤ xs.length ∧ i = .int .i64 (k : Int) ∧ s = .bool (sameB xs xs k) ∧ Below w5.heap.size w5 wr) (fun _ i _ => xs.length - (intOf i).toNat)
  case atStart => exact ⟨0, by omega, by omega, by simp, by rw [sameB_zero]; simp, Below.refl _ _⟩
  case round =>
    obtain ⟨k, hk, hk2, rfl, rfl, hb⟩ := hrel
    have HL := Lib.hid hb
    clear hb
    by_cases hlt : k < xs.length
    · have hlt2 : k < xs.length := hlt
      have i1 : (0 : Int) ≤ (k : Int) := by omega
      have i2 : (k : Int) < (xs.length : Int) := by omega
      cases hsm : sameB xs xs k
      · go_wp2_with fail
        go_quiet (fail)
        go_wp2_with fail
        go_roundw
        case rel => exact ⟨k + 1, by omega, by omega, by simp, by rw [sameB_false hsm], dN HL.out _⟩
        case measure => simp [intOf]; omega
      · obtain ⟨b, off, hA, a0, a1, a2⟩ := (RA.out.below HL.out) k hlt
        obtain ⟨b2, off2, hB, b0, b1, b2'⟩ := (RB.out.below HL.out) k hlt2
        subst hA
        subst hB
        have qe := eql_yes (xs[k]).1 (xs[k]).2.1 (xs[k]).2.2
        have HM := Lib.hid (show sameB xs xs (k + 1) = true by rw [sameB_step hsm hlt hlt2]; simp)
        go_wp2_with fail
        go_quiet (fail)
        go_wp2_with fail
        go_roundw
        case rel => exact ⟨k + 1, by omega, by omega, by simp, by rw [HM.out], dN HL.out _⟩
        case measure => simp [intOf]; omega
    · have HS := Lib.hid (show sameB xs xs k = true by rw [sameB_all (by omega)]; simp)
      have hsame := HS.out
      clear HS
      have RA2 := Lib.hid (RA.out.below HL.out)
      have RB2 := Lib.hid (RB.out.below HL.out)
      have RC2 := Lib.hid (RC.out.below HL.out)
      have HB2 := Lib.hid (below_up HB.out HL.out HB.out.size)
      clear RA RB RC HB HL
      go_wp2_with fail
      clear hsame
      have C := comparerows_any xs zs B C cb cc HX.out HZ.out _ RB2.out RC2.out
      rw [HD.out] at C
      refine C.mono ?_
      clear C
      rintro e w6 ⟨rfl, hb⟩
      replace RA2 := Lib.hid (RA2.out.below hb)
      replace RB2 := Lib.hid (RB2.out.below hb)
      replace RC2 := Lib.hid (RC2.out.below hb)
      replace HB2 := Lib.hid (below_up HB2.out hb HB2.out.size)
      clear hb
      go_wp2_with fail
      go_ret
      exact ⟨rfl, HB2.out⟩

set_option maxRecDepth 100000 in
set_option maxHeartbeats 3200000 in
theorem rows_zle (A B C : Option Addr) (xs zs : List T3) (ca cb cc : Nat) (hx : xs.length ≤ 20) (hz : zs.length ≤ 20) (sxs : shortR xs = true) (szs : shortR zs = true) (hc : cmpR xs xs = 0) (hc2 : cmpR xs xs = 0) (d : Int) (hd : cmpR xs zs = d) (hdd : d ≤ 0) (f : Int) (hf : cmpR xs zs = f) (hff : f ≤ 0) (w : World) (ra : Row w A xs) (rb : Row w B xs) (rc : Row w C zs) (he : Env w) :
    Calls Tryd.prog 4 #[.slice A xs.length ca, .slice B xs.length cb, .slice C zs.length cc] w fun e w' => e = .returned (.bool true) ∧ Below w.heap.size w w' := by
  have HC := Lib.hid hc; clear hc
  have HC2 := Lib.hid hc2; clear hc2
  have HD := Lib.hid hd; clear hd
  have HF := Lib.hid hf; clear hf
  have HX := Lib.hid hx
  have HZ := Lib.hid hz
  go_enter Tryd.func4, Tryd.ntmps4
  go_wp2_with fail
  refine (head_any _ he).mono ?_
  rintro e w1 ⟨rfl, hb⟩
  have HB := Lib.hid hb
  have RA := Lib.hid (ra.below hb)
  have RB := Lib.hid (rb.below hb)
  have RC := Lib.hid (rc.below hb)
  clear hb ra rb rc he
  have n1 : ¬ 20 < xs.length := by have := HX.out; omega
  have n3 : ¬ 20 < zs.length := by have := HZ.out; omega
  go_wp2_with fail
  have C := short_row xs A ca HX.out _ RA.out
  rw [show shortB (List.map (fun v => v.2.2) xs) = true from sxs] at C
  refine C.mono ?_
  clear C
  rintro e w2 ⟨rfl, rfl⟩
  go_wp2_with fail
  have C := short_row xs B cb HX.out _ RB.out
  rw [show shortB (List.map (fun v => v.2.2) xs) = true from sxs] at C
  refine C.mono ?_
  clear C
  rintro e w2 ⟨rfl, rfl⟩
  go_wp2_with fail
  have C := short_row zs C cc HZ.out _ RC.out
  rw [show shortB (List.map (fun v => v.2.2) zs) = true from szs] at C
  refine C.mono ?_
  clear C
  rintro e w2 ⟨rfl, rfl⟩
  go_wp2_with fail
  have C := comparerows_any xs xs A B ca cb HX.out HX.out _ RA.out RB.out
  rw [HC.out] at C
  refine C.mono ?_
  clear C
  rintro e w3 ⟨rfl, hb⟩
  replace RA := Lib.hid (RA.out.below hb)
  replace RB := Lib.hid (RB.out.below hb)
  replace RC := Lib.hid (RC.out.below hb)
  replace HB := Lib.hid (below_up HB.out hb HB.out.size)
  clear hb
  go_wp2_with fail
  have C := refrows_any xs xs A B ca cb HX.out HX.out _ RA.out RB.out
  rw [HC.out] at C
  refine C.mono ?_
  clear C
  rintro e w4 ⟨rfl, hb⟩
  replace RA := Lib.hid (RA.out.below hb)
  replace RB := Lib.hid (RB.out.below hb)
  replace RC := Lib.hid (RC.out.below hb)
  replace HB := Lib.hid (below_up HB.out hb HB.out.size)
  clear hb
  go_wp2_with fail
  have C := comparerows_any xs xs B A cb ca HX.out HX.out _ RB.out RA.out
  rw [HC2.out] at C
  refine C.mono ?_
  clear C
  rintro e w5 ⟨rfl, hb⟩
  replace RA := Lib.hid (RA.out.below hb)
  replace RB := Lib.hid (RB.out.below hb)
  replace RC := Lib.hid (RC.out.below hb)
  replace HB := Lib.hid (below_up HB.out hb HB.out.size)
  clear hb
  go_wp2_with fail
  have hX := HX.out
  go_loopw [9, 10] (fun s i wr => ∃ k : Nat, k ≤ xs.length ∧ k ≤ xs.length ∧ i = .int .i64 (k : Int) ∧ s = .bool (sameB xs xs k) ∧ Below w5.heap.size w5 wr) (fun _ i _ => xs.length - (intOf i).toNat)
  case atStart => exact ⟨0, by omega, by omega, by simp, by rw [sameB_zero]; simp, Below.refl _ _⟩
  case round =>
    obtain ⟨k, hk, hk2, rfl, rfl, hb⟩ := hrel
    have HL := Lib.hid hb
    clear hb
    by_cases hlt : k < xs.length
    · have hlt2 : k < xs.length := hlt
      have i1 : (0 : Int) ≤ (k : Int) := by omega
      have i2 : (k : Int) < (xs.length : Int) := by omega
      cases hsm : sameB xs xs k
      · go_wp2_with fail
        go_quiet (fail)
        go_wp2_with fail
        go_roundw
        case rel => exact ⟨k + 1, by omega, by omega, by simp, by rw [sameB_false hsm], dN HL.out _⟩
        case measure => simp [intOf]; omega
      · obtain ⟨b, off, hA, a0, a1, a2⟩ := (RA.out.below HL.out) k hlt
        obtain ⟨b2, off2, hB, b0, b1, b2'⟩ := (RB.out.below HL.out) k hlt2
        subst hA
        subst hB
        have qe := eql_yes (xs[k]).1 (xs[k]).2.1 (xs[k]).2.2
        have HM := Lib.hid (show sameB xs xs (k + 1) = true by rw [sameB_step hsm hlt hlt2]; simp)
        go_wp2_with fail
        go_quiet (fail)
        go_wp2_with fail
        go_roundw
        case rel => exact ⟨k + 1, by omega, by omega, by simp, by rw [HM.out], dN HL.out _⟩
        case measure => simp [intOf]; omega
    · have HS := Lib.hid (show sameB xs xs k = true by rw [sameB_all (by omega)]; simp)
      have hsame := HS.out
      clear HS
      have RA2 := Lib.hid (RA.out.below HL.out)
      have RB2 := Lib.hid (RB.out.below HL.out)
      have RC2 := Lib.hid (RC.out.below HL.out)
      have HB2 := Lib.hid (below_up HB.out HL.out HB.out.size)
      clear RA RB RC HB HL
      go_wp2_with fail
      clear hsame
      have C := comparerows_any xs zs B C cb cc HX.out HZ.out _ RB2.out RC2.out
      rw [HD.out] at C
      refine C.mono ?_
      clear C
      rintro e w6 ⟨rfl, hb⟩
      replace RA2 := Lib.hid (RA2.out.below hb)
      replace RB2 := Lib.hid (RB2.out.below hb)
      replace RC2 := Lib.hid (RC2.out.below hb)
      replace HB2 := Lib.hid (below_up HB2.out hb HB2.out.size)
      clear hb
      go_wp2_with fail
      have C := comparerows_any xs zs A C ca cc HX.out HZ.out _ RA2.out RC2.out
      rw [HF.out] at C
      refine C.mono ?_
      clear C
      rintro e w7 ⟨rfl, hb⟩
      replace RA2 := Lib.hid (RA2.out.below hb)
      replace RB2 := Lib.hid (RB2.out.below hb)
      replace RC2 := Lib.hid (RC2.out.below hb)
      replace HB2 := Lib.hid (below_up HB2.out hb HB2.out.size)
      clear hb
      go_wp2_with fail
      go_ret
      exact ⟨rfl, HB2.out⟩

theorem rows_any (A B C : Option Addr) (xs ys zs : List T3) (ca cb cc : Nat) (hx : xs.length ≤ 20) (hy : ys.length ≤ 20) (hz : zs.length ≤ 20) (w : World) (ra : Row w A xs) (rb : Row w B ys) (rc : Row w C zs) (he : Env w) :
    Calls Tryd.prog 4 #[.slice A xs.length ca, .slice B ys.length cb, .slice C zs.length cc] w fun e w' => e = .returned (.bool true) ∧ Below w.heap.size w w' := by
  cases sxs : shortR xs
  · exact rows_s1 A B C xs ys zs ca cb cc hx hy hz sxs w ra rb rc he
  cases sys : shortR ys
  · exact rows_s2 A B C xs ys zs ca cb cc hx hy hz sxs sys w ra rb rc he
  cases szs : shortR zs
  · exact rows_s3 A B C xs ys zs ca cb cc hx hy hz sxs sys szs w ra rb rc he
  have hn := cmpR_neg xs ys
  rcases cmpR_range xs ys with hc | hc | hc
  · have hne : ¬ xs = ys := by rintro rfl; rw [cmpR_self] at hc; cases hc
    by_cases hd : 0 < cmpR ys zs
    · exact rows_mgt A B C xs ys zs ca cb cc hx hy hz sxs sys szs hc (by rw [hn, hc]; rfl) hne _ rfl hd w ra rb rc he
    · exact rows_mle A B C xs ys zs ca cb cc hx hy hz sxs sys szs hc (by rw [hn, hc]; rfl) hne _ rfl (by omega) _ rfl (cmpR_trans xs ys zs (by omega) (by omega)) w ra rb rc he
  · obtain rfl := cmpR_zero xs ys hc
    by_cases hd : 0 < cmpR xs zs
    · exact rows_zgt A B C xs zs ca cb cc hx hz sxs szs hc hc _ rfl hd w ra rb rc he
    · exact rows_zle A B C xs zs ca cb cc hx hz sxs szs hc hc _ rfl (by omega) _ rfl (by omega) w ra rb rc he
  · have hne : ¬ xs = ys := by rintro rfl; rw [cmpR_self] at hc; cases hc
    exact rows_p A B C xs ys zs ca cb cc hx hy hz sxs sys szs hc (by rw [hn, hc]) hne w ra rb rc he
end Go.Proofs.YtdoenjkebeidlaaDoor
