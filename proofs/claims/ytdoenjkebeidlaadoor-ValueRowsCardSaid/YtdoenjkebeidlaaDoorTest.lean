/- The contracts of the comparisons and of Test. -/
import Derived.Test.YtdoenjkebeidlaaDoorValid
import Derived.Test.YtdoenjkebeidlaaDoorCmp
import Derived.Laws.EntriesVeiled
namespace Go.Proofs.YtdoenjkebeidlaaDoor
open Go.RowKit

/-- A comparison holds by the sign. -/
def holdsB (op s : Int) : Bool := if op = 1 then decide (s = 0) else if op = 2 then !decide (s = 0) else if op = 3 then decide (s < 0) else if op = 4 then decide (s ≤ 0) else false
/-- What Test returns. -/
def testB (k n : Int) (t : List UInt8) (op k2 n2 : Int) (t2 : List UInt8) (add : Int) : Bool :=
  if vldB k n t && vldB k2 n2 t2 && !decide (k = 0) && decide (k = k2) && (decide (add = 0) || decide (k = 2) || decide (k = 3)) then holdsB op (or2 (cmpI (n - n2) add) (cmpS t t2)) else false

theorem h1_any (s : Int) (w : World) : Calls Tryd.prog 53 #[.int .i64 s] w fun e w' => e = .returned (.bool (holdsB 1 s)) ∧ w = w' := by
  go_enter Tryd.func53, Tryd.ntmps53
  go_wp2_with fail
  go_ret
  exact ⟨bool_ret (by unfold holdsB; rw [if_pos rfl, Bool.eq_iff_iff]; simp), rfl⟩
theorem h2_any (s : Int) (w : World) : Calls Tryd.prog 54 #[.int .i64 s] w fun e w' => e = .returned (.bool (holdsB 2 s)) ∧ w = w' := by
  go_enter Tryd.func54, Tryd.ntmps54
  go_wp2_with fail
  go_ret
  exact ⟨bool_ret (by unfold holdsB; rw [if_neg (by decide), if_pos rfl, Bool.eq_iff_iff]; simp), rfl⟩
theorem h3_any (s : Int) (w : World) : Calls Tryd.prog 55 #[.int .i64 s] w fun e w' => e = .returned (.bool (holdsB 3 s)) ∧ w = w' := by
  go_enter Tryd.func55, Tryd.ntmps55
  go_wp2_with fail
  go_ret
  exact ⟨bool_ret (by unfold holdsB; rw [if_neg (by decide), if_neg (by decide), if_pos rfl]), rfl⟩
theorem h4_any (s : Int) (w : World) : Calls Tryd.prog 56 #[.int .i64 s] w fun e w' => e = .returned (.bool (holdsB 4 s)) ∧ w = w' := by
  go_enter Tryd.func56, Tryd.ntmps56
  go_wp2_with fail
  go_ret
  exact ⟨bool_ret (by unfold holdsB; rw [if_neg (by decide), if_neg (by decide), if_neg (by decide), if_pos rfl]), rfl⟩

/-- A function value that captured nothing. -/
abbrev fn (f : Nat) : Value := .func (Fn.func f) #[] #[]
theorem comparisons_any (w : World) : Calls Tryd.prog 44 #[] w fun e w' => e = .returned (.slice (some ⟨w.heap.size, 0, none⟩) 4 4) ∧ w.alloc (Obj.cells #[.int .i64 1, fn 53, .int .i64 2, fn 54, .int .i64 3, fn 55, .int .i64 4, fn 56] 59) = w' := by
  go_enter Tryd.func44, Tryd.ntmps44
  go_wp2_with fail
  go_ret
  exact ⟨rfl, rfl⟩

/-- The table of the comparisons. -/
structure Tab (w : World) (b : Nat) : Prop where
  c0 : w.cell? ⟨b, 0, none⟩ = some (.int .i64 1)
  c1 : w.cell? ⟨b, 1, none⟩ = some (fn 53)
  c2 : w.cell? ⟨b, 2, none⟩ = some (.int .i64 2)
  c3 : w.cell? ⟨b, 3, none⟩ = some (fn 54)
  c4 : w.cell? ⟨b, 4, none⟩ = some (.int .i64 3)
  c5 : w.cell? ⟨b, 5, none⟩ = some (fn 55)
  c6 : w.cell? ⟨b, 6, none⟩ = some (.int .i64 4)
  c7 : w.cell? ⟨b, 7, none⟩ = some (fn 56)
theorem Tab.below {w w1 : World} {b : Nat} (h : Tab w b) (hb : Below w.heap.size w w1) : Tab w1 b :=
  ⟨cellB hb h.c0, cellB hb h.c1, cellB hb h.c2, cellB hb h.c3, cellB hb h.c4, cellB hb h.c5, cellB hb h.c6, cellB hb h.c7⟩
theorem Tab.alloc {w : World} {b : Nat} (h : Tab w b) (o : Obj) : Tab (w.alloc o) b := h.below ((Below.refl _ _).alloc (Nat.le_refl _) _)

theorem tab_new (W : World) (o : Obj) : Tab (((W.alloc o).drew).alloc (Obj.cells #[.int .i64 1, fn 53, .int .i64 2, fn 54, .int .i64 3, fn 55, .int .i64 4, fn 56] 59)) (W.heap.size + 1) :=
  ⟨by simp [go_sem], by simp [go_sem], by simp [go_sem], by simp [go_sem], by simp [go_sem], by simp [go_sem], by simp [go_sem], by simp [go_sem]⟩

theorem or_new2 (W : World) (x y : Int) :
    Calls Tryd.prog 35 #[.slice (some ⟨W.heap.size, 0, none⟩) 2 2] (W.alloc (Obj.cells #[.int .i64 x, .int .i64 y] 3)).drew fun e w' => e = .returned (.int .i64 (or2 x y)) ∧ w' = (W.alloc (Obj.cells #[.int .i64 x, .int .i64 y] 3)).drew :=
  or_two x y W.heap.size _ (by simp [go_sem]) (by simp [go_sem])

theorem vld_n {k n : Int} {t : List UInt8} (h : Vld k n t) : -1000000000 ≤ n ∧ n ≤ 1000000000 := by
  unfold Vld at h; omega

theorem test_bad1 (k n : Int) (t : List UInt8) (op k2 n2 : Int) (t2 : List UInt8) (add : Int) (hv : vldB k n t = false) (w : World) :
    Calls Tryd.prog 23 #[V k n t, .int .i64 op, V k2 n2 t2, .int .i64 add] w fun e w' => e = .returned (.bool false) ∧ Below w.heap.size w w' := by
  go_enter Tryd.func23, Tryd.ntmps23
  go_wp2_with fail
  refine (valid_any k n t _).mono ?_
  rintro e w1 ⟨rfl, hb1⟩
  have HB := below_up (boxes2 w _ _) hb1 (by simp; omega)
  clear hb1
  go_wp2_with fail
  go_ret
  exact ⟨rfl, HB⟩

theorem test_bad2 (k n : Int) (t : List UInt8) (op k2 n2 : Int) (t2 : List UInt8) (add : Int) (hv : vldB k n t = true) (h : vldB k2 n2 t2 = false ∨ k = 0 ∨ k ≠ k2 ∨ (add ≠ 0 ∧ k ≠ 2 ∧ k ≠ 3)) (w : World) :
    Calls Tryd.prog 23 #[V k n t, .int .i64 op, V k2 n2 t2, .int .i64 add] w fun e w' => e = .returned (.bool false) ∧ Below w.heap.size w w' := by
  have H := Lib.hid h
  clear h
  go_enter Tryd.func23, Tryd.ntmps23
  go_wp2_with fail
  refine (valid_any k n t _).mono ?_
  rintro e w1 ⟨rfl, hb1⟩
  have A1 : Val3 w1 w.heap.size k n t := Val3.below ⟨by simp [go_sem], by simp [go_sem], by simp [go_sem]⟩ hb1
  have B1 : Val3 w1 (w.heap.size + 1) k2 n2 t2 := Val3.below ⟨by simp [go_sem], by simp [go_sem], by simp [go_sem]⟩ hb1
  have HB := below_up (boxes2 w _ _) hb1 (by simp; omega)
  have b0 := B1.c0; have b1 := B1.c1; have b2 := B1.c2
  clear hb1
  go_wp2_with fail
  refine (valid_any k2 n2 t2 _).mono ?_
  rintro e w2 ⟨rfl, hb2⟩
  have A2 := A1.below hb2; have B2 := B1.below hb2
  have HB2 := below_up HB hb2 HB.size
  clear hb2 b0 b1 b2
  have a0 := A2.c0; have b0 := B2.c0
  rcases H.out with h | h | h | ⟨h1, h2, h3⟩
  · go_wp2_with fail
    go_ret
    exact ⟨rfl, HB2⟩
  · have e1 : (k == 0) = true := by simpa using h
    cases hv2 : vldB k2 n2 t2
    · go_wp2_with fail
      go_ret
      exact ⟨rfl, HB2⟩
    · go_wp2_with fail
      go_ret
      exact ⟨rfl, HB2⟩
  · have e1 : (k != k2) = true := by simpa using h
    cases hv2 : vldB k2 n2 t2
    · go_wp2_with fail
      go_ret
      exact ⟨rfl, HB2⟩
    · by_cases h0 : k = 0
      · have e2 : (k == 0) = true := by simpa using h0
        go_wp2_with fail
        go_ret
        exact ⟨rfl, HB2⟩
      · have e2 : (k == 0) = false := by simpa using h0
        go_wp2_with fail
        go_ret
        exact ⟨rfl, HB2⟩
  · have e1 : (add != 0) = true := by simpa using h1
    have e2 : (k != 2) = true := by simpa using h2
    have e3 : (k != 3) = true := by simpa using h3
    cases hv2 : vldB k2 n2 t2
    · go_wp2_with fail
      go_ret
      exact ⟨rfl, HB2⟩
    · by_cases h0 : k = 0
      · have e4 : (k == 0) = true := by simpa using h0
        go_wp2_with fail
        go_ret
        exact ⟨rfl, HB2⟩
      · have e4 : (k == 0) = false := by simpa using h0
        by_cases h5 : k = k2
        · subst h5
          go_wp2_with fail
          go_ret
          exact ⟨rfl, HB2⟩
        · have e5 : (k != k2) = true := by simpa using h5
          go_wp2_with fail
          go_ret
          exact ⟨rfl, HB2⟩

set_option maxRecDepth 100000 in
set_option maxHeartbeats 1600000 in
theorem test_good0 (k n : Int) (t : List UInt8) (op n2 : Int) (t2 : List UInt8) (h0 : k ≠ 0) (hv : vldB k n t = true) (hv2 : vldB k n2 t2 = true) (s : Int) (hs : or2 (cmpI (n - n2) 0) (cmpS t t2) = s) (w : World) :
    Calls Tryd.prog 23 #[V k n t, .int .i64 op, V k n2 t2, .int .i64 0] w fun e w' => e = .returned (.bool (holdsB op s)) ∧ Below w.heap.size w w' := by
  have HS := Lib.hid hs
  have N1 := Lib.hid (vld_n (vldB_true hv))
  have N2 := Lib.hid (vld_n (vldB_true hv2))
  have hw := Lib.hid (show IntKind.i64.wrap (n - n2) = n - n2 from IntWalk.i64_in _ (by have := N1.out; have := N2.out; omega))
  clear hs
  have e0 : (k == 0) = false := by simpa using h0
  clear h0
  go_enter Tryd.func23, Tryd.ntmps23
  go_wp2_with fail
  refine (valid_any k n t _).mono ?_
  rintro e w1 ⟨rfl, hb1⟩
  have A1 : Val3 w1 w.heap.size k n t := Val3.below ⟨by simp [go_sem], by simp [go_sem], by simp [go_sem]⟩ hb1
  have B1 : Val3 w1 (w.heap.size + 1) k n2 t2 := Val3.below ⟨by simp [go_sem], by simp [go_sem], by simp [go_sem]⟩ hb1
  have HB := below_up (boxes2 w _ _) hb1 (by simp; omega)
  have b0 := B1.c0; have b1 := B1.c1; have b2 := B1.c2
  clear hb1
  go_wp2_with fail
  refine (valid_any k n2 t2 _).mono ?_
  rintro e w2 ⟨rfl, hb2⟩
  have A2 := A1.below hb2; have B2 := B1.below hb2
  have HB2 := Lib.hid (below_up HB hb2 HB.size)
  clear hb2 b0 b1 b2 HB
  have a0 := A2.c0; have b0 := B2.c0
  have a1 := A2.c1; have b1 := B2.c1
  have a2 := A2.c2; have b2 := B2.c2
  go_wp2_with fail
  have hw2 := hw.out
  go_region_held3 (fun w' => w'.cell? ⟨w.heap.size, 1, none⟩ = some (.int .i64 n) ∧ w'.cell? ⟨w.heap.size, 2, none⟩ = some (.string ⟨t.toArray⟩) ∧ w'.cell? ⟨w.heap.size + 1, 1, none⟩ = some (.int .i64 n2) ∧ w'.cell? ⟨w.heap.size + 1, 2, none⟩ = some (.string ⟨t2.toArray⟩)) (go_keep)
    (first | (go_at_call 36; refine (order_int _ _ _).mono ?_; rintro e w' ⟨rfl, rfl⟩) | (go_at_call 37; refine (order_str t t2 _).mono ?_; rintro e w' ⟨rfl, rfl⟩) | (go_at_call 35; refine (or_new2 w2 _ (cmpS t t2)).mono ?_; rintro e w1 ⟨rfl, rfl⟩))
  clear hw2 a0 a1 a2 b0 b1 b2
  go_wp2_with fail
  rw [HS.out]
  refine (comparisons_any _).mono ?_
  rintro e w3 ⟨rfl, rfl⟩
  go_wp2_with fail
  go_loopw [60] (fun i wr => ∃ m : Nat, m ≤ 4 ∧ i = .int .i64 (m : Int) ∧ (0 < m → op ≠ 1) ∧ (1 < m → op ≠ 2) ∧ (2 < m → op ≠ 3) ∧ (3 < m → op ≠ 4) ∧ Tab wr (w2.heap.size + 1) ∧ Below w.heap.size w wr) (fun i _ => 4 - (intOf i).toNat)
  case atStart => exact ⟨0, by omega, rfl, by omega, by omega, by omega, by omega, tab_new _ _, ((HB2.out.alloc HB2.out.size _).trans (below_drewN _ _ 1)).alloc (by have := HB2.out.size; simp; omega) _⟩
  case round =>
    obtain ⟨m, hm, rfl, h1, h2, h3, h4, hT, hB⟩ := hrel
    have KT := Lib.hid hT
    have KB := Lib.hid hB
    clear hT hB hw
    rcases (by omega : m = 0 ∨ m = 1 ∨ m = 2 ∨ m = 3 ∨ m = 4) with rfl | rfl | rfl | rfl | rfl
    · have d0 := KT.out.c0; have d1 := KT.out.c1
      have y0 := fun o => (KT.out.alloc o).c0; have y1 := fun o => (KT.out.alloc o).c1
      by_cases ho : op = 1
      · subst ho
        go_wp2_with fail
        refine (h1_any s _).mono ?_
        rintro e w4 ⟨rfl, rfl⟩
        go_wp2_with fail
        go_ret
        exact ⟨rfl, KB.out.alloc KB.out.size _⟩
      · have eo : (1 == op) = false := by rw [beq_eq_false_iff_ne]; omega
        have eo2 : ((1 : Int) = op) = False := eq_false (by omega)
        go_wp2_with fail
        go_roundw
        case rel => exact ⟨1, by omega, rfl, (by intros; first | assumption | omega | exact h1 (by omega)), (by intros; first | assumption | omega | exact h2 (by omega)), (by intros; first | assumption | omega | exact h3 (by omega)), (by intros; first | assumption | omega | exact h4 (by omega)), KT.out.alloc _, KB.out.alloc KB.out.size _⟩
        case measure => simp [intOf]
    · have d0 := KT.out.c2; have d1 := KT.out.c3
      have y0 := fun o => (KT.out.alloc o).c2; have y1 := fun o => (KT.out.alloc o).c3
      by_cases ho : op = 2
      · subst ho
        go_wp2_with fail
        refine (h2_any s _).mono ?_
        rintro e w4 ⟨rfl, rfl⟩
        go_wp2_with fail
        go_ret
        exact ⟨rfl, KB.out.alloc KB.out.size _⟩
      · have eo : (2 == op) = false := by rw [beq_eq_false_iff_ne]; omega
        have eo2 : ((2 : Int) = op) = False := eq_false (by omega)
        go_wp2_with fail
        go_roundw
        case rel => exact ⟨2, by omega, rfl, (by intros; first | assumption | omega | exact h1 (by omega)), (by intros; first | assumption | omega | exact h2 (by omega)), (by intros; first | assumption | omega | exact h3 (by omega)), (by intros; first | assumption | omega | exact h4 (by omega)), KT.out.alloc _, KB.out.alloc KB.out.size _⟩
        case measure => simp [intOf]
    · have d0 := KT.out.c4; have d1 := KT.out.c5
      have y0 := fun o => (KT.out.alloc o).c4; have y1 := fun o => (KT.out.alloc o).c5
      by_cases ho : op = 3
      · subst ho
        go_wp2_with fail
        refine (h3_any s _).mono ?_
        rintro e w4 ⟨rfl, rfl⟩
        go_wp2_with fail
        go_ret
        exact ⟨rfl, KB.out.alloc KB.out.size _⟩
      · have eo : (3 == op) = false := by rw [beq_eq_false_iff_ne]; omega
        have eo2 : ((3 : Int) = op) = False := eq_false (by omega)
        go_wp2_with fail
        go_roundw
        case rel => exact ⟨3, by omega, rfl, (by intros; first | assumption | omega | exact h1 (by omega)), (by intros; first | assumption | omega | exact h2 (by omega)), (by intros; first | assumption | omega | exact h3 (by omega)), (by intros; first | assumption | omega | exact h4 (by omega)), KT.out.alloc _, KB.out.alloc KB.out.size _⟩
        case measure => simp [intOf]
    · have d0 := KT.out.c6; have d1 := KT.out.c7
      have y0 := fun o => (KT.out.alloc o).c6; have y1 := fun o => (KT.out.alloc o).c7
      by_cases ho : op = 4
      · subst ho
        go_wp2_with fail
        refine (h4_any s _).mono ?_
        rintro e w4 ⟨rfl, rfl⟩
        go_wp2_with fail
        go_ret
        exact ⟨rfl, KB.out.alloc KB.out.size _⟩
      · have eo : (4 == op) = false := by rw [beq_eq_false_iff_ne]; omega
        have eo2 : ((4 : Int) = op) = False := eq_false (by omega)
        go_wp2_with fail
        go_roundw
        case rel => exact ⟨4, by omega, rfl, (by intros; first | assumption | omega | exact h1 (by omega)), (by intros; first | assumption | omega | exact h2 (by omega)), (by intros; first | assumption | omega | exact h3 (by omega)), (by intros; first | assumption | omega | exact h4 (by omega)), KT.out.alloc _, KB.out.alloc KB.out.size _⟩
        case measure => simp [intOf]
    · have hn : holdsB op s = false := by unfold holdsB; rw [if_neg (h1 (by omega)), if_neg (h2 (by omega)), if_neg (h3 (by omega)), if_neg (h4 (by omega))]
      clear h1 h2 h3 h4
      go_wp2_with fail
      go_ret
      exact ⟨bool_ret hn.symm, KB.out⟩

set_option maxRecDepth 100000 in
set_option maxHeartbeats 1600000 in
theorem test_good2 (n : Int) (t : List UInt8) (op n2 : Int) (t2 : List UInt8) (add : Int) (h1 : add ≠ 0) (hv : vldB 2 n t = true) (hv2 : vldB 2 n2 t2 = true) (s : Int) (hs : or2 (cmpI (n - n2) add) (cmpS t t2) = s) (w : World) :
    Calls Tryd.prog 23 #[V 2 n t, .int .i64 op, V 2 n2 t2, .int .i64 add] w fun e w' => e = .returned (.bool (holdsB op s)) ∧ Below w.heap.size w w' := by
  have HS := Lib.hid hs
  have N1 := Lib.hid (vld_n (vldB_true hv))
  have N2 := Lib.hid (vld_n (vldB_true hv2))
  have hw := Lib.hid (show IntKind.i64.wrap (n - n2) = n - n2 from IntWalk.i64_in _ (by have := N1.out; have := N2.out; omega))
  clear hs
  have e1 : (add != 0) = true := by simpa using h1
  clear h1
  go_enter Tryd.func23, Tryd.ntmps23
  go_wp2_with fail
  refine (valid_any 2 n t _).mono ?_
  rintro e w1 ⟨rfl, hb1⟩
  have A1 : Val3 w1 w.heap.size 2 n t := Val3.below ⟨by simp [go_sem], by simp [go_sem], by simp [go_sem]⟩ hb1
  have B1 : Val3 w1 (w.heap.size + 1) 2 n2 t2 := Val3.below ⟨by simp [go_sem], by simp [go_sem], by simp [go_sem]⟩ hb1
  have HB := below_up (boxes2 w _ _) hb1 (by simp; omega)
  have b0 := B1.c0; have b1 := B1.c1; have b2 := B1.c2
  clear hb1
  go_wp2_with fail
  refine (valid_any 2 n2 t2 _).mono ?_
  rintro e w2 ⟨rfl, hb2⟩
  have A2 := A1.below hb2; have B2 := B1.below hb2
  have HB2 := Lib.hid (below_up HB hb2 HB.size)
  clear hb2 b0 b1 b2 HB
  have a0 := A2.c0; have b0 := B2.c0
  have a1 := A2.c1; have b1 := B2.c1
  have a2 := A2.c2; have b2 := B2.c2
  go_wp2_with fail
  have hw2 := hw.out
  go_region_held3 (fun w' => w'.cell? ⟨w.heap.size, 1, none⟩ = some (.int .i64 n) ∧ w'.cell? ⟨w.heap.size, 2, none⟩ = some (.string ⟨t.toArray⟩) ∧ w'.cell? ⟨w.heap.size + 1, 1, none⟩ = some (.int .i64 n2) ∧ w'.cell? ⟨w.heap.size + 1, 2, none⟩ = some (.string ⟨t2.toArray⟩)) (go_keep)
    (first | (go_at_call 36; refine (order_int _ _ _).mono ?_; rintro e w' ⟨rfl, rfl⟩) | (go_at_call 37; refine (order_str t t2 _).mono ?_; rintro e w' ⟨rfl, rfl⟩) | (go_at_call 35; refine (or_new2 w2 _ (cmpS t t2)).mono ?_; rintro e w1 ⟨rfl, rfl⟩))
  clear hw2 a0 a1 a2 b0 b1 b2
  go_wp2_with fail
  rw [HS.out]
  refine (comparisons_any _).mono ?_
  rintro e w3 ⟨rfl, rfl⟩
  go_wp2_with fail
  go_loopw [60] (fun i wr => ∃ m : Nat, m ≤ 4 ∧ i = .int .i64 (m : Int) ∧ (0 < m → op ≠ 1) ∧ (1 < m → op ≠ 2) ∧ (2 < m → op ≠ 3) ∧ (3 < m → op ≠ 4) ∧ Tab wr (w2.heap.size + 1) ∧ Below w.heap.size w wr) (fun i _ => 4 - (intOf i).toNat)
  case atStart => exact ⟨0, by omega, rfl, by omega, by omega, by omega, by omega, tab_new _ _, ((HB2.out.alloc HB2.out.size _).trans (below_drewN _ _ 1)).alloc (by have := HB2.out.size; simp; omega) _⟩
  case round =>
    obtain ⟨m, hm, rfl, h1, h2, h3, h4, hT, hB⟩ := hrel
    have KT := Lib.hid hT
    have KB := Lib.hid hB
    clear hT hB hw
    rcases (by omega : m = 0 ∨ m = 1 ∨ m = 2 ∨ m = 3 ∨ m = 4) with rfl | rfl | rfl | rfl | rfl
    · have d0 := KT.out.c0; have d1 := KT.out.c1
      have y0 := fun o => (KT.out.alloc o).c0; have y1 := fun o => (KT.out.alloc o).c1
      by_cases ho : op = 1
      · subst ho
        go_wp2_with fail
        refine (h1_any s _).mono ?_
        rintro e w4 ⟨rfl, rfl⟩
        go_wp2_with fail
        go_ret
        exact ⟨rfl, KB.out.alloc KB.out.size _⟩
      · have eo : (1 == op) = false := by rw [beq_eq_false_iff_ne]; omega
        have eo2 : ((1 : Int) = op) = False := eq_false (by omega)
        go_wp2_with fail
        go_roundw
        case rel => exact ⟨1, by omega, rfl, (by intros; first | assumption | omega | exact h1 (by omega)), (by intros; first | assumption | omega | exact h2 (by omega)), (by intros; first | assumption | omega | exact h3 (by omega)), (by intros; first | assumption | omega | exact h4 (by omega)), KT.out.alloc _, KB.out.alloc KB.out.size _⟩
        case measure => simp [intOf]
    · have d0 := KT.out.c2; have d1 := KT.out.c3
      have y0 := fun o => (KT.out.alloc o).c2; have y1 := fun o => (KT.out.alloc o).c3
      by_cases ho : op = 2
      · subst ho
        go_wp2_with fail
        refine (h2_any s _).mono ?_
        rintro e w4 ⟨rfl, rfl⟩
        go_wp2_with fail
        go_ret
        exact ⟨rfl, KB.out.alloc KB.out.size _⟩
      · have eo : (2 == op) = false := by rw [beq_eq_false_iff_ne]; omega
        have eo2 : ((2 : Int) = op) = False := eq_false (by omega)
        go_wp2_with fail
        go_roundw
        case rel => exact ⟨2, by omega, rfl, (by intros; first | assumption | omega | exact h1 (by omega)), (by intros; first | assumption | omega | exact h2 (by omega)), (by intros; first | assumption | omega | exact h3 (by omega)), (by intros; first | assumption | omega | exact h4 (by omega)), KT.out.alloc _, KB.out.alloc KB.out.size _⟩
        case measure => simp [intOf]
    · have d0 := KT.out.c4; have d1 := KT.out.c5
      have y0 := fun o => (KT.out.alloc o).c4; have y1 := fun o => (KT.out.alloc o).c5
      by_cases ho : op = 3
      · subst ho
        go_wp2_with fail
        refine (h3_any s _).mono ?_
        rintro e w4 ⟨rfl, rfl⟩
        go_wp2_with fail
        go_ret
        exact ⟨rfl, KB.out.alloc KB.out.size _⟩
      · have eo : (3 == op) = false := by rw [beq_eq_false_iff_ne]; omega
        have eo2 : ((3 : Int) = op) = False := eq_false (by omega)
        go_wp2_with fail
        go_roundw
        case rel => exact ⟨3, by omega, rfl, (by intros; first | assumption | omega | exact h1 (by omega)), (by intros; first | assumption | omega | exact h2 (by omega)), (by intros; first | assumption | omega | exact h3 (by omega)), (by intros; first | assumption | omega | exact h4 (by omega)), KT.out.alloc _, KB.out.alloc KB.out.size _⟩
        case measure => simp [intOf]
    · have d0 := KT.out.c6; have d1 := KT.out.c7
      have y0 := fun o => (KT.out.alloc o).c6; have y1 := fun o => (KT.out.alloc o).c7
      by_cases ho : op = 4
      · subst ho
        go_wp2_with fail
        refine (h4_any s _).mono ?_
        rintro e w4 ⟨rfl, rfl⟩
        go_wp2_with fail
        go_ret
        exact ⟨rfl, KB.out.alloc KB.out.size _⟩
      · have eo : (4 == op) = false := by rw [beq_eq_false_iff_ne]; omega
        have eo2 : ((4 : Int) = op) = False := eq_false (by omega)
        go_wp2_with fail
        go_roundw
        case rel => exact ⟨4, by omega, rfl, (by intros; first | assumption | omega | exact h1 (by omega)), (by intros; first | assumption | omega | exact h2 (by omega)), (by intros; first | assumption | omega | exact h3 (by omega)), (by intros; first | assumption | omega | exact h4 (by omega)), KT.out.alloc _, KB.out.alloc KB.out.size _⟩
        case measure => simp [intOf]
    · have hn : holdsB op s = false := by unfold holdsB; rw [if_neg (h1 (by omega)), if_neg (h2 (by omega)), if_neg (h3 (by omega)), if_neg (h4 (by omega))]
      clear h1 h2 h3 h4
      go_wp2_with fail
      go_ret
      exact ⟨bool_ret hn.symm, KB.out⟩

set_option maxRecDepth 100000 in
set_option maxHeartbeats 1600000 in
theorem test_good3 (n : Int) (t : List UInt8) (op n2 : Int) (t2 : List UInt8) (add : Int) (h1 : add ≠ 0) (hv : vldB 3 n t = true) (hv2 : vldB 3 n2 t2 = true) (s : Int) (hs : or2 (cmpI (n - n2) add) (cmpS t t2) = s) (w : World) :
    Calls Tryd.prog 23 #[V 3 n t, .int .i64 op, V 3 n2 t2, .int .i64 add] w fun e w' => e = .returned (.bool (holdsB op s)) ∧ Below w.heap.size w w' := by
  have HS := Lib.hid hs
  have N1 := Lib.hid (vld_n (vldB_true hv))
  have N2 := Lib.hid (vld_n (vldB_true hv2))
  have hw := Lib.hid (show IntKind.i64.wrap (n - n2) = n - n2 from IntWalk.i64_in _ (by have := N1.out; have := N2.out; omega))
  clear hs
  have e1 : (add != 0) = true := by simpa using h1
  clear h1
  go_enter Tryd.func23, Tryd.ntmps23
  go_wp2_with fail
  refine (valid_any 3 n t _).mono ?_
  rintro e w1 ⟨rfl, hb1⟩
  have A1 : Val3 w1 w.heap.size 3 n t := Val3.below ⟨by simp [go_sem], by simp [go_sem], by simp [go_sem]⟩ hb1
  have B1 : Val3 w1 (w.heap.size + 1) 3 n2 t2 := Val3.below ⟨by simp [go_sem], by simp [go_sem], by simp [go_sem]⟩ hb1
  have HB := below_up (boxes2 w _ _) hb1 (by simp; omega)
  have b0 := B1.c0; have b1 := B1.c1; have b2 := B1.c2
  clear hb1
  go_wp2_with fail
  refine (valid_any 3 n2 t2 _).mono ?_
  rintro e w2 ⟨rfl, hb2⟩
  have A2 := A1.below hb2; have B2 := B1.below hb2
  have HB2 := Lib.hid (below_up HB hb2 HB.size)
  clear hb2 b0 b1 b2 HB
  have a0 := A2.c0; have b0 := B2.c0
  have a1 := A2.c1; have b1 := B2.c1
  have a2 := A2.c2; have b2 := B2.c2
  go_wp2_with fail
  have hw2 := hw.out
  go_region_held3 (fun w' => w'.cell? ⟨w.heap.size, 1, none⟩ = some (.int .i64 n) ∧ w'.cell? ⟨w.heap.size, 2, none⟩ = some (.string ⟨t.toArray⟩) ∧ w'.cell? ⟨w.heap.size + 1, 1, none⟩ = some (.int .i64 n2) ∧ w'.cell? ⟨w.heap.size + 1, 2, none⟩ = some (.string ⟨t2.toArray⟩)) (go_keep)
    (first | (go_at_call 36; refine (order_int _ _ _).mono ?_; rintro e w' ⟨rfl, rfl⟩) | (go_at_call 37; refine (order_str t t2 _).mono ?_; rintro e w' ⟨rfl, rfl⟩) | (go_at_call 35; refine (or_new2 w2 _ (cmpS t t2)).mono ?_; rintro e w1 ⟨rfl, rfl⟩))
  clear hw2 a0 a1 a2 b0 b1 b2
  go_wp2_with fail
  rw [HS.out]
  refine (comparisons_any _).mono ?_
  rintro e w3 ⟨rfl, rfl⟩
  go_wp2_with fail
  go_loopw [60] (fun i wr => ∃ m : Nat, m ≤ 4 ∧ i = .int .i64 (m : Int) ∧ (0 < m → op ≠ 1) ∧ (1 < m → op ≠ 2) ∧ (2 < m → op ≠ 3) ∧ (3 < m → op ≠ 4) ∧ Tab wr (w2.heap.size + 1) ∧ Below w.heap.size w wr) (fun i _ => 4 - (intOf i).toNat)
  case atStart => exact ⟨0, by omega, rfl, by omega, by omega, by omega, by omega, tab_new _ _, ((HB2.out.alloc HB2.out.size _).trans (below_drewN _ _ 1)).alloc (by have := HB2.out.size; simp; omega) _⟩
  case round =>
    obtain ⟨m, hm, rfl, h1, h2, h3, h4, hT, hB⟩ := hrel
    have KT := Lib.hid hT
    have KB := Lib.hid hB
    clear hT hB hw
    rcases (by omega : m = 0 ∨ m = 1 ∨ m = 2 ∨ m = 3 ∨ m = 4) with rfl | rfl | rfl | rfl | rfl
    · have d0 := KT.out.c0; have d1 := KT.out.c1
      have y0 := fun o => (KT.out.alloc o).c0; have y1 := fun o => (KT.out.alloc o).c1
      by_cases ho : op = 1
      · subst ho
        go_wp2_with fail
        refine (h1_any s _).mono ?_
        rintro e w4 ⟨rfl, rfl⟩
        go_wp2_with fail
        go_ret
        exact ⟨rfl, KB.out.alloc KB.out.size _⟩
      · have eo : (1 == op) = false := by rw [beq_eq_false_iff_ne]; omega
        have eo2 : ((1 : Int) = op) = False := eq_false (by omega)
        go_wp2_with fail
        go_roundw
        case rel => exact ⟨1, by omega, rfl, (by intros; first | assumption | omega | exact h1 (by omega)), (by intros; first | assumption | omega | exact h2 (by omega)), (by intros; first | assumption | omega | exact h3 (by omega)), (by intros; first | assumption | omega | exact h4 (by omega)), KT.out.alloc _, KB.out.alloc KB.out.size _⟩
        case measure => simp [intOf]
    · have d0 := KT.out.c2; have d1 := KT.out.c3
      have y0 := fun o => (KT.out.alloc o).c2; have y1 := fun o => (KT.out.alloc o).c3
      by_cases ho : op = 2
      · subst ho
        go_wp2_with fail
        refine (h2_any s _).mono ?_
        rintro e w4 ⟨rfl, rfl⟩
        go_wp2_with fail
        go_ret
        exact ⟨rfl, KB.out.alloc KB.out.size _⟩
      · have eo : (2 == op) = false := by rw [beq_eq_false_iff_ne]; omega
        have eo2 : ((2 : Int) = op) = False := eq_false (by omega)
        go_wp2_with fail
        go_roundw
        case rel => exact ⟨2, by omega, rfl, (by intros; first | assumption | omega | exact h1 (by omega)), (by intros; first | assumption | omega | exact h2 (by omega)), (by intros; first | assumption | omega | exact h3 (by omega)), (by intros; first | assumption | omega | exact h4 (by omega)), KT.out.alloc _, KB.out.alloc KB.out.size _⟩
        case measure => simp [intOf]
    · have d0 := KT.out.c4; have d1 := KT.out.c5
      have y0 := fun o => (KT.out.alloc o).c4; have y1 := fun o => (KT.out.alloc o).c5
      by_cases ho : op = 3
      · subst ho
        go_wp2_with fail
        refine (h3_any s _).mono ?_
        rintro e w4 ⟨rfl, rfl⟩
        go_wp2_with fail
        go_ret
        exact ⟨rfl, KB.out.alloc KB.out.size _⟩
      · have eo : (3 == op) = false := by rw [beq_eq_false_iff_ne]; omega
        have eo2 : ((3 : Int) = op) = False := eq_false (by omega)
        go_wp2_with fail
        go_roundw
        case rel => exact ⟨3, by omega, rfl, (by intros; first | assumption | omega | exact h1 (by omega)), (by intros; first | assumption | omega | exact h2 (by omega)), (by intros; first | assumption | omega | exact h3 (by omega)), (by intros; first | assumption | omega | exact h4 (by omega)), KT.out.alloc _, KB.out.alloc KB.out.size _⟩
        case measure => simp [intOf]
    · have d0 := KT.out.c6; have d1 := KT.out.c7
      have y0 := fun o => (KT.out.alloc o).c6; have y1 := fun o => (KT.out.alloc o).c7
      by_cases ho : op = 4
      · subst ho
        go_wp2_with fail
        refine (h4_any s _).mono ?_
        rintro e w4 ⟨rfl, rfl⟩
        go_wp2_with fail
        go_ret
        exact ⟨rfl, KB.out.alloc KB.out.size _⟩
      · have eo : (4 == op) = false := by rw [beq_eq_false_iff_ne]; omega
        have eo2 : ((4 : Int) = op) = False := eq_false (by omega)
        go_wp2_with fail
        go_roundw
        case rel => exact ⟨4, by omega, rfl, (by intros; first | assumption | omega | exact h1 (by omega)), (by intros; first | assumption | omega | exact h2 (by omega)), (by intros; first | assumption | omega | exact h3 (by omega)), (by intros; first | assumption | omega | exact h4 (by omega)), KT.out.alloc _, KB.out.alloc KB.out.size _⟩
        case measure => simp [intOf]
    · have hn : holdsB op s = false := by unfold holdsB; rw [if_neg (h1 (by omega)), if_neg (h2 (by omega)), if_neg (h3 (by omega)), if_neg (h4 (by omega))]
      clear h1 h2 h3 h4
      go_wp2_with fail
      go_ret
      exact ⟨bool_ret hn.symm, KB.out⟩

theorem test_any (k n : Int) (t : List UInt8) (op k2 n2 : Int) (t2 : List UInt8) (add : Int) (w : World) :
    Calls Tryd.prog 23 #[V k n t, .int .i64 op, V k2 n2 t2, .int .i64 add] w fun e w' => e = .returned (.bool (testB k n t op k2 n2 t2 add)) ∧ Below w.heap.size w w' := by
  cases hv : vldB k n t
  · rw [show testB k n t op k2 n2 t2 add = false by unfold testB; rw [hv]; rfl]
    exact test_bad1 k n t op k2 n2 t2 add hv w
  · by_cases h : vldB k2 n2 t2 = false ∨ k = 0 ∨ k ≠ k2 ∨ (add ≠ 0 ∧ k ≠ 2 ∧ k ≠ 3)
    · rw [show testB k n t op k2 n2 t2 add = false by
        unfold testB
        rw [if_neg]
        intro g
        simp only [Bool.and_eq_true, Bool.or_eq_true, decide_eq_true_eq, Bool.not_eq_true', decide_eq_false_iff_not] at g
        obtain ⟨⟨⟨⟨_, g2⟩, g3⟩, g4⟩, g5⟩ := g
        rcases h with h | h | h | h
        · rw [g2] at h; cases h
        · exact g3 h
        · exact h g4
        · omega]
      exact test_bad2 k n t op k2 n2 t2 add hv h w
    · have hv2 : vldB k2 n2 t2 = true := by
        cases g : vldB k2 n2 t2
        · exact absurd (Or.inl g) h
        · rfl
      have h0 : k ≠ 0 := fun g => h (Or.inr (Or.inl g))
      have hk : k = k2 := Classical.byContradiction fun g => h (Or.inr (Or.inr (Or.inl g)))
      subst hk
      have ha : add = 0 ∨ (add ≠ 0 ∧ k = 2) ∨ (add ≠ 0 ∧ k = 3) := by
        by_cases a0 : add = 0
        · exact Or.inl a0
        · by_cases a2 : k = 2
          · exact Or.inr (Or.inl ⟨a0, a2⟩)
          · by_cases a3 : k = 3
            · exact Or.inr (Or.inr ⟨a0, a3⟩)
            · exact absurd (Or.inr (Or.inr (Or.inr ⟨a0, a2, a3⟩))) h
      rw [show testB k n t op k n2 t2 add = holdsB op (or2 (cmpI (n - n2) add) (cmpS t t2)) by
        unfold testB
        rw [hv, hv2, if_pos]
        simp only [Bool.and_eq_true, Bool.or_eq_true, decide_eq_true_eq, Bool.not_eq_true', decide_eq_false_iff_not]
        exact ⟨⟨⟨⟨trivial, trivial⟩, h0⟩, trivial⟩, by omega⟩]
      rcases ha with rfl | ⟨h1, rfl⟩ | ⟨h1, rfl⟩
      · exact test_good0 k n t op n2 t2 h0 hv hv2 _ rfl w
      · exact test_good2 n t op n2 t2 add h1 hv hv2 _ rfl w
      · exact test_good3 n t op n2 t2 add h1 hv hv2 _ rfl w
end Go.Proofs.YtdoenjkebeidlaaDoor
