/- The walks of ValueTexts. -/
import Derived.Test.YtdoenjkebeidlaaDoorOrderW
namespace Go.Proofs.YtdoenjkebeidlaaDoor
open Go.RowKit
set_option linter.unusedSimpArgs false

/-- Text, where its result has a name. -/
theorem text_eq {k n : Int} {t : List UInt8} {x : List UInt8} (h : txt k n t = x) (w : World) (he : Env w) :
    Calls Tryd.prog 21 #[V k n t] w fun e w' => e = .returned (.string ⟨x.toArray⟩) ∧ Below w.heap.size w w' := by
  subst h; exact text_any k n t w he
theorem valid_eq {k n : Int} {t : List UInt8} {b : Bool} (h : vldB k n t = b) (w : World) :
    Calls Tryd.prog 17 #[V k n t] w fun e w' => e = .returned (.bool b) ∧ Below w.heap.size w w' := by
  subst h; exact valid_any k n t w

set_option maxRecDepth 100000 in
set_option maxHeartbeats 1600000 in
theorem texts_long1 (k n k2 n2 : Int) (t t2 l : List UInt8) (hs : shortB [t, t2] = false) (w : World) (he : Env w) :
    Calls Tryd.prog 6 #[V k n t, V k2 n2 t2, .string ⟨l.toArray⟩] w fun e w' => e = .returned (.bool true) ∧ Below w.heap.size w w' := by
  have HE := Lib.hid he
  have HB := Lib.hid (Below.refl w.heap.size w)
  clear he
  go_enter Tryd.func6, Tryd.ntmps6
  go_wp2_with fail
  refine (head_any _ ((HE.out.alloc _).alloc _)).mono ?_
  rintro e w1 ⟨rfl, hb⟩
  have RA := Lib.hid (show Val3 w1 (w.heap.size) k n t from Val3.below ⟨by simp [go_sem], by simp [go_sem], by simp [go_sem]⟩ hb)
  have RB := Lib.hid (show Val3 w1 (w.heap.size + 1) k2 n2 t2 from Val3.below ⟨by simp [go_sem], by simp [go_sem], by simp [go_sem]⟩ hb)
  replace HE := Lib.hid (((HE.out.alloc _).alloc _).below hb)
  replace HB := Lib.hid (below_up (((HB.out.alloc (by have := HB.out.size; simp; try omega) _).alloc (by have := HB.out.size; simp; try omega) _)) hb (by have := HB.out.size; simp; omega))
  clear hb
  have zRAc0 := RA.out.c0
  have zRAc1 := RA.out.c1
  have zRAc2 := RA.out.c2
  have zRBc0 := RB.out.c0
  have zRBc1 := RB.out.c1
  have zRBc2 := RB.out.c2
  go_wp2_with fail
  refine (short_b2 k n t k2 n2 t2 false hs _ ).mono ?_
  rintro e w2 ⟨rfl, hb⟩
  replace RA := Lib.hid ((RA.out.alloc _).below hb)
  replace RB := Lib.hid ((RB.out.alloc _).below hb)
  replace HE := Lib.hid ((HE.out.alloc _).below hb)
  replace HB := Lib.hid (below_next HB.out HB.out.size hb)
  clear hb
  clear zRAc0 zRAc1 zRAc2 zRBc0 zRBc1 zRBc2
  go_wp2_with fail
  go_ret
  exact ⟨rfl, HB.out⟩


set_option maxRecDepth 100000 in
set_option maxHeartbeats 1600000 in
theorem texts_long2 (k n k2 n2 : Int) (t t2 l : List UInt8) (hs : shortB [t, t2] = true) (hl : 500 < l.length) (w : World) (he : Env w) :
    Calls Tryd.prog 6 #[V k n t, V k2 n2 t2, .string ⟨l.toArray⟩] w fun e w' => e = .returned (.bool true) ∧ Below w.heap.size w w' := by
  have HE := Lib.hid he
  have HB := Lib.hid (Below.refl w.heap.size w)
  clear he
  go_enter Tryd.func6, Tryd.ntmps6
  go_wp2_with fail
  refine (head_any _ ((HE.out.alloc _).alloc _)).mono ?_
  rintro e w1 ⟨rfl, hb⟩
  have RA := Lib.hid (show Val3 w1 (w.heap.size) k n t from Val3.below ⟨by simp [go_sem], by simp [go_sem], by simp [go_sem]⟩ hb)
  have RB := Lib.hid (show Val3 w1 (w.heap.size + 1) k2 n2 t2 from Val3.below ⟨by simp [go_sem], by simp [go_sem], by simp [go_sem]⟩ hb)
  replace HE := Lib.hid (((HE.out.alloc _).alloc _).below hb)
  replace HB := Lib.hid (below_up (((HB.out.alloc (by have := HB.out.size; simp; try omega) _).alloc (by have := HB.out.size; simp; try omega) _)) hb (by have := HB.out.size; simp; omega))
  clear hb
  have zRAc0 := RA.out.c0
  have zRAc1 := RA.out.c1
  have zRAc2 := RA.out.c2
  have zRBc0 := RB.out.c0
  have zRBc1 := RB.out.c1
  have zRBc2 := RB.out.c2
  go_wp2_with fail
  refine (short_b2 k n t k2 n2 t2 true hs _ ).mono ?_
  rintro e w2 ⟨rfl, hb⟩
  replace RA := Lib.hid ((RA.out.alloc _).below hb)
  replace RB := Lib.hid ((RB.out.alloc _).below hb)
  replace HE := Lib.hid ((HE.out.alloc _).below hb)
  replace HB := Lib.hid (below_next HB.out HB.out.size hb)
  clear hb
  clear zRAc0 zRAc1 zRAc2 zRBc0 zRBc1 zRBc2
  go_wp2_with fail
  go_ret
  exact ⟨rfl, HB.out⟩


set_option maxRecDepth 100000 in
set_option maxHeartbeats 1600000 in
theorem texts_bn (k n k2 n2 : Int) (t t2 l : List UInt8) (hs : shortB [t, t2] = true) (hl : l.length ≤ 500) (hv : vldB k n t = false) (hp : parse [] = (0, 0, [], 4)) (hq : parse l = (0, 0, [], 4)) (w : World) (he : Env w) :
    Calls Tryd.prog 6 #[V k n t, V k2 n2 t2, .string ⟨l.toArray⟩] w fun e w' => e = .returned (.bool true) ∧ Below w.heap.size w w' := by
  have HV := Lib.hid hv; clear hv
  have HL := Lib.hid hl; clear hl
  have HP := Lib.hid hp; clear hp
  have HQ := Lib.hid hq; clear hq
  have hl2 := HL.out
  have HE := Lib.hid he
  have HB := Lib.hid (Below.refl w.heap.size w)
  clear he
  go_enter Tryd.func6, Tryd.ntmps6
  go_wp2_with fail
  refine (head_any _ ((HE.out.alloc _).alloc _)).mono ?_
  rintro e w1 ⟨rfl, hb⟩
  have RA := Lib.hid (show Val3 w1 (w.heap.size) k n t from Val3.below ⟨by simp [go_sem], by simp [go_sem], by simp [go_sem]⟩ hb)
  have RB := Lib.hid (show Val3 w1 (w.heap.size + 1) k2 n2 t2 from Val3.below ⟨by simp [go_sem], by simp [go_sem], by simp [go_sem]⟩ hb)
  replace HE := Lib.hid (((HE.out.alloc _).alloc _).below hb)
  replace HB := Lib.hid (below_up (((HB.out.alloc (by have := HB.out.size; simp; try omega) _).alloc (by have := HB.out.size; simp; try omega) _)) hb (by have := HB.out.size; simp; omega))
  clear hb
  have zRAc0 := RA.out.c0
  have zRAc1 := RA.out.c1
  have zRAc2 := RA.out.c2
  have zRBc0 := RB.out.c0
  have zRBc1 := RB.out.c1
  have zRBc2 := RB.out.c2
  go_wp2_with fail
  refine (short_b2 k n t k2 n2 t2 true hs _ ).mono ?_
  rintro e w2 ⟨rfl, hb⟩
  replace RA := Lib.hid ((RA.out.alloc _).below hb)
  replace RB := Lib.hid ((RB.out.alloc _).below hb)
  replace HE := Lib.hid ((HE.out.alloc _).below hb)
  replace HB := Lib.hid (below_next HB.out HB.out.size hb)
  clear hb
  clear zRAc0 zRAc1 zRAc2 zRBc0 zRBc1 zRBc2
  have zRAc0 := RA.out.c0
  have zRAc1 := RA.out.c1
  have zRAc2 := RA.out.c2
  go_wp2_with fail
  refine (text_eq (k := k) (n := n) (t := t) (x := []) (txt_bad HV.out) _ HE.out).mono ?_
  rintro e w3 ⟨rfl, hb⟩
  replace RA := Lib.hid (RA.out.below hb)
  replace RB := Lib.hid (RB.out.below hb)
  replace HE := Lib.hid (HE.out.below hb)
  replace HB := Lib.hid (below_up HB.out hb HB.out.size)
  clear hb
  clear zRAc0 zRAc1 zRAc2
  clear hl2
  go_wp2_with fail
  have qe := eql_yes k n t
  have zRAc0 := RA.out.c0
  have zRAc1 := RA.out.c1
  have zRAc2 := RA.out.c2
  have zRBc0 := RB.out.c0
  have zRBc1 := RB.out.c1
  have zRBc2 := RB.out.c2
  refine wp_region_held_drew (S := (fun w' => w'.cell? ⟨w.heap.size, 0, none⟩ = some (.int .i64 k) ∧ w'.cell? ⟨w.heap.size, 1, none⟩ = some (.int .i64 n) ∧ w'.cell? ⟨w.heap.size, 2, none⟩ = some (.string ⟨t.toArray⟩) ∧ w'.cell? ⟨w.heap.size + 1, 0, none⟩ = some (.int .i64 k2) ∧ w'.cell? ⟨w.heap.size + 1, 1, none⟩ = some (.int .i64 n2) ∧ w'.cell? ⟨w.heap.size + 1, 2, none⟩ = some (.string ⟨t2.toArray⟩))) (by kernel_rfl) ?_ (fun hHeld => ?_)
  · try dsimp only
    go_keep
  refine wpAnyH_take (i := 0) (v := ?_) (by (simp only [List.getElem?_toArray, List.getElem?_cons_succ, List.getElem?_cons_zero]; rfl)) (by kernel_rfl) (by kernel_rfl) (by kernel_rfl) (by intro _ _ _ h; exact h) (Or.inl ⟨by kernel_rfl, ?_⟩) hHeld ?_
  case refine_2 =>
    intro w hSw
    try dsimp only at hSw
    go_simp
    try with_reducible rfl
  try simp only [Act.put, List.setIfInBounds_toArray, List.set_cons_zero, List.set_cons_succ]
  refine wpAnyH_take (i := 1) (v := ?_) (by (simp only [List.getElem?_toArray, List.getElem?_cons_succ, List.getElem?_cons_zero]; rfl)) (by kernel_rfl) (by kernel_rfl) (by kernel_rfl) (by intro _ _ _ h; exact h) (Or.inl ⟨by kernel_rfl, ?_⟩) hHeld ?_
  case refine_2 =>
    intro w hSw
    try dsimp only at hSw
    go_simp
    try with_reducible rfl
  try simp only [Act.put, List.setIfInBounds_toArray, List.set_cons_zero, List.set_cons_succ]
  refine wpAnyH_take (i := 2) (v := ?_) (by (simp only [List.getElem?_toArray, List.getElem?_cons_succ, List.getElem?_cons_zero]; rfl)) (by kernel_rfl) (by kernel_rfl) (by kernel_rfl) (by intro _ _ _ h; exact h) (Or.inl ⟨by kernel_rfl, ?_⟩) hHeld ?_
  case refine_2 =>
    intro w hSw
    try dsimp only at hSw
    go_simp
    try with_reducible rfl
  try simp only [Act.put, List.setIfInBounds_toArray, List.set_cons_zero, List.set_cons_succ]
  refine wpAnyH_ready (rs := [3]) (by kernel_rfl) (by simp) ?_
  refine AllReadyH.cons (by (simp only [List.getElem?_toArray, List.getElem?_cons_succ, List.getElem?_cons_zero]; rfl)) (fun K hK => ?_) AllReadyH.nil
  go_simp
  refine (valid_eq (k := k) (n := n) (t := t) HV.out _).mono ?_
  rintro e v3_1 ⟨rfl, hv1⟩
  have g1 := Lib.hid ((below_drewN _ w3 1).trans hv1)
  clear hv1
  have RA_1 := Lib.hid (RA.out.below g1.out)
  have RB_1 := Lib.hid (RB.out.below g1.out)
  have E_1 := Lib.hid (HE.out.below g1.out)
  have k1RA0 := RA_1.out.c0
  have k1RA1 := RA_1.out.c1
  have k1RA2 := RA_1.out.c2
  have k1RB0 := RB_1.out.c0
  have k1RB1 := RB_1.out.c1
  have k1RB2 := RB_1.out.c2
  try go_wp2_with fail
  clear hHeld
  refine hK.out _ _ ?_ (fun hHeld => ?_)
  · try dsimp only
    go_keep
  clear hK K
  try simp only [Act.put, List.setIfInBounds_toArray, List.set_cons_zero, List.set_cons_succ]
  refine wpAnyH_take (i := 4) (v := ?_) (by (simp only [List.getElem?_toArray, List.getElem?_cons_succ, List.getElem?_cons_zero]; rfl)) (by kernel_rfl) (by kernel_rfl) (by kernel_rfl) (by intro _ _ _ h; exact h) (Or.inl ⟨by kernel_rfl, ?_⟩) hHeld ?_
  case refine_2 =>
    intro w hSw
    try dsimp only at hSw
    go_simp
    try with_reducible rfl
  try simp only [Act.put, List.setIfInBounds_toArray, List.set_cons_zero, List.set_cons_succ]
  refine wpAnyH_take (i := 5) (v := ?_) (by (simp only [List.getElem?_toArray, List.getElem?_cons_succ, List.getElem?_cons_zero]; rfl)) (by kernel_rfl) (by kernel_rfl) (by kernel_rfl) (by intro _ _ _ h; exact h) (Or.inl ⟨by kernel_rfl, ?_⟩) hHeld ?_
  case refine_2 =>
    intro w hSw
    try dsimp only at hSw
    go_simp
    try with_reducible rfl
  try simp only [Act.put, List.setIfInBounds_toArray, List.set_cons_zero, List.set_cons_succ]
  refine wpAnyH_take (i := 6) (v := ?_) (by (simp only [List.getElem?_toArray, List.getElem?_cons_succ, List.getElem?_cons_zero]; rfl)) (by kernel_rfl) (by kernel_rfl) (by kernel_rfl) (by intro _ _ _ h; exact h) (Or.inl ⟨by kernel_rfl, ?_⟩) hHeld ?_
  case refine_2 =>
    intro w hSw
    try dsimp only at hSw
    go_simp
    try with_reducible rfl
  try simp only [Act.put, List.setIfInBounds_toArray, List.set_cons_zero, List.set_cons_succ]
  refine wpAnyH_ready (rs := [7]) (by kernel_rfl) (by simp) ?_
  refine AllReadyH.cons (by (simp only [List.getElem?_toArray, List.getElem?_cons_succ, List.getElem?_cons_zero]; rfl)) (fun K hK => ?_) AllReadyH.nil
  go_simp
  refine (valid_eq (k := k) (n := n) (t := t) HV.out _).mono ?_
  rintro e v3_2 ⟨rfl, hv2⟩
  have g2 := Lib.hid hv2
  clear hv2
  have RA_2 := Lib.hid (RA_1.out.below g2.out)
  have RB_2 := Lib.hid (RB_1.out.below g2.out)
  have E_2 := Lib.hid (E_1.out.below g2.out)
  have k2RA0 := RA_2.out.c0
  have k2RA1 := RA_2.out.c1
  have k2RA2 := RA_2.out.c2
  have k2RB0 := RB_2.out.c0
  have k2RB1 := RB_2.out.c1
  have k2RB2 := RB_2.out.c2
  try go_wp2_with fail
  clear hHeld
  refine hK.out _ _ ?_ (fun hHeld => ?_)
  · try dsimp only
    go_keep
  clear hK K
  try simp only [Act.put, List.setIfInBounds_toArray, List.set_cons_zero, List.set_cons_succ]
  refine wpAnyH_take (i := 8) (v := ?_) (by (simp only [List.getElem?_toArray, List.getElem?_cons_succ, List.getElem?_cons_zero]; rfl)) (by kernel_rfl) (by kernel_rfl) (by kernel_rfl) (by intro _ _ _ h; exact h) (Or.inl ⟨by kernel_rfl, ?_⟩) hHeld ?_
  case refine_2 =>
    intro w hSw
    try dsimp only at hSw
    go_simp
    try with_reducible rfl
  try simp only [Act.put, List.setIfInBounds_toArray, List.set_cons_zero, List.set_cons_succ]
  refine wpAnyH_take (i := 9) (v := undef) (by (simp only [List.getElem?_toArray, List.getElem?_cons_succ, List.getElem?_cons_zero]; rfl)) (by kernel_rfl) (by kernel_rfl) (by kernel_rfl) (by intro _ _ _ h; exact h) (Or.inr ⟨by kernel_rfl, rfl⟩) hHeld ?_
  try simp only [Act.put, List.setIfInBounds_toArray, List.set_cons_zero, List.set_cons_succ]
  refine wpAnyH_take (i := 10) (v := undef) (by (simp only [List.getElem?_toArray, List.getElem?_cons_succ, List.getElem?_cons_zero]; rfl)) (by kernel_rfl) (by kernel_rfl) (by kernel_rfl) (by intro _ _ _ h; exact h) (Or.inr ⟨by kernel_rfl, rfl⟩) hHeld ?_
  try simp only [Act.put, List.setIfInBounds_toArray, List.set_cons_zero, List.set_cons_succ]
  refine wpAnyH_take (i := 13) (v := undef) (by (simp only [List.getElem?_toArray, List.getElem?_cons_succ, List.getElem?_cons_zero]; rfl)) (by kernel_rfl) (by kernel_rfl) (by kernel_rfl) (by intro _ _ _ h; exact h) (Or.inr ⟨by kernel_rfl, rfl⟩) hHeld ?_
  try simp only [Act.put, List.setIfInBounds_toArray, List.set_cons_zero, List.set_cons_succ]
  refine wpAnyH_take (i := 14) (v := undef) (by (simp only [List.getElem?_toArray, List.getElem?_cons_succ, List.getElem?_cons_zero]; rfl)) (by kernel_rfl) (by kernel_rfl) (by kernel_rfl) (by intro _ _ _ h; exact h) (Or.inr ⟨by kernel_rfl, rfl⟩) hHeld ?_
  try simp only [Act.put, List.setIfInBounds_toArray, List.set_cons_zero, List.set_cons_succ]
  refine wpAnyH_take (i := 11) (v := undef) (by (simp only [List.getElem?_toArray, List.getElem?_cons_succ, List.getElem?_cons_zero]; rfl)) (by kernel_rfl) (by kernel_rfl) (by kernel_rfl) (by intro _ _ _ h; exact h) (Or.inr ⟨by kernel_rfl, rfl⟩) hHeld ?_
  try simp only [Act.put, List.setIfInBounds_toArray, List.set_cons_zero, List.set_cons_succ]
  refine wpAnyH_take (i := 12) (v := undef) (by (simp only [List.getElem?_toArray, List.getElem?_cons_succ, List.getElem?_cons_zero]; rfl)) (by kernel_rfl) (by kernel_rfl) (by kernel_rfl) (by intro _ _ _ h; exact h) (Or.inr ⟨by kernel_rfl, rfl⟩) hHeld ?_
  try simp only [Act.put, List.setIfInBounds_toArray, List.set_cons_zero, List.set_cons_succ]
  refine wpAnyH_take (i := 15) (v := undef) (by (simp only [List.getElem?_toArray, List.getElem?_cons_succ, List.getElem?_cons_zero]; rfl)) (by kernel_rfl) (by kernel_rfl) (by kernel_rfl) (by intro _ _ _ h; exact h) (Or.inr ⟨by kernel_rfl, rfl⟩) hHeld ?_
  try simp only [Act.put, List.setIfInBounds_toArray, List.set_cons_zero, List.set_cons_succ]
  refine wpAnyH_take (i := 16) (v := undef) (by (simp only [List.getElem?_toArray, List.getElem?_cons_succ, List.getElem?_cons_zero]; rfl)) (by kernel_rfl) (by kernel_rfl) (by kernel_rfl) (by intro _ _ _ h; exact h) (Or.inr ⟨by kernel_rfl, rfl⟩) hHeld ?_
  try simp only [Act.put, List.setIfInBounds_toArray, List.set_cons_zero, List.set_cons_succ]
  refine wpAnyH_take (i := 17) (v := ?_) (by (simp only [List.getElem?_toArray, List.getElem?_cons_succ, List.getElem?_cons_zero]; rfl)) (by kernel_rfl) (by kernel_rfl) (by kernel_rfl) (by intro _ _ _ h; exact h) (Or.inl ⟨by kernel_rfl, ?_⟩) hHeld ?_
  case refine_2 =>
    intro w hSw
    try dsimp only at hSw
    go_simp
    try with_reducible rfl
  try simp only [Act.put, List.setIfInBounds_toArray, List.set_cons_zero, List.set_cons_succ]
  refine wpAnyH_take (i := 18) (v := ?_) (by (simp only [List.getElem?_toArray, List.getElem?_cons_succ, List.getElem?_cons_zero]; rfl)) (by kernel_rfl) (by kernel_rfl) (by kernel_rfl) (by intro _ _ _ h; exact h) (Or.inl ⟨by kernel_rfl, ?_⟩) hHeld ?_
  case refine_2 =>
    intro w hSw
    try dsimp only at hSw
    go_simp
    try with_reducible rfl
  try simp only [Act.put, List.setIfInBounds_toArray, List.set_cons_zero, List.set_cons_succ]
  refine wpAnyH_done (by kernel_rfl) ?_ _
  clear hHeld
  replace HB := Lib.hid (below_up HB.out g1.out HB.out.size)
  replace HB := Lib.hid (below_up HB.out g2.out HB.out.size)
  replace RA := RA_2
  replace RB := RB_2
  replace HE := E_2
  clear zRAc0 zRAc1 zRAc2 zRBc0 zRBc1 zRBc2
  clear g1 g2 E_1 E_2 RA_1 RA_2 RB_1 RB_2 k1RA0 k1RA1 k1RA2 k1RB0 k1RB1 k1RB2 k2RA0 k2RA1 k2RA2 k2RB0 k2RB1 k2RB2
  clear qe
  go_wp2_with fail
  have C := fun W h => parse_any [] (by decide) W h
  rw [HP.out] at C
  refine (C _ HE.out).mono ?_
  clear C
  rintro e w4 ⟨rfl, hb⟩
  replace RA := Lib.hid (RA.out.below hb)
  replace RB := Lib.hid (RB.out.below hb)
  replace HE := Lib.hid (HE.out.below hb)
  replace HB := Lib.hid (below_up HB.out hb HB.out.size)
  clear hb
  have yRAc0 := fun o => (RA.out.alloc o).c0
  have zRAc0 := RA.out.c0
  have yRAc1 := fun o => (RA.out.alloc o).c1
  have zRAc1 := RA.out.c1
  have yRAc2 := fun o => (RA.out.alloc o).c2
  have zRAc2 := RA.out.c2
  go_wp2_with fail
  refine (valid_eq (k := k) (n := n) (t := t) HV.out _ ).mono ?_
  rintro e w5 ⟨rfl, hb⟩
  replace RA := Lib.hid ((RA.out.alloc _).below hb)
  replace RB := Lib.hid ((RB.out.alloc _).below hb)
  have RX := Lib.hid (show Val3 w5 (w4.heap.size) 0 0 [] from Val3.below ⟨by simp [go_sem], by simp [go_sem], by simp [go_sem]⟩ hb)
  replace HE := Lib.hid ((HE.out.alloc _).below hb)
  replace HB := Lib.hid (below_next HB.out HB.out.size hb)
  clear hb
  clear yRAc0 zRAc0 yRAc1 zRAc1 yRAc2 zRAc2
  have zRAc0 := RA.out.c0
  have zRAc1 := RA.out.c1
  have zRAc2 := RA.out.c2
  have zRXc0 := RX.out.c0
  have zRXc1 := RX.out.c1
  have zRXc2 := RX.out.c2
  go_wp2_with fail
  refine (valid_eq (k := k) (n := n) (t := t) HV.out _ ).mono ?_
  rintro e w6 ⟨rfl, hb⟩
  replace RA := Lib.hid (RA.out.below hb)
  replace RB := Lib.hid (RB.out.below hb)
  replace RX := Lib.hid (RX.out.below hb)
  replace HE := Lib.hid (HE.out.below hb)
  replace HB := Lib.hid (below_up HB.out hb HB.out.size)
  clear hb
  clear zRAc0 zRAc1 zRAc2 zRXc0 zRXc1 zRXc2
  go_wp2_with fail
  have C := fun W h => parse_any l (by have := HL.out; omega) W h
  rw [HQ.out] at C
  refine (C _ HE.out).mono ?_
  clear C
  rintro e w7 ⟨rfl, hb⟩
  replace RA := Lib.hid (RA.out.below hb)
  replace RB := Lib.hid (RB.out.below hb)
  replace RX := Lib.hid (RX.out.below hb)
  replace HE := Lib.hid (HE.out.below hb)
  replace HB := Lib.hid (below_up HB.out hb HB.out.size)
  clear hb
  have qz := eql_yes 0 0 []
  go_wp2_with fail
  go_ret
  exact ⟨rfl, HB.out.alloc HB.out.size _⟩


set_option maxRecDepth 100000 in
set_option maxHeartbeats 1600000 in
theorem texts_by (k n k2 n2 : Int) (t t2 l : List UInt8) (hs : shortB [t, t2] = true) (hl : l.length ≤ 500) (hv : vldB k n t = false) (hp : parse [] = (0, 0, [], 4)) (yk yn : Int) (yt : List UInt8) (hq : parse l = (yk, yn, yt, 0)) (hw : vldB yk yn yt = true) (hu : txt yk yn yt = l) (w : World) (he : Env w) :
    Calls Tryd.prog 6 #[V k n t, V k2 n2 t2, .string ⟨l.toArray⟩] w fun e w' => e = .returned (.bool true) ∧ Below w.heap.size w w' := by
  have HV := Lib.hid hv; clear hv
  have HL := Lib.hid hl; clear hl
  have HP := Lib.hid hp; clear hp
  have HQ := Lib.hid hq; clear hq
  have HW := Lib.hid hw; clear hw
  have HU := Lib.hid hu; clear hu
  have hl2 := HL.out
  have HE := Lib.hid he
  have HB := Lib.hid (Below.refl w.heap.size w)
  clear he
  go_enter Tryd.func6, Tryd.ntmps6
  go_wp2_with fail
  refine (head_any _ ((HE.out.alloc _).alloc _)).mono ?_
  rintro e w1 ⟨rfl, hb⟩
  have RA := Lib.hid (show Val3 w1 (w.heap.size) k n t from Val3.below ⟨by simp [go_sem], by simp [go_sem], by simp [go_sem]⟩ hb)
  have RB := Lib.hid (show Val3 w1 (w.heap.size + 1) k2 n2 t2 from Val3.below ⟨by simp [go_sem], by simp [go_sem], by simp [go_sem]⟩ hb)
  replace HE := Lib.hid (((HE.out.alloc _).alloc _).below hb)
  replace HB := Lib.hid (below_up (((HB.out.alloc (by have := HB.out.size; simp; try omega) _).alloc (by have := HB.out.size; simp; try omega) _)) hb (by have := HB.out.size; simp; omega))
  clear hb
  have zRAc0 := RA.out.c0
  have zRAc1 := RA.out.c1
  have zRAc2 := RA.out.c2
  have zRBc0 := RB.out.c0
  have zRBc1 := RB.out.c1
  have zRBc2 := RB.out.c2
  go_wp2_with fail
  refine (short_b2 k n t k2 n2 t2 true hs _ ).mono ?_
  rintro e w2 ⟨rfl, hb⟩
  replace RA := Lib.hid ((RA.out.alloc _).below hb)
  replace RB := Lib.hid ((RB.out.alloc _).below hb)
  replace HE := Lib.hid ((HE.out.alloc _).below hb)
  replace HB := Lib.hid (below_next HB.out HB.out.size hb)
  clear hb
  clear zRAc0 zRAc1 zRAc2 zRBc0 zRBc1 zRBc2
  have zRAc0 := RA.out.c0
  have zRAc1 := RA.out.c1
  have zRAc2 := RA.out.c2
  go_wp2_with fail
  refine (text_eq (k := k) (n := n) (t := t) (x := []) (txt_bad HV.out) _ HE.out).mono ?_
  rintro e w3 ⟨rfl, hb⟩
  replace RA := Lib.hid (RA.out.below hb)
  replace RB := Lib.hid (RB.out.below hb)
  replace HE := Lib.hid (HE.out.below hb)
  replace HB := Lib.hid (below_up HB.out hb HB.out.size)
  clear hb
  clear zRAc0 zRAc1 zRAc2
  clear hl2
  go_wp2_with fail
  have qe := eql_yes k n t
  have zRAc0 := RA.out.c0
  have zRAc1 := RA.out.c1
  have zRAc2 := RA.out.c2
  have zRBc0 := RB.out.c0
  have zRBc1 := RB.out.c1
  have zRBc2 := RB.out.c2
  refine wp_region_held_drew (S := (fun w' => w'.cell? ⟨w.heap.size, 0, none⟩ = some (.int .i64 k) ∧ w'.cell? ⟨w.heap.size, 1, none⟩ = some (.int .i64 n) ∧ w'.cell? ⟨w.heap.size, 2, none⟩ = some (.string ⟨t.toArray⟩) ∧ w'.cell? ⟨w.heap.size + 1, 0, none⟩ = some (.int .i64 k2) ∧ w'.cell? ⟨w.heap.size + 1, 1, none⟩ = some (.int .i64 n2) ∧ w'.cell? ⟨w.heap.size + 1, 2, none⟩ = some (.string ⟨t2.toArray⟩))) (by kernel_rfl) ?_ (fun hHeld => ?_)
  · try dsimp only
    go_keep
  refine wpAnyH_take (i := 0) (v := ?_) (by (simp only [List.getElem?_toArray, List.getElem?_cons_succ, List.getElem?_cons_zero]; rfl)) (by kernel_rfl) (by kernel_rfl) (by kernel_rfl) (by intro _ _ _ h; exact h) (Or.inl ⟨by kernel_rfl, ?_⟩) hHeld ?_
  case refine_2 =>
    intro w hSw
    try dsimp only at hSw
    go_simp
    try with_reducible rfl
  try simp only [Act.put, List.setIfInBounds_toArray, List.set_cons_zero, List.set_cons_succ]
  refine wpAnyH_take (i := 1) (v := ?_) (by (simp only [List.getElem?_toArray, List.getElem?_cons_succ, List.getElem?_cons_zero]; rfl)) (by kernel_rfl) (by kernel_rfl) (by kernel_rfl) (by intro _ _ _ h; exact h) (Or.inl ⟨by kernel_rfl, ?_⟩) hHeld ?_
  case refine_2 =>
    intro w hSw
    try dsimp only at hSw
    go_simp
    try with_reducible rfl
  try simp only [Act.put, List.setIfInBounds_toArray, List.set_cons_zero, List.set_cons_succ]
  refine wpAnyH_take (i := 2) (v := ?_) (by (simp only [List.getElem?_toArray, List.getElem?_cons_succ, List.getElem?_cons_zero]; rfl)) (by kernel_rfl) (by kernel_rfl) (by kernel_rfl) (by intro _ _ _ h; exact h) (Or.inl ⟨by kernel_rfl, ?_⟩) hHeld ?_
  case refine_2 =>
    intro w hSw
    try dsimp only at hSw
    go_simp
    try with_reducible rfl
  try simp only [Act.put, List.setIfInBounds_toArray, List.set_cons_zero, List.set_cons_succ]
  refine wpAnyH_ready (rs := [3]) (by kernel_rfl) (by simp) ?_
  refine AllReadyH.cons (by (simp only [List.getElem?_toArray, List.getElem?_cons_succ, List.getElem?_cons_zero]; rfl)) (fun K hK => ?_) AllReadyH.nil
  go_simp
  refine (valid_eq (k := k) (n := n) (t := t) HV.out _).mono ?_
  rintro e v3_1 ⟨rfl, hv1⟩
  have g1 := Lib.hid ((below_drewN _ w3 1).trans hv1)
  clear hv1
  have RA_1 := Lib.hid (RA.out.below g1.out)
  have RB_1 := Lib.hid (RB.out.below g1.out)
  have E_1 := Lib.hid (HE.out.below g1.out)
  have k1RA0 := RA_1.out.c0
  have k1RA1 := RA_1.out.c1
  have k1RA2 := RA_1.out.c2
  have k1RB0 := RB_1.out.c0
  have k1RB1 := RB_1.out.c1
  have k1RB2 := RB_1.out.c2
  try go_wp2_with fail
  clear hHeld
  refine hK.out _ _ ?_ (fun hHeld => ?_)
  · try dsimp only
    go_keep
  clear hK K
  try simp only [Act.put, List.setIfInBounds_toArray, List.set_cons_zero, List.set_cons_succ]
  refine wpAnyH_take (i := 4) (v := ?_) (by (simp only [List.getElem?_toArray, List.getElem?_cons_succ, List.getElem?_cons_zero]; rfl)) (by kernel_rfl) (by kernel_rfl) (by kernel_rfl) (by intro _ _ _ h; exact h) (Or.inl ⟨by kernel_rfl, ?_⟩) hHeld ?_
  case refine_2 =>
    intro w hSw
    try dsimp only at hSw
    go_simp
    try with_reducible rfl
  try simp only [Act.put, List.setIfInBounds_toArray, List.set_cons_zero, List.set_cons_succ]
  refine wpAnyH_take (i := 5) (v := ?_) (by (simp only [List.getElem?_toArray, List.getElem?_cons_succ, List.getElem?_cons_zero]; rfl)) (by kernel_rfl) (by kernel_rfl) (by kernel_rfl) (by intro _ _ _ h; exact h) (Or.inl ⟨by kernel_rfl, ?_⟩) hHeld ?_
  case refine_2 =>
    intro w hSw
    try dsimp only at hSw
    go_simp
    try with_reducible rfl
  try simp only [Act.put, List.setIfInBounds_toArray, List.set_cons_zero, List.set_cons_succ]
  refine wpAnyH_take (i := 6) (v := ?_) (by (simp only [List.getElem?_toArray, List.getElem?_cons_succ, List.getElem?_cons_zero]; rfl)) (by kernel_rfl) (by kernel_rfl) (by kernel_rfl) (by intro _ _ _ h; exact h) (Or.inl ⟨by kernel_rfl, ?_⟩) hHeld ?_
  case refine_2 =>
    intro w hSw
    try dsimp only at hSw
    go_simp
    try with_reducible rfl
  try simp only [Act.put, List.setIfInBounds_toArray, List.set_cons_zero, List.set_cons_succ]
  refine wpAnyH_ready (rs := [7]) (by kernel_rfl) (by simp) ?_
  refine AllReadyH.cons (by (simp only [List.getElem?_toArray, List.getElem?_cons_succ, List.getElem?_cons_zero]; rfl)) (fun K hK => ?_) AllReadyH.nil
  go_simp
  refine (valid_eq (k := k) (n := n) (t := t) HV.out _).mono ?_
  rintro e v3_2 ⟨rfl, hv2⟩
  have g2 := Lib.hid hv2
  clear hv2
  have RA_2 := Lib.hid (RA_1.out.below g2.out)
  have RB_2 := Lib.hid (RB_1.out.below g2.out)
  have E_2 := Lib.hid (E_1.out.below g2.out)
  have k2RA0 := RA_2.out.c0
  have k2RA1 := RA_2.out.c1
  have k2RA2 := RA_2.out.c2
  have k2RB0 := RB_2.out.c0
  have k2RB1 := RB_2.out.c1
  have k2RB2 := RB_2.out.c2
  try go_wp2_with fail
  clear hHeld
  refine hK.out _ _ ?_ (fun hHeld => ?_)
  · try dsimp only
    go_keep
  clear hK K
  try simp only [Act.put, List.setIfInBounds_toArray, List.set_cons_zero, List.set_cons_succ]
  refine wpAnyH_take (i := 8) (v := ?_) (by (simp only [List.getElem?_toArray, List.getElem?_cons_succ, List.getElem?_cons_zero]; rfl)) (by kernel_rfl) (by kernel_rfl) (by kernel_rfl) (by intro _ _ _ h; exact h) (Or.inl ⟨by kernel_rfl, ?_⟩) hHeld ?_
  case refine_2 =>
    intro w hSw
    try dsimp only at hSw
    go_simp
    try with_reducible rfl
  try simp only [Act.put, List.setIfInBounds_toArray, List.set_cons_zero, List.set_cons_succ]
  refine wpAnyH_take (i := 9) (v := undef) (by (simp only [List.getElem?_toArray, List.getElem?_cons_succ, List.getElem?_cons_zero]; rfl)) (by kernel_rfl) (by kernel_rfl) (by kernel_rfl) (by intro _ _ _ h; exact h) (Or.inr ⟨by kernel_rfl, rfl⟩) hHeld ?_
  try simp only [Act.put, List.setIfInBounds_toArray, List.set_cons_zero, List.set_cons_succ]
  refine wpAnyH_take (i := 10) (v := undef) (by (simp only [List.getElem?_toArray, List.getElem?_cons_succ, List.getElem?_cons_zero]; rfl)) (by kernel_rfl) (by kernel_rfl) (by kernel_rfl) (by intro _ _ _ h; exact h) (Or.inr ⟨by kernel_rfl, rfl⟩) hHeld ?_
  try simp only [Act.put, List.setIfInBounds_toArray, List.set_cons_zero, List.set_cons_succ]
  refine wpAnyH_take (i := 13) (v := undef) (by (simp only [List.getElem?_toArray, List.getElem?_cons_succ, List.getElem?_cons_zero]; rfl)) (by kernel_rfl) (by kernel_rfl) (by kernel_rfl) (by intro _ _ _ h; exact h) (Or.inr ⟨by kernel_rfl, rfl⟩) hHeld ?_
  try simp only [Act.put, List.setIfInBounds_toArray, List.set_cons_zero, List.set_cons_succ]
  refine wpAnyH_take (i := 14) (v := undef) (by (simp only [List.getElem?_toArray, List.getElem?_cons_succ, List.getElem?_cons_zero]; rfl)) (by kernel_rfl) (by kernel_rfl) (by kernel_rfl) (by intro _ _ _ h; exact h) (Or.inr ⟨by kernel_rfl, rfl⟩) hHeld ?_
  try simp only [Act.put, List.setIfInBounds_toArray, List.set_cons_zero, List.set_cons_succ]
  refine wpAnyH_take (i := 11) (v := undef) (by (simp only [List.getElem?_toArray, List.getElem?_cons_succ, List.getElem?_cons_zero]; rfl)) (by kernel_rfl) (by kernel_rfl) (by kernel_rfl) (by intro _ _ _ h; exact h) (Or.inr ⟨by kernel_rfl, rfl⟩) hHeld ?_
  try simp only [Act.put, List.setIfInBounds_toArray, List.set_cons_zero, List.set_cons_succ]
  refine wpAnyH_take (i := 12) (v := undef) (by (simp only [List.getElem?_toArray, List.getElem?_cons_succ, List.getElem?_cons_zero]; rfl)) (by kernel_rfl) (by kernel_rfl) (by kernel_rfl) (by intro _ _ _ h; exact h) (Or.inr ⟨by kernel_rfl, rfl⟩) hHeld ?_
  try simp only [Act.put, List.setIfInBounds_toArray, List.set_cons_zero, List.set_cons_succ]
  refine wpAnyH_take (i := 15) (v := undef) (by (simp only [List.getElem?_toArray, List.getElem?_cons_succ, List.getElem?_cons_zero]; rfl)) (by kernel_rfl) (by kernel_rfl) (by kernel_rfl) (by intro _ _ _ h; exact h) (Or.inr ⟨by kernel_rfl, rfl⟩) hHeld ?_
  try simp only [Act.put, List.setIfInBounds_toArray, List.set_cons_zero, List.set_cons_succ]
  refine wpAnyH_take (i := 16) (v := undef) (by (simp only [List.getElem?_toArray, List.getElem?_cons_succ, List.getElem?_cons_zero]; rfl)) (by kernel_rfl) (by kernel_rfl) (by kernel_rfl) (by intro _ _ _ h; exact h) (Or.inr ⟨by kernel_rfl, rfl⟩) hHeld ?_
  try simp only [Act.put, List.setIfInBounds_toArray, List.set_cons_zero, List.set_cons_succ]
  refine wpAnyH_take (i := 17) (v := ?_) (by (simp only [List.getElem?_toArray, List.getElem?_cons_succ, List.getElem?_cons_zero]; rfl)) (by kernel_rfl) (by kernel_rfl) (by kernel_rfl) (by intro _ _ _ h; exact h) (Or.inl ⟨by kernel_rfl, ?_⟩) hHeld ?_
  case refine_2 =>
    intro w hSw
    try dsimp only at hSw
    go_simp
    try with_reducible rfl
  try simp only [Act.put, List.setIfInBounds_toArray, List.set_cons_zero, List.set_cons_succ]
  refine wpAnyH_take (i := 18) (v := ?_) (by (simp only [List.getElem?_toArray, List.getElem?_cons_succ, List.getElem?_cons_zero]; rfl)) (by kernel_rfl) (by kernel_rfl) (by kernel_rfl) (by intro _ _ _ h; exact h) (Or.inl ⟨by kernel_rfl, ?_⟩) hHeld ?_
  case refine_2 =>
    intro w hSw
    try dsimp only at hSw
    go_simp
    try with_reducible rfl
  try simp only [Act.put, List.setIfInBounds_toArray, List.set_cons_zero, List.set_cons_succ]
  refine wpAnyH_done (by kernel_rfl) ?_ _
  clear hHeld
  replace HB := Lib.hid (below_up HB.out g1.out HB.out.size)
  replace HB := Lib.hid (below_up HB.out g2.out HB.out.size)
  replace RA := RA_2
  replace RB := RB_2
  replace HE := E_2
  clear zRAc0 zRAc1 zRAc2 zRBc0 zRBc1 zRBc2
  clear g1 g2 E_1 E_2 RA_1 RA_2 RB_1 RB_2 k1RA0 k1RA1 k1RA2 k1RB0 k1RB1 k1RB2 k2RA0 k2RA1 k2RA2 k2RB0 k2RB1 k2RB2
  clear qe
  go_wp2_with fail
  have C := fun W h => parse_any [] (by decide) W h
  rw [HP.out] at C
  refine (C _ HE.out).mono ?_
  clear C
  rintro e w4 ⟨rfl, hb⟩
  replace RA := Lib.hid (RA.out.below hb)
  replace RB := Lib.hid (RB.out.below hb)
  replace HE := Lib.hid (HE.out.below hb)
  replace HB := Lib.hid (below_up HB.out hb HB.out.size)
  clear hb
  have yRAc0 := fun o => (RA.out.alloc o).c0
  have zRAc0 := RA.out.c0
  have yRAc1 := fun o => (RA.out.alloc o).c1
  have zRAc1 := RA.out.c1
  have yRAc2 := fun o => (RA.out.alloc o).c2
  have zRAc2 := RA.out.c2
  go_wp2_with fail
  refine (valid_eq (k := k) (n := n) (t := t) HV.out _ ).mono ?_
  rintro e w5 ⟨rfl, hb⟩
  replace RA := Lib.hid ((RA.out.alloc _).below hb)
  replace RB := Lib.hid ((RB.out.alloc _).below hb)
  have RX := Lib.hid (show Val3 w5 (w4.heap.size) 0 0 [] from Val3.below ⟨by simp [go_sem], by simp [go_sem], by simp [go_sem]⟩ hb)
  replace HE := Lib.hid ((HE.out.alloc _).below hb)
  replace HB := Lib.hid (below_next HB.out HB.out.size hb)
  clear hb
  clear yRAc0 zRAc0 yRAc1 zRAc1 yRAc2 zRAc2
  have zRAc0 := RA.out.c0
  have zRAc1 := RA.out.c1
  have zRAc2 := RA.out.c2
  have zRXc0 := RX.out.c0
  have zRXc1 := RX.out.c1
  have zRXc2 := RX.out.c2
  go_wp2_with fail
  refine (valid_eq (k := k) (n := n) (t := t) HV.out _ ).mono ?_
  rintro e w6 ⟨rfl, hb⟩
  replace RA := Lib.hid (RA.out.below hb)
  replace RB := Lib.hid (RB.out.below hb)
  replace RX := Lib.hid (RX.out.below hb)
  replace HE := Lib.hid (HE.out.below hb)
  replace HB := Lib.hid (below_up HB.out hb HB.out.size)
  clear hb
  clear zRAc0 zRAc1 zRAc2 zRXc0 zRXc1 zRXc2
  go_wp2_with fail
  have C := fun W h => parse_any l (by have := HL.out; omega) W h
  rw [HQ.out] at C
  refine (C _ HE.out).mono ?_
  clear C
  rintro e w7 ⟨rfl, hb⟩
  replace RA := Lib.hid (RA.out.below hb)
  replace RB := Lib.hid (RB.out.below hb)
  replace RX := Lib.hid (RX.out.below hb)
  replace HE := Lib.hid (HE.out.below hb)
  replace HB := Lib.hid (below_up HB.out hb HB.out.size)
  clear hb
  go_wp2_with fail
  refine (valid_eq (k := yk) (n := yn) (t := yt) HW.out _ ).mono ?_
  rintro e w8 ⟨rfl, hb⟩
  replace RA := Lib.hid ((RA.out.alloc _).below hb)
  replace RB := Lib.hid ((RB.out.alloc _).below hb)
  replace RX := Lib.hid ((RX.out.alloc _).below hb)
  have RY := Lib.hid (show Val3 w8 (w7.heap.size) yk yn yt from Val3.below ⟨by simp [go_sem], by simp [go_sem], by simp [go_sem]⟩ hb)
  replace HE := Lib.hid ((HE.out.alloc _).below hb)
  replace HB := Lib.hid (below_next HB.out HB.out.size hb)
  clear hb
  have zRYc0 := RY.out.c0
  have zRYc1 := RY.out.c1
  have zRYc2 := RY.out.c2
  go_wp2_with fail
  refine (text_eq (k := yk) (n := yn) (t := yt) HU.out _ HE.out).mono ?_
  rintro e w9 ⟨rfl, hb⟩
  replace RA := Lib.hid (RA.out.below hb)
  replace RB := Lib.hid (RB.out.below hb)
  replace RX := Lib.hid (RX.out.below hb)
  replace RY := Lib.hid (RY.out.below hb)
  replace HE := Lib.hid (HE.out.below hb)
  replace HB := Lib.hid (below_up HB.out hb HB.out.size)
  clear hb
  clear zRYc0 zRYc1 zRYc2
  go_wp2_with fail
  go_ret
  exact ⟨rfl, HB.out⟩


set_option maxRecDepth 100000 in
set_option maxHeartbeats 1600000 in
theorem texts_sn (k n : Int) (t l : List UInt8) (hs : shortB [t, t] = true) (hl : l.length ≤ 500) (hv : vldB k n t = true) (tx : List UInt8) (ht : txt k n t = tx) (hpl : tx.length ≤ 1000) (hne : tx ≠ []) (hp : parse tx = (k, n, t, 0)) (hq : parse l = (0, 0, [], 4)) (w : World) (he : Env w) :
    Calls Tryd.prog 6 #[V k n t, V k n t, .string ⟨l.toArray⟩] w fun e w' => e = .returned (.bool true) ∧ Below w.heap.size w w' := by
  have HV := Lib.hid hv; clear hv
  have HL := Lib.hid hl; clear hl
  have HP := Lib.hid hp; clear hp
  have HQ := Lib.hid hq; clear hq
  have HT := Lib.hid ht; clear ht
  have HPL := Lib.hid hpl; clear hpl
  have i1 : tx.isEmpty = false := by simpa using hne
  have i2 : (tx == []) = false := by simpa using hne
  have i3 : (!tx == []) = true := by simpa using hne
  have i4 : ¬ tx = [] := hne
  clear hne
  have hl2 := HL.out
  have HE := Lib.hid he
  have HB := Lib.hid (Below.refl w.heap.size w)
  clear he
  go_enter Tryd.func6, Tryd.ntmps6
  go_wp2_with fail
  refine (head_any _ ((HE.out.alloc _).alloc _)).mono ?_
  rintro e w1 ⟨rfl, hb⟩
  have RA := Lib.hid (show Val3 w1 (w.heap.size) k n t from Val3.below ⟨by simp [go_sem], by simp [go_sem], by simp [go_sem]⟩ hb)
  have RB := Lib.hid (show Val3 w1 (w.heap.size + 1) k n t from Val3.below ⟨by simp [go_sem], by simp [go_sem], by simp [go_sem]⟩ hb)
  replace HE := Lib.hid (((HE.out.alloc _).alloc _).below hb)
  replace HB := Lib.hid (below_up (((HB.out.alloc (by have := HB.out.size; simp; try omega) _).alloc (by have := HB.out.size; simp; try omega) _)) hb (by have := HB.out.size; simp; omega))
  clear hb
  have zRAc0 := RA.out.c0
  have zRAc1 := RA.out.c1
  have zRAc2 := RA.out.c2
  have zRBc0 := RB.out.c0
  have zRBc1 := RB.out.c1
  have zRBc2 := RB.out.c2
  go_wp2_with fail
  refine (short_b2 k n t k n t true hs _ ).mono ?_
  rintro e w2 ⟨rfl, hb⟩
  replace RA := Lib.hid ((RA.out.alloc _).below hb)
  replace RB := Lib.hid ((RB.out.alloc _).below hb)
  replace HE := Lib.hid ((HE.out.alloc _).below hb)
  replace HB := Lib.hid (below_next HB.out HB.out.size hb)
  clear hb
  clear zRAc0 zRAc1 zRAc2 zRBc0 zRBc1 zRBc2
  have zRAc0 := RA.out.c0
  have zRAc1 := RA.out.c1
  have zRAc2 := RA.out.c2
  go_wp2_with fail
  refine (text_eq (k := k) (n := n) (t := t) (x := tx) HT.out _ HE.out).mono ?_
  rintro e w3 ⟨rfl, hb⟩
  replace RA := Lib.hid (RA.out.below hb)
  replace RB := Lib.hid (RB.out.below hb)
  replace HE := Lib.hid (HE.out.below hb)
  replace HB := Lib.hid (below_up HB.out hb HB.out.size)
  clear hb
  clear zRAc0 zRAc1 zRAc2
  clear hl2
  go_wp2_with fail
  have qe := eql_yes k n t
  have zRAc0 := RA.out.c0
  have zRAc1 := RA.out.c1
  have zRAc2 := RA.out.c2
  have zRBc0 := RB.out.c0
  have zRBc1 := RB.out.c1
  have zRBc2 := RB.out.c2
  have tok1 : True := trivial
  have tok2 : True := trivial
  go_region_held3 (fun w' => w'.cell? ⟨w.heap.size, 0, none⟩ = some (.int .i64 k) ∧ w'.cell? ⟨w.heap.size, 1, none⟩ = some (.int .i64 n) ∧ w'.cell? ⟨w.heap.size, 2, none⟩ = some (.string ⟨t.toArray⟩) ∧ w'.cell? ⟨w.heap.size + 1, 0, none⟩ = some (.int .i64 k) ∧ w'.cell? ⟨w.heap.size + 1, 1, none⟩ = some (.int .i64 n) ∧ w'.cell? ⟨w.heap.size + 1, 2, none⟩ = some (.string ⟨t.toArray⟩)) (go_keep)
    (first | (go_at_call 17; have _t := tok1; clear _t; refine (valid_eq (k := k) (n := n) (t := t) HV.out _).mono ?_; clear tok1; rintro e v3_1 ⟨rfl, hv1⟩; have g1 := Lib.hid ((below_drewN _ w3 1).trans hv1); clear hv1; have RA_1 := Lib.hid (RA.out.below g1.out); have RB_1 := Lib.hid (RB.out.below g1.out); have E_1 := Lib.hid (HE.out.below g1.out); have k1RA0 := RA_1.out.c0; have k1RA1 := RA_1.out.c1; have k1RA2 := RA_1.out.c2; have k1RB0 := RB_1.out.c0; have k1RB1 := RB_1.out.c1; have k1RB2 := RB_1.out.c2) | (go_at_call 17; have _t := tok2; clear _t; refine (valid_eq (k := k) (n := n) (t := t) HV.out _).mono ?_; clear tok2; rintro e v3_2 ⟨rfl, hv2⟩; have g2 := Lib.hid hv2; clear hv2; have RA_2 := Lib.hid (RA_1.out.below g2.out); have RB_2 := Lib.hid (RB_1.out.below g2.out); have E_2 := Lib.hid (E_1.out.below g2.out); have k2RA0 := RA_2.out.c0; have k2RA1 := RA_2.out.c1; have k2RA2 := RA_2.out.c2; have k2RB0 := RB_2.out.c0; have k2RB1 := RB_2.out.c1; have k2RB2 := RB_2.out.c2) | (go_at_call 21; refine (text_eq (k := k) (n := n) (t := t) HT.out _ E_2.out).mono ?_; rintro e v3_3 ⟨rfl, hv3⟩; have g3 := Lib.hid hv3; clear hv3; have RA_3 := Lib.hid (RA_2.out.below g3.out); have RB_3 := Lib.hid (RB_2.out.below g3.out); have E_3 := Lib.hid (E_2.out.below g3.out); have k3RA0 := RA_3.out.c0; have k3RA1 := RA_3.out.c1; have k3RA2 := RA_3.out.c2; have k3RB0 := RB_3.out.c0; have k3RB1 := RB_3.out.c1; have k3RB2 := RB_3.out.c2))
  replace HB := Lib.hid (below_up HB.out g1.out HB.out.size)
  replace HB := Lib.hid (below_up HB.out g2.out HB.out.size)
  replace HB := Lib.hid (below_up HB.out g3.out HB.out.size)
  replace RA := RA_3
  replace RB := RB_3
  replace HE := E_3
  clear zRAc0 zRAc1 zRAc2 zRBc0 zRBc1 zRBc2
  clear g1 g2 g3 E_1 E_2 E_3 RA_1 RA_2 RA_3 RB_1 RB_2 RB_3 k1RA0 k1RA1 k1RA2 k1RB0 k1RB1 k1RB2 k2RA0 k2RA1 k2RA2 k2RB0 k2RB1 k2RB2 k3RA0 k3RA1 k3RA2 k3RB0 k3RB1 k3RB2
  clear qe
  go_wp2_with fail
  have C := fun W h => parse_any tx HPL.out W h
  rw [HP.out] at C
  refine (C _ HE.out).mono ?_
  clear C
  rintro e w4 ⟨rfl, hb⟩
  replace RA := Lib.hid (RA.out.below hb)
  replace RB := Lib.hid (RB.out.below hb)
  replace HE := Lib.hid (HE.out.below hb)
  replace HB := Lib.hid (below_up HB.out hb HB.out.size)
  clear hb
  have yRAc0 := fun o => (RA.out.alloc o).c0
  have zRAc0 := RA.out.c0
  have yRAc1 := fun o => (RA.out.alloc o).c1
  have zRAc1 := RA.out.c1
  have yRAc2 := fun o => (RA.out.alloc o).c2
  have zRAc2 := RA.out.c2
  go_wp2_with fail
  refine (valid_eq (k := k) (n := n) (t := t) HV.out _ ).mono ?_
  rintro e w5 ⟨rfl, hb⟩
  replace RA := Lib.hid ((RA.out.alloc _).below hb)
  replace RB := Lib.hid ((RB.out.alloc _).below hb)
  have RX := Lib.hid (show Val3 w5 (w4.heap.size) k n t from Val3.below ⟨by simp [go_sem], by simp [go_sem], by simp [go_sem]⟩ hb)
  replace HE := Lib.hid ((HE.out.alloc _).below hb)
  replace HB := Lib.hid (below_next HB.out HB.out.size hb)
  clear hb
  clear yRAc0 zRAc0 yRAc1 zRAc1 yRAc2 zRAc2
  have qn := neq_no k n t
  have zRAc0 := RA.out.c0
  have zRAc1 := RA.out.c1
  have zRAc2 := RA.out.c2
  have zRXc0 := RX.out.c0
  have zRXc1 := RX.out.c1
  have zRXc2 := RX.out.c2
  go_wp2_with fail
  refine (valid_eq (k := k) (n := n) (t := t) HV.out _ ).mono ?_
  rintro e w6 ⟨rfl, hb⟩
  replace RA := Lib.hid (RA.out.below hb)
  replace RB := Lib.hid (RB.out.below hb)
  replace RX := Lib.hid (RX.out.below hb)
  replace HE := Lib.hid (HE.out.below hb)
  replace HB := Lib.hid (below_up HB.out hb HB.out.size)
  clear hb
  clear zRAc0 zRAc1 zRAc2 zRXc0 zRXc1 zRXc2
  clear qn
  go_wp2_with fail
  have C := fun W h => parse_any l (by have := HL.out; omega) W h
  rw [HQ.out] at C
  refine (C _ HE.out).mono ?_
  clear C
  rintro e w7 ⟨rfl, hb⟩
  replace RA := Lib.hid (RA.out.below hb)
  replace RB := Lib.hid (RB.out.below hb)
  replace RX := Lib.hid (RX.out.below hb)
  replace HE := Lib.hid (HE.out.below hb)
  replace HB := Lib.hid (below_up HB.out hb HB.out.size)
  clear hb
  have qz := eql_yes 0 0 []
  go_wp2_with fail
  go_ret
  exact ⟨rfl, HB.out.alloc HB.out.size _⟩


set_option maxRecDepth 100000 in
set_option maxHeartbeats 1600000 in
theorem texts_sy (k n : Int) (t l : List UInt8) (hs : shortB [t, t] = true) (hl : l.length ≤ 500) (hv : vldB k n t = true) (tx : List UInt8) (ht : txt k n t = tx) (hpl : tx.length ≤ 1000) (hne : tx ≠ []) (hp : parse tx = (k, n, t, 0)) (yk yn : Int) (yt : List UInt8) (hq : parse l = (yk, yn, yt, 0)) (hw : vldB yk yn yt = true) (hu : txt yk yn yt = l) (w : World) (he : Env w) :
    Calls Tryd.prog 6 #[V k n t, V k n t, .string ⟨l.toArray⟩] w fun e w' => e = .returned (.bool true) ∧ Below w.heap.size w w' := by
  have HV := Lib.hid hv; clear hv
  have HL := Lib.hid hl; clear hl
  have HP := Lib.hid hp; clear hp
  have HQ := Lib.hid hq; clear hq
  have HT := Lib.hid ht; clear ht
  have HPL := Lib.hid hpl; clear hpl
  have HW := Lib.hid hw; clear hw
  have HU := Lib.hid hu; clear hu
  have i1 : tx.isEmpty = false := by simpa using hne
  have i2 : (tx == []) = false := by simpa using hne
  have i3 : (!tx == []) = true := by simpa using hne
  have i4 : ¬ tx = [] := hne
  clear hne
  have hl2 := HL.out
  have HE := Lib.hid he
  have HB := Lib.hid (Below.refl w.heap.size w)
  clear he
  go_enter Tryd.func6, Tryd.ntmps6
  go_wp2_with fail
  refine (head_any _ ((HE.out.alloc _).alloc _)).mono ?_
  rintro e w1 ⟨rfl, hb⟩
  have RA := Lib.hid (show Val3 w1 (w.heap.size) k n t from Val3.below ⟨by simp [go_sem], by simp [go_sem], by simp [go_sem]⟩ hb)
  have RB := Lib.hid (show Val3 w1 (w.heap.size + 1) k n t from Val3.below ⟨by simp [go_sem], by simp [go_sem], by simp [go_sem]⟩ hb)
  replace HE := Lib.hid (((HE.out.alloc _).alloc _).below hb)
  replace HB := Lib.hid (below_up (((HB.out.alloc (by have := HB.out.size; simp; try omega) _).alloc (by have := HB.out.size; simp; try omega) _)) hb (by have := HB.out.size; simp; omega))
  clear hb
  have zRAc0 := RA.out.c0
  have zRAc1 := RA.out.c1
  have zRAc2 := RA.out.c2
  have zRBc0 := RB.out.c0
  have zRBc1 := RB.out.c1
  have zRBc2 := RB.out.c2
  go_wp2_with fail
  refine (short_b2 k n t k n t true hs _ ).mono ?_
  rintro e w2 ⟨rfl, hb⟩
  replace RA := Lib.hid ((RA.out.alloc _).below hb)
  replace RB := Lib.hid ((RB.out.alloc _).below hb)
  replace HE := Lib.hid ((HE.out.alloc _).below hb)
  replace HB := Lib.hid (below_next HB.out HB.out.size hb)
  clear hb
  clear zRAc0 zRAc1 zRAc2 zRBc0 zRBc1 zRBc2
  have zRAc0 := RA.out.c0
  have zRAc1 := RA.out.c1
  have zRAc2 := RA.out.c2
  go_wp2_with fail
  refine (text_eq (k := k) (n := n) (t := t) (x := tx) HT.out _ HE.out).mono ?_
  rintro e w3 ⟨rfl, hb⟩
  replace RA := Lib.hid (RA.out.below hb)
  replace RB := Lib.hid (RB.out.below hb)
  replace HE := Lib.hid (HE.out.below hb)
  replace HB := Lib.hid (below_up HB.out hb HB.out.size)
  clear hb
  clear zRAc0 zRAc1 zRAc2
  clear hl2
  go_wp2_with fail
  have qe := eql_yes k n t
  have zRAc0 := RA.out.c0
  have zRAc1 := RA.out.c1
  have zRAc2 := RA.out.c2
  have zRBc0 := RB.out.c0
  have zRBc1 := RB.out.c1
  have zRBc2 := RB.out.c2
  have tok1 : True := trivial
  have tok2 : True := trivial
  go_region_held3 (fun w' => w'.cell? ⟨w.heap.size, 0, none⟩ = some (.int .i64 k) ∧ w'.cell? ⟨w.heap.size, 1, none⟩ = some (.int .i64 n) ∧ w'.cell? ⟨w.heap.size, 2, none⟩ = some (.string ⟨t.toArray⟩) ∧ w'.cell? ⟨w.heap.size + 1, 0, none⟩ = some (.int .i64 k) ∧ w'.cell? ⟨w.heap.size + 1, 1, none⟩ = some (.int .i64 n) ∧ w'.cell? ⟨w.heap.size + 1, 2, none⟩ = some (.string ⟨t.toArray⟩)) (go_keep)
    (first | (go_at_call 17; have _t := tok1; clear _t; refine (valid_eq (k := k) (n := n) (t := t) HV.out _).mono ?_; clear tok1; rintro e v3_1 ⟨rfl, hv1⟩; have g1 := Lib.hid ((below_drewN _ w3 1).trans hv1); clear hv1; have RA_1 := Lib.hid (RA.out.below g1.out); have RB_1 := Lib.hid (RB.out.below g1.out); have E_1 := Lib.hid (HE.out.below g1.out); have k1RA0 := RA_1.out.c0; have k1RA1 := RA_1.out.c1; have k1RA2 := RA_1.out.c2; have k1RB0 := RB_1.out.c0; have k1RB1 := RB_1.out.c1; have k1RB2 := RB_1.out.c2) | (go_at_call 17; have _t := tok2; clear _t; refine (valid_eq (k := k) (n := n) (t := t) HV.out _).mono ?_; clear tok2; rintro e v3_2 ⟨rfl, hv2⟩; have g2 := Lib.hid hv2; clear hv2; have RA_2 := Lib.hid (RA_1.out.below g2.out); have RB_2 := Lib.hid (RB_1.out.below g2.out); have E_2 := Lib.hid (E_1.out.below g2.out); have k2RA0 := RA_2.out.c0; have k2RA1 := RA_2.out.c1; have k2RA2 := RA_2.out.c2; have k2RB0 := RB_2.out.c0; have k2RB1 := RB_2.out.c1; have k2RB2 := RB_2.out.c2) | (go_at_call 21; refine (text_eq (k := k) (n := n) (t := t) HT.out _ E_2.out).mono ?_; rintro e v3_3 ⟨rfl, hv3⟩; have g3 := Lib.hid hv3; clear hv3; have RA_3 := Lib.hid (RA_2.out.below g3.out); have RB_3 := Lib.hid (RB_2.out.below g3.out); have E_3 := Lib.hid (E_2.out.below g3.out); have k3RA0 := RA_3.out.c0; have k3RA1 := RA_3.out.c1; have k3RA2 := RA_3.out.c2; have k3RB0 := RB_3.out.c0; have k3RB1 := RB_3.out.c1; have k3RB2 := RB_3.out.c2))
  replace HB := Lib.hid (below_up HB.out g1.out HB.out.size)
  replace HB := Lib.hid (below_up HB.out g2.out HB.out.size)
  replace HB := Lib.hid (below_up HB.out g3.out HB.out.size)
  replace RA := RA_3
  replace RB := RB_3
  replace HE := E_3
  clear zRAc0 zRAc1 zRAc2 zRBc0 zRBc1 zRBc2
  clear g1 g2 g3 E_1 E_2 E_3 RA_1 RA_2 RA_3 RB_1 RB_2 RB_3 k1RA0 k1RA1 k1RA2 k1RB0 k1RB1 k1RB2 k2RA0 k2RA1 k2RA2 k2RB0 k2RB1 k2RB2 k3RA0 k3RA1 k3RA2 k3RB0 k3RB1 k3RB2
  clear qe
  go_wp2_with fail
  have C := fun W h => parse_any tx HPL.out W h
  rw [HP.out] at C
  refine (C _ HE.out).mono ?_
  clear C
  rintro e w4 ⟨rfl, hb⟩
  replace RA := Lib.hid (RA.out.below hb)
  replace RB := Lib.hid (RB.out.below hb)
  replace HE := Lib.hid (HE.out.below hb)
  replace HB := Lib.hid (below_up HB.out hb HB.out.size)
  clear hb
  have yRAc0 := fun o => (RA.out.alloc o).c0
  have zRAc0 := RA.out.c0
  have yRAc1 := fun o => (RA.out.alloc o).c1
  have zRAc1 := RA.out.c1
  have yRAc2 := fun o => (RA.out.alloc o).c2
  have zRAc2 := RA.out.c2
  go_wp2_with fail
  refine (valid_eq (k := k) (n := n) (t := t) HV.out _ ).mono ?_
  rintro e w5 ⟨rfl, hb⟩
  replace RA := Lib.hid ((RA.out.alloc _).below hb)
  replace RB := Lib.hid ((RB.out.alloc _).below hb)
  have RX := Lib.hid (show Val3 w5 (w4.heap.size) k n t from Val3.below ⟨by simp [go_sem], by simp [go_sem], by simp [go_sem]⟩ hb)
  replace HE := Lib.hid ((HE.out.alloc _).below hb)
  replace HB := Lib.hid (below_next HB.out HB.out.size hb)
  clear hb
  clear yRAc0 zRAc0 yRAc1 zRAc1 yRAc2 zRAc2
  have qn := neq_no k n t
  have zRAc0 := RA.out.c0
  have zRAc1 := RA.out.c1
  have zRAc2 := RA.out.c2
  have zRXc0 := RX.out.c0
  have zRXc1 := RX.out.c1
  have zRXc2 := RX.out.c2
  go_wp2_with fail
  refine (valid_eq (k := k) (n := n) (t := t) HV.out _ ).mono ?_
  rintro e w6 ⟨rfl, hb⟩
  replace RA := Lib.hid (RA.out.below hb)
  replace RB := Lib.hid (RB.out.below hb)
  replace RX := Lib.hid (RX.out.below hb)
  replace HE := Lib.hid (HE.out.below hb)
  replace HB := Lib.hid (below_up HB.out hb HB.out.size)
  clear hb
  clear zRAc0 zRAc1 zRAc2 zRXc0 zRXc1 zRXc2
  clear qn
  go_wp2_with fail
  have C := fun W h => parse_any l (by have := HL.out; omega) W h
  rw [HQ.out] at C
  refine (C _ HE.out).mono ?_
  clear C
  rintro e w7 ⟨rfl, hb⟩
  replace RA := Lib.hid (RA.out.below hb)
  replace RB := Lib.hid (RB.out.below hb)
  replace RX := Lib.hid (RX.out.below hb)
  replace HE := Lib.hid (HE.out.below hb)
  replace HB := Lib.hid (below_up HB.out hb HB.out.size)
  clear hb
  go_wp2_with fail
  refine (valid_eq (k := yk) (n := yn) (t := yt) HW.out _ ).mono ?_
  rintro e w8 ⟨rfl, hb⟩
  replace RA := Lib.hid ((RA.out.alloc _).below hb)
  replace RB := Lib.hid ((RB.out.alloc _).below hb)
  replace RX := Lib.hid ((RX.out.alloc _).below hb)
  have RY := Lib.hid (show Val3 w8 (w7.heap.size) yk yn yt from Val3.below ⟨by simp [go_sem], by simp [go_sem], by simp [go_sem]⟩ hb)
  replace HE := Lib.hid ((HE.out.alloc _).below hb)
  replace HB := Lib.hid (below_next HB.out HB.out.size hb)
  clear hb
  have zRYc0 := RY.out.c0
  have zRYc1 := RY.out.c1
  have zRYc2 := RY.out.c2
  go_wp2_with fail
  refine (text_eq (k := yk) (n := yn) (t := yt) HU.out _ HE.out).mono ?_
  rintro e w9 ⟨rfl, hb⟩
  replace RA := Lib.hid (RA.out.below hb)
  replace RB := Lib.hid (RB.out.below hb)
  replace RX := Lib.hid (RX.out.below hb)
  replace RY := Lib.hid (RY.out.below hb)
  replace HE := Lib.hid (HE.out.below hb)
  replace HB := Lib.hid (below_up HB.out hb HB.out.size)
  clear hb
  clear zRYc0 zRYc1 zRYc2
  go_wp2_with fail
  go_ret
  exact ⟨rfl, HB.out⟩


set_option maxRecDepth 100000 in
set_option maxHeartbeats 1600000 in
theorem texts_dn (k n k2 n2 : Int) (t t2 l : List UInt8) (hs : shortB [t, t2] = true) (hl : l.length ≤ 500) (hv : vldB k n t = true) (tx : List UInt8) (ht : txt k n t = tx) (hpl : tx.length ≤ 1000) (hne : tx ≠ []) (hp : parse tx = (k, n, t, 0)) (tb : List UInt8) (hv2t : txt k2 n2 t2 = tb) (htb : tx ≠ tb) (hne2 : ¬ (k = k2 ∧ n = n2 ∧ t = t2)) (hq : parse l = (0, 0, [], 4)) (w : World) (he : Env w) :
    Calls Tryd.prog 6 #[V k n t, V k2 n2 t2, .string ⟨l.toArray⟩] w fun e w' => e = .returned (.bool true) ∧ Below w.heap.size w w' := by
  have HV := Lib.hid hv; clear hv
  have HL := Lib.hid hl; clear hl
  have HP := Lib.hid hp; clear hp
  have HQ := Lib.hid hq; clear hq
  have HT := Lib.hid ht; clear ht
  have HPL := Lib.hid hpl; clear hpl
  have HV2T := Lib.hid hv2t; clear hv2t
  have i1 : tx.isEmpty = false := by simpa using hne
  have i2 : (tx == []) = false := by simpa using hne
  have i3 : (!tx == []) = true := by simpa using hne
  have i4 : ¬ tx = [] := hne
  clear hne
  have j1 : (tx == tb) = false := by simpa using htb
  have j4 : ¬ tx = tb := htb
  clear htb
  have hl2 := HL.out
  have HE := Lib.hid he
  have HB := Lib.hid (Below.refl w.heap.size w)
  clear he
  go_enter Tryd.func6, Tryd.ntmps6
  go_wp2_with fail
  refine (head_any _ ((HE.out.alloc _).alloc _)).mono ?_
  rintro e w1 ⟨rfl, hb⟩
  have RA := Lib.hid (show Val3 w1 (w.heap.size) k n t from Val3.below ⟨by simp [go_sem], by simp [go_sem], by simp [go_sem]⟩ hb)
  have RB := Lib.hid (show Val3 w1 (w.heap.size + 1) k2 n2 t2 from Val3.below ⟨by simp [go_sem], by simp [go_sem], by simp [go_sem]⟩ hb)
  replace HE := Lib.hid (((HE.out.alloc _).alloc _).below hb)
  replace HB := Lib.hid (below_up (((HB.out.alloc (by have := HB.out.size; simp; try omega) _).alloc (by have := HB.out.size; simp; try omega) _)) hb (by have := HB.out.size; simp; omega))
  clear hb
  have zRAc0 := RA.out.c0
  have zRAc1 := RA.out.c1
  have zRAc2 := RA.out.c2
  have zRBc0 := RB.out.c0
  have zRBc1 := RB.out.c1
  have zRBc2 := RB.out.c2
  go_wp2_with fail
  refine (short_b2 k n t k2 n2 t2 true hs _ ).mono ?_
  rintro e w2 ⟨rfl, hb⟩
  replace RA := Lib.hid ((RA.out.alloc _).below hb)
  replace RB := Lib.hid ((RB.out.alloc _).below hb)
  replace HE := Lib.hid ((HE.out.alloc _).below hb)
  replace HB := Lib.hid (below_next HB.out HB.out.size hb)
  clear hb
  clear zRAc0 zRAc1 zRAc2 zRBc0 zRBc1 zRBc2
  have zRAc0 := RA.out.c0
  have zRAc1 := RA.out.c1
  have zRAc2 := RA.out.c2
  go_wp2_with fail
  refine (text_eq (k := k) (n := n) (t := t) (x := tx) HT.out _ HE.out).mono ?_
  rintro e w3 ⟨rfl, hb⟩
  replace RA := Lib.hid (RA.out.below hb)
  replace RB := Lib.hid (RB.out.below hb)
  replace HE := Lib.hid (HE.out.below hb)
  replace HB := Lib.hid (below_up HB.out hb HB.out.size)
  clear hb
  clear zRAc0 zRAc1 zRAc2
  clear hl2
  go_wp2_with fail
  have qe := eql_no hne2
  have zRAc0 := RA.out.c0
  have zRAc1 := RA.out.c1
  have zRAc2 := RA.out.c2
  have zRBc0 := RB.out.c0
  have zRBc1 := RB.out.c1
  have zRBc2 := RB.out.c2
  have tok1 : True := trivial
  have tok2 : True := trivial
  go_region_held3 (fun w' => w'.cell? ⟨w.heap.size, 0, none⟩ = some (.int .i64 k) ∧ w'.cell? ⟨w.heap.size, 1, none⟩ = some (.int .i64 n) ∧ w'.cell? ⟨w.heap.size, 2, none⟩ = some (.string ⟨t.toArray⟩) ∧ w'.cell? ⟨w.heap.size + 1, 0, none⟩ = some (.int .i64 k2) ∧ w'.cell? ⟨w.heap.size + 1, 1, none⟩ = some (.int .i64 n2) ∧ w'.cell? ⟨w.heap.size + 1, 2, none⟩ = some (.string ⟨t2.toArray⟩)) (go_keep)
    (first | (go_at_call 17; have _t := tok1; clear _t; refine (valid_eq (k := k) (n := n) (t := t) HV.out _).mono ?_; clear tok1; rintro e v3_1 ⟨rfl, hv1⟩; have g1 := Lib.hid ((below_drewN _ w3 1).trans hv1); clear hv1; have RA_1 := Lib.hid (RA.out.below g1.out); have RB_1 := Lib.hid (RB.out.below g1.out); have E_1 := Lib.hid (HE.out.below g1.out); have k1RA0 := RA_1.out.c0; have k1RA1 := RA_1.out.c1; have k1RA2 := RA_1.out.c2; have k1RB0 := RB_1.out.c0; have k1RB1 := RB_1.out.c1; have k1RB2 := RB_1.out.c2) | (go_at_call 17; have _t := tok2; clear _t; refine (valid_eq (k := k) (n := n) (t := t) HV.out _).mono ?_; clear tok2; rintro e v3_2 ⟨rfl, hv2⟩; have g2 := Lib.hid hv2; clear hv2; have RA_2 := Lib.hid (RA_1.out.below g2.out); have RB_2 := Lib.hid (RB_1.out.below g2.out); have E_2 := Lib.hid (E_1.out.below g2.out); have k2RA0 := RA_2.out.c0; have k2RA1 := RA_2.out.c1; have k2RA2 := RA_2.out.c2; have k2RB0 := RB_2.out.c0; have k2RB1 := RB_2.out.c1; have k2RB2 := RB_2.out.c2) | (go_at_call 21; refine (text_eq (k := k2) (n := n2) (t := t2) HV2T.out _ E_2.out).mono ?_; rintro e v3_3 ⟨rfl, hv3⟩; have g3 := Lib.hid hv3; clear hv3; have RA_3 := Lib.hid (RA_2.out.below g3.out); have RB_3 := Lib.hid (RB_2.out.below g3.out); have E_3 := Lib.hid (E_2.out.below g3.out); have k3RA0 := RA_3.out.c0; have k3RA1 := RA_3.out.c1; have k3RA2 := RA_3.out.c2; have k3RB0 := RB_3.out.c0; have k3RB1 := RB_3.out.c1; have k3RB2 := RB_3.out.c2))
  replace HB := Lib.hid (below_up HB.out g1.out HB.out.size)
  replace HB := Lib.hid (below_up HB.out g2.out HB.out.size)
  replace HB := Lib.hid (below_up HB.out g3.out HB.out.size)
  replace RA := RA_3
  replace RB := RB_3
  replace HE := E_3
  clear zRAc0 zRAc1 zRAc2 zRBc0 zRBc1 zRBc2
  clear g1 g2 g3 E_1 E_2 E_3 RA_1 RA_2 RA_3 RB_1 RB_2 RB_3 k1RA0 k1RA1 k1RA2 k1RB0 k1RB1 k1RB2 k2RA0 k2RA1 k2RA2 k2RB0 k2RB1 k2RB2 k3RA0 k3RA1 k3RA2 k3RB0 k3RB1 k3RB2
  clear qe
  go_wp2_with fail
  have C := fun W h => parse_any tx HPL.out W h
  rw [HP.out] at C
  refine (C _ HE.out).mono ?_
  clear C
  rintro e w4 ⟨rfl, hb⟩
  replace RA := Lib.hid (RA.out.below hb)
  replace RB := Lib.hid (RB.out.below hb)
  replace HE := Lib.hid (HE.out.below hb)
  replace HB := Lib.hid (below_up HB.out hb HB.out.size)
  clear hb
  have yRAc0 := fun o => (RA.out.alloc o).c0
  have zRAc0 := RA.out.c0
  have yRAc1 := fun o => (RA.out.alloc o).c1
  have zRAc1 := RA.out.c1
  have yRAc2 := fun o => (RA.out.alloc o).c2
  have zRAc2 := RA.out.c2
  go_wp2_with fail
  refine (valid_eq (k := k) (n := n) (t := t) HV.out _ ).mono ?_
  rintro e w5 ⟨rfl, hb⟩
  replace RA := Lib.hid ((RA.out.alloc _).below hb)
  replace RB := Lib.hid ((RB.out.alloc _).below hb)
  have RX := Lib.hid (show Val3 w5 (w4.heap.size) k n t from Val3.below ⟨by simp [go_sem], by simp [go_sem], by simp [go_sem]⟩ hb)
  replace HE := Lib.hid ((HE.out.alloc _).below hb)
  replace HB := Lib.hid (below_next HB.out HB.out.size hb)
  clear hb
  clear yRAc0 zRAc0 yRAc1 zRAc1 yRAc2 zRAc2
  have qn := neq_no k n t
  have zRAc0 := RA.out.c0
  have zRAc1 := RA.out.c1
  have zRAc2 := RA.out.c2
  have zRXc0 := RX.out.c0
  have zRXc1 := RX.out.c1
  have zRXc2 := RX.out.c2
  go_wp2_with fail
  refine (valid_eq (k := k) (n := n) (t := t) HV.out _ ).mono ?_
  rintro e w6 ⟨rfl, hb⟩
  replace RA := Lib.hid (RA.out.below hb)
  replace RB := Lib.hid (RB.out.below hb)
  replace RX := Lib.hid (RX.out.below hb)
  replace HE := Lib.hid (HE.out.below hb)
  replace HB := Lib.hid (below_up HB.out hb HB.out.size)
  clear hb
  clear zRAc0 zRAc1 zRAc2 zRXc0 zRXc1 zRXc2
  clear qn
  go_wp2_with fail
  have C := fun W h => parse_any l (by have := HL.out; omega) W h
  rw [HQ.out] at C
  refine (C _ HE.out).mono ?_
  clear C
  rintro e w7 ⟨rfl, hb⟩
  replace RA := Lib.hid (RA.out.below hb)
  replace RB := Lib.hid (RB.out.below hb)
  replace RX := Lib.hid (RX.out.below hb)
  replace HE := Lib.hid (HE.out.below hb)
  replace HB := Lib.hid (below_up HB.out hb HB.out.size)
  clear hb
  have qz := eql_yes 0 0 []
  go_wp2_with fail
  go_ret
  exact ⟨rfl, HB.out.alloc HB.out.size _⟩


set_option maxRecDepth 100000 in
set_option maxHeartbeats 1600000 in
theorem texts_dy (k n k2 n2 : Int) (t t2 l : List UInt8) (hs : shortB [t, t2] = true) (hl : l.length ≤ 500) (hv : vldB k n t = true) (tx : List UInt8) (ht : txt k n t = tx) (hpl : tx.length ≤ 1000) (hne : tx ≠ []) (hp : parse tx = (k, n, t, 0)) (tb : List UInt8) (hv2t : txt k2 n2 t2 = tb) (htb : tx ≠ tb) (hne2 : ¬ (k = k2 ∧ n = n2 ∧ t = t2)) (yk yn : Int) (yt : List UInt8) (hq : parse l = (yk, yn, yt, 0)) (hw : vldB yk yn yt = true) (hu : txt yk yn yt = l) (w : World) (he : Env w) :
    Calls Tryd.prog 6 #[V k n t, V k2 n2 t2, .string ⟨l.toArray⟩] w fun e w' => e = .returned (.bool true) ∧ Below w.heap.size w w' := by
  have HV := Lib.hid hv; clear hv
  have HL := Lib.hid hl; clear hl
  have HP := Lib.hid hp; clear hp
  have HQ := Lib.hid hq; clear hq
  have HT := Lib.hid ht; clear ht
  have HPL := Lib.hid hpl; clear hpl
  have HV2T := Lib.hid hv2t; clear hv2t
  have HW := Lib.hid hw; clear hw
  have HU := Lib.hid hu; clear hu
  have i1 : tx.isEmpty = false := by simpa using hne
  have i2 : (tx == []) = false := by simpa using hne
  have i3 : (!tx == []) = true := by simpa using hne
  have i4 : ¬ tx = [] := hne
  clear hne
  have j1 : (tx == tb) = false := by simpa using htb
  have j4 : ¬ tx = tb := htb
  clear htb
  have hl2 := HL.out
  have HE := Lib.hid he
  have HB := Lib.hid (Below.refl w.heap.size w)
  clear he
  go_enter Tryd.func6, Tryd.ntmps6
  go_wp2_with fail
  refine (head_any _ ((HE.out.alloc _).alloc _)).mono ?_
  rintro e w1 ⟨rfl, hb⟩
  have RA := Lib.hid (show Val3 w1 (w.heap.size) k n t from Val3.below ⟨by simp [go_sem], by simp [go_sem], by simp [go_sem]⟩ hb)
  have RB := Lib.hid (show Val3 w1 (w.heap.size + 1) k2 n2 t2 from Val3.below ⟨by simp [go_sem], by simp [go_sem], by simp [go_sem]⟩ hb)
  replace HE := Lib.hid (((HE.out.alloc _).alloc _).below hb)
  replace HB := Lib.hid (below_up (((HB.out.alloc (by have := HB.out.size; simp; try omega) _).alloc (by have := HB.out.size; simp; try omega) _)) hb (by have := HB.out.size; simp; omega))
  clear hb
  have zRAc0 := RA.out.c0
  have zRAc1 := RA.out.c1
  have zRAc2 := RA.out.c2
  have zRBc0 := RB.out.c0
  have zRBc1 := RB.out.c1
  have zRBc2 := RB.out.c2
  go_wp2_with fail
  refine (short_b2 k n t k2 n2 t2 true hs _ ).mono ?_
  rintro e w2 ⟨rfl, hb⟩
  replace RA := Lib.hid ((RA.out.alloc _).below hb)
  replace RB := Lib.hid ((RB.out.alloc _).below hb)
  replace HE := Lib.hid ((HE.out.alloc _).below hb)
  replace HB := Lib.hid (below_next HB.out HB.out.size hb)
  clear hb
  clear zRAc0 zRAc1 zRAc2 zRBc0 zRBc1 zRBc2
  have zRAc0 := RA.out.c0
  have zRAc1 := RA.out.c1
  have zRAc2 := RA.out.c2
  go_wp2_with fail
  refine (text_eq (k := k) (n := n) (t := t) (x := tx) HT.out _ HE.out).mono ?_
  rintro e w3 ⟨rfl, hb⟩
  replace RA := Lib.hid (RA.out.below hb)
  replace RB := Lib.hid (RB.out.below hb)
  replace HE := Lib.hid (HE.out.below hb)
  replace HB := Lib.hid (below_up HB.out hb HB.out.size)
  clear hb
  clear zRAc0 zRAc1 zRAc2
  clear hl2
  go_wp2_with fail
  have qe := eql_no hne2
  have zRAc0 := RA.out.c0
  have zRAc1 := RA.out.c1
  have zRAc2 := RA.out.c2
  have zRBc0 := RB.out.c0
  have zRBc1 := RB.out.c1
  have zRBc2 := RB.out.c2
  have tok1 : True := trivial
  have tok2 : True := trivial
  go_region_held3 (fun w' => w'.cell? ⟨w.heap.size, 0, none⟩ = some (.int .i64 k) ∧ w'.cell? ⟨w.heap.size, 1, none⟩ = some (.int .i64 n) ∧ w'.cell? ⟨w.heap.size, 2, none⟩ = some (.string ⟨t.toArray⟩) ∧ w'.cell? ⟨w.heap.size + 1, 0, none⟩ = some (.int .i64 k2) ∧ w'.cell? ⟨w.heap.size + 1, 1, none⟩ = some (.int .i64 n2) ∧ w'.cell? ⟨w.heap.size + 1, 2, none⟩ = some (.string ⟨t2.toArray⟩)) (go_keep)
    (first | (go_at_call 17; have _t := tok1; clear _t; refine (valid_eq (k := k) (n := n) (t := t) HV.out _).mono ?_; clear tok1; rintro e v3_1 ⟨rfl, hv1⟩; have g1 := Lib.hid ((below_drewN _ w3 1).trans hv1); clear hv1; have RA_1 := Lib.hid (RA.out.below g1.out); have RB_1 := Lib.hid (RB.out.below g1.out); have E_1 := Lib.hid (HE.out.below g1.out); have k1RA0 := RA_1.out.c0; have k1RA1 := RA_1.out.c1; have k1RA2 := RA_1.out.c2; have k1RB0 := RB_1.out.c0; have k1RB1 := RB_1.out.c1; have k1RB2 := RB_1.out.c2) | (go_at_call 17; have _t := tok2; clear _t; refine (valid_eq (k := k) (n := n) (t := t) HV.out _).mono ?_; clear tok2; rintro e v3_2 ⟨rfl, hv2⟩; have g2 := Lib.hid hv2; clear hv2; have RA_2 := Lib.hid (RA_1.out.below g2.out); have RB_2 := Lib.hid (RB_1.out.below g2.out); have E_2 := Lib.hid (E_1.out.below g2.out); have k2RA0 := RA_2.out.c0; have k2RA1 := RA_2.out.c1; have k2RA2 := RA_2.out.c2; have k2RB0 := RB_2.out.c0; have k2RB1 := RB_2.out.c1; have k2RB2 := RB_2.out.c2) | (go_at_call 21; refine (text_eq (k := k2) (n := n2) (t := t2) HV2T.out _ E_2.out).mono ?_; rintro e v3_3 ⟨rfl, hv3⟩; have g3 := Lib.hid hv3; clear hv3; have RA_3 := Lib.hid (RA_2.out.below g3.out); have RB_3 := Lib.hid (RB_2.out.below g3.out); have E_3 := Lib.hid (E_2.out.below g3.out); have k3RA0 := RA_3.out.c0; have k3RA1 := RA_3.out.c1; have k3RA2 := RA_3.out.c2; have k3RB0 := RB_3.out.c0; have k3RB1 := RB_3.out.c1; have k3RB2 := RB_3.out.c2))
  replace HB := Lib.hid (below_up HB.out g1.out HB.out.size)
  replace HB := Lib.hid (below_up HB.out g2.out HB.out.size)
  replace HB := Lib.hid (below_up HB.out g3.out HB.out.size)
  replace RA := RA_3
  replace RB := RB_3
  replace HE := E_3
  clear zRAc0 zRAc1 zRAc2 zRBc0 zRBc1 zRBc2
  clear g1 g2 g3 E_1 E_2 E_3 RA_1 RA_2 RA_3 RB_1 RB_2 RB_3 k1RA0 k1RA1 k1RA2 k1RB0 k1RB1 k1RB2 k2RA0 k2RA1 k2RA2 k2RB0 k2RB1 k2RB2 k3RA0 k3RA1 k3RA2 k3RB0 k3RB1 k3RB2
  clear qe
  go_wp2_with fail
  have C := fun W h => parse_any tx HPL.out W h
  rw [HP.out] at C
  refine (C _ HE.out).mono ?_
  clear C
  rintro e w4 ⟨rfl, hb⟩
  replace RA := Lib.hid (RA.out.below hb)
  replace RB := Lib.hid (RB.out.below hb)
  replace HE := Lib.hid (HE.out.below hb)
  replace HB := Lib.hid (below_up HB.out hb HB.out.size)
  clear hb
  have yRAc0 := fun o => (RA.out.alloc o).c0
  have zRAc0 := RA.out.c0
  have yRAc1 := fun o => (RA.out.alloc o).c1
  have zRAc1 := RA.out.c1
  have yRAc2 := fun o => (RA.out.alloc o).c2
  have zRAc2 := RA.out.c2
  go_wp2_with fail
  refine (valid_eq (k := k) (n := n) (t := t) HV.out _ ).mono ?_
  rintro e w5 ⟨rfl, hb⟩
  replace RA := Lib.hid ((RA.out.alloc _).below hb)
  replace RB := Lib.hid ((RB.out.alloc _).below hb)
  have RX := Lib.hid (show Val3 w5 (w4.heap.size) k n t from Val3.below ⟨by simp [go_sem], by simp [go_sem], by simp [go_sem]⟩ hb)
  replace HE := Lib.hid ((HE.out.alloc _).below hb)
  replace HB := Lib.hid (below_next HB.out HB.out.size hb)
  clear hb
  clear yRAc0 zRAc0 yRAc1 zRAc1 yRAc2 zRAc2
  have qn := neq_no k n t
  have zRAc0 := RA.out.c0
  have zRAc1 := RA.out.c1
  have zRAc2 := RA.out.c2
  have zRXc0 := RX.out.c0
  have zRXc1 := RX.out.c1
  have zRXc2 := RX.out.c2
  go_wp2_with fail
  refine (valid_eq (k := k) (n := n) (t := t) HV.out _ ).mono ?_
  rintro e w6 ⟨rfl, hb⟩
  replace RA := Lib.hid (RA.out.below hb)
  replace RB := Lib.hid (RB.out.below hb)
  replace RX := Lib.hid (RX.out.below hb)
  replace HE := Lib.hid (HE.out.below hb)
  replace HB := Lib.hid (below_up HB.out hb HB.out.size)
  clear hb
  clear zRAc0 zRAc1 zRAc2 zRXc0 zRXc1 zRXc2
  clear qn
  go_wp2_with fail
  have C := fun W h => parse_any l (by have := HL.out; omega) W h
  rw [HQ.out] at C
  refine (C _ HE.out).mono ?_
  clear C
  rintro e w7 ⟨rfl, hb⟩
  replace RA := Lib.hid (RA.out.below hb)
  replace RB := Lib.hid (RB.out.below hb)
  replace RX := Lib.hid (RX.out.below hb)
  replace HE := Lib.hid (HE.out.below hb)
  replace HB := Lib.hid (below_up HB.out hb HB.out.size)
  clear hb
  go_wp2_with fail
  refine (valid_eq (k := yk) (n := yn) (t := yt) HW.out _ ).mono ?_
  rintro e w8 ⟨rfl, hb⟩
  replace RA := Lib.hid ((RA.out.alloc _).below hb)
  replace RB := Lib.hid ((RB.out.alloc _).below hb)
  replace RX := Lib.hid ((RX.out.alloc _).below hb)
  have RY := Lib.hid (show Val3 w8 (w7.heap.size) yk yn yt from Val3.below ⟨by simp [go_sem], by simp [go_sem], by simp [go_sem]⟩ hb)
  replace HE := Lib.hid ((HE.out.alloc _).below hb)
  replace HB := Lib.hid (below_next HB.out HB.out.size hb)
  clear hb
  have zRYc0 := RY.out.c0
  have zRYc1 := RY.out.c1
  have zRYc2 := RY.out.c2
  go_wp2_with fail
  refine (text_eq (k := yk) (n := yn) (t := yt) HU.out _ HE.out).mono ?_
  rintro e w9 ⟨rfl, hb⟩
  replace RA := Lib.hid (RA.out.below hb)
  replace RB := Lib.hid (RB.out.below hb)
  replace RX := Lib.hid (RX.out.below hb)
  replace RY := Lib.hid (RY.out.below hb)
  replace HE := Lib.hid (HE.out.below hb)
  replace HB := Lib.hid (below_up HB.out hb HB.out.size)
  clear hb
  clear zRYc0 zRYc1 zRYc2
  go_wp2_with fail
  go_ret
  exact ⟨rfl, HB.out⟩


theorem texts_any (k n : Int) (t : List UInt8) (k2 n2 : Int) (t2 l : List UInt8) (w : World) (he : Env w) :
    Calls Tryd.prog 6 #[V k n t, V k2 n2 t2, .string ⟨l.toArray⟩] w fun e w' => e = .returned (.bool true) ∧ Below w.heap.size w w' := by
  cases hs : shortB [t, t2]
  · exact texts_long1 k n k2 n2 t t2 l hs w he
  by_cases hl : 500 < l.length
  · exact texts_long2 k n k2 n2 t t2 l hs hl w he
  have hl' : l.length ≤ 500 := by omega
  have h0 : parse [] = (0, 0, [], 4) := by decide +kernel
  cases hv : vldB k n t
  · rcases parse_cases l with ⟨hq, _⟩ | ⟨yk, yn, yt, hq, hw, hu⟩
    · exact texts_bn k n k2 n2 t t2 l hs hl' hv h0 hq w he
    · exact texts_by k n k2 n2 t t2 l hs hl' hv h0 yk yn yt hq hw hu w he
  have hp := parse_txt hv
  have hne := txt_ne hv
  have hlen : (txt k n t).length ≤ 1000 := by have := txt_len k n t; omega
  by_cases hab : k = k2 ∧ n = n2 ∧ t = t2
  · obtain ⟨rfl, rfl, rfl⟩ := hab
    rcases parse_cases l with ⟨hq, _⟩ | ⟨yk, yn, yt, hq, hw, hu⟩
    · exact texts_sn k n t l hs hl' hv _ rfl hlen hne hp hq w he
    · exact texts_sy k n t l hs hl' hv _ rfl hlen hne hp yk yn yt hq hw hu w he
  have htb : txt k n t ≠ txt k2 n2 t2 := by
    cases hv2 : vldB k2 n2 t2
    · rw [txt_bad hv2]; exact hne
    · exact fun h => hab (txt_inj hv hv2 h)
  rcases parse_cases l with ⟨hq, _⟩ | ⟨yk, yn, yt, hq, hw, hu⟩
  · exact texts_dn k n k2 n2 t t2 l hs hl' hv _ rfl hlen hne hp _ rfl htb hab hq w he
  · exact texts_dy k n k2 n2 t t2 l hs hl' hv _ rfl hlen hne hp _ rfl htb hab yk yn yt hq hw hu w he
end Go.Proofs.YtdoenjkebeidlaaDoor
