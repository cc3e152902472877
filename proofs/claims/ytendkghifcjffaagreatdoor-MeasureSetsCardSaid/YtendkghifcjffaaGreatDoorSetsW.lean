/- MeasureSets in plain words: Jaccard is 1 exactly for equal sets, 0 exactly for sets without common elements that are not both empty; 1 minus Jaccard obeys the triangle inequality. -/
import Derived.Test.YtendkghifcjffaaGreatDoorSetsM
import Derived.Test.YtendkghifcjffaaGreatDoorROps
import Derived.Test.YtendkghifcjffaaGreatDoorRCmp
namespace Go.Proofs.YtendkghifcjffaaGreatDoor
open Go.RowKit

set_option maxRecDepth 100000 in
theorem sets_l (l m n : List (List UInt8)) (u v x : Value) (h : fewB [l, m, n] = false) (w : World) (hu : Strs w u l) (hv : Strs w v m) (hx : Strs w x n) :
    Calls Tryz.prog 4 #[u, v, x] w fun e w' => e = .returned (.bool true) ∧ Below w.heap.size w w' := by
  have HU := Lib.hid hu
  have HV := Lib.hid hv
  have HX := Lib.hid hx
  obtain ⟨A, cap, rfl, hcap, _, _⟩ := hu
  obtain ⟨A2, cap2, rfl, hcap2, _, _⟩ := hv
  obtain ⟨A3, cap3, rfl, hcap3, _, _⟩ := hx
  go_enter Tryz.func4, Tryz.ntmps4
  go_wp2_with fail
  refine (head_any _).mono ?_
  rintro e1 w1 ⟨rfl, hb⟩
  have HB1 := Lib.hid hb
  clear hb
  go_wp2_with fail
  refine (few_lit [l, m, n] [_, _, _] 22 w1 rfl (by simp) (fun i h1 h2 => by
    match i, h1 with
    | 0, _ => exact HU.out.below HB1.out
    | 1, _ => exact HV.out.below HB1.out
    | 2, _ => exact HX.out.below HB1.out)).mono ?_
  rw [h]
  rintro e2 w2 ⟨rfl, hb⟩
  have HB2 := Lib.hid (below_up HB1.out hb HB1.out.size)
  clear hb
  go_wp2_with fail
  go_ret
  exact ⟨rfl, HB2.out⟩

set_option maxRecDepth 100000 in
set_option maxHeartbeats 4000000 in
theorem sets_w_no (l m n : List (List UInt8)) (u v x : Value) (r1 r2 r3 : Int × Int) (sn sd tn td cs : Int) (q : Bool) (HF : Hid (fewB [l, m, n] = true)) (hl : l.length ≤ 40) (hm : m.length ≤ 40) (hn : n.length ≤ 40) (el : ∀ x ∈ l, x.length ≤ 2000) (em : ∀ x ∈ m, x.length ≤ 2000) (en : ∀ x ∈ n, x.length ≤ 2000)
    (HR1 : Hid (jacT l m = r1)) (HR2 : Hid (jacT l n = r2)) (HR3 : Hid (jacT n m = r3)) (HW1 : Hid (withinB l m = true)) (HW2 : Hid (withinB m l = q)) (HAP : Hid (apartB l m = false)) (HE1 : decide (r1 = (1, 1)) = q) (HE0 : decide (r1 = (0, 1)) = false) 
    (HA1 : Hid (L1.opr (L1.vldB 1 1 && L1.vldB r1.1 r1.2) (1 * r1.2 + r1.1 * 1) (1 * r1.2) = (sn, sd, 0))) (HA2 : Hid (L1.opr (L1.vldB r2.1 r2.2 && L1.vldB r3.1 r3.2) (r2.1 * r3.2 + r3.1 * r2.2) (r2.2 * r3.2) = (tn, td, 0))) (HC : Hid (L1.cmpR sn sd tn td = cs)) (hcs : 0 ≤ cs)
    (w : World) (hu : Strs w u l) (hv : Strs w v m) (hx : Strs w x n) :
    Calls Tryz.prog 4 #[u, v, x] w fun e w' => e = .returned (.bool true) ∧ Below w.heap.size w w' := by
  have HU := Lib.hid hu
  have HV := Lib.hid hv
  have HX := Lib.hid hx
  obtain ⟨A, cap, rfl, hcap, _, _⟩ := hu
  obtain ⟨A2, cap2, rfl, hcap2, _, _⟩ := hv
  obtain ⟨A3, cap3, rfl, hcap3, _, _⟩ := hx
  have C1 := Lib.hid (fun W (h1 : Strs W (.slice A l.length cap) l) (h2 : Strs W (.slice A2 m.length cap2) m) => jaccard_any l m _ _ W (by omega) (by omega) el em h1 h2)
  have C2 := Lib.hid (fun W (h1 : Strs W (.slice A l.length cap) l) (h2 : Strs W (.slice A3 n.length cap3) n) => jaccard_any l n _ _ W (by omega) (by omega) el en h1 h2)
  have C3 := Lib.hid (fun W (h1 : Strs W (.slice A3 n.length cap3) n) (h2 : Strs W (.slice A2 m.length cap2) m) => jaccard_any n m _ _ W (by omega) (by omega) en em h1 h2)
  rw [HR1.out] at C1
  rw [HR2.out] at C2
  rw [HR3.out] at C3
  have eqr := fun (r s : Int × Int) (W : World) => eql_rat r s W
  clear el em en
  go_enter Tryz.func4, Tryz.ntmps4
  go_wp2_with fail
  refine (head_any _).mono ?_
  rintro e1 w1 ⟨rfl, hb⟩
  have HB1 := Lib.hid hb
  clear hb
  go_wp2_with fail
  refine (few_lit [l, m, n] [_, _, _] 22 w1 rfl (by simp) (fun i h1 h2 => by
    match i, h1 with
    | 0, _ => exact HU.out.below HB1.out
    | 1, _ => exact HV.out.below HB1.out
    | 2, _ => exact HX.out.below HB1.out)).mono ?_
  rw [HF.out]
  rintro e2 w2 ⟨rfl, hb⟩
  have HB2 := Lib.hid (below_up HB1.out hb HB1.out.size)
  clear hb
  go_wp2_with fail
  refine (C1.out _ (HU.out.below HB2.out) (HV.out.below HB2.out)).mono ?_
  rintro e3 w3 ⟨rfl, hb⟩
  have HB3 := Lib.hid (below_up HB2.out hb HB2.out.size)
  clear hb
  go_wp2_with fail
  obtain ⟨W, hW⟩ : ∃ W, W = w3.alloc (Obj.cells #[Value.int IntKind.i64 r1.1, Value.int IntKind.i64 r1.2] 32) := ⟨_, rfl⟩
  rw [← hW]
  have R : Own2 W w3.heap.size r1.1 r1.2 := by rw [hW]; exact own2_new w3 _ _ _
  have HB : Hid (Below w.heap.size w (W.drewN 1)) := Lib.hid (by rw [hW]; exact dN (HB3.out.alloc HB3.out.size _) 1)
  obtain ⟨bl, hbl⟩ : ∃ bl, w3.heap.size = bl := ⟨_, rfl⟩
  rw [hbl] at R ⊢
  clear hW hbl
  have a0 := R.c0
  have a1 := R.c1
  have A0 : (W.drewN 1).cell? ⟨bl, 0, none⟩ = some (.int .i64 r1.1) := a0
  have A1 : (W.drewN 1).cell? ⟨bl, 1, none⟩ = some (.int .i64 r1.2) := a1
  clear R
  refine wp_region_held_drew (S := (fun w' => w'.cell? ⟨bl, 0, none⟩ = some (.int .i64 r1.1) ∧ w'.cell? ⟨bl, 1, none⟩ = some (.int .i64 r1.2))) (by kernel_rfl) ?_ (fun hHeld => ?_)
  · try dsimp only
    go_keep
  refine wpAnyH_take (i := 0) (v := ?_) (by (simp only [List.getElem?_toArray, List.getElem?_cons_zero]; rfl)) (by kernel_rfl) (by kernel_rfl) (by kernel_rfl) (by intro _ _ _ h; exact h) (Or.inl ⟨by kernel_rfl, ?_⟩) hHeld ?_
  case refine_2 =>
    intro w hSw
    try dsimp only at hSw
    go_simp
    try with_reducible rfl
  try simp only [Act.put, List.setIfInBounds_toArray, List.set_cons_zero, List.set_cons_succ]
  refine wpAnyH_take (i := 3) (v := ?_) (by (simp only [List.getElem?_toArray, List.getElem?_cons_succ, List.getElem?_cons_zero]; rfl)) (by kernel_rfl) (by kernel_rfl) (by kernel_rfl) (by intro _ _ _ h; exact h) (Or.inl ⟨by kernel_rfl, ?_⟩) hHeld ?_
  case refine_2 =>
    intro w hSw
    try dsimp only at hSw
    go_simp
    try with_reducible rfl
  try simp only [Act.put, List.setIfInBounds_toArray, List.set_cons_zero, List.set_cons_succ]
  refine wpAnyH_take (i := 4) (v := ?_) (by (simp only [List.getElem?_toArray, List.getElem?_cons_succ, List.getElem?_cons_zero]; rfl)) (by kernel_rfl) (by kernel_rfl) (by kernel_rfl) (by intro _ _ _ h; exact h) (Or.inl ⟨by kernel_rfl, ?_⟩) hHeld ?_
  case refine_2 =>
    intro w hSw
    try dsimp only at hSw
    go_simp
    try with_reducible rfl
  try simp only [Act.put, List.setIfInBounds_toArray, List.set_cons_zero, List.set_cons_succ]
  refine wpAnyH_ready (rs := [1]) (by kernel_rfl) (by simp) ?_
  refine AllReadyH.cons (by (simp only [List.getElem?_toArray, List.getElem?_cons_succ, List.getElem?_cons_zero]; rfl)) (fun K hK => ?_) AllReadyH.nil
  go_simp
  refine (of_law _ _ _).mono ?_
  rintro e q1 ⟨rfl, hv⟩
  replace A0 := cellB hv A0
  replace A1 := cellB hv A1
  replace HB := Lib.hid (below_up HB.out hv HB.out.size)
  clear hv
  try go_wp2_with fail
  clear hHeld
  refine hK.out _ _ ?_ (fun hHeld => ?_)
  · try dsimp only
    go_keep
  clear hK K
  try simp only [Act.put, List.setIfInBounds_toArray, List.set_cons_zero, List.set_cons_succ]
  refine wpAnyH_take (i := 2) (v := ?_) (by (simp only [List.getElem?_toArray, List.getElem?_cons_succ, List.getElem?_cons_zero]; rfl)) (by kernel_rfl) (by kernel_rfl) (by kernel_rfl) (by intro _ _ _ h; exact h) (Or.inl ⟨by kernel_rfl, ?_⟩) hHeld ?_
  case refine_2 =>
    intro w hSw
    try dsimp only at hSw
    go_simp
    try with_reducible rfl
  try simp only [Act.put, List.setIfInBounds_toArray, List.set_cons_zero, List.set_cons_succ]
  refine wpAnyH_ready (rs := [5]) (by kernel_rfl) (by simp) ?_
  refine AllReadyH.cons (by (simp only [List.getElem?_toArray, List.getElem?_cons_succ, List.getElem?_cons_zero]; rfl)) (fun K hK => ?_) AllReadyH.nil
  go_simp
  refine (within_any l m _ _ _ (by omega) (by omega) (HU.out.below HB.out) (HV.out.below HB.out)).mono ?_
  rw [HW1.out]
  rintro e q2 ⟨rfl, hv⟩
  replace A0 := cellB hv A0
  replace A1 := cellB hv A1
  replace HB := Lib.hid (below_up HB.out hv HB.out.size)
  clear hv
  try go_wp2_with fail
  clear hHeld
  refine hK.out _ _ ?_ (fun hHeld => ?_)
  · try dsimp only
    go_keep
  clear hK K
  try simp only [Act.put, List.setIfInBounds_toArray, List.set_cons_zero, List.set_cons_succ]
  refine wpAnyH_take (i := 6) (v := ?_) (by (simp only [List.getElem?_toArray, List.getElem?_cons_succ, List.getElem?_cons_zero]; rfl)) (by kernel_rfl) (by kernel_rfl) (by kernel_rfl) (by intro _ _ _ h; exact h) (Or.inl ⟨by kernel_rfl, ?_⟩) hHeld ?_
  case refine_2 =>
    intro w hSw
    try dsimp only at hSw
    go_simp
    try with_reducible rfl
  try simp only [Act.put, List.setIfInBounds_toArray, List.set_cons_zero, List.set_cons_succ]
  refine wpAnyH_take (i := 7) (v := ?_) (by (simp only [List.getElem?_toArray, List.getElem?_cons_succ, List.getElem?_cons_zero]; rfl)) (by kernel_rfl) (by kernel_rfl) (by kernel_rfl) (by intro _ _ _ h; exact h) (Or.inl ⟨by kernel_rfl, ?_⟩) hHeld ?_
  case refine_2 =>
    intro w hSw
    try dsimp only at hSw
    go_simp
    try with_reducible rfl
  try simp only [Act.put, List.setIfInBounds_toArray, List.set_cons_zero, List.set_cons_succ]
  refine wpAnyH_take (i := 8) (v := ?_) (by (simp only [List.getElem?_toArray, List.getElem?_cons_succ, List.getElem?_cons_zero]; rfl)) (by kernel_rfl) (by kernel_rfl) (by kernel_rfl) (by intro _ _ _ h; exact h) (Or.inl ⟨by kernel_rfl, ?_⟩) hHeld ?_
  case refine_2 =>
    intro w hSw
    try dsimp only at hSw
    go_simp
    try with_reducible rfl
  try simp only [Act.put, List.setIfInBounds_toArray, List.set_cons_zero, List.set_cons_succ]
  refine wpAnyH_ready (rs := [9]) (by kernel_rfl) (by simp) ?_
  refine AllReadyH.cons (by (simp only [List.getElem?_toArray, List.getElem?_cons_succ, List.getElem?_cons_zero]; rfl)) (fun K hK => ?_) AllReadyH.nil
  go_simp
  refine (within_any m l _ _ _ (by omega) (by omega) (HV.out.below HB.out) (HU.out.below HB.out)).mono ?_
  rw [HW2.out]
  rintro e q3 ⟨rfl, hv⟩
  replace A0 := cellB hv A0
  replace A1 := cellB hv A1
  replace HB := Lib.hid (below_up HB.out hv HB.out.size)
  clear hv
  try go_wp2_with fail
  clear hHeld
  refine hK.out _ _ ?_ (fun hHeld => ?_)
  · try dsimp only
    go_keep
  clear hK K
  try simp only [Act.put, List.setIfInBounds_toArray, List.set_cons_zero, List.set_cons_succ]
  refine wpAnyH_take (i := 10) (v := ?_) (by (simp only [List.getElem?_toArray, List.getElem?_cons_succ, List.getElem?_cons_zero]; rfl)) (by kernel_rfl) (by kernel_rfl) (by kernel_rfl) (by intro _ _ _ h; exact h) (Or.inl ⟨by kernel_rfl, ?_⟩) hHeld ?_
  case refine_2 =>
    intro w hSw
    try dsimp only at hSw
    go_simp
    try with_reducible rfl
  try simp only [Act.put, List.setIfInBounds_toArray, List.set_cons_zero, List.set_cons_succ]
  refine wpAnyH_take (i := 11) (v := ?_) (by (simp only [List.getElem?_toArray, List.getElem?_cons_succ, List.getElem?_cons_zero]; rfl)) (by kernel_rfl) (by kernel_rfl) (by kernel_rfl) (by intro _ _ _ h; exact h) (Or.inl ⟨by kernel_rfl, ?_⟩) hHeld ?_
  case refine_2 =>
    intro w hSw
    try dsimp only at hSw
    go_simp
    try with_reducible rfl
  try simp only [Act.put, List.setIfInBounds_toArray, List.set_cons_zero, List.set_cons_succ]
  refine wpAnyH_take (i := 12) (v := ?_) (by (simp only [List.getElem?_toArray, List.getElem?_cons_succ, List.getElem?_cons_zero]; rfl)) (by kernel_rfl) (by kernel_rfl) (by kernel_rfl) (by intro _ _ _ h; exact h) (Or.inl ⟨by kernel_rfl, ?_⟩) hHeld ?_
  case refine_2 =>
    intro w hSw
    try dsimp only at hSw
    go_simp
    try with_reducible rfl
  try simp only [Act.put, List.setIfInBounds_toArray, List.set_cons_zero, List.set_cons_succ]
  refine wpAnyH_take (i := 13) (v := ?_) (by (simp only [List.getElem?_toArray, List.getElem?_cons_succ, List.getElem?_cons_zero]; rfl)) (by kernel_rfl) (by kernel_rfl) (by kernel_rfl) (by intro _ _ _ h; exact h) (Or.inl ⟨by kernel_rfl, ?_⟩) hHeld ?_
  case refine_2 =>
    intro w hSw
    try dsimp only at hSw
    go_simp
    try with_reducible rfl
  try simp only [Act.put, List.setIfInBounds_toArray, List.set_cons_zero, List.set_cons_succ]
  refine wpAnyH_take (i := 16) (v := ?_) (by (simp only [List.getElem?_toArray, List.getElem?_cons_succ, List.getElem?_cons_zero]; rfl)) (by kernel_rfl) (by kernel_rfl) (by kernel_rfl) (by intro _ _ _ h; exact h) (Or.inl ⟨by kernel_rfl, ?_⟩) hHeld ?_
  case refine_2 =>
    intro w hSw
    try dsimp only at hSw
    go_simp
    try with_reducible rfl
  try simp only [Act.put, List.setIfInBounds_toArray, List.set_cons_zero, List.set_cons_succ]
  refine wpAnyH_take (i := 17) (v := ?_) (by (simp only [List.getElem?_toArray, List.getElem?_cons_succ, List.getElem?_cons_zero]; rfl)) (by kernel_rfl) (by kernel_rfl) (by kernel_rfl) (by intro _ _ _ h; exact h) (Or.inl ⟨by kernel_rfl, ?_⟩) hHeld ?_
  case refine_2 =>
    intro w hSw
    try dsimp only at hSw
    go_simp
    try with_reducible rfl
  try simp only [Act.put, List.setIfInBounds_toArray, List.set_cons_zero, List.set_cons_succ]
  refine wpAnyH_ready (rs := [14]) (by kernel_rfl) (by simp) ?_
  refine AllReadyH.cons (by (simp only [List.getElem?_toArray, List.getElem?_cons_succ, List.getElem?_cons_zero]; rfl)) (fun K hK => ?_) AllReadyH.nil
  go_simp
  refine (of_law _ _ _).mono ?_
  rintro e q4 ⟨rfl, hv⟩
  replace A0 := cellB hv A0
  replace A1 := cellB hv A1
  replace HB := Lib.hid (below_up HB.out hv HB.out.size)
  clear hv
  try go_wp2_with fail
  clear hHeld
  refine hK.out _ _ ?_ (fun hHeld => ?_)
  · try dsimp only
    go_keep
  clear hK K
  try simp only [Act.put, List.setIfInBounds_toArray, List.set_cons_zero, List.set_cons_succ]
  refine wpAnyH_take (i := 15) (v := ?_) (by (simp only [List.getElem?_toArray, List.getElem?_cons_succ, List.getElem?_cons_zero]; rfl)) (by kernel_rfl) (by kernel_rfl) (by kernel_rfl) (by intro _ _ _ h; exact h) (Or.inl ⟨by kernel_rfl, ?_⟩) hHeld ?_
  case refine_2 =>
    intro w hSw
    try dsimp only at hSw
    go_simp
    try with_reducible rfl
  try simp only [Act.put, List.setIfInBounds_toArray, List.set_cons_zero, List.set_cons_succ]
  refine wpAnyH_ready (rs := [18]) (by kernel_rfl) (by simp) ?_
  refine AllReadyH.cons (by (simp only [List.getElem?_toArray, List.getElem?_cons_succ, List.getElem?_cons_zero]; rfl)) (fun K hK => ?_) AllReadyH.nil
  go_simp
  refine (apart_any l m _ _ _ (by omega) (by omega) (HU.out.below HB.out) (HV.out.below HB.out)).mono ?_
  rw [HAP.out]
  rintro e q5 ⟨rfl, hv⟩
  replace A0 := cellB hv A0
  replace A1 := cellB hv A1
  replace HB := Lib.hid (below_up HB.out hv HB.out.size)
  clear hv
  try go_wp2_with fail
  clear hHeld
  refine hK.out _ _ ?_ (fun hHeld => ?_)
  · try dsimp only
    go_keep
  clear hK K
  try simp only [Act.put, List.setIfInBounds_toArray, List.set_cons_zero, List.set_cons_succ]
  refine wpAnyH_take (i := 19) (v := ?_) (by (simp only [List.getElem?_toArray, List.getElem?_cons_succ, List.getElem?_cons_zero]; rfl)) (by kernel_rfl) (by kernel_rfl) (by kernel_rfl) (by intro _ _ _ h; exact h) (Or.inl ⟨by kernel_rfl, ?_⟩) hHeld ?_
  case refine_2 =>
    intro w hSw
    try dsimp only at hSw
    go_simp
    try with_reducible rfl
  try simp only [Act.put, List.setIfInBounds_toArray, List.set_cons_zero, List.set_cons_succ]
  refine wpAnyH_take (i := 20) (v := undef) (by (simp only [List.getElem?_toArray, List.getElem?_cons_succ, List.getElem?_cons_zero]; rfl)) (by kernel_rfl) (by kernel_rfl) (by kernel_rfl) (by intro _ _ _ h; exact h) (Or.inr ⟨by kernel_rfl, rfl⟩) hHeld ?_
  try simp only [Act.put, List.setIfInBounds_toArray, List.set_cons_zero, List.set_cons_succ]
  refine wpAnyH_take (i := 21) (v := undef) (by (simp only [List.getElem?_toArray, List.getElem?_cons_succ, List.getElem?_cons_zero]; rfl)) (by kernel_rfl) (by kernel_rfl) (by kernel_rfl) (by intro _ _ _ h; exact h) (Or.inr ⟨by kernel_rfl, rfl⟩) hHeld ?_
  try simp only [Act.put, List.setIfInBounds_toArray, List.set_cons_zero, List.set_cons_succ]
  refine wpAnyH_take (i := 22) (v := undef) (by (simp only [List.getElem?_toArray, List.getElem?_cons_succ, List.getElem?_cons_zero]; rfl)) (by kernel_rfl) (by kernel_rfl) (by kernel_rfl) (by intro _ _ _ h; exact h) (Or.inr ⟨by kernel_rfl, rfl⟩) hHeld ?_
  try simp only [Act.put, List.setIfInBounds_toArray, List.set_cons_zero, List.set_cons_succ]
  refine wpAnyH_take (i := 23) (v := undef) (by (simp only [List.getElem?_toArray, List.getElem?_cons_succ, List.getElem?_cons_zero]; rfl)) (by kernel_rfl) (by kernel_rfl) (by kernel_rfl) (by intro _ _ _ h; exact h) (Or.inr ⟨by kernel_rfl, rfl⟩) hHeld ?_
  try simp only [Act.put, List.setIfInBounds_toArray, List.set_cons_zero, List.set_cons_succ]
  refine wpAnyH_take (i := 24) (v := undef) (by (simp only [List.getElem?_toArray, List.getElem?_cons_succ, List.getElem?_cons_zero]; rfl)) (by kernel_rfl) (by kernel_rfl) (by kernel_rfl) (by intro _ _ _ h; exact h) (Or.inr ⟨by kernel_rfl, rfl⟩) hHeld ?_
  try simp only [Act.put, List.setIfInBounds_toArray, List.set_cons_zero, List.set_cons_succ]
  refine wpAnyH_take (i := 25) (v := undef) (by (simp only [List.getElem?_toArray, List.getElem?_cons_succ, List.getElem?_cons_zero]; rfl)) (by kernel_rfl) (by kernel_rfl) (by kernel_rfl) (by intro _ _ _ h; exact h) (Or.inr ⟨by kernel_rfl, rfl⟩) hHeld ?_
  try simp only [Act.put, List.setIfInBounds_toArray, List.set_cons_zero, List.set_cons_succ]
  refine wpAnyH_take (i := 26) (v := undef) (by (simp only [List.getElem?_toArray, List.getElem?_cons_succ, List.getElem?_cons_zero]; rfl)) (by kernel_rfl) (by kernel_rfl) (by kernel_rfl) (by intro _ _ _ h; exact h) (Or.inr ⟨by kernel_rfl, rfl⟩) hHeld ?_
  try simp only [Act.put, List.setIfInBounds_toArray, List.set_cons_zero, List.set_cons_succ]
  refine wpAnyH_take (i := 27) (v := undef) (by (simp only [List.getElem?_toArray, List.getElem?_cons_succ, List.getElem?_cons_zero]; rfl)) (by kernel_rfl) (by kernel_rfl) (by kernel_rfl) (by intro _ _ _ h; exact h) (Or.inr ⟨by kernel_rfl, rfl⟩) hHeld ?_
  try simp only [Act.put, List.setIfInBounds_toArray, List.set_cons_zero, List.set_cons_succ]
  refine wpAnyH_take (i := 28) (v := ?_) (by (simp only [List.getElem?_toArray, List.getElem?_cons_succ, List.getElem?_cons_zero]; rfl)) (by kernel_rfl) (by kernel_rfl) (by kernel_rfl) (by intro _ _ _ h; exact h) (Or.inl ⟨by kernel_rfl, ?_⟩) hHeld ?_
  case refine_2 =>
    intro w hSw
    try dsimp only at hSw
    go_simp
    try with_reducible rfl
  try simp only [Act.put, List.setIfInBounds_toArray, List.set_cons_zero, List.set_cons_succ]
  refine wpAnyH_take (i := 29) (v := ?_) (by (simp only [List.getElem?_toArray, List.getElem?_cons_succ, List.getElem?_cons_zero]; rfl)) (by kernel_rfl) (by kernel_rfl) (by kernel_rfl) (by intro _ _ _ h; exact h) (Or.inl ⟨by kernel_rfl, ?_⟩) hHeld ?_
  case refine_2 =>
    intro w hSw
    try dsimp only at hSw
    go_simp
    try with_reducible rfl
  try simp only [Act.put, List.setIfInBounds_toArray, List.set_cons_zero, List.set_cons_succ]
  refine wpAnyH_take (i := 30) (v := ?_) (by (simp only [List.getElem?_toArray, List.getElem?_cons_succ, List.getElem?_cons_zero]; rfl)) (by kernel_rfl) (by kernel_rfl) (by kernel_rfl) (by intro _ _ _ h; exact h) (Or.inl ⟨by kernel_rfl, ?_⟩) hHeld ?_
  case refine_2 =>
    intro w hSw
    try dsimp only at hSw
    go_simp
    try with_reducible rfl
  try simp only [Act.put, List.setIfInBounds_toArray, List.set_cons_zero, List.set_cons_succ]
  refine wpAnyH_done (by kernel_rfl) ?_ _
  go_wp2_with fail
  clear a0 a1
  refine (C2.out _ (HU.out.below HB.out) (HX.out.below HB.out)).mono ?_
  rintro e4 w4 ⟨rfl, hb⟩
  have a4 := cellB hb A0
  have a5 := cellB hb A1
  have HB4 := Lib.hid (below_up HB.out hb HB.out.size)
  clear hb A0 A1 HB
  have HX4 : Hid (Below w.heap.size w (w4.alloc (Obj.cells #[Value.int IntKind.i64 r2.1, Value.int IntKind.i64 r2.2] 32))) := Lib.hid (HB4.out.alloc HB4.out.size _)
  go_wp2_with fail
  refine (C3.out _ (HX.out.below HX4.out) (HV.out.below HX4.out)).mono ?_
  rintro e5 w5 ⟨rfl, hb⟩
  have a6 := cellB hb (cellB (below_box w4 _) a4)
  have a7 := cellB hb (cellB (below_box w4 _) a5)
  have B5 := (own2_new w4 r2.1 r2.2 _).below hb
  have HB5 := Lib.hid (below_up HX4.out hb HX4.out.size)
  clear hb a4 a5 HX4 HB4
  obtain ⟨bb, hbb⟩ : ∃ b, w4.heap.size = b := ⟨_, rfl⟩
  rw [hbb] at B5 ⊢
  clear hbb
  go_wp2_with fail
  obtain ⟨W6, hW⟩ : ∃ W6, W6 = w5.alloc (Obj.cells #[Value.int IntKind.i64 r3.1, Value.int IntKind.i64 r3.2] 32) := ⟨_, rfl⟩
  rw [← hW]
  have B6 : Own2 W6 bb r2.1 r2.2 := by rw [hW]; exact B5.alloc _
  have C6 : Own2 W6 w5.heap.size r3.1 r3.2 := by rw [hW]; exact own2_new w5 _ _ _
  have a0 : W6.cell? ⟨bl, 0, none⟩ = some (.int .i64 r1.1) := by rw [hW]; exact cellB (below_box w5 _) a6
  have a1 : W6.cell? ⟨bl, 1, none⟩ = some (.int .i64 r1.2) := by rw [hW]; exact cellB (below_box w5 _) a7
  have HB : Hid (Below w.heap.size w (W6.drewN 1)) := Lib.hid (by rw [hW]; exact dN (HB5.out.alloc HB5.out.size _) 1)
  obtain ⟨bc, hbc⟩ : ∃ b, w5.heap.size = b := ⟨_, rfl⟩
  rw [hbc] at C6 ⊢
  clear hW hbc a6 a7 B5 HB5
  have A0 : (W6.drewN 1).cell? ⟨bl, 0, none⟩ = some (.int .i64 r1.1) := a0
  have A1 : (W6.drewN 1).cell? ⟨bl, 1, none⟩ = some (.int .i64 r1.2) := a1
  have BB : Hid (Own2 (W6.drewN 1) bb r2.1 r2.2) := Lib.hid ⟨B6.c0, B6.c1, B6.f0, B6.f1⟩
  have CC : Hid (Own2 (W6.drewN 1) bc r3.1 r3.2) := Lib.hid ⟨C6.c0, C6.c1, C6.f0, C6.f1⟩
  clear B6 C6
  go_region_held3 (fun w' => w'.cell? ⟨bl, 0, none⟩ = some (.int .i64 r1.1) ∧ w'.cell? ⟨bl, 1, none⟩ = some (.int .i64 r1.2)) (go_keep)
    (first | (go_at_call 21; refine (of_law _ _ _).mono ?_; rintro e q6 ⟨rfl, hv⟩; (first | (replace A0 := cellB hv A0; replace A1 := cellB hv A1; replace BB := Lib.hid (BB.out.below hv); replace CC := Lib.hid (CC.out.below hv); replace HB := Lib.hid (below_up HB.out hv HB.out.size); try (replace SS := Lib.hid (SS.out.below hv))) | (have hne := Nat.ne_of_lt (cellLt A0); have hnb := Nat.ne_of_lt (cellLt BB.out.c0); have hnc := Nat.ne_of_lt (cellLt CC.out.c0); have hcw := HB.out.size; replace A0 := cellB hv (cellB (below_box _ _) A0); replace A1 := cellB hv (cellB (below_box _ _) A1); replace BB := Lib.hid ((BB.out.alloc _).below hv); replace CC := Lib.hid ((CC.out.alloc _).below hv); replace HB := Lib.hid (below_up (HB.out.alloc HB.out.size _) hv (by have := HB.out.size; simp <;> omega)); have SS := Lib.hid ((own2_new _ 0 0 _).below hv)) | (have hne := ne_ad A0; have hnb := ne_ad BB.out.c0; have hnc := ne_ad CC.out.c0; have hcw := HB.out.size; replace A0 := cellB hv (cell_ad A0); replace A1 := cellB hv (cell_ad A1); replace BB := Lib.hid ((own2_ad BB.out).below hv); replace CC := Lib.hid ((own2_ad CC.out).below hv); have SS := Lib.hid ((own2_nd _ 0 0 _).below hv); replace HB := Lib.hid (below_up (below_ad HB.out HB.out.size) hv (by have := HB.out.size; simp at this ⊢ <;> omega)))); clear hv) | (go_at_call 24; refine (L1.add_any 1 1 r1.1 r1.2 _).mono ?_; rw [HA1.out]; rintro e q7 ⟨rfl, hv⟩; (first | (replace A0 := cellB hv A0; replace A1 := cellB hv A1; replace BB := Lib.hid (BB.out.below hv); replace CC := Lib.hid (CC.out.below hv); replace HB := Lib.hid (below_up HB.out hv HB.out.size); try (replace SS := Lib.hid (SS.out.below hv))) | (have hne := Nat.ne_of_lt (cellLt A0); have hnb := Nat.ne_of_lt (cellLt BB.out.c0); have hnc := Nat.ne_of_lt (cellLt CC.out.c0); have hcw := HB.out.size; replace A0 := cellB hv (cellB (below_box _ _) A0); replace A1 := cellB hv (cellB (below_box _ _) A1); replace BB := Lib.hid ((BB.out.alloc _).below hv); replace CC := Lib.hid ((CC.out.alloc _).below hv); replace HB := Lib.hid (below_up (HB.out.alloc HB.out.size _) hv (by have := HB.out.size; simp <;> omega)); have SS := Lib.hid ((own2_new _ 0 0 _).below hv)) | (have hne := ne_ad A0; have hnb := ne_ad BB.out.c0; have hnc := ne_ad CC.out.c0; have hcw := HB.out.size; replace A0 := cellB hv (cell_ad A0); replace A1 := cellB hv (cell_ad A1); replace BB := Lib.hid ((own2_ad BB.out).below hv); replace CC := Lib.hid ((own2_ad CC.out).below hv); have SS := Lib.hid ((own2_nd _ 0 0 _).below hv); replace HB := Lib.hid (below_up (below_ad HB.out HB.out.size) hv (by have := HB.out.size; simp at this ⊢ <;> omega)))); clear hv; try (have s0 := SS.out.c0; have s1 := SS.out.c1; have s2 := SS.out.f0; have s3 := SS.out.f1; have t0 := cell_two hne A0; have t1 := cell_two hne A1); have u0 := (fun o => cellB (below_box q7 o) A0); have u1 := (fun o => cellB (below_box q7 o) A1); have u2 := (fun o x y => cell_two (Nat.ne_of_lt (cellLt A0)) (cellB (below_box q7 o) A0) x y); have u3 := (fun o x y => cell_two (Nat.ne_of_lt (cellLt A1)) (cellB (below_box q7 o) A1) x y); have u4 := Nat.ne_of_lt (cellLt A0)))
  all_goals
    first
      | (have B9 := own2_other BB.out hnb (.int .i64 sn) (.int .i64 sd); have C9 := own2_other CC.out hnc (.int .i64 sn) (.int .i64 sd); have S9 := own2_store SS.out sn sd; have HB9 : Hid (Below w.heap.size w _) := Lib.hid (below_two (u := .int .i64 sn) (v := .int .i64 sd) HB.out hcw))
      | (have B9 := BB.out.alloc (Obj.cells #[Value.int IntKind.i64 sn, Value.int IntKind.i64 sd] 32); have C9 := CC.out.alloc (Obj.cells #[Value.int IntKind.i64 sn, Value.int IntKind.i64 sd] 32); have S9 := own2_new q7 sn sd 32; have HB9 := Lib.hid (HB.out.alloc HB.out.size (Obj.cells #[Value.int IntKind.i64 sn, Value.int IntKind.i64 sd] 32)))
    have b0 := B9.c0
    have b1 := B9.c1
    have c0 := C9.c0
    have c1 := C9.c1
    go_wp2_with fail
    refine (L1.add_any r2.1 r2.2 r3.1 r3.2 _).mono ?_
    rw [HA2.out]
    rintro e10 w10 ⟨rfl, hb⟩
    have S10 := S9.below hb
    have HB10 := Lib.hid (below_up HB9.out hb HB9.out.size)
    have z0 := fun o => (S10.alloc o).c0
    have z1 := fun o => (S10.alloc o).c1
    clear b0 b1 c0 c1 B9 C9 S9 HB9 hb
    go_wp2_with fail
    refine (L1.cmp_any sn sd tn td _).mono ?_
    rw [HC.out]
    rintro e11 w11 ⟨rfl, hb⟩
    have HB11 := Lib.hid (below_up (HB10.out.alloc HB10.out.size _) hb (by have := HB10.out.size; simp <;> omega))
    clear hb z0 z1 S10
    go_wp2_with fail
    go_ret
    exact ⟨rfl, HB11.out⟩

set_option maxRecDepth 100000 in
set_option maxHeartbeats 4000000 in
theorem sets_w_l (l m n : List (List UInt8)) (u v x : Value) (r1 r2 r3 : Int × Int) (sn sd tn td cs : Int) (q : Bool) (HF : Hid (fewB [l, m, n] = true)) (hl : l.length ≤ 40) (hm : m.length ≤ 40) (hn : n.length ≤ 40) (el : ∀ x ∈ l, x.length ≤ 2000) (em : ∀ x ∈ m, x.length ≤ 2000) (en : ∀ x ∈ n, x.length ≤ 2000)
    (HR1 : Hid (jacT l m = r1)) (HR2 : Hid (jacT l n = r2)) (HR3 : Hid (jacT n m = r3)) (HW1 : Hid (withinB l m = true)) (HW2 : Hid (withinB m l = q)) (HAP : Hid (apartB l m = true)) (HE1 : decide (r1 = (1, 1)) = q) (HE0 : decide (r1 = (0, 1)) = true) (hlq : decide (0 < l.length) = true) 
    (HA1 : Hid (L1.opr (L1.vldB 1 1 && L1.vldB r1.1 r1.2) (1 * r1.2 + r1.1 * 1) (1 * r1.2) = (sn, sd, 0))) (HA2 : Hid (L1.opr (L1.vldB r2.1 r2.2 && L1.vldB r3.1 r3.2) (r2.1 * r3.2 + r3.1 * r2.2) (r2.2 * r3.2) = (tn, td, 0))) (HC : Hid (L1.cmpR sn sd tn td = cs)) (hcs : 0 ≤ cs)
    (w : World) (hu : Strs w u l) (hv : Strs w v m) (hx : Strs w x n) :
    Calls Tryz.prog 4 #[u, v, x] w fun e w' => e = .returned (.bool true) ∧ Below w.heap.size w w' := by
  have HU := Lib.hid hu
  have HV := Lib.hid hv
  have HX := Lib.hid hx
  obtain ⟨A, cap, rfl, hcap, _, _⟩ := hu
  obtain ⟨A2, cap2, rfl, hcap2, _, _⟩ := hv
  obtain ⟨A3, cap3, rfl, hcap3, _, _⟩ := hx
  have C1 := Lib.hid (fun W (h1 : Strs W (.slice A l.length cap) l) (h2 : Strs W (.slice A2 m.length cap2) m) => jaccard_any l m _ _ W (by omega) (by omega) el em h1 h2)
  have C2 := Lib.hid (fun W (h1 : Strs W (.slice A l.length cap) l) (h2 : Strs W (.slice A3 n.length cap3) n) => jaccard_any l n _ _ W (by omega) (by omega) el en h1 h2)
  have C3 := Lib.hid (fun W (h1 : Strs W (.slice A3 n.length cap3) n) (h2 : Strs W (.slice A2 m.length cap2) m) => jaccard_any n m _ _ W (by omega) (by omega) en em h1 h2)
  rw [HR1.out] at C1
  rw [HR2.out] at C2
  rw [HR3.out] at C3
  have eqr := fun (r s : Int × Int) (W : World) => eql_rat r s W
  clear el em en
  go_enter Tryz.func4, Tryz.ntmps4
  go_wp2_with fail
  refine (head_any _).mono ?_
  rintro e1 w1 ⟨rfl, hb⟩
  have HB1 := Lib.hid hb
  clear hb
  go_wp2_with fail
  refine (few_lit [l, m, n] [_, _, _] 22 w1 rfl (by simp) (fun i h1 h2 => by
    match i, h1 with
    | 0, _ => exact HU.out.below HB1.out
    | 1, _ => exact HV.out.below HB1.out
    | 2, _ => exact HX.out.below HB1.out)).mono ?_
  rw [HF.out]
  rintro e2 w2 ⟨rfl, hb⟩
  have HB2 := Lib.hid (below_up HB1.out hb HB1.out.size)
  clear hb
  go_wp2_with fail
  refine (C1.out _ (HU.out.below HB2.out) (HV.out.below HB2.out)).mono ?_
  rintro e3 w3 ⟨rfl, hb⟩
  have HB3 := Lib.hid (below_up HB2.out hb HB2.out.size)
  clear hb
  go_wp2_with fail
  obtain ⟨W, hW⟩ : ∃ W, W = w3.alloc (Obj.cells #[Value.int IntKind.i64 r1.1, Value.int IntKind.i64 r1.2] 32) := ⟨_, rfl⟩
  rw [← hW]
  have R : Own2 W w3.heap.size r1.1 r1.2 := by rw [hW]; exact own2_new w3 _ _ _
  have HB : Hid (Below w.heap.size w (W.drewN 1)) := Lib.hid (by rw [hW]; exact dN (HB3.out.alloc HB3.out.size _) 1)
  obtain ⟨bl, hbl⟩ : ∃ bl, w3.heap.size = bl := ⟨_, rfl⟩
  rw [hbl] at R ⊢
  clear hW hbl
  have a0 := R.c0
  have a1 := R.c1
  have A0 : (W.drewN 1).cell? ⟨bl, 0, none⟩ = some (.int .i64 r1.1) := a0
  have A1 : (W.drewN 1).cell? ⟨bl, 1, none⟩ = some (.int .i64 r1.2) := a1
  clear R
  refine wp_region_held_drew (S := (fun w' => w'.cell? ⟨bl, 0, none⟩ = some (.int .i64 r1.1) ∧ w'.cell? ⟨bl, 1, none⟩ = some (.int .i64 r1.2))) (by kernel_rfl) ?_ (fun hHeld => ?_)
  · try dsimp only
    go_keep
  refine wpAnyH_take (i := 0) (v := ?_) (by (simp only [List.getElem?_toArray, List.getElem?_cons_zero]; rfl)) (by kernel_rfl) (by kernel_rfl) (by kernel_rfl) (by intro _ _ _ h; exact h) (Or.inl ⟨by kernel_rfl, ?_⟩) hHeld ?_
  case refine_2 =>
    intro w hSw
    try dsimp only at hSw
    go_simp
    try with_reducible rfl
  try simp only [Act.put, List.setIfInBounds_toArray, List.set_cons_zero, List.set_cons_succ]
  refine wpAnyH_take (i := 3) (v := ?_) (by (simp only [List.getElem?_toArray, List.getElem?_cons_succ, List.getElem?_cons_zero]; rfl)) (by kernel_rfl) (by kernel_rfl) (by kernel_rfl) (by intro _ _ _ h; exact h) (Or.inl ⟨by kernel_rfl, ?_⟩) hHeld ?_
  case refine_2 =>
    intro w hSw
    try dsimp only at hSw
    go_simp
    try with_reducible rfl
  try simp only [Act.put, List.setIfInBounds_toArray, List.set_cons_zero, List.set_cons_succ]
  refine wpAnyH_take (i := 4) (v := ?_) (by (simp only [List.getElem?_toArray, List.getElem?_cons_succ, List.getElem?_cons_zero]; rfl)) (by kernel_rfl) (by kernel_rfl) (by kernel_rfl) (by intro _ _ _ h; exact h) (Or.inl ⟨by kernel_rfl, ?_⟩) hHeld ?_
  case refine_2 =>
    intro w hSw
    try dsimp only at hSw
    go_simp
    try with_reducible rfl
  try simp only [Act.put, List.setIfInBounds_toArray, List.set_cons_zero, List.set_cons_succ]
  refine wpAnyH_ready (rs := [1]) (by kernel_rfl) (by simp) ?_
  refine AllReadyH.cons (by (simp only [List.getElem?_toArray, List.getElem?_cons_succ, List.getElem?_cons_zero]; rfl)) (fun K hK => ?_) AllReadyH.nil
  go_simp
  refine (of_law _ _ _).mono ?_
  rintro e q1 ⟨rfl, hv⟩
  replace A0 := cellB hv A0
  replace A1 := cellB hv A1
  replace HB := Lib.hid (below_up HB.out hv HB.out.size)
  clear hv
  try go_wp2_with fail
  clear hHeld
  refine hK.out _ _ ?_ (fun hHeld => ?_)
  · try dsimp only
    go_keep
  clear hK K
  try simp only [Act.put, List.setIfInBounds_toArray, List.set_cons_zero, List.set_cons_succ]
  refine wpAnyH_take (i := 2) (v := ?_) (by (simp only [List.getElem?_toArray, List.getElem?_cons_succ, List.getElem?_cons_zero]; rfl)) (by kernel_rfl) (by kernel_rfl) (by kernel_rfl) (by intro _ _ _ h; exact h) (Or.inl ⟨by kernel_rfl, ?_⟩) hHeld ?_
  case refine_2 =>
    intro w hSw
    try dsimp only at hSw
    go_simp
    try with_reducible rfl
  try simp only [Act.put, List.setIfInBounds_toArray, List.set_cons_zero, List.set_cons_succ]
  refine wpAnyH_ready (rs := [5]) (by kernel_rfl) (by simp) ?_
  refine AllReadyH.cons (by (simp only [List.getElem?_toArray, List.getElem?_cons_succ, List.getElem?_cons_zero]; rfl)) (fun K hK => ?_) AllReadyH.nil
  go_simp
  refine (within_any l m _ _ _ (by omega) (by omega) (HU.out.below HB.out) (HV.out.below HB.out)).mono ?_
  rw [HW1.out]
  rintro e q2 ⟨rfl, hv⟩
  replace A0 := cellB hv A0
  replace A1 := cellB hv A1
  replace HB := Lib.hid (below_up HB.out hv HB.out.size)
  clear hv
  try go_wp2_with fail
  clear hHeld
  refine hK.out _ _ ?_ (fun hHeld => ?_)
  · try dsimp only
    go_keep
  clear hK K
  try simp only [Act.put, List.setIfInBounds_toArray, List.set_cons_zero, List.set_cons_succ]
  refine wpAnyH_take (i := 6) (v := ?_) (by (simp only [List.getElem?_toArray, List.getElem?_cons_succ, List.getElem?_cons_zero]; rfl)) (by kernel_rfl) (by kernel_rfl) (by kernel_rfl) (by intro _ _ _ h; exact h) (Or.inl ⟨by kernel_rfl, ?_⟩) hHeld ?_
  case refine_2 =>
    intro w hSw
    try dsimp only at hSw
    go_simp
    try with_reducible rfl
  try simp only [Act.put, List.setIfInBounds_toArray, List.set_cons_zero, List.set_cons_succ]
  refine wpAnyH_take (i := 7) (v := ?_) (by (simp only [List.getElem?_toArray, List.getElem?_cons_succ, List.getElem?_cons_zero]; rfl)) (by kernel_rfl) (by kernel_rfl) (by kernel_rfl) (by intro _ _ _ h; exact h) (Or.inl ⟨by kernel_rfl, ?_⟩) hHeld ?_
  case refine_2 =>
    intro w hSw
    try dsimp only at hSw
    go_simp
    try with_reducible rfl
  try simp only [Act.put, List.setIfInBounds_toArray, List.set_cons_zero, List.set_cons_succ]
  refine wpAnyH_take (i := 8) (v := ?_) (by (simp only [List.getElem?_toArray, List.getElem?_cons_succ, List.getElem?_cons_zero]; rfl)) (by kernel_rfl) (by kernel_rfl) (by kernel_rfl) (by intro _ _ _ h; exact h) (Or.inl ⟨by kernel_rfl, ?_⟩) hHeld ?_
  case refine_2 =>
    intro w hSw
    try dsimp only at hSw
    go_simp
    try with_reducible rfl
  try simp only [Act.put, List.setIfInBounds_toArray, List.set_cons_zero, List.set_cons_succ]
  refine wpAnyH_ready (rs := [9]) (by kernel_rfl) (by simp) ?_
  refine AllReadyH.cons (by (simp only [List.getElem?_toArray, List.getElem?_cons_succ, List.getElem?_cons_zero]; rfl)) (fun K hK => ?_) AllReadyH.nil
  go_simp
  refine (within_any m l _ _ _ (by omega) (by omega) (HV.out.below HB.out) (HU.out.below HB.out)).mono ?_
  rw [HW2.out]
  rintro e q3 ⟨rfl, hv⟩
  replace A0 := cellB hv A0
  replace A1 := cellB hv A1
  replace HB := Lib.hid (below_up HB.out hv HB.out.size)
  clear hv
  try go_wp2_with fail
  clear hHeld
  refine hK.out _ _ ?_ (fun hHeld => ?_)
  · try dsimp only
    go_keep
  clear hK K
  try simp only [Act.put, List.setIfInBounds_toArray, List.set_cons_zero, List.set_cons_succ]
  refine wpAnyH_take (i := 10) (v := ?_) (by (simp only [List.getElem?_toArray, List.getElem?_cons_succ, List.getElem?_cons_zero]; rfl)) (by kernel_rfl) (by kernel_rfl) (by kernel_rfl) (by intro _ _ _ h; exact h) (Or.inl ⟨by kernel_rfl, ?_⟩) hHeld ?_
  case refine_2 =>
    intro w hSw
    try dsimp only at hSw
    go_simp
    try with_reducible rfl
  try simp only [Act.put, List.setIfInBounds_toArray, List.set_cons_zero, List.set_cons_succ]
  refine wpAnyH_take (i := 11) (v := ?_) (by (simp only [List.getElem?_toArray, List.getElem?_cons_succ, List.getElem?_cons_zero]; rfl)) (by kernel_rfl) (by kernel_rfl) (by kernel_rfl) (by intro _ _ _ h; exact h) (Or.inl ⟨by kernel_rfl, ?_⟩) hHeld ?_
  case refine_2 =>
    intro w hSw
    try dsimp only at hSw
    go_simp
    try with_reducible rfl
  try simp only [Act.put, List.setIfInBounds_toArray, List.set_cons_zero, List.set_cons_succ]
  refine wpAnyH_take (i := 12) (v := ?_) (by (simp only [List.getElem?_toArray, List.getElem?_cons_succ, List.getElem?_cons_zero]; rfl)) (by kernel_rfl) (by kernel_rfl) (by kernel_rfl) (by intro _ _ _ h; exact h) (Or.inl ⟨by kernel_rfl, ?_⟩) hHeld ?_
  case refine_2 =>
    intro w hSw
    try dsimp only at hSw
    go_simp
    try with_reducible rfl
  try simp only [Act.put, List.setIfInBounds_toArray, List.set_cons_zero, List.set_cons_succ]
  refine wpAnyH_take (i := 13) (v := ?_) (by (simp only [List.getElem?_toArray, List.getElem?_cons_succ, List.getElem?_cons_zero]; rfl)) (by kernel_rfl) (by kernel_rfl) (by kernel_rfl) (by intro _ _ _ h; exact h) (Or.inl ⟨by kernel_rfl, ?_⟩) hHeld ?_
  case refine_2 =>
    intro w hSw
    try dsimp only at hSw
    go_simp
    try with_reducible rfl
  try simp only [Act.put, List.setIfInBounds_toArray, List.set_cons_zero, List.set_cons_succ]
  refine wpAnyH_take (i := 16) (v := ?_) (by (simp only [List.getElem?_toArray, List.getElem?_cons_succ, List.getElem?_cons_zero]; rfl)) (by kernel_rfl) (by kernel_rfl) (by kernel_rfl) (by intro _ _ _ h; exact h) (Or.inl ⟨by kernel_rfl, ?_⟩) hHeld ?_
  case refine_2 =>
    intro w hSw
    try dsimp only at hSw
    go_simp
    try with_reducible rfl
  try simp only [Act.put, List.setIfInBounds_toArray, List.set_cons_zero, List.set_cons_succ]
  refine wpAnyH_take (i := 17) (v := ?_) (by (simp only [List.getElem?_toArray, List.getElem?_cons_succ, List.getElem?_cons_zero]; rfl)) (by kernel_rfl) (by kernel_rfl) (by kernel_rfl) (by intro _ _ _ h; exact h) (Or.inl ⟨by kernel_rfl, ?_⟩) hHeld ?_
  case refine_2 =>
    intro w hSw
    try dsimp only at hSw
    go_simp
    try with_reducible rfl
  try simp only [Act.put, List.setIfInBounds_toArray, List.set_cons_zero, List.set_cons_succ]
  refine wpAnyH_ready (rs := [14]) (by kernel_rfl) (by simp) ?_
  refine AllReadyH.cons (by (simp only [List.getElem?_toArray, List.getElem?_cons_succ, List.getElem?_cons_zero]; rfl)) (fun K hK => ?_) AllReadyH.nil
  go_simp
  refine (of_law _ _ _).mono ?_
  rintro e q4 ⟨rfl, hv⟩
  replace A0 := cellB hv A0
  replace A1 := cellB hv A1
  replace HB := Lib.hid (below_up HB.out hv HB.out.size)
  clear hv
  try go_wp2_with fail
  clear hHeld
  refine hK.out _ _ ?_ (fun hHeld => ?_)
  · try dsimp only
    go_keep
  clear hK K
  try simp only [Act.put, List.setIfInBounds_toArray, List.set_cons_zero, List.set_cons_succ]
  refine wpAnyH_take (i := 15) (v := ?_) (by (simp only [List.getElem?_toArray, List.getElem?_cons_succ, List.getElem?_cons_zero]; rfl)) (by kernel_rfl) (by kernel_rfl) (by kernel_rfl) (by intro _ _ _ h; exact h) (Or.inl ⟨by kernel_rfl, ?_⟩) hHeld ?_
  case refine_2 =>
    intro w hSw
    try dsimp only at hSw
    go_simp
    try with_reducible rfl
  try simp only [Act.put, List.setIfInBounds_toArray, List.set_cons_zero, List.set_cons_succ]
  refine wpAnyH_ready (rs := [18]) (by kernel_rfl) (by simp) ?_
  refine AllReadyH.cons (by (simp only [List.getElem?_toArray, List.getElem?_cons_succ, List.getElem?_cons_zero]; rfl)) (fun K hK => ?_) AllReadyH.nil
  go_simp
  refine (apart_any l m _ _ _ (by omega) (by omega) (HU.out.below HB.out) (HV.out.below HB.out)).mono ?_
  rw [HAP.out]
  rintro e q5 ⟨rfl, hv⟩
  replace A0 := cellB hv A0
  replace A1 := cellB hv A1
  replace HB := Lib.hid (below_up HB.out hv HB.out.size)
  clear hv
  try go_wp2_with fail
  clear hHeld
  refine hK.out _ _ ?_ (fun hHeld => ?_)
  · try dsimp only
    go_keep
  clear hK K
  try simp only [Act.put, List.setIfInBounds_toArray, List.set_cons_zero, List.set_cons_succ]
  refine wpAnyH_take (i := 19) (v := ?_) (by (simp only [List.getElem?_toArray, List.getElem?_cons_succ, List.getElem?_cons_zero]; rfl)) (by kernel_rfl) (by kernel_rfl) (by kernel_rfl) (by intro _ _ _ h; exact h) (Or.inl ⟨by kernel_rfl, ?_⟩) hHeld ?_
  case refine_2 =>
    intro w hSw
    try dsimp only at hSw
    go_simp
    try with_reducible rfl
  try simp only [Act.put, List.setIfInBounds_toArray, List.set_cons_zero, List.set_cons_succ]
  refine wpAnyH_take (i := 20) (v := ?_) (by (simp only [List.getElem?_toArray, List.getElem?_cons_succ, List.getElem?_cons_zero]; rfl)) (by kernel_rfl) (by kernel_rfl) (by kernel_rfl) (by intro _ _ _ h; exact h) (Or.inl ⟨by kernel_rfl, ?_⟩) hHeld ?_
  case refine_2 =>
    intro w hSw
    try dsimp only at hSw
    go_simp
    try with_reducible rfl
  try simp only [Act.put, List.setIfInBounds_toArray, List.set_cons_zero, List.set_cons_succ]
  refine wpAnyH_take (i := 21) (v := ?_) (by (simp only [List.getElem?_toArray, List.getElem?_cons_succ, List.getElem?_cons_zero]; rfl)) (by kernel_rfl) (by kernel_rfl) (by kernel_rfl) (by intro _ _ _ h; exact h) (Or.inl ⟨by kernel_rfl, ?_⟩) hHeld ?_
  case refine_2 =>
    intro w hSw
    try dsimp only at hSw
    go_simp
    try with_reducible rfl
  try simp only [Act.put, List.setIfInBounds_toArray, List.set_cons_zero, List.set_cons_succ]
  refine wpAnyH_take (i := 22) (v := ?_) (by (simp only [List.getElem?_toArray, List.getElem?_cons_succ, List.getElem?_cons_zero]; rfl)) (by kernel_rfl) (by kernel_rfl) (by kernel_rfl) (by intro _ _ _ h; exact h) (Or.inl ⟨by kernel_rfl, ?_⟩) hHeld ?_
  case refine_2 =>
    intro w hSw
    try dsimp only at hSw
    go_simp
    try with_reducible rfl
  try simp only [Act.put, List.setIfInBounds_toArray, List.set_cons_zero, List.set_cons_succ]
  refine wpAnyH_take (i := 23) (v := ?_) (by (simp only [List.getElem?_toArray, List.getElem?_cons_succ, List.getElem?_cons_zero]; rfl)) (by kernel_rfl) (by kernel_rfl) (by kernel_rfl) (by intro _ _ _ h; exact h) (Or.inl ⟨by kernel_rfl, ?_⟩) hHeld ?_
  case refine_2 =>
    intro w hSw
    try dsimp only at hSw
    go_simp
    try with_reducible rfl
  try simp only [Act.put, List.setIfInBounds_toArray, List.set_cons_zero, List.set_cons_succ]
  refine wpAnyH_take (i := 24) (v := undef) (by (simp only [List.getElem?_toArray, List.getElem?_cons_succ, List.getElem?_cons_zero]; rfl)) (by kernel_rfl) (by kernel_rfl) (by kernel_rfl) (by intro _ _ _ h; exact h) (Or.inr ⟨by kernel_rfl, rfl⟩) hHeld ?_
  try simp only [Act.put, List.setIfInBounds_toArray, List.set_cons_zero, List.set_cons_succ]
  refine wpAnyH_take (i := 25) (v := undef) (by (simp only [List.getElem?_toArray, List.getElem?_cons_succ, List.getElem?_cons_zero]; rfl)) (by kernel_rfl) (by kernel_rfl) (by kernel_rfl) (by intro _ _ _ h; exact h) (Or.inr ⟨by kernel_rfl, rfl⟩) hHeld ?_
  try simp only [Act.put, List.setIfInBounds_toArray, List.set_cons_zero, List.set_cons_succ]
  refine wpAnyH_take (i := 26) (v := undef) (by (simp only [List.getElem?_toArray, List.getElem?_cons_succ, List.getElem?_cons_zero]; rfl)) (by kernel_rfl) (by kernel_rfl) (by kernel_rfl) (by intro _ _ _ h; exact h) (Or.inr ⟨by kernel_rfl, rfl⟩) hHeld ?_
  try simp only [Act.put, List.setIfInBounds_toArray, List.set_cons_zero, List.set_cons_succ]
  refine wpAnyH_take (i := 27) (v := ?_) (by (simp only [List.getElem?_toArray, List.getElem?_cons_succ, List.getElem?_cons_zero]; rfl)) (by kernel_rfl) (by kernel_rfl) (by kernel_rfl) (by intro _ _ _ h; exact h) (Or.inl ⟨by kernel_rfl, ?_⟩) hHeld ?_
  case refine_2 =>
    intro w hSw
    try dsimp only at hSw
    go_simp
    try with_reducible rfl
  try simp only [Act.put, List.setIfInBounds_toArray, List.set_cons_zero, List.set_cons_succ]
  refine wpAnyH_take (i := 28) (v := ?_) (by (simp only [List.getElem?_toArray, List.getElem?_cons_succ, List.getElem?_cons_zero]; rfl)) (by kernel_rfl) (by kernel_rfl) (by kernel_rfl) (by intro _ _ _ h; exact h) (Or.inl ⟨by kernel_rfl, ?_⟩) hHeld ?_
  case refine_2 =>
    intro w hSw
    try dsimp only at hSw
    go_simp
    try with_reducible rfl
  try simp only [Act.put, List.setIfInBounds_toArray, List.set_cons_zero, List.set_cons_succ]
  refine wpAnyH_take (i := 29) (v := ?_) (by (simp only [List.getElem?_toArray, List.getElem?_cons_succ, List.getElem?_cons_zero]; rfl)) (by kernel_rfl) (by kernel_rfl) (by kernel_rfl) (by intro _ _ _ h; exact h) (Or.inl ⟨by kernel_rfl, ?_⟩) hHeld ?_
  case refine_2 =>
    intro w hSw
    try dsimp only at hSw
    go_simp
    try with_reducible rfl
  try simp only [Act.put, List.setIfInBounds_toArray, List.set_cons_zero, List.set_cons_succ]
  refine wpAnyH_take (i := 30) (v := ?_) (by (simp only [List.getElem?_toArray, List.getElem?_cons_succ, List.getElem?_cons_zero]; rfl)) (by kernel_rfl) (by kernel_rfl) (by kernel_rfl) (by intro _ _ _ h; exact h) (Or.inl ⟨by kernel_rfl, ?_⟩) hHeld ?_
  case refine_2 =>
    intro w hSw
    try dsimp only at hSw
    go_simp
    try with_reducible rfl
  try simp only [Act.put, List.setIfInBounds_toArray, List.set_cons_zero, List.set_cons_succ]
  refine wpAnyH_done (by kernel_rfl) ?_ _
  go_wp2_with fail
  clear a0 a1
  refine (C2.out _ (HU.out.below HB.out) (HX.out.below HB.out)).mono ?_
  rintro e4 w4 ⟨rfl, hb⟩
  have a4 := cellB hb A0
  have a5 := cellB hb A1
  have HB4 := Lib.hid (below_up HB.out hb HB.out.size)
  clear hb A0 A1 HB
  have HX4 : Hid (Below w.heap.size w (w4.alloc (Obj.cells #[Value.int IntKind.i64 r2.1, Value.int IntKind.i64 r2.2] 32))) := Lib.hid (HB4.out.alloc HB4.out.size _)
  go_wp2_with fail
  refine (C3.out _ (HX.out.below HX4.out) (HV.out.below HX4.out)).mono ?_
  rintro e5 w5 ⟨rfl, hb⟩
  have a6 := cellB hb (cellB (below_box w4 _) a4)
  have a7 := cellB hb (cellB (below_box w4 _) a5)
  have B5 := (own2_new w4 r2.1 r2.2 _).below hb
  have HB5 := Lib.hid (below_up HX4.out hb HX4.out.size)
  clear hb a4 a5 HX4 HB4
  obtain ⟨bb, hbb⟩ : ∃ b, w4.heap.size = b := ⟨_, rfl⟩
  rw [hbb] at B5 ⊢
  clear hbb
  go_wp2_with fail
  obtain ⟨W6, hW⟩ : ∃ W6, W6 = w5.alloc (Obj.cells #[Value.int IntKind.i64 r3.1, Value.int IntKind.i64 r3.2] 32) := ⟨_, rfl⟩
  rw [← hW]
  have B6 : Own2 W6 bb r2.1 r2.2 := by rw [hW]; exact B5.alloc _
  have C6 : Own2 W6 w5.heap.size r3.1 r3.2 := by rw [hW]; exact own2_new w5 _ _ _
  have a0 : W6.cell? ⟨bl, 0, none⟩ = some (.int .i64 r1.1) := by rw [hW]; exact cellB (below_box w5 _) a6
  have a1 : W6.cell? ⟨bl, 1, none⟩ = some (.int .i64 r1.2) := by rw [hW]; exact cellB (below_box w5 _) a7
  have HB : Hid (Below w.heap.size w (W6.drewN 1)) := Lib.hid (by rw [hW]; exact dN (HB5.out.alloc HB5.out.size _) 1)
  obtain ⟨bc, hbc⟩ : ∃ b, w5.heap.size = b := ⟨_, rfl⟩
  rw [hbc] at C6 ⊢
  clear hW hbc a6 a7 B5 HB5
  have A0 : (W6.drewN 1).cell? ⟨bl, 0, none⟩ = some (.int .i64 r1.1) := a0
  have A1 : (W6.drewN 1).cell? ⟨bl, 1, none⟩ = some (.int .i64 r1.2) := a1
  have BB : Hid (Own2 (W6.drewN 1) bb r2.1 r2.2) := Lib.hid ⟨B6.c0, B6.c1, B6.f0, B6.f1⟩
  have CC : Hid (Own2 (W6.drewN 1) bc r3.1 r3.2) := Lib.hid ⟨C6.c0, C6.c1, C6.f0, C6.f1⟩
  clear B6 C6
  go_region_held3 (fun w' => w'.cell? ⟨bl, 0, none⟩ = some (.int .i64 r1.1) ∧ w'.cell? ⟨bl, 1, none⟩ = some (.int .i64 r1.2)) (go_keep)
    (first | (go_at_call 21; refine (of_law _ _ _).mono ?_; rintro e q6 ⟨rfl, hv⟩; (first | (replace A0 := cellB hv A0; replace A1 := cellB hv A1; replace BB := Lib.hid (BB.out.below hv); replace CC := Lib.hid (CC.out.below hv); replace HB := Lib.hid (below_up HB.out hv HB.out.size); try (replace SS := Lib.hid (SS.out.below hv))) | (have hne := Nat.ne_of_lt (cellLt A0); have hnb := Nat.ne_of_lt (cellLt BB.out.c0); have hnc := Nat.ne_of_lt (cellLt CC.out.c0); have hcw := HB.out.size; replace A0 := cellB hv (cellB (below_box _ _) A0); replace A1 := cellB hv (cellB (below_box _ _) A1); replace BB := Lib.hid ((BB.out.alloc _).below hv); replace CC := Lib.hid ((CC.out.alloc _).below hv); replace HB := Lib.hid (below_up (HB.out.alloc HB.out.size _) hv (by have := HB.out.size; simp <;> omega)); have SS := Lib.hid ((own2_new _ 0 0 _).below hv)) | (have hne := ne_ad A0; have hnb := ne_ad BB.out.c0; have hnc := ne_ad CC.out.c0; have hcw := HB.out.size; replace A0 := cellB hv (cell_ad A0); replace A1 := cellB hv (cell_ad A1); replace BB := Lib.hid ((own2_ad BB.out).below hv); replace CC := Lib.hid ((own2_ad CC.out).below hv); have SS := Lib.hid ((own2_nd _ 0 0 _).below hv); replace HB := Lib.hid (below_up (below_ad HB.out HB.out.size) hv (by have := HB.out.size; simp at this ⊢ <;> omega)))); clear hv) | (go_at_call 24; refine (L1.add_any 1 1 r1.1 r1.2 _).mono ?_; rw [HA1.out]; rintro e q7 ⟨rfl, hv⟩; (first | (replace A0 := cellB hv A0; replace A1 := cellB hv A1; replace BB := Lib.hid (BB.out.below hv); replace CC := Lib.hid (CC.out.below hv); replace HB := Lib.hid (below_up HB.out hv HB.out.size); try (replace SS := Lib.hid (SS.out.below hv))) | (have hne := Nat.ne_of_lt (cellLt A0); have hnb := Nat.ne_of_lt (cellLt BB.out.c0); have hnc := Nat.ne_of_lt (cellLt CC.out.c0); have hcw := HB.out.size; replace A0 := cellB hv (cellB (below_box _ _) A0); replace A1 := cellB hv (cellB (below_box _ _) A1); replace BB := Lib.hid ((BB.out.alloc _).below hv); replace CC := Lib.hid ((CC.out.alloc _).below hv); replace HB := Lib.hid (below_up (HB.out.alloc HB.out.size _) hv (by have := HB.out.size; simp <;> omega)); have SS := Lib.hid ((own2_new _ 0 0 _).below hv)) | (have hne := ne_ad A0; have hnb := ne_ad BB.out.c0; have hnc := ne_ad CC.out.c0; have hcw := HB.out.size; replace A0 := cellB hv (cell_ad A0); replace A1 := cellB hv (cell_ad A1); replace BB := Lib.hid ((own2_ad BB.out).below hv); replace CC := Lib.hid ((own2_ad CC.out).below hv); have SS := Lib.hid ((own2_nd _ 0 0 _).below hv); replace HB := Lib.hid (below_up (below_ad HB.out HB.out.size) hv (by have := HB.out.size; simp at this ⊢ <;> omega)))); clear hv; try (have s0 := SS.out.c0; have s1 := SS.out.c1; have s2 := SS.out.f0; have s3 := SS.out.f1; have t0 := cell_two hne A0; have t1 := cell_two hne A1); have u0 := (fun o => cellB (below_box q7 o) A0); have u1 := (fun o => cellB (below_box q7 o) A1); have u2 := (fun o x y => cell_two (Nat.ne_of_lt (cellLt A0)) (cellB (below_box q7 o) A0) x y); have u3 := (fun o x y => cell_two (Nat.ne_of_lt (cellLt A1)) (cellB (below_box q7 o) A1) x y); have u4 := Nat.ne_of_lt (cellLt A0)))
  all_goals
    first
      | (have B9 := own2_other BB.out hnb (.int .i64 sn) (.int .i64 sd); have C9 := own2_other CC.out hnc (.int .i64 sn) (.int .i64 sd); have S9 := own2_store SS.out sn sd; have HB9 : Hid (Below w.heap.size w _) := Lib.hid (below_two (u := .int .i64 sn) (v := .int .i64 sd) HB.out hcw))
      | (have B9 := BB.out.alloc (Obj.cells #[Value.int IntKind.i64 sn, Value.int IntKind.i64 sd] 32); have C9 := CC.out.alloc (Obj.cells #[Value.int IntKind.i64 sn, Value.int IntKind.i64 sd] 32); have S9 := own2_new q7 sn sd 32; have HB9 := Lib.hid (HB.out.alloc HB.out.size (Obj.cells #[Value.int IntKind.i64 sn, Value.int IntKind.i64 sd] 32)))
    have b0 := B9.c0
    have b1 := B9.c1
    have c0 := C9.c0
    have c1 := C9.c1
    go_wp2_with fail
    refine (L1.add_any r2.1 r2.2 r3.1 r3.2 _).mono ?_
    rw [HA2.out]
    rintro e10 w10 ⟨rfl, hb⟩
    have S10 := S9.below hb
    have HB10 := Lib.hid (below_up HB9.out hb HB9.out.size)
    have z0 := fun o => (S10.alloc o).c0
    have z1 := fun o => (S10.alloc o).c1
    clear b0 b1 c0 c1 B9 C9 S9 HB9 hb
    go_wp2_with fail
    refine (L1.cmp_any sn sd tn td _).mono ?_
    rw [HC.out]
    rintro e11 w11 ⟨rfl, hb⟩
    have HB11 := Lib.hid (below_up (HB10.out.alloc HB10.out.size _) hb (by have := HB10.out.size; simp <;> omega))
    clear hb z0 z1 S10
    go_wp2_with fail
    go_ret
    exact ⟨rfl, HB11.out⟩

set_option maxRecDepth 100000 in
set_option maxHeartbeats 4000000 in
theorem sets_w_m (l m n : List (List UInt8)) (u v x : Value) (r1 r2 r3 : Int × Int) (sn sd tn td cs : Int) (q : Bool) (HF : Hid (fewB [l, m, n] = true)) (hl : l.length ≤ 40) (hm : m.length ≤ 40) (hn : n.length ≤ 40) (el : ∀ x ∈ l, x.length ≤ 2000) (em : ∀ x ∈ m, x.length ≤ 2000) (en : ∀ x ∈ n, x.length ≤ 2000)
    (HR1 : Hid (jacT l m = r1)) (HR2 : Hid (jacT l n = r2)) (HR3 : Hid (jacT n m = r3)) (HW1 : Hid (withinB l m = true)) (HW2 : Hid (withinB m l = q)) (HAP : Hid (apartB l m = true)) (HE1 : decide (r1 = (1, 1)) = q) (HE0 : decide (r1 = (0, 1)) = decide ((0 : Int) < (m.length : Int))) (hlq : decide (0 < l.length) = false) 
    (HA1 : Hid (L1.opr (L1.vldB 1 1 && L1.vldB r1.1 r1.2) (1 * r1.2 + r1.1 * 1) (1 * r1.2) = (sn, sd, 0))) (HA2 : Hid (L1.opr (L1.vldB r2.1 r2.2 && L1.vldB r3.1 r3.2) (r2.1 * r3.2 + r3.1 * r2.2) (r2.2 * r3.2) = (tn, td, 0))) (HC : Hid (L1.cmpR sn sd tn td = cs)) (hcs : 0 ≤ cs)
    (w : World) (hu : Strs w u l) (hv : Strs w v m) (hx : Strs w x n) :
    Calls Tryz.prog 4 #[u, v, x] w fun e w' => e = .returned (.bool true) ∧ Below w.heap.size w w' := by
  have HU := Lib.hid hu
  have HV := Lib.hid hv
  have HX := Lib.hid hx
  obtain ⟨A, cap, rfl, hcap, _, _⟩ := hu
  obtain ⟨A2, cap2, rfl, hcap2, _, _⟩ := hv
  obtain ⟨A3, cap3, rfl, hcap3, _, _⟩ := hx
  have C1 := Lib.hid (fun W (h1 : Strs W (.slice A l.length cap) l) (h2 : Strs W (.slice A2 m.length cap2) m) => jaccard_any l m _ _ W (by omega) (by omega) el em h1 h2)
  have C2 := Lib.hid (fun W (h1 : Strs W (.slice A l.length cap) l) (h2 : Strs W (.slice A3 n.length cap3) n) => jaccard_any l n _ _ W (by omega) (by omega) el en h1 h2)
  have C3 := Lib.hid (fun W (h1 : Strs W (.slice A3 n.length cap3) n) (h2 : Strs W (.slice A2 m.length cap2) m) => jaccard_any n m _ _ W (by omega) (by omega) en em h1 h2)
  rw [HR1.out] at C1
  rw [HR2.out] at C2
  rw [HR3.out] at C3
  have eqr := fun (r s : Int × Int) (W : World) => eql_rat r s W
  clear el em en
  go_enter Tryz.func4, Tryz.ntmps4
  go_wp2_with fail
  refine (head_any _).mono ?_
  rintro e1 w1 ⟨rfl, hb⟩
  have HB1 := Lib.hid hb
  clear hb
  go_wp2_with fail
  refine (few_lit [l, m, n] [_, _, _] 22 w1 rfl (by simp) (fun i h1 h2 => by
    match i, h1 with
    | 0, _ => exact HU.out.below HB1.out
    | 1, _ => exact HV.out.below HB1.out
    | 2, _ => exact HX.out.below HB1.out)).mono ?_
  rw [HF.out]
  rintro e2 w2 ⟨rfl, hb⟩
  have HB2 := Lib.hid (below_up HB1.out hb HB1.out.size)
  clear hb
  go_wp2_with fail
  refine (C1.out _ (HU.out.below HB2.out) (HV.out.below HB2.out)).mono ?_
  rintro e3 w3 ⟨rfl, hb⟩
  have HB3 := Lib.hid (below_up HB2.out hb HB2.out.size)
  clear hb
  go_wp2_with fail
  obtain ⟨W, hW⟩ : ∃ W, W = w3.alloc (Obj.cells #[Value.int IntKind.i64 r1.1, Value.int IntKind.i64 r1.2] 32) := ⟨_, rfl⟩
  rw [← hW]
  have R : Own2 W w3.heap.size r1.1 r1.2 := by rw [hW]; exact own2_new w3 _ _ _
  have HB : Hid (Below w.heap.size w (W.drewN 1)) := Lib.hid (by rw [hW]; exact dN (HB3.out.alloc HB3.out.size _) 1)
  obtain ⟨bl, hbl⟩ : ∃ bl, w3.heap.size = bl := ⟨_, rfl⟩
  rw [hbl] at R ⊢
  clear hW hbl
  have a0 := R.c0
  have a1 := R.c1
  have A0 : (W.drewN 1).cell? ⟨bl, 0, none⟩ = some (.int .i64 r1.1) := a0
  have A1 : (W.drewN 1).cell? ⟨bl, 1, none⟩ = some (.int .i64 r1.2) := a1
  clear R
  refine wp_region_held_drew (S := (fun w' => w'.cell? ⟨bl, 0, none⟩ = some (.int .i64 r1.1) ∧ w'.cell? ⟨bl, 1, none⟩ = some (.int .i64 r1.2))) (by kernel_rfl) ?_ (fun hHeld => ?_)
  · try dsimp only
    go_keep
  refine wpAnyH_take (i := 0) (v := ?_) (by (simp only [List.getElem?_toArray, List.getElem?_cons_zero]; rfl)) (by kernel_rfl) (by kernel_rfl) (by kernel_rfl) (by intro _ _ _ h; exact h) (Or.inl ⟨by kernel_rfl, ?_⟩) hHeld ?_
  case refine_2 =>
    intro w hSw
    try dsimp only at hSw
    go_simp
    try with_reducible rfl
  try simp only [Act.put, List.setIfInBounds_toArray, List.set_cons_zero, List.set_cons_succ]
  refine wpAnyH_take (i := 3) (v := ?_) (by (simp only [List.getElem?_toArray, List.getElem?_cons_succ, List.getElem?_cons_zero]; rfl)) (by kernel_rfl) (by kernel_rfl) (by kernel_rfl) (by intro _ _ _ h; exact h) (Or.inl ⟨by kernel_rfl, ?_⟩) hHeld ?_
  case refine_2 =>
    intro w hSw
    try dsimp only at hSw
    go_simp
    try with_reducible rfl
  try simp only [Act.put, List.setIfInBounds_toArray, List.set_cons_zero, List.set_cons_succ]
  refine wpAnyH_take (i := 4) (v := ?_) (by (simp only [List.getElem?_toArray, List.getElem?_cons_succ, List.getElem?_cons_zero]; rfl)) (by kernel_rfl) (by kernel_rfl) (by kernel_rfl) (by intro _ _ _ h; exact h) (Or.inl ⟨by kernel_rfl, ?_⟩) hHeld ?_
  case refine_2 =>
    intro w hSw
    try dsimp only at hSw
    go_simp
    try with_reducible rfl
  try simp only [Act.put, List.setIfInBounds_toArray, List.set_cons_zero, List.set_cons_succ]
  refine wpAnyH_ready (rs := [1]) (by kernel_rfl) (by simp) ?_
  refine AllReadyH.cons (by (simp only [List.getElem?_toArray, List.getElem?_cons_succ, List.getElem?_cons_zero]; rfl)) (fun K hK => ?_) AllReadyH.nil
  go_simp
  refine (of_law _ _ _).mono ?_
  rintro e q1 ⟨rfl, hv⟩
  replace A0 := cellB hv A0
  replace A1 := cellB hv A1
  replace HB := Lib.hid (below_up HB.out hv HB.out.size)
  clear hv
  try go_wp2_with fail
  clear hHeld
  refine hK.out _ _ ?_ (fun hHeld => ?_)
  · try dsimp only
    go_keep
  clear hK K
  try simp only [Act.put, List.setIfInBounds_toArray, List.set_cons_zero, List.set_cons_succ]
  refine wpAnyH_take (i := 2) (v := ?_) (by (simp only [List.getElem?_toArray, List.getElem?_cons_succ, List.getElem?_cons_zero]; rfl)) (by kernel_rfl) (by kernel_rfl) (by kernel_rfl) (by intro _ _ _ h; exact h) (Or.inl ⟨by kernel_rfl, ?_⟩) hHeld ?_
  case refine_2 =>
    intro w hSw
    try dsimp only at hSw
    go_simp
    try with_reducible rfl
  try simp only [Act.put, List.setIfInBounds_toArray, List.set_cons_zero, List.set_cons_succ]
  refine wpAnyH_ready (rs := [5]) (by kernel_rfl) (by simp) ?_
  refine AllReadyH.cons (by (simp only [List.getElem?_toArray, List.getElem?_cons_succ, List.getElem?_cons_zero]; rfl)) (fun K hK => ?_) AllReadyH.nil
  go_simp
  refine (within_any l m _ _ _ (by omega) (by omega) (HU.out.below HB.out) (HV.out.below HB.out)).mono ?_
  rw [HW1.out]
  rintro e q2 ⟨rfl, hv⟩
  replace A0 := cellB hv A0
  replace A1 := cellB hv A1
  replace HB := Lib.hid (below_up HB.out hv HB.out.size)
  clear hv
  try go_wp2_with fail
  clear hHeld
  refine hK.out _ _ ?_ (fun hHeld => ?_)
  · try dsimp only
    go_keep
  clear hK K
  try simp only [Act.put, List.setIfInBounds_toArray, List.set_cons_zero, List.set_cons_succ]
  refine wpAnyH_take (i := 6) (v := ?_) (by (simp only [List.getElem?_toArray, List.getElem?_cons_succ, List.getElem?_cons_zero]; rfl)) (by kernel_rfl) (by kernel_rfl) (by kernel_rfl) (by intro _ _ _ h; exact h) (Or.inl ⟨by kernel_rfl, ?_⟩) hHeld ?_
  case refine_2 =>
    intro w hSw
    try dsimp only at hSw
    go_simp
    try with_reducible rfl
  try simp only [Act.put, List.setIfInBounds_toArray, List.set_cons_zero, List.set_cons_succ]
  refine wpAnyH_take (i := 7) (v := ?_) (by (simp only [List.getElem?_toArray, List.getElem?_cons_succ, List.getElem?_cons_zero]; rfl)) (by kernel_rfl) (by kernel_rfl) (by kernel_rfl) (by intro _ _ _ h; exact h) (Or.inl ⟨by kernel_rfl, ?_⟩) hHeld ?_
  case refine_2 =>
    intro w hSw
    try dsimp only at hSw
    go_simp
    try with_reducible rfl
  try simp only [Act.put, List.setIfInBounds_toArray, List.set_cons_zero, List.set_cons_succ]
  refine wpAnyH_take (i := 8) (v := ?_) (by (simp only [List.getElem?_toArray, List.getElem?_cons_succ, List.getElem?_cons_zero]; rfl)) (by kernel_rfl) (by kernel_rfl) (by kernel_rfl) (by intro _ _ _ h; exact h) (Or.inl ⟨by kernel_rfl, ?_⟩) hHeld ?_
  case refine_2 =>
    intro w hSw
    try dsimp only at hSw
    go_simp
    try with_reducible rfl
  try simp only [Act.put, List.setIfInBounds_toArray, List.set_cons_zero, List.set_cons_succ]
  refine wpAnyH_ready (rs := [9]) (by kernel_rfl) (by simp) ?_
  refine AllReadyH.cons (by (simp only [List.getElem?_toArray, List.getElem?_cons_succ, List.getElem?_cons_zero]; rfl)) (fun K hK => ?_) AllReadyH.nil
  go_simp
  refine (within_any m l _ _ _ (by omega) (by omega) (HV.out.below HB.out) (HU.out.below HB.out)).mono ?_
  rw [HW2.out]
  rintro e q3 ⟨rfl, hv⟩
  replace A0 := cellB hv A0
  replace A1 := cellB hv A1
  replace HB := Lib.hid (below_up HB.out hv HB.out.size)
  clear hv
  try go_wp2_with fail
  clear hHeld
  refine hK.out _ _ ?_ (fun hHeld => ?_)
  · try dsimp only
    go_keep
  clear hK K
  try simp only [Act.put, List.setIfInBounds_toArray, List.set_cons_zero, List.set_cons_succ]
  refine wpAnyH_take (i := 10) (v := ?_) (by (simp only [List.getElem?_toArray, List.getElem?_cons_succ, List.getElem?_cons_zero]; rfl)) (by kernel_rfl) (by kernel_rfl) (by kernel_rfl) (by intro _ _ _ h; exact h) (Or.inl ⟨by kernel_rfl, ?_⟩) hHeld ?_
  case refine_2 =>
    intro w hSw
    try dsimp only at hSw
    go_simp
    try with_reducible rfl
  try simp only [Act.put, List.setIfInBounds_toArray, List.set_cons_zero, List.set_cons_succ]
  refine wpAnyH_take (i := 11) (v := ?_) (by (simp only [List.getElem?_toArray, List.getElem?_cons_succ, List.getElem?_cons_zero]; rfl)) (by kernel_rfl) (by kernel_rfl) (by kernel_rfl) (by intro _ _ _ h; exact h) (Or.inl ⟨by kernel_rfl, ?_⟩) hHeld ?_
  case refine_2 =>
    intro w hSw
    try dsimp only at hSw
    go_simp
    try with_reducible rfl
  try simp only [Act.put, List.setIfInBounds_toArray, List.set_cons_zero, List.set_cons_succ]
  refine wpAnyH_take (i := 12) (v := ?_) (by (simp only [List.getElem?_toArray, List.getElem?_cons_succ, List.getElem?_cons_zero]; rfl)) (by kernel_rfl) (by kernel_rfl) (by kernel_rfl) (by intro _ _ _ h; exact h) (Or.inl ⟨by kernel_rfl, ?_⟩) hHeld ?_
  case refine_2 =>
    intro w hSw
    try dsimp only at hSw
    go_simp
    try with_reducible rfl
  try simp only [Act.put, List.setIfInBounds_toArray, List.set_cons_zero, List.set_cons_succ]
  refine wpAnyH_take (i := 13) (v := ?_) (by (simp only [List.getElem?_toArray, List.getElem?_cons_succ, List.getElem?_cons_zero]; rfl)) (by kernel_rfl) (by kernel_rfl) (by kernel_rfl) (by intro _ _ _ h; exact h) (Or.inl ⟨by kernel_rfl, ?_⟩) hHeld ?_
  case refine_2 =>
    intro w hSw
    try dsimp only at hSw
    go_simp
    try with_reducible rfl
  try simp only [Act.put, List.setIfInBounds_toArray, List.set_cons_zero, List.set_cons_succ]
  refine wpAnyH_take (i := 16) (v := ?_) (by (simp only [List.getElem?_toArray, List.getElem?_cons_succ, List.getElem?_cons_zero]; rfl)) (by kernel_rfl) (by kernel_rfl) (by kernel_rfl) (by intro _ _ _ h; exact h) (Or.inl ⟨by kernel_rfl, ?_⟩) hHeld ?_
  case refine_2 =>
    intro w hSw
    try dsimp only at hSw
    go_simp
    try with_reducible rfl
  try simp only [Act.put, List.setIfInBounds_toArray, List.set_cons_zero, List.set_cons_succ]
  refine wpAnyH_take (i := 17) (v := ?_) (by (simp only [List.getElem?_toArray, List.getElem?_cons_succ, List.getElem?_cons_zero]; rfl)) (by kernel_rfl) (by kernel_rfl) (by kernel_rfl) (by intro _ _ _ h; exact h) (Or.inl ⟨by kernel_rfl, ?_⟩) hHeld ?_
  case refine_2 =>
    intro w hSw
    try dsimp only at hSw
    go_simp
    try with_reducible rfl
  try simp only [Act.put, List.setIfInBounds_toArray, List.set_cons_zero, List.set_cons_succ]
  refine wpAnyH_ready (rs := [14]) (by kernel_rfl) (by simp) ?_
  refine AllReadyH.cons (by (simp only [List.getElem?_toArray, List.getElem?_cons_succ, List.getElem?_cons_zero]; rfl)) (fun K hK => ?_) AllReadyH.nil
  go_simp
  refine (of_law _ _ _).mono ?_
  rintro e q4 ⟨rfl, hv⟩
  replace A0 := cellB hv A0
  replace A1 := cellB hv A1
  replace HB := Lib.hid (below_up HB.out hv HB.out.size)
  clear hv
  try go_wp2_with fail
  clear hHeld
  refine hK.out _ _ ?_ (fun hHeld => ?_)
  · try dsimp only
    go_keep
  clear hK K
  try simp only [Act.put, List.setIfInBounds_toArray, List.set_cons_zero, List.set_cons_succ]
  refine wpAnyH_take (i := 15) (v := ?_) (by (simp only [List.getElem?_toArray, List.getElem?_cons_succ, List.getElem?_cons_zero]; rfl)) (by kernel_rfl) (by kernel_rfl) (by kernel_rfl) (by intro _ _ _ h; exact h) (Or.inl ⟨by kernel_rfl, ?_⟩) hHeld ?_
  case refine_2 =>
    intro w hSw
    try dsimp only at hSw
    go_simp
    try with_reducible rfl
  try simp only [Act.put, List.setIfInBounds_toArray, List.set_cons_zero, List.set_cons_succ]
  refine wpAnyH_ready (rs := [18]) (by kernel_rfl) (by simp) ?_
  refine AllReadyH.cons (by (simp only [List.getElem?_toArray, List.getElem?_cons_succ, List.getElem?_cons_zero]; rfl)) (fun K hK => ?_) AllReadyH.nil
  go_simp
  refine (apart_any l m _ _ _ (by omega) (by omega) (HU.out.below HB.out) (HV.out.below HB.out)).mono ?_
  rw [HAP.out]
  rintro e q5 ⟨rfl, hv⟩
  replace A0 := cellB hv A0
  replace A1 := cellB hv A1
  replace HB := Lib.hid (below_up HB.out hv HB.out.size)
  clear hv
  try go_wp2_with fail
  clear hHeld
  refine hK.out _ _ ?_ (fun hHeld => ?_)
  · try dsimp only
    go_keep
  clear hK K
  try simp only [Act.put, List.setIfInBounds_toArray, List.set_cons_zero, List.set_cons_succ]
  refine wpAnyH_take (i := 19) (v := ?_) (by (simp only [List.getElem?_toArray, List.getElem?_cons_succ, List.getElem?_cons_zero]; rfl)) (by kernel_rfl) (by kernel_rfl) (by kernel_rfl) (by intro _ _ _ h; exact h) (Or.inl ⟨by kernel_rfl, ?_⟩) hHeld ?_
  case refine_2 =>
    intro w hSw
    try dsimp only at hSw
    go_simp
    try with_reducible rfl
  try simp only [Act.put, List.setIfInBounds_toArray, List.set_cons_zero, List.set_cons_succ]
  refine wpAnyH_take (i := 20) (v := ?_) (by (simp only [List.getElem?_toArray, List.getElem?_cons_succ, List.getElem?_cons_zero]; rfl)) (by kernel_rfl) (by kernel_rfl) (by kernel_rfl) (by intro _ _ _ h; exact h) (Or.inl ⟨by kernel_rfl, ?_⟩) hHeld ?_
  case refine_2 =>
    intro w hSw
    try dsimp only at hSw
    go_simp
    try with_reducible rfl
  try simp only [Act.put, List.setIfInBounds_toArray, List.set_cons_zero, List.set_cons_succ]
  refine wpAnyH_take (i := 21) (v := ?_) (by (simp only [List.getElem?_toArray, List.getElem?_cons_succ, List.getElem?_cons_zero]; rfl)) (by kernel_rfl) (by kernel_rfl) (by kernel_rfl) (by intro _ _ _ h; exact h) (Or.inl ⟨by kernel_rfl, ?_⟩) hHeld ?_
  case refine_2 =>
    intro w hSw
    try dsimp only at hSw
    go_simp
    try with_reducible rfl
  try simp only [Act.put, List.setIfInBounds_toArray, List.set_cons_zero, List.set_cons_succ]
  refine wpAnyH_take (i := 22) (v := ?_) (by (simp only [List.getElem?_toArray, List.getElem?_cons_succ, List.getElem?_cons_zero]; rfl)) (by kernel_rfl) (by kernel_rfl) (by kernel_rfl) (by intro _ _ _ h; exact h) (Or.inl ⟨by kernel_rfl, ?_⟩) hHeld ?_
  case refine_2 =>
    intro w hSw
    try dsimp only at hSw
    go_simp
    try with_reducible rfl
  try simp only [Act.put, List.setIfInBounds_toArray, List.set_cons_zero, List.set_cons_succ]
  refine wpAnyH_take (i := 23) (v := ?_) (by (simp only [List.getElem?_toArray, List.getElem?_cons_succ, List.getElem?_cons_zero]; rfl)) (by kernel_rfl) (by kernel_rfl) (by kernel_rfl) (by intro _ _ _ h; exact h) (Or.inl ⟨by kernel_rfl, ?_⟩) hHeld ?_
  case refine_2 =>
    intro w hSw
    try dsimp only at hSw
    go_simp
    try with_reducible rfl
  try simp only [Act.put, List.setIfInBounds_toArray, List.set_cons_zero, List.set_cons_succ]
  refine wpAnyH_take (i := 24) (v := ?_) (by (simp only [List.getElem?_toArray, List.getElem?_cons_succ, List.getElem?_cons_zero]; rfl)) (by kernel_rfl) (by kernel_rfl) (by kernel_rfl) (by intro _ _ _ h; exact h) (Or.inl ⟨by kernel_rfl, ?_⟩) hHeld ?_
  case refine_2 =>
    intro w hSw
    try dsimp only at hSw
    go_simp
    try with_reducible rfl
  try simp only [Act.put, List.setIfInBounds_toArray, List.set_cons_zero, List.set_cons_succ]
  refine wpAnyH_take (i := 25) (v := ?_) (by (simp only [List.getElem?_toArray, List.getElem?_cons_succ, List.getElem?_cons_zero]; rfl)) (by kernel_rfl) (by kernel_rfl) (by kernel_rfl) (by intro _ _ _ h; exact h) (Or.inl ⟨by kernel_rfl, ?_⟩) hHeld ?_
  case refine_2 =>
    intro w hSw
    try dsimp only at hSw
    go_simp
    try with_reducible rfl
  try simp only [Act.put, List.setIfInBounds_toArray, List.set_cons_zero, List.set_cons_succ]
  refine wpAnyH_take (i := 26) (v := ?_) (by (simp only [List.getElem?_toArray, List.getElem?_cons_succ, List.getElem?_cons_zero]; rfl)) (by kernel_rfl) (by kernel_rfl) (by kernel_rfl) (by intro _ _ _ h; exact h) (Or.inl ⟨by kernel_rfl, ?_⟩) hHeld ?_
  case refine_2 =>
    intro w hSw
    try dsimp only at hSw
    go_simp
    try with_reducible rfl
  try simp only [Act.put, List.setIfInBounds_toArray, List.set_cons_zero, List.set_cons_succ]
  refine wpAnyH_take (i := 27) (v := ?_) (by (simp only [List.getElem?_toArray, List.getElem?_cons_succ, List.getElem?_cons_zero]; rfl)) (by kernel_rfl) (by kernel_rfl) (by kernel_rfl) (by intro _ _ _ h; exact h) (Or.inl ⟨by kernel_rfl, ?_⟩) hHeld ?_
  case refine_2 =>
    intro w hSw
    try dsimp only at hSw
    go_simp
    try with_reducible rfl
  try simp only [Act.put, List.setIfInBounds_toArray, List.set_cons_zero, List.set_cons_succ]
  refine wpAnyH_take (i := 28) (v := ?_) (by (simp only [List.getElem?_toArray, List.getElem?_cons_succ, List.getElem?_cons_zero]; rfl)) (by kernel_rfl) (by kernel_rfl) (by kernel_rfl) (by intro _ _ _ h; exact h) (Or.inl ⟨by kernel_rfl, ?_⟩) hHeld ?_
  case refine_2 =>
    intro w hSw
    try dsimp only at hSw
    go_simp
    try with_reducible rfl
  try simp only [Act.put, List.setIfInBounds_toArray, List.set_cons_zero, List.set_cons_succ]
  refine wpAnyH_take (i := 29) (v := ?_) (by (simp only [List.getElem?_toArray, List.getElem?_cons_succ, List.getElem?_cons_zero]; rfl)) (by kernel_rfl) (by kernel_rfl) (by kernel_rfl) (by intro _ _ _ h; exact h) (Or.inl ⟨by kernel_rfl, ?_⟩) hHeld ?_
  case refine_2 =>
    intro w hSw
    try dsimp only at hSw
    go_simp
    try with_reducible rfl
  try simp only [Act.put, List.setIfInBounds_toArray, List.set_cons_zero, List.set_cons_succ]
  refine wpAnyH_take (i := 30) (v := ?_) (by (simp only [List.getElem?_toArray, List.getElem?_cons_succ, List.getElem?_cons_zero]; rfl)) (by kernel_rfl) (by kernel_rfl) (by kernel_rfl) (by intro _ _ _ h; exact h) (Or.inl ⟨by kernel_rfl, ?_⟩) hHeld ?_
  case refine_2 =>
    intro w hSw
    try dsimp only at hSw
    go_simp
    try with_reducible rfl
  try simp only [Act.put, List.setIfInBounds_toArray, List.set_cons_zero, List.set_cons_succ]
  refine wpAnyH_done (by kernel_rfl) ?_ _
  go_wp2_with fail
  clear a0 a1
  refine (C2.out _ (HU.out.below HB.out) (HX.out.below HB.out)).mono ?_
  rintro e4 w4 ⟨rfl, hb⟩
  have a4 := cellB hb A0
  have a5 := cellB hb A1
  have HB4 := Lib.hid (below_up HB.out hb HB.out.size)
  clear hb A0 A1 HB
  have HX4 : Hid (Below w.heap.size w (w4.alloc (Obj.cells #[Value.int IntKind.i64 r2.1, Value.int IntKind.i64 r2.2] 32))) := Lib.hid (HB4.out.alloc HB4.out.size _)
  go_wp2_with fail
  refine (C3.out _ (HX.out.below HX4.out) (HV.out.below HX4.out)).mono ?_
  rintro e5 w5 ⟨rfl, hb⟩
  have a6 := cellB hb (cellB (below_box w4 _) a4)
  have a7 := cellB hb (cellB (below_box w4 _) a5)
  have B5 := (own2_new w4 r2.1 r2.2 _).below hb
  have HB5 := Lib.hid (below_up HX4.out hb HX4.out.size)
  clear hb a4 a5 HX4 HB4
  obtain ⟨bb, hbb⟩ : ∃ b, w4.heap.size = b := ⟨_, rfl⟩
  rw [hbb] at B5 ⊢
  clear hbb
  go_wp2_with fail
  obtain ⟨W6, hW⟩ : ∃ W6, W6 = w5.alloc (Obj.cells #[Value.int IntKind.i64 r3.1, Value.int IntKind.i64 r3.2] 32) := ⟨_, rfl⟩
  rw [← hW]
  have B6 : Own2 W6 bb r2.1 r2.2 := by rw [hW]; exact B5.alloc _
  have C6 : Own2 W6 w5.heap.size r3.1 r3.2 := by rw [hW]; exact own2_new w5 _ _ _
  have a0 : W6.cell? ⟨bl, 0, none⟩ = some (.int .i64 r1.1) := by rw [hW]; exact cellB (below_box w5 _) a6
  have a1 : W6.cell? ⟨bl, 1, none⟩ = some (.int .i64 r1.2) := by rw [hW]; exact cellB (below_box w5 _) a7
  have HB : Hid (Below w.heap.size w (W6.drewN 1)) := Lib.hid (by rw [hW]; exact dN (HB5.out.alloc HB5.out.size _) 1)
  obtain ⟨bc, hbc⟩ : ∃ b, w5.heap.size = b := ⟨_, rfl⟩
  rw [hbc] at C6 ⊢
  clear hW hbc a6 a7 B5 HB5
  have A0 : (W6.drewN 1).cell? ⟨bl, 0, none⟩ = some (.int .i64 r1.1) := a0
  have A1 : (W6.drewN 1).cell? ⟨bl, 1, none⟩ = some (.int .i64 r1.2) := a1
  have BB : Hid (Own2 (W6.drewN 1) bb r2.1 r2.2) := Lib.hid ⟨B6.c0, B6.c1, B6.f0, B6.f1⟩
  have CC : Hid (Own2 (W6.drewN 1) bc r3.1 r3.2) := Lib.hid ⟨C6.c0, C6.c1, C6.f0, C6.f1⟩
  clear B6 C6
  go_region_held3 (fun w' => w'.cell? ⟨bl, 0, none⟩ = some (.int .i64 r1.1) ∧ w'.cell? ⟨bl, 1, none⟩ = some (.int .i64 r1.2)) (go_keep)
    (first | (go_at_call 21; refine (of_law _ _ _).mono ?_; rintro e q6 ⟨rfl, hv⟩; (first | (replace A0 := cellB hv A0; replace A1 := cellB hv A1; replace BB := Lib.hid (BB.out.below hv); replace CC := Lib.hid (CC.out.below hv); replace HB := Lib.hid (below_up HB.out hv HB.out.size); try (replace SS := Lib.hid (SS.out.below hv))) | (have hne := Nat.ne_of_lt (cellLt A0); have hnb := Nat.ne_of_lt (cellLt BB.out.c0); have hnc := Nat.ne_of_lt (cellLt CC.out.c0); have hcw := HB.out.size; replace A0 := cellB hv (cellB (below_box _ _) A0); replace A1 := cellB hv (cellB (below_box _ _) A1); replace BB := Lib.hid ((BB.out.alloc _).below hv); replace CC := Lib.hid ((CC.out.alloc _).below hv); replace HB := Lib.hid (below_up (HB.out.alloc HB.out.size _) hv (by have := HB.out.size; simp <;> omega)); have SS := Lib.hid ((own2_new _ 0 0 _).below hv)) | (have hne := ne_ad A0; have hnb := ne_ad BB.out.c0; have hnc := ne_ad CC.out.c0; have hcw := HB.out.size; replace A0 := cellB hv (cell_ad A0); replace A1 := cellB hv (cell_ad A1); replace BB := Lib.hid ((own2_ad BB.out).below hv); replace CC := Lib.hid ((own2_ad CC.out).below hv); have SS := Lib.hid ((own2_nd _ 0 0 _).below hv); replace HB := Lib.hid (below_up (below_ad HB.out HB.out.size) hv (by have := HB.out.size; simp at this ⊢ <;> omega)))); clear hv) | (go_at_call 24; refine (L1.add_any 1 1 r1.1 r1.2 _).mono ?_; rw [HA1.out]; rintro e q7 ⟨rfl, hv⟩; (first | (replace A0 := cellB hv A0; replace A1 := cellB hv A1; replace BB := Lib.hid (BB.out.below hv); replace CC := Lib.hid (CC.out.below hv); replace HB := Lib.hid (below_up HB.out hv HB.out.size); try (replace SS := Lib.hid (SS.out.below hv))) | (have hne := Nat.ne_of_lt (cellLt A0); have hnb := Nat.ne_of_lt (cellLt BB.out.c0); have hnc := Nat.ne_of_lt (cellLt CC.out.c0); have hcw := HB.out.size; replace A0 := cellB hv (cellB (below_box _ _) A0); replace A1 := cellB hv (cellB (below_box _ _) A1); replace BB := Lib.hid ((BB.out.alloc _).below hv); replace CC := Lib.hid ((CC.out.alloc _).below hv); replace HB := Lib.hid (below_up (HB.out.alloc HB.out.size _) hv (by have := HB.out.size; simp <;> omega)); have SS := Lib.hid ((own2_new _ 0 0 _).below hv)) | (have hne := ne_ad A0; have hnb := ne_ad BB.out.c0; have hnc := ne_ad CC.out.c0; have hcw := HB.out.size; replace A0 := cellB hv (cell_ad A0); replace A1 := cellB hv (cell_ad A1); replace BB := Lib.hid ((own2_ad BB.out).below hv); replace CC := Lib.hid ((own2_ad CC.out).below hv); have SS := Lib.hid ((own2_nd _ 0 0 _).below hv); replace HB := Lib.hid (below_up (below_ad HB.out HB.out.size) hv (by have := HB.out.size; simp at this ⊢ <;> omega)))); clear hv; try (have s0 := SS.out.c0; have s1 := SS.out.c1; have s2 := SS.out.f0; have s3 := SS.out.f1; have t0 := cell_two hne A0; have t1 := cell_two hne A1); have u0 := (fun o => cellB (below_box q7 o) A0); have u1 := (fun o => cellB (below_box q7 o) A1); have u2 := (fun o x y => cell_two (Nat.ne_of_lt (cellLt A0)) (cellB (below_box q7 o) A0) x y); have u3 := (fun o x y => cell_two (Nat.ne_of_lt (cellLt A1)) (cellB (below_box q7 o) A1) x y); have u4 := Nat.ne_of_lt (cellLt A0)))
  all_goals
    first
      | (have B9 := own2_other BB.out hnb (.int .i64 sn) (.int .i64 sd); have C9 := own2_other CC.out hnc (.int .i64 sn) (.int .i64 sd); have S9 := own2_store SS.out sn sd; have HB9 : Hid (Below w.heap.size w _) := Lib.hid (below_two (u := .int .i64 sn) (v := .int .i64 sd) HB.out hcw))
      | (have B9 := BB.out.alloc (Obj.cells #[Value.int IntKind.i64 sn, Value.int IntKind.i64 sd] 32); have C9 := CC.out.alloc (Obj.cells #[Value.int IntKind.i64 sn, Value.int IntKind.i64 sd] 32); have S9 := own2_new q7 sn sd 32; have HB9 := Lib.hid (HB.out.alloc HB.out.size (Obj.cells #[Value.int IntKind.i64 sn, Value.int IntKind.i64 sd] 32)))
    have b0 := B9.c0
    have b1 := B9.c1
    have c0 := C9.c0
    have c1 := C9.c1
    go_wp2_with fail
    refine (L1.add_any r2.1 r2.2 r3.1 r3.2 _).mono ?_
    rw [HA2.out]
    rintro e10 w10 ⟨rfl, hb⟩
    have S10 := S9.below hb
    have HB10 := Lib.hid (below_up HB9.out hb HB9.out.size)
    have z0 := fun o => (S10.alloc o).c0
    have z1 := fun o => (S10.alloc o).c1
    clear b0 b1 c0 c1 B9 C9 S9 HB9 hb
    go_wp2_with fail
    refine (L1.cmp_any sn sd tn td _).mono ?_
    rw [HC.out]
    rintro e11 w11 ⟨rfl, hb⟩
    have HB11 := Lib.hid (below_up (HB10.out.alloc HB10.out.size _) hb (by have := HB10.out.size; simp <;> omega))
    clear hb z0 z1 S10
    go_wp2_with fail
    go_ret
    exact ⟨rfl, HB11.out⟩

set_option maxRecDepth 100000 in
set_option maxHeartbeats 4000000 in
theorem sets_x_no (l m n : List (List UInt8)) (u v x : Value) (r1 r2 r3 : Int × Int) (sn sd tn td cs : Int) (HF : Hid (fewB [l, m, n] = true)) (hl : l.length ≤ 40) (hm : m.length ≤ 40) (hn : n.length ≤ 40) (el : ∀ x ∈ l, x.length ≤ 2000) (em : ∀ x ∈ m, x.length ≤ 2000) (en : ∀ x ∈ n, x.length ≤ 2000)
    (HR1 : Hid (jacT l m = r1)) (HR2 : Hid (jacT l n = r2)) (HR3 : Hid (jacT n m = r3)) (HW1 : Hid (withinB l m = false)) (HAP : Hid (apartB l m = false)) (HE1 : decide (r1 = (1, 1)) = false) (HE0 : decide (r1 = (0, 1)) = false) 
    (HA1 : Hid (L1.opr (L1.vldB 1 1 && L1.vldB r1.1 r1.2) (1 * r1.2 + r1.1 * 1) (1 * r1.2) = (sn, sd, 0))) (HA2 : Hid (L1.opr (L1.vldB r2.1 r2.2 && L1.vldB r3.1 r3.2) (r2.1 * r3.2 + r3.1 * r2.2) (r2.2 * r3.2) = (tn, td, 0))) (HC : Hid (L1.cmpR sn sd tn td = cs)) (hcs : 0 ≤ cs)
    (w : World) (hu : Strs w u l) (hv : Strs w v m) (hx : Strs w x n) :
    Calls Tryz.prog 4 #[u, v, x] w fun e w' => e = .returned (.bool true) ∧ Below w.heap.size w w' := by
  have HU := Lib.hid hu
  have HV := Lib.hid hv
  have HX := Lib.hid hx
  obtain ⟨A, cap, rfl, hcap, _, _⟩ := hu
  obtain ⟨A2, cap2, rfl, hcap2, _, _⟩ := hv
  obtain ⟨A3, cap3, rfl, hcap3, _, _⟩ := hx
  have C1 := Lib.hid (fun W (h1 : Strs W (.slice A l.length cap) l) (h2 : Strs W (.slice A2 m.length cap2) m) => jaccard_any l m _ _ W (by omega) (by omega) el em h1 h2)
  have C2 := Lib.hid (fun W (h1 : Strs W (.slice A l.length cap) l) (h2 : Strs W (.slice A3 n.length cap3) n) => jaccard_any l n _ _ W (by omega) (by omega) el en h1 h2)
  have C3 := Lib.hid (fun W (h1 : Strs W (.slice A3 n.length cap3) n) (h2 : Strs W (.slice A2 m.length cap2) m) => jaccard_any n m _ _ W (by omega) (by omega) en em h1 h2)
  rw [HR1.out] at C1
  rw [HR2.out] at C2
  rw [HR3.out] at C3
  have eqr := fun (r s : Int × Int) (W : World) => eql_rat r s W
  clear el em en
  go_enter Tryz.func4, Tryz.ntmps4
  go_wp2_with fail
  refine (head_any _).mono ?_
  rintro e1 w1 ⟨rfl, hb⟩
  have HB1 := Lib.hid hb
  clear hb
  go_wp2_with fail
  refine (few_lit [l, m, n] [_, _, _] 22 w1 rfl (by simp) (fun i h1 h2 => by
    match i, h1 with
    | 0, _ => exact HU.out.below HB1.out
    | 1, _ => exact HV.out.below HB1.out
    | 2, _ => exact HX.out.below HB1.out)).mono ?_
  rw [HF.out]
  rintro e2 w2 ⟨rfl, hb⟩
  have HB2 := Lib.hid (below_up HB1.out hb HB1.out.size)
  clear hb
  go_wp2_with fail
  refine (C1.out _ (HU.out.below HB2.out) (HV.out.below HB2.out)).mono ?_
  rintro e3 w3 ⟨rfl, hb⟩
  have HB3 := Lib.hid (below_up HB2.out hb HB2.out.size)
  clear hb
  go_wp2_with fail
  obtain ⟨W, hW⟩ : ∃ W, W = w3.alloc (Obj.cells #[Value.int IntKind.i64 r1.1, Value.int IntKind.i64 r1.2] 32) := ⟨_, rfl⟩
  rw [← hW]
  have R : Own2 W w3.heap.size r1.1 r1.2 := by rw [hW]; exact own2_new w3 _ _ _
  have HB : Hid (Below w.heap.size w (W.drewN 1)) := Lib.hid (by rw [hW]; exact dN (HB3.out.alloc HB3.out.size _) 1)
  obtain ⟨bl, hbl⟩ : ∃ bl, w3.heap.size = bl := ⟨_, rfl⟩
  rw [hbl] at R ⊢
  clear hW hbl
  have a0 := R.c0
  have a1 := R.c1
  have A0 : (W.drewN 1).cell? ⟨bl, 0, none⟩ = some (.int .i64 r1.1) := a0
  have A1 : (W.drewN 1).cell? ⟨bl, 1, none⟩ = some (.int .i64 r1.2) := a1
  clear R
  refine wp_region_held_drew (S := (fun w' => w'.cell? ⟨bl, 0, none⟩ = some (.int .i64 r1.1) ∧ w'.cell? ⟨bl, 1, none⟩ = some (.int .i64 r1.2))) (by kernel_rfl) ?_ (fun hHeld => ?_)
  · try dsimp only
    go_keep
  refine wpAnyH_take (i := 0) (v := ?_) (by (simp only [List.getElem?_toArray, List.getElem?_cons_zero]; rfl)) (by kernel_rfl) (by kernel_rfl) (by kernel_rfl) (by intro _ _ _ h; exact h) (Or.inl ⟨by kernel_rfl, ?_⟩) hHeld ?_
  case refine_2 =>
    intro w hSw
    try dsimp only at hSw
    go_simp
    try with_reducible rfl
  try simp only [Act.put, List.setIfInBounds_toArray, List.set_cons_zero, List.set_cons_succ]
  refine wpAnyH_take (i := 3) (v := ?_) (by (simp only [List.getElem?_toArray, List.getElem?_cons_succ, List.getElem?_cons_zero]; rfl)) (by kernel_rfl) (by kernel_rfl) (by kernel_rfl) (by intro _ _ _ h; exact h) (Or.inl ⟨by kernel_rfl, ?_⟩) hHeld ?_
  case refine_2 =>
    intro w hSw
    try dsimp only at hSw
    go_simp
    try with_reducible rfl
  try simp only [Act.put, List.setIfInBounds_toArray, List.set_cons_zero, List.set_cons_succ]
  refine wpAnyH_take (i := 4) (v := ?_) (by (simp only [List.getElem?_toArray, List.getElem?_cons_succ, List.getElem?_cons_zero]; rfl)) (by kernel_rfl) (by kernel_rfl) (by kernel_rfl) (by intro _ _ _ h; exact h) (Or.inl ⟨by kernel_rfl, ?_⟩) hHeld ?_
  case refine_2 =>
    intro w hSw
    try dsimp only at hSw
    go_simp
    try with_reducible rfl
  try simp only [Act.put, List.setIfInBounds_toArray, List.set_cons_zero, List.set_cons_succ]
  refine wpAnyH_ready (rs := [1]) (by kernel_rfl) (by simp) ?_
  refine AllReadyH.cons (by (simp only [List.getElem?_toArray, List.getElem?_cons_succ, List.getElem?_cons_zero]; rfl)) (fun K hK => ?_) AllReadyH.nil
  go_simp
  refine (of_law _ _ _).mono ?_
  rintro e q1 ⟨rfl, hv⟩
  replace A0 := cellB hv A0
  replace A1 := cellB hv A1
  replace HB := Lib.hid (below_up HB.out hv HB.out.size)
  clear hv
  try go_wp2_with fail
  clear hHeld
  refine hK.out _ _ ?_ (fun hHeld => ?_)
  · try dsimp only
    go_keep
  clear hK K
  try simp only [Act.put, List.setIfInBounds_toArray, List.set_cons_zero, List.set_cons_succ]
  refine wpAnyH_take (i := 2) (v := ?_) (by (simp only [List.getElem?_toArray, List.getElem?_cons_succ, List.getElem?_cons_zero]; rfl)) (by kernel_rfl) (by kernel_rfl) (by kernel_rfl) (by intro _ _ _ h; exact h) (Or.inl ⟨by kernel_rfl, ?_⟩) hHeld ?_
  case refine_2 =>
    intro w hSw
    try dsimp only at hSw
    go_simp
    try with_reducible rfl
  try simp only [Act.put, List.setIfInBounds_toArray, List.set_cons_zero, List.set_cons_succ]
  refine wpAnyH_ready (rs := [5]) (by kernel_rfl) (by simp) ?_
  refine AllReadyH.cons (by (simp only [List.getElem?_toArray, List.getElem?_cons_succ, List.getElem?_cons_zero]; rfl)) (fun K hK => ?_) AllReadyH.nil
  go_simp
  refine (within_any l m _ _ _ (by omega) (by omega) (HU.out.below HB.out) (HV.out.below HB.out)).mono ?_
  rw [HW1.out]
  rintro e q2 ⟨rfl, hv⟩
  replace A0 := cellB hv A0
  replace A1 := cellB hv A1
  replace HB := Lib.hid (below_up HB.out hv HB.out.size)
  clear hv
  try go_wp2_with fail
  clear hHeld
  refine hK.out _ _ ?_ (fun hHeld => ?_)
  · try dsimp only
    go_keep
  clear hK K
  try simp only [Act.put, List.setIfInBounds_toArray, List.set_cons_zero, List.set_cons_succ]
  refine wpAnyH_take (i := 6) (v := ?_) (by (simp only [List.getElem?_toArray, List.getElem?_cons_succ, List.getElem?_cons_zero]; rfl)) (by kernel_rfl) (by kernel_rfl) (by kernel_rfl) (by intro _ _ _ h; exact h) (Or.inl ⟨by kernel_rfl, ?_⟩) hHeld ?_
  case refine_2 =>
    intro w hSw
    try dsimp only at hSw
    go_simp
    try with_reducible rfl
  try simp only [Act.put, List.setIfInBounds_toArray, List.set_cons_zero, List.set_cons_succ]
  refine wpAnyH_take (i := 7) (v := undef) (by (simp only [List.getElem?_toArray, List.getElem?_cons_succ, List.getElem?_cons_zero]; rfl)) (by kernel_rfl) (by kernel_rfl) (by kernel_rfl) (by intro _ _ _ h; exact h) (Or.inr ⟨by kernel_rfl, rfl⟩) hHeld ?_
  try simp only [Act.put, List.setIfInBounds_toArray, List.set_cons_zero, List.set_cons_succ]
  refine wpAnyH_take (i := 8) (v := undef) (by (simp only [List.getElem?_toArray, List.getElem?_cons_succ, List.getElem?_cons_zero]; rfl)) (by kernel_rfl) (by kernel_rfl) (by kernel_rfl) (by intro _ _ _ h; exact h) (Or.inr ⟨by kernel_rfl, rfl⟩) hHeld ?_
  try simp only [Act.put, List.setIfInBounds_toArray, List.set_cons_zero, List.set_cons_succ]
  refine wpAnyH_take (i := 9) (v := undef) (by (simp only [List.getElem?_toArray, List.getElem?_cons_succ, List.getElem?_cons_zero]; rfl)) (by kernel_rfl) (by kernel_rfl) (by kernel_rfl) (by intro _ _ _ h; exact h) (Or.inr ⟨by kernel_rfl, rfl⟩) hHeld ?_
  try simp only [Act.put, List.setIfInBounds_toArray, List.set_cons_zero, List.set_cons_succ]
  refine wpAnyH_take (i := 10) (v := ?_) (by (simp only [List.getElem?_toArray, List.getElem?_cons_succ, List.getElem?_cons_zero]; rfl)) (by kernel_rfl) (by kernel_rfl) (by kernel_rfl) (by intro _ _ _ h; exact h) (Or.inl ⟨by kernel_rfl, ?_⟩) hHeld ?_
  case refine_2 =>
    intro w hSw
    try dsimp only at hSw
    go_simp
    try with_reducible rfl
  try simp only [Act.put, List.setIfInBounds_toArray, List.set_cons_zero, List.set_cons_succ]
  refine wpAnyH_take (i := 11) (v := ?_) (by (simp only [List.getElem?_toArray, List.getElem?_cons_succ, List.getElem?_cons_zero]; rfl)) (by kernel_rfl) (by kernel_rfl) (by kernel_rfl) (by intro _ _ _ h; exact h) (Or.inl ⟨by kernel_rfl, ?_⟩) hHeld ?_
  case refine_2 =>
    intro w hSw
    try dsimp only at hSw
    go_simp
    try with_reducible rfl
  try simp only [Act.put, List.setIfInBounds_toArray, List.set_cons_zero, List.set_cons_succ]
  refine wpAnyH_take (i := 12) (v := ?_) (by (simp only [List.getElem?_toArray, List.getElem?_cons_succ, List.getElem?_cons_zero]; rfl)) (by kernel_rfl) (by kernel_rfl) (by kernel_rfl) (by intro _ _ _ h; exact h) (Or.inl ⟨by kernel_rfl, ?_⟩) hHeld ?_
  case refine_2 =>
    intro w hSw
    try dsimp only at hSw
    go_simp
    try with_reducible rfl
  try simp only [Act.put, List.setIfInBounds_toArray, List.set_cons_zero, List.set_cons_succ]
  refine wpAnyH_take (i := 13) (v := ?_) (by (simp only [List.getElem?_toArray, List.getElem?_cons_succ, List.getElem?_cons_zero]; rfl)) (by kernel_rfl) (by kernel_rfl) (by kernel_rfl) (by intro _ _ _ h; exact h) (Or.inl ⟨by kernel_rfl, ?_⟩) hHeld ?_
  case refine_2 =>
    intro w hSw
    try dsimp only at hSw
    go_simp
    try with_reducible rfl
  try simp only [Act.put, List.setIfInBounds_toArray, List.set_cons_zero, List.set_cons_succ]
  refine wpAnyH_take (i := 16) (v := ?_) (by (simp only [List.getElem?_toArray, List.getElem?_cons_succ, List.getElem?_cons_zero]; rfl)) (by kernel_rfl) (by kernel_rfl) (by kernel_rfl) (by intro _ _ _ h; exact h) (Or.inl ⟨by kernel_rfl, ?_⟩) hHeld ?_
  case refine_2 =>
    intro w hSw
    try dsimp only at hSw
    go_simp
    try with_reducible rfl
  try simp only [Act.put, List.setIfInBounds_toArray, List.set_cons_zero, List.set_cons_succ]
  refine wpAnyH_take (i := 17) (v := ?_) (by (simp only [List.getElem?_toArray, List.getElem?_cons_succ, List.getElem?_cons_zero]; rfl)) (by kernel_rfl) (by kernel_rfl) (by kernel_rfl) (by intro _ _ _ h; exact h) (Or.inl ⟨by kernel_rfl, ?_⟩) hHeld ?_
  case refine_2 =>
    intro w hSw
    try dsimp only at hSw
    go_simp
    try with_reducible rfl
  try simp only [Act.put, List.setIfInBounds_toArray, List.set_cons_zero, List.set_cons_succ]
  refine wpAnyH_ready (rs := [14]) (by kernel_rfl) (by simp) ?_
  refine AllReadyH.cons (by (simp only [List.getElem?_toArray, List.getElem?_cons_succ, List.getElem?_cons_zero]; rfl)) (fun K hK => ?_) AllReadyH.nil
  go_simp
  refine (of_law _ _ _).mono ?_
  rintro e q4 ⟨rfl, hv⟩
  replace A0 := cellB hv A0
  replace A1 := cellB hv A1
  replace HB := Lib.hid (below_up HB.out hv HB.out.size)
  clear hv
  try go_wp2_with fail
  clear hHeld
  refine hK.out _ _ ?_ (fun hHeld => ?_)
  · try dsimp only
    go_keep
  clear hK K
  try simp only [Act.put, List.setIfInBounds_toArray, List.set_cons_zero, List.set_cons_succ]
  refine wpAnyH_take (i := 15) (v := ?_) (by (simp only [List.getElem?_toArray, List.getElem?_cons_succ, List.getElem?_cons_zero]; rfl)) (by kernel_rfl) (by kernel_rfl) (by kernel_rfl) (by intro _ _ _ h; exact h) (Or.inl ⟨by kernel_rfl, ?_⟩) hHeld ?_
  case refine_2 =>
    intro w hSw
    try dsimp only at hSw
    go_simp
    try with_reducible rfl
  try simp only [Act.put, List.setIfInBounds_toArray, List.set_cons_zero, List.set_cons_succ]
  refine wpAnyH_ready (rs := [18]) (by kernel_rfl) (by simp) ?_
  refine AllReadyH.cons (by (simp only [List.getElem?_toArray, List.getElem?_cons_succ, List.getElem?_cons_zero]; rfl)) (fun K hK => ?_) AllReadyH.nil
  go_simp
  refine (apart_any l m _ _ _ (by omega) (by omega) (HU.out.below HB.out) (HV.out.below HB.out)).mono ?_
  rw [HAP.out]
  rintro e q5 ⟨rfl, hv⟩
  replace A0 := cellB hv A0
  replace A1 := cellB hv A1
  replace HB := Lib.hid (below_up HB.out hv HB.out.size)
  clear hv
  try go_wp2_with fail
  clear hHeld
  refine hK.out _ _ ?_ (fun hHeld => ?_)
  · try dsimp only
    go_keep
  clear hK K
  try simp only [Act.put, List.setIfInBounds_toArray, List.set_cons_zero, List.set_cons_succ]
  refine wpAnyH_take (i := 19) (v := ?_) (by (simp only [List.getElem?_toArray, List.getElem?_cons_succ, List.getElem?_cons_zero]; rfl)) (by kernel_rfl) (by kernel_rfl) (by kernel_rfl) (by intro _ _ _ h; exact h) (Or.inl ⟨by kernel_rfl, ?_⟩) hHeld ?_
  case refine_2 =>
    intro w hSw
    try dsimp only at hSw
    go_simp
    try with_reducible rfl
  try simp only [Act.put, List.setIfInBounds_toArray, List.set_cons_zero, List.set_cons_succ]
  refine wpAnyH_take (i := 20) (v := undef) (by (simp only [List.getElem?_toArray, List.getElem?_cons_succ, List.getElem?_cons_zero]; rfl)) (by kernel_rfl) (by kernel_rfl) (by kernel_rfl) (by intro _ _ _ h; exact h) (Or.inr ⟨by kernel_rfl, rfl⟩) hHeld ?_
  try simp only [Act.put, List.setIfInBounds_toArray, List.set_cons_zero, List.set_cons_succ]
  refine wpAnyH_take (i := 21) (v := undef) (by (simp only [List.getElem?_toArray, List.getElem?_cons_succ, List.getElem?_cons_zero]; rfl)) (by kernel_rfl) (by kernel_rfl) (by kernel_rfl) (by intro _ _ _ h; exact h) (Or.inr ⟨by kernel_rfl, rfl⟩) hHeld ?_
  try simp only [Act.put, List.setIfInBounds_toArray, List.set_cons_zero, List.set_cons_succ]
  refine wpAnyH_take (i := 22) (v := undef) (by (simp only [List.getElem?_toArray, List.getElem?_cons_succ, List.getElem?_cons_zero]; rfl)) (by kernel_rfl) (by kernel_rfl) (by kernel_rfl) (by intro _ _ _ h; exact h) (Or.inr ⟨by kernel_rfl, rfl⟩) hHeld ?_
  try simp only [Act.put, List.setIfInBounds_toArray, List.set_cons_zero, List.set_cons_succ]
  refine wpAnyH_take (i := 23) (v := undef) (by (simp only [List.getElem?_toArray, List.getElem?_cons_succ, List.getElem?_cons_zero]; rfl)) (by kernel_rfl) (by kernel_rfl) (by kernel_rfl) (by intro _ _ _ h; exact h) (Or.inr ⟨by kernel_rfl, rfl⟩) hHeld ?_
  try simp only [Act.put, List.setIfInBounds_toArray, List.set_cons_zero, List.set_cons_succ]
  refine wpAnyH_take (i := 24) (v := undef) (by (simp only [List.getElem?_toArray, List.getElem?_cons_succ, List.getElem?_cons_zero]; rfl)) (by kernel_rfl) (by kernel_rfl) (by kernel_rfl) (by intro _ _ _ h; exact h) (Or.inr ⟨by kernel_rfl, rfl⟩) hHeld ?_
  try simp only [Act.put, List.setIfInBounds_toArray, List.set_cons_zero, List.set_cons_succ]
  refine wpAnyH_take (i := 25) (v := undef) (by (simp only [List.getElem?_toArray, List.getElem?_cons_succ, List.getElem?_cons_zero]; rfl)) (by kernel_rfl) (by kernel_rfl) (by kernel_rfl) (by intro _ _ _ h; exact h) (Or.inr ⟨by kernel_rfl, rfl⟩) hHeld ?_
  try simp only [Act.put, List.setIfInBounds_toArray, List.set_cons_zero, List.set_cons_succ]
  refine wpAnyH_take (i := 26) (v := undef) (by (simp only [List.getElem?_toArray, List.getElem?_cons_succ, List.getElem?_cons_zero]; rfl)) (by kernel_rfl) (by kernel_rfl) (by kernel_rfl) (by intro _ _ _ h; exact h) (Or.inr ⟨by kernel_rfl, rfl⟩) hHeld ?_
  try simp only [Act.put, List.setIfInBounds_toArray, List.set_cons_zero, List.set_cons_succ]
  refine wpAnyH_take (i := 27) (v := undef) (by (simp only [List.getElem?_toArray, List.getElem?_cons_succ, List.getElem?_cons_zero]; rfl)) (by kernel_rfl) (by kernel_rfl) (by kernel_rfl) (by intro _ _ _ h; exact h) (Or.inr ⟨by kernel_rfl, rfl⟩) hHeld ?_
  try simp only [Act.put, List.setIfInBounds_toArray, List.set_cons_zero, List.set_cons_succ]
  refine wpAnyH_take (i := 28) (v := ?_) (by (simp only [List.getElem?_toArray, List.getElem?_cons_succ, List.getElem?_cons_zero]; rfl)) (by kernel_rfl) (by kernel_rfl) (by kernel_rfl) (by intro _ _ _ h; exact h) (Or.inl ⟨by kernel_rfl, ?_⟩) hHeld ?_
  case refine_2 =>
    intro w hSw
    try dsimp only at hSw
    go_simp
    try with_reducible rfl
  try simp only [Act.put, List.setIfInBounds_toArray, List.set_cons_zero, List.set_cons_succ]
  refine wpAnyH_take (i := 29) (v := ?_) (by (simp only [List.getElem?_toArray, List.getElem?_cons_succ, List.getElem?_cons_zero]; rfl)) (by kernel_rfl) (by kernel_rfl) (by kernel_rfl) (by intro _ _ _ h; exact h) (Or.inl ⟨by kernel_rfl, ?_⟩) hHeld ?_
  case refine_2 =>
    intro w hSw
    try dsimp only at hSw
    go_simp
    try with_reducible rfl
  try simp only [Act.put, List.setIfInBounds_toArray, List.set_cons_zero, List.set_cons_succ]
  refine wpAnyH_take (i := 30) (v := ?_) (by (simp only [List.getElem?_toArray, List.getElem?_cons_succ, List.getElem?_cons_zero]; rfl)) (by kernel_rfl) (by kernel_rfl) (by kernel_rfl) (by intro _ _ _ h; exact h) (Or.inl ⟨by kernel_rfl, ?_⟩) hHeld ?_
  case refine_2 =>
    intro w hSw
    try dsimp only at hSw
    go_simp
    try with_reducible rfl
  try simp only [Act.put, List.setIfInBounds_toArray, List.set_cons_zero, List.set_cons_succ]
  refine wpAnyH_done (by kernel_rfl) ?_ _
  go_wp2_with fail
  clear a0 a1
  refine (C2.out _ (HU.out.below HB.out) (HX.out.below HB.out)).mono ?_
  rintro e4 w4 ⟨rfl, hb⟩
  have a4 := cellB hb A0
  have a5 := cellB hb A1
  have HB4 := Lib.hid (below_up HB.out hb HB.out.size)
  clear hb A0 A1 HB
  have HX4 : Hid (Below w.heap.size w (w4.alloc (Obj.cells #[Value.int IntKind.i64 r2.1, Value.int IntKind.i64 r2.2] 32))) := Lib.hid (HB4.out.alloc HB4.out.size _)
  go_wp2_with fail
  refine (C3.out _ (HX.out.below HX4.out) (HV.out.below HX4.out)).mono ?_
  rintro e5 w5 ⟨rfl, hb⟩
  have a6 := cellB hb (cellB (below_box w4 _) a4)
  have a7 := cellB hb (cellB (below_box w4 _) a5)
  have B5 := (own2_new w4 r2.1 r2.2 _).below hb
  have HB5 := Lib.hid (below_up HX4.out hb HX4.out.size)
  clear hb a4 a5 HX4 HB4
  obtain ⟨bb, hbb⟩ : ∃ b, w4.heap.size = b := ⟨_, rfl⟩
  rw [hbb] at B5 ⊢
  clear hbb
  go_wp2_with fail
  obtain ⟨W6, hW⟩ : ∃ W6, W6 = w5.alloc (Obj.cells #[Value.int IntKind.i64 r3.1, Value.int IntKind.i64 r3.2] 32) := ⟨_, rfl⟩
  rw [← hW]
  have B6 : Own2 W6 bb r2.1 r2.2 := by rw [hW]; exact B5.alloc _
  have C6 : Own2 W6 w5.heap.size r3.1 r3.2 := by rw [hW]; exact own2_new w5 _ _ _
  have a0 : W6.cell? ⟨bl, 0, none⟩ = some (.int .i64 r1.1) := by rw [hW]; exact cellB (below_box w5 _) a6
  have a1 : W6.cell? ⟨bl, 1, none⟩ = some (.int .i64 r1.2) := by rw [hW]; exact cellB (below_box w5 _) a7
  have HB : Hid (Below w.heap.size w (W6.drewN 1)) := Lib.hid (by rw [hW]; exact dN (HB5.out.alloc HB5.out.size _) 1)
  obtain ⟨bc, hbc⟩ : ∃ b, w5.heap.size = b := ⟨_, rfl⟩
  rw [hbc] at C6 ⊢
  clear hW hbc a6 a7 B5 HB5
  have A0 : (W6.drewN 1).cell? ⟨bl, 0, none⟩ = some (.int .i64 r1.1) := a0
  have A1 : (W6.drewN 1).cell? ⟨bl, 1, none⟩ = some (.int .i64 r1.2) := a1
  have BB : Hid (Own2 (W6.drewN 1) bb r2.1 r2.2) := Lib.hid ⟨B6.c0, B6.c1, B6.f0, B6.f1⟩
  have CC : Hid (Own2 (W6.drewN 1) bc r3.1 r3.2) := Lib.hid ⟨C6.c0, C6.c1, C6.f0, C6.f1⟩
  clear B6 C6
  go_region_held3 (fun w' => w'.cell? ⟨bl, 0, none⟩ = some (.int .i64 r1.1) ∧ w'.cell? ⟨bl, 1, none⟩ = some (.int .i64 r1.2)) (go_keep)
    (first | (go_at_call 21; refine (of_law _ _ _).mono ?_; rintro e q6 ⟨rfl, hv⟩; (first | (replace A0 := cellB hv A0; replace A1 := cellB hv A1; replace BB := Lib.hid (BB.out.below hv); replace CC := Lib.hid (CC.out.below hv); replace HB := Lib.hid (below_up HB.out hv HB.out.size); try (replace SS := Lib.hid (SS.out.below hv))) | (have hne := Nat.ne_of_lt (cellLt A0); have hnb := Nat.ne_of_lt (cellLt BB.out.c0); have hnc := Nat.ne_of_lt (cellLt CC.out.c0); have hcw := HB.out.size; replace A0 := cellB hv (cellB (below_box _ _) A0); replace A1 := cellB hv (cellB (below_box _ _) A1); replace BB := Lib.hid ((BB.out.alloc _).below hv); replace CC := Lib.hid ((CC.out.alloc _).below hv); replace HB := Lib.hid (below_up (HB.out.alloc HB.out.size _) hv (by have := HB.out.size; simp <;> omega)); have SS := Lib.hid ((own2_new _ 0 0 _).below hv)) | (have hne := ne_ad A0; have hnb := ne_ad BB.out.c0; have hnc := ne_ad CC.out.c0; have hcw := HB.out.size; replace A0 := cellB hv (cell_ad A0); replace A1 := cellB hv (cell_ad A1); replace BB := Lib.hid ((own2_ad BB.out).below hv); replace CC := Lib.hid ((own2_ad CC.out).below hv); have SS := Lib.hid ((own2_nd _ 0 0 _).below hv); replace HB := Lib.hid (below_up (below_ad HB.out HB.out.size) hv (by have := HB.out.size; simp at this ⊢ <;> omega)))); clear hv) | (go_at_call 24; refine (L1.add_any 1 1 r1.1 r1.2 _).mono ?_; rw [HA1.out]; rintro e q7 ⟨rfl, hv⟩; (first | (replace A0 := cellB hv A0; replace A1 := cellB hv A1; replace BB := Lib.hid (BB.out.below hv); replace CC := Lib.hid (CC.out.below hv); replace HB := Lib.hid (below_up HB.out hv HB.out.size); try (replace SS := Lib.hid (SS.out.below hv))) | (have hne := Nat.ne_of_lt (cellLt A0); have hnb := Nat.ne_of_lt (cellLt BB.out.c0); have hnc := Nat.ne_of_lt (cellLt CC.out.c0); have hcw := HB.out.size; replace A0 := cellB hv (cellB (below_box _ _) A0); replace A1 := cellB hv (cellB (below_box _ _) A1); replace BB := Lib.hid ((BB.out.alloc _).below hv); replace CC := Lib.hid ((CC.out.alloc _).below hv); replace HB := Lib.hid (below_up (HB.out.alloc HB.out.size _) hv (by have := HB.out.size; simp <;> omega)); have SS := Lib.hid ((own2_new _ 0 0 _).below hv)) | (have hne := ne_ad A0; have hnb := ne_ad BB.out.c0; have hnc := ne_ad CC.out.c0; have hcw := HB.out.size; replace A0 := cellB hv (cell_ad A0); replace A1 := cellB hv (cell_ad A1); replace BB := Lib.hid ((own2_ad BB.out).below hv); replace CC := Lib.hid ((own2_ad CC.out).below hv); have SS := Lib.hid ((own2_nd _ 0 0 _).below hv); replace HB := Lib.hid (below_up (below_ad HB.out HB.out.size) hv (by have := HB.out.size; simp at this ⊢ <;> omega)))); clear hv; try (have s0 := SS.out.c0; have s1 := SS.out.c1; have s2 := SS.out.f0; have s3 := SS.out.f1; have t0 := cell_two hne A0; have t1 := cell_two hne A1); have u0 := (fun o => cellB (below_box q7 o) A0); have u1 := (fun o => cellB (below_box q7 o) A1); have u2 := (fun o x y => cell_two (Nat.ne_of_lt (cellLt A0)) (cellB (below_box q7 o) A0) x y); have u3 := (fun o x y => cell_two (Nat.ne_of_lt (cellLt A1)) (cellB (below_box q7 o) A1) x y); have u4 := Nat.ne_of_lt (cellLt A0)))
  all_goals
    first
      | (have B9 := own2_other BB.out hnb (.int .i64 sn) (.int .i64 sd); have C9 := own2_other CC.out hnc (.int .i64 sn) (.int .i64 sd); have S9 := own2_store SS.out sn sd; have HB9 : Hid (Below w.heap.size w _) := Lib.hid (below_two (u := .int .i64 sn) (v := .int .i64 sd) HB.out hcw))
      | (have B9 := BB.out.alloc (Obj.cells #[Value.int IntKind.i64 sn, Value.int IntKind.i64 sd] 32); have C9 := CC.out.alloc (Obj.cells #[Value.int IntKind.i64 sn, Value.int IntKind.i64 sd] 32); have S9 := own2_new q7 sn sd 32; have HB9 := Lib.hid (HB.out.alloc HB.out.size (Obj.cells #[Value.int IntKind.i64 sn, Value.int IntKind.i64 sd] 32)))
    have b0 := B9.c0
    have b1 := B9.c1
    have c0 := C9.c0
    have c1 := C9.c1
    go_wp2_with fail
    refine (L1.add_any r2.1 r2.2 r3.1 r3.2 _).mono ?_
    rw [HA2.out]
    rintro e10 w10 ⟨rfl, hb⟩
    have S10 := S9.below hb
    have HB10 := Lib.hid (below_up HB9.out hb HB9.out.size)
    have z0 := fun o => (S10.alloc o).c0
    have z1 := fun o => (S10.alloc o).c1
    clear b0 b1 c0 c1 B9 C9 S9 HB9 hb
    go_wp2_with fail
    refine (L1.cmp_any sn sd tn td _).mono ?_
    rw [HC.out]
    rintro e11 w11 ⟨rfl, hb⟩
    have HB11 := Lib.hid (below_up (HB10.out.alloc HB10.out.size _) hb (by have := HB10.out.size; simp <;> omega))
    clear hb z0 z1 S10
    go_wp2_with fail
    go_ret
    exact ⟨rfl, HB11.out⟩

set_option maxRecDepth 100000 in
set_option maxHeartbeats 4000000 in
theorem sets_x_l (l m n : List (List UInt8)) (u v x : Value) (r1 r2 r3 : Int × Int) (sn sd tn td cs : Int) (HF : Hid (fewB [l, m, n] = true)) (hl : l.length ≤ 40) (hm : m.length ≤ 40) (hn : n.length ≤ 40) (el : ∀ x ∈ l, x.length ≤ 2000) (em : ∀ x ∈ m, x.length ≤ 2000) (en : ∀ x ∈ n, x.length ≤ 2000)
    (HR1 : Hid (jacT l m = r1)) (HR2 : Hid (jacT l n = r2)) (HR3 : Hid (jacT n m = r3)) (HW1 : Hid (withinB l m = false)) (HAP : Hid (apartB l m = true)) (HE1 : decide (r1 = (1, 1)) = false) (HE0 : decide (r1 = (0, 1)) = true) (hlq : decide (0 < l.length) = true) 
    (HA1 : Hid (L1.opr (L1.vldB 1 1 && L1.vldB r1.1 r1.2) (1 * r1.2 + r1.1 * 1) (1 * r1.2) = (sn, sd, 0))) (HA2 : Hid (L1.opr (L1.vldB r2.1 r2.2 && L1.vldB r3.1 r3.2) (r2.1 * r3.2 + r3.1 * r2.2) (r2.2 * r3.2) = (tn, td, 0))) (HC : Hid (L1.cmpR sn sd tn td = cs)) (hcs : 0 ≤ cs)
    (w : World) (hu : Strs w u l) (hv : Strs w v m) (hx : Strs w x n) :
    Calls Tryz.prog 4 #[u, v, x] w fun e w' => e = .returned (.bool true) ∧ Below w.heap.size w w' := by
  have HU := Lib.hid hu
  have HV := Lib.hid hv
  have HX := Lib.hid hx
  obtain ⟨A, cap, rfl, hcap, _, _⟩ := hu
  obtain ⟨A2, cap2, rfl, hcap2, _, _⟩ := hv
  obtain ⟨A3, cap3, rfl, hcap3, _, _⟩ := hx
  have C1 := Lib.hid (fun W (h1 : Strs W (.slice A l.length cap) l) (h2 : Strs W (.slice A2 m.length cap2) m) => jaccard_any l m _ _ W (by omega) (by omega) el em h1 h2)
  have C2 := Lib.hid (fun W (h1 : Strs W (.slice A l.length cap) l) (h2 : Strs W (.slice A3 n.length cap3) n) => jaccard_any l n _ _ W (by omega) (by omega) el en h1 h2)
  have C3 := Lib.hid (fun W (h1 : Strs W (.slice A3 n.length cap3) n) (h2 : Strs W (.slice A2 m.length cap2) m) => jaccard_any n m _ _ W (by omega) (by omega) en em h1 h2)
  rw [HR1.out] at C1
  rw [HR2.out] at C2
  rw [HR3.out] at C3
  have eqr := fun (r s : Int × Int) (W : World) => eql_rat r s W
  clear el em en
  go_enter Tryz.func4, Tryz.ntmps4
  go_wp2_with fail
  refine (head_any _).mono ?_
  rintro e1 w1 ⟨rfl, hb⟩
  have HB1 := Lib.hid hb
  clear hb
  go_wp2_with fail
  refine (few_lit [l, m, n] [_, _, _] 22 w1 rfl (by simp) (fun i h1 h2 => by
    match i, h1 with
    | 0, _ => exact HU.out.below HB1.out
    | 1, _ => exact HV.out.below HB1.out
    | 2, _ => exact HX.out.below HB1.out)).mono ?_
  rw [HF.out]
  rintro e2 w2 ⟨rfl, hb⟩
  have HB2 := Lib.hid (below_up HB1.out hb HB1.out.size)
  clear hb
  go_wp2_with fail
  refine (C1.out _ (HU.out.below HB2.out) (HV.out.below HB2.out)).mono ?_
  rintro e3 w3 ⟨rfl, hb⟩
  have HB3 := Lib.hid (below_up HB2.out hb HB2.out.size)
  clear hb
  go_wp2_with fail
  obtain ⟨W, hW⟩ : ∃ W, W = w3.alloc (Obj.cells #[Value.int IntKind.i64 r1.1, Value.int IntKind.i64 r1.2] 32) := ⟨_, rfl⟩
  rw [← hW]
  have R : Own2 W w3.heap.size r1.1 r1.2 := by rw [hW]; exact own2_new w3 _ _ _
  have HB : Hid (Below w.heap.size w (W.drewN 1)) := Lib.hid (by rw [hW]; exact dN (HB3.out.alloc HB3.out.size _) 1)
  obtain ⟨bl, hbl⟩ : ∃ bl, w3.heap.size = bl := ⟨_, rfl⟩
  rw [hbl] at R ⊢
  clear hW hbl
  have a0 := R.c0
  have a1 := R.c1
  have A0 : (W.drewN 1).cell? ⟨bl, 0, none⟩ = some (.int .i64 r1.1) := a0
  have A1 : (W.drewN 1).cell? ⟨bl, 1, none⟩ = some (.int .i64 r1.2) := a1
  clear R
  refine wp_region_held_drew (S := (fun w' => w'.cell? ⟨bl, 0, none⟩ = some (.int .i64 r1.1) ∧ w'.cell? ⟨bl, 1, none⟩ = some (.int .i64 r1.2))) (by kernel_rfl) ?_ (fun hHeld => ?_)
  · try dsimp only
    go_keep
  refine wpAnyH_take (i := 0) (v := ?_) (by (simp only [List.getElem?_toArray, List.getElem?_cons_zero]; rfl)) (by kernel_rfl) (by kernel_rfl) (by kernel_rfl) (by intro _ _ _ h; exact h) (Or.inl ⟨by kernel_rfl, ?_⟩) hHeld ?_
  case refine_2 =>
    intro w hSw
    try dsimp only at hSw
    go_simp
    try with_reducible rfl
  try simp only [Act.put, List.setIfInBounds_toArray, List.set_cons_zero, List.set_cons_succ]
  refine wpAnyH_take (i := 3) (v := ?_) (by (simp only [List.getElem?_toArray, List.getElem?_cons_succ, List.getElem?_cons_zero]; rfl)) (by kernel_rfl) (by kernel_rfl) (by kernel_rfl) (by intro _ _ _ h; exact h) (Or.inl ⟨by kernel_rfl, ?_⟩) hHeld ?_
  case refine_2 =>
    intro w hSw
    try dsimp only at hSw
    go_simp
    try with_reducible rfl
  try simp only [Act.put, List.setIfInBounds_toArray, List.set_cons_zero, List.set_cons_succ]
  refine wpAnyH_take (i := 4) (v := ?_) (by (simp only [List.getElem?_toArray, List.getElem?_cons_succ, List.getElem?_cons_zero]; rfl)) (by kernel_rfl) (by kernel_rfl) (by kernel_rfl) (by intro _ _ _ h; exact h) (Or.inl ⟨by kernel_rfl, ?_⟩) hHeld ?_
  case refine_2 =>
    intro w hSw
    try dsimp only at hSw
    go_simp
    try with_reducible rfl
  try simp only [Act.put, List.setIfInBounds_toArray, List.set_cons_zero, List.set_cons_succ]
  refine wpAnyH_ready (rs := [1]) (by kernel_rfl) (by simp) ?_
  refine AllReadyH.cons (by (simp only [List.getElem?_toArray, List.getElem?_cons_succ, List.getElem?_cons_zero]; rfl)) (fun K hK => ?_) AllReadyH.nil
  go_simp
  refine (of_law _ _ _).mono ?_
  rintro e q1 ⟨rfl, hv⟩
  replace A0 := cellB hv A0
  replace A1 := cellB hv A1
  replace HB := Lib.hid (below_up HB.out hv HB.out.size)
  clear hv
  try go_wp2_with fail
  clear hHeld
  refine hK.out _ _ ?_ (fun hHeld => ?_)
  · try dsimp only
    go_keep
  clear hK K
  try simp only [Act.put, List.setIfInBounds_toArray, List.set_cons_zero, List.set_cons_succ]
  refine wpAnyH_take (i := 2) (v := ?_) (by (simp only [List.getElem?_toArray, List.getElem?_cons_succ, List.getElem?_cons_zero]; rfl)) (by kernel_rfl) (by kernel_rfl) (by kernel_rfl) (by intro _ _ _ h; exact h) (Or.inl ⟨by kernel_rfl, ?_⟩) hHeld ?_
  case refine_2 =>
    intro w hSw
    try dsimp only at hSw
    go_simp
    try with_reducible rfl
  try simp only [Act.put, List.setIfInBounds_toArray, List.set_cons_zero, List.set_cons_succ]
  refine wpAnyH_ready (rs := [5]) (by kernel_rfl) (by simp) ?_
  refine AllReadyH.cons (by (simp only [List.getElem?_toArray, List.getElem?_cons_succ, List.getElem?_cons_zero]; rfl)) (fun K hK => ?_) AllReadyH.nil
  go_simp
  refine (within_any l m _ _ _ (by omega) (by omega) (HU.out.below HB.out) (HV.out.below HB.out)).mono ?_
  rw [HW1.out]
  rintro e q2 ⟨rfl, hv⟩
  replace A0 := cellB hv A0
  replace A1 := cellB hv A1
  replace HB := Lib.hid (below_up HB.out hv HB.out.size)
  clear hv
  try go_wp2_with fail
  clear hHeld
  refine hK.out _ _ ?_ (fun hHeld => ?_)
  · try dsimp only
    go_keep
  clear hK K
  try simp only [Act.put, List.setIfInBounds_toArray, List.set_cons_zero, List.set_cons_succ]
  refine wpAnyH_take (i := 6) (v := ?_) (by (simp only [List.getElem?_toArray, List.getElem?_cons_succ, List.getElem?_cons_zero]; rfl)) (by kernel_rfl) (by kernel_rfl) (by kernel_rfl) (by intro _ _ _ h; exact h) (Or.inl ⟨by kernel_rfl, ?_⟩) hHeld ?_
  case refine_2 =>
    intro w hSw
    try dsimp only at hSw
    go_simp
    try with_reducible rfl
  try simp only [Act.put, List.setIfInBounds_toArray, List.set_cons_zero, List.set_cons_succ]
  refine wpAnyH_take (i := 7) (v := undef) (by (simp only [List.getElem?_toArray, List.getElem?_cons_succ, List.getElem?_cons_zero]; rfl)) (by kernel_rfl) (by kernel_rfl) (by kernel_rfl) (by intro _ _ _ h; exact h) (Or.inr ⟨by kernel_rfl, rfl⟩) hHeld ?_
  try simp only [Act.put, List.setIfInBounds_toArray, List.set_cons_zero, List.set_cons_succ]
  refine wpAnyH_take (i := 8) (v := undef) (by (simp only [List.getElem?_toArray, List.getElem?_cons_succ, List.getElem?_cons_zero]; rfl)) (by kernel_rfl) (by kernel_rfl) (by kernel_rfl) (by intro _ _ _ h; exact h) (Or.inr ⟨by kernel_rfl, rfl⟩) hHeld ?_
  try simp only [Act.put, List.setIfInBounds_toArray, List.set_cons_zero, List.set_cons_succ]
  refine wpAnyH_take (i := 9) (v := undef) (by (simp only [List.getElem?_toArray, List.getElem?_cons_succ, List.getElem?_cons_zero]; rfl)) (by kernel_rfl) (by kernel_rfl) (by kernel_rfl) (by intro _ _ _ h; exact h) (Or.inr ⟨by kernel_rfl, rfl⟩) hHeld ?_
  try simp only [Act.put, List.setIfInBounds_toArray, List.set_cons_zero, List.set_cons_succ]
  refine wpAnyH_take (i := 10) (v := ?_) (by (simp only [List.getElem?_toArray, List.getElem?_cons_succ, List.getElem?_cons_zero]; rfl)) (by kernel_rfl) (by kernel_rfl) (by kernel_rfl) (by intro _ _ _ h; exact h) (Or.inl ⟨by kernel_rfl, ?_⟩) hHeld ?_
  case refine_2 =>
    intro w hSw
    try dsimp only at hSw
    go_simp
    try with_reducible rfl
  try simp only [Act.put, List.setIfInBounds_toArray, List.set_cons_zero, List.set_cons_succ]
  refine wpAnyH_take (i := 11) (v := ?_) (by (simp only [List.getElem?_toArray, List.getElem?_cons_succ, List.getElem?_cons_zero]; rfl)) (by kernel_rfl) (by kernel_rfl) (by kernel_rfl) (by intro _ _ _ h; exact h) (Or.inl ⟨by kernel_rfl, ?_⟩) hHeld ?_
  case refine_2 =>
    intro w hSw
    try dsimp only at hSw
    go_simp
    try with_reducible rfl
  try simp only [Act.put, List.setIfInBounds_toArray, List.set_cons_zero, List.set_cons_succ]
  refine wpAnyH_take (i := 12) (v := ?_) (by (simp only [List.getElem?_toArray, List.getElem?_cons_succ, List.getElem?_cons_zero]; rfl)) (by kernel_rfl) (by kernel_rfl) (by kernel_rfl) (by intro _ _ _ h; exact h) (Or.inl ⟨by kernel_rfl, ?_⟩) hHeld ?_
  case refine_2 =>
    intro w hSw
    try dsimp only at hSw
    go_simp
    try with_reducible rfl
  try simp only [Act.put, List.setIfInBounds_toArray, List.set_cons_zero, List.set_cons_succ]
  refine wpAnyH_take (i := 13) (v := ?_) (by (simp only [List.getElem?_toArray, List.getElem?_cons_succ, List.getElem?_cons_zero]; rfl)) (by kernel_rfl) (by kernel_rfl) (by kernel_rfl) (by intro _ _ _ h; exact h) (Or.inl ⟨by kernel_rfl, ?_⟩) hHeld ?_
  case refine_2 =>
    intro w hSw
    try dsimp only at hSw
    go_simp
    try with_reducible rfl
  try simp only [Act.put, List.setIfInBounds_toArray, List.set_cons_zero, List.set_cons_succ]
  refine wpAnyH_take (i := 16) (v := ?_) (by (simp only [List.getElem?_toArray, List.getElem?_cons_succ, List.getElem?_cons_zero]; rfl)) (by kernel_rfl) (by kernel_rfl) (by kernel_rfl) (by intro _ _ _ h; exact h) (Or.inl ⟨by kernel_rfl, ?_⟩) hHeld ?_
  case refine_2 =>
    intro w hSw
    try dsimp only at hSw
    go_simp
    try with_reducible rfl
  try simp only [Act.put, List.setIfInBounds_toArray, List.set_cons_zero, List.set_cons_succ]
  refine wpAnyH_take (i := 17) (v := ?_) (by (simp only [List.getElem?_toArray, List.getElem?_cons_succ, List.getElem?_cons_zero]; rfl)) (by kernel_rfl) (by kernel_rfl) (by kernel_rfl) (by intro _ _ _ h; exact h) (Or.inl ⟨by kernel_rfl, ?_⟩) hHeld ?_
  case refine_2 =>
    intro w hSw
    try dsimp only at hSw
    go_simp
    try with_reducible rfl
  try simp only [Act.put, List.setIfInBounds_toArray, List.set_cons_zero, List.set_cons_succ]
  refine wpAnyH_ready (rs := [14]) (by kernel_rfl) (by simp) ?_
  refine AllReadyH.cons (by (simp only [List.getElem?_toArray, List.getElem?_cons_succ, List.getElem?_cons_zero]; rfl)) (fun K hK => ?_) AllReadyH.nil
  go_simp
  refine (of_law _ _ _).mono ?_
  rintro e q4 ⟨rfl, hv⟩
  replace A0 := cellB hv A0
  replace A1 := cellB hv A1
  replace HB := Lib.hid (below_up HB.out hv HB.out.size)
  clear hv
  try go_wp2_with fail
  clear hHeld
  refine hK.out _ _ ?_ (fun hHeld => ?_)
  · try dsimp only
    go_keep
  clear hK K
  try simp only [Act.put, List.setIfInBounds_toArray, List.set_cons_zero, List.set_cons_succ]
  refine wpAnyH_take (i := 15) (v := ?_) (by (simp only [List.getElem?_toArray, List.getElem?_cons_succ, List.getElem?_cons_zero]; rfl)) (by kernel_rfl) (by kernel_rfl) (by kernel_rfl) (by intro _ _ _ h; exact h) (Or.inl ⟨by kernel_rfl, ?_⟩) hHeld ?_
  case refine_2 =>
    intro w hSw
    try dsimp only at hSw
    go_simp
    try with_reducible rfl
  try simp only [Act.put, List.setIfInBounds_toArray, List.set_cons_zero, List.set_cons_succ]
  refine wpAnyH_ready (rs := [18]) (by kernel_rfl) (by simp) ?_
  refine AllReadyH.cons (by (simp only [List.getElem?_toArray, List.getElem?_cons_succ, List.getElem?_cons_zero]; rfl)) (fun K hK => ?_) AllReadyH.nil
  go_simp
  refine (apart_any l m _ _ _ (by omega) (by omega) (HU.out.below HB.out) (HV.out.below HB.out)).mono ?_
  rw [HAP.out]
  rintro e q5 ⟨rfl, hv⟩
  replace A0 := cellB hv A0
  replace A1 := cellB hv A1
  replace HB := Lib.hid (below_up HB.out hv HB.out.size)
  clear hv
  try go_wp2_with fail
  clear hHeld
  refine hK.out _ _ ?_ (fun hHeld => ?_)
  · try dsimp only
    go_keep
  clear hK K
  try simp only [Act.put, List.setIfInBounds_toArray, List.set_cons_zero, List.set_cons_succ]
  refine wpAnyH_take (i := 19) (v := ?_) (by (simp only [List.getElem?_toArray, List.getElem?_cons_succ, List.getElem?_cons_zero]; rfl)) (by kernel_rfl) (by kernel_rfl) (by kernel_rfl) (by intro _ _ _ h; exact h) (Or.inl ⟨by kernel_rfl, ?_⟩) hHeld ?_
  case refine_2 =>
    intro w hSw
    try dsimp only at hSw
    go_simp
    try with_reducible rfl
  try simp only [Act.put, List.setIfInBounds_toArray, List.set_cons_zero, List.set_cons_succ]
  refine wpAnyH_take (i := 20) (v := ?_) (by (simp only [List.getElem?_toArray, List.getElem?_cons_succ, List.getElem?_cons_zero]; rfl)) (by kernel_rfl) (by kernel_rfl) (by kernel_rfl) (by intro _ _ _ h; exact h) (Or.inl ⟨by kernel_rfl, ?_⟩) hHeld ?_
  case refine_2 =>
    intro w hSw
    try dsimp only at hSw
    go_simp
    try with_reducible rfl
  try simp only [Act.put, List.setIfInBounds_toArray, List.set_cons_zero, List.set_cons_succ]
  refine wpAnyH_take (i := 21) (v := ?_) (by (simp only [List.getElem?_toArray, List.getElem?_cons_succ, List.getElem?_cons_zero]; rfl)) (by kernel_rfl) (by kernel_rfl) (by kernel_rfl) (by intro _ _ _ h; exact h) (Or.inl ⟨by kernel_rfl, ?_⟩) hHeld ?_
  case refine_2 =>
    intro w hSw
    try dsimp only at hSw
    go_simp
    try with_reducible rfl
  try simp only [Act.put, List.setIfInBounds_toArray, List.set_cons_zero, List.set_cons_succ]
  refine wpAnyH_take (i := 22) (v := ?_) (by (simp only [List.getElem?_toArray, List.getElem?_cons_succ, List.getElem?_cons_zero]; rfl)) (by kernel_rfl) (by kernel_rfl) (by kernel_rfl) (by intro _ _ _ h; exact h) (Or.inl ⟨by kernel_rfl, ?_⟩) hHeld ?_
  case refine_2 =>
    intro w hSw
    try dsimp only at hSw
    go_simp
    try with_reducible rfl
  try simp only [Act.put, List.setIfInBounds_toArray, List.set_cons_zero, List.set_cons_succ]
  refine wpAnyH_take (i := 23) (v := ?_) (by (simp only [List.getElem?_toArray, List.getElem?_cons_succ, List.getElem?_cons_zero]; rfl)) (by kernel_rfl) (by kernel_rfl) (by kernel_rfl) (by intro _ _ _ h; exact h) (Or.inl ⟨by kernel_rfl, ?_⟩) hHeld ?_
  case refine_2 =>
    intro w hSw
    try dsimp only at hSw
    go_simp
    try with_reducible rfl
  try simp only [Act.put, List.setIfInBounds_toArray, List.set_cons_zero, List.set_cons_succ]
  refine wpAnyH_take (i := 24) (v := undef) (by (simp only [List.getElem?_toArray, List.getElem?_cons_succ, List.getElem?_cons_zero]; rfl)) (by kernel_rfl) (by kernel_rfl) (by kernel_rfl) (by intro _ _ _ h; exact h) (Or.inr ⟨by kernel_rfl, rfl⟩) hHeld ?_
  try simp only [Act.put, List.setIfInBounds_toArray, List.set_cons_zero, List.set_cons_succ]
  refine wpAnyH_take (i := 25) (v := undef) (by (simp only [List.getElem?_toArray, List.getElem?_cons_succ, List.getElem?_cons_zero]; rfl)) (by kernel_rfl) (by kernel_rfl) (by kernel_rfl) (by intro _ _ _ h; exact h) (Or.inr ⟨by kernel_rfl, rfl⟩) hHeld ?_
  try simp only [Act.put, List.setIfInBounds_toArray, List.set_cons_zero, List.set_cons_succ]
  refine wpAnyH_take (i := 26) (v := undef) (by (simp only [List.getElem?_toArray, List.getElem?_cons_succ, List.getElem?_cons_zero]; rfl)) (by kernel_rfl) (by kernel_rfl) (by kernel_rfl) (by intro _ _ _ h; exact h) (Or.inr ⟨by kernel_rfl, rfl⟩) hHeld ?_
  try simp only [Act.put, List.setIfInBounds_toArray, List.set_cons_zero, List.set_cons_succ]
  refine wpAnyH_take (i := 27) (v := ?_) (by (simp only [List.getElem?_toArray, List.getElem?_cons_succ, List.getElem?_cons_zero]; rfl)) (by kernel_rfl) (by kernel_rfl) (by kernel_rfl) (by intro _ _ _ h; exact h) (Or.inl ⟨by kernel_rfl, ?_⟩) hHeld ?_
  case refine_2 =>
    intro w hSw
    try dsimp only at hSw
    go_simp
    try with_reducible rfl
  try simp only [Act.put, List.setIfInBounds_toArray, List.set_cons_zero, List.set_cons_succ]
  refine wpAnyH_take (i := 28) (v := ?_) (by (simp only [List.getElem?_toArray, List.getElem?_cons_succ, List.getElem?_cons_zero]; rfl)) (by kernel_rfl) (by kernel_rfl) (by kernel_rfl) (by intro _ _ _ h; exact h) (Or.inl ⟨by kernel_rfl, ?_⟩) hHeld ?_
  case refine_2 =>
    intro w hSw
    try dsimp only at hSw
    go_simp
    try with_reducible rfl
  try simp only [Act.put, List.setIfInBounds_toArray, List.set_cons_zero, List.set_cons_succ]
  refine wpAnyH_take (i := 29) (v := ?_) (by (simp only [List.getElem?_toArray, List.getElem?_cons_succ, List.getElem?_cons_zero]; rfl)) (by kernel_rfl) (by kernel_rfl) (by kernel_rfl) (by intro _ _ _ h; exact h) (Or.inl ⟨by kernel_rfl, ?_⟩) hHeld ?_
  case refine_2 =>
    intro w hSw
    try dsimp only at hSw
    go_simp
    try with_reducible rfl
  try simp only [Act.put, List.setIfInBounds_toArray, List.set_cons_zero, List.set_cons_succ]
  refine wpAnyH_take (i := 30) (v := ?_) (by (simp only [List.getElem?_toArray, List.getElem?_cons_succ, List.getElem?_cons_zero]; rfl)) (by kernel_rfl) (by kernel_rfl) (by kernel_rfl) (by intro _ _ _ h; exact h) (Or.inl ⟨by kernel_rfl, ?_⟩) hHeld ?_
  case refine_2 =>
    intro w hSw
    try dsimp only at hSw
    go_simp
    try with_reducible rfl
  try simp only [Act.put, List.setIfInBounds_toArray, List.set_cons_zero, List.set_cons_succ]
  refine wpAnyH_done (by kernel_rfl) ?_ _
  go_wp2_with fail
  clear a0 a1
  refine (C2.out _ (HU.out.below HB.out) (HX.out.below HB.out)).mono ?_
  rintro e4 w4 ⟨rfl, hb⟩
  have a4 := cellB hb A0
  have a5 := cellB hb A1
  have HB4 := Lib.hid (below_up HB.out hb HB.out.size)
  clear hb A0 A1 HB
  have HX4 : Hid (Below w.heap.size w (w4.alloc (Obj.cells #[Value.int IntKind.i64 r2.1, Value.int IntKind.i64 r2.2] 32))) := Lib.hid (HB4.out.alloc HB4.out.size _)
  go_wp2_with fail
  refine (C3.out _ (HX.out.below HX4.out) (HV.out.below HX4.out)).mono ?_
  rintro e5 w5 ⟨rfl, hb⟩
  have a6 := cellB hb (cellB (below_box w4 _) a4)
  have a7 := cellB hb (cellB (below_box w4 _) a5)
  have B5 := (own2_new w4 r2.1 r2.2 _).below hb
  have HB5 := Lib.hid (below_up HX4.out hb HX4.out.size)
  clear hb a4 a5 HX4 HB4
  obtain ⟨bb, hbb⟩ : ∃ b, w4.heap.size = b := ⟨_, rfl⟩
  rw [hbb] at B5 ⊢
  clear hbb
  go_wp2_with fail
  obtain ⟨W6, hW⟩ : ∃ W6, W6 = w5.alloc (Obj.cells #[Value.int IntKind.i64 r3.1, Value.int IntKind.i64 r3.2] 32) := ⟨_, rfl⟩
  rw [← hW]
  have B6 : Own2 W6 bb r2.1 r2.2 := by rw [hW]; exact B5.alloc _
  have C6 : Own2 W6 w5.heap.size r3.1 r3.2 := by rw [hW]; exact own2_new w5 _ _ _
  have a0 : W6.cell? ⟨bl, 0, none⟩ = some (.int .i64 r1.1) := by rw [hW]; exact cellB (below_box w5 _) a6
  have a1 : W6.cell? ⟨bl, 1, none⟩ = some (.int .i64 r1.2) := by rw [hW]; exact cellB (below_box w5 _) a7
  have HB : Hid (Below w.heap.size w (W6.drewN 1)) := Lib.hid (by rw [hW]; exact dN (HB5.out.alloc HB5.out.size _) 1)
  obtain ⟨bc, hbc⟩ : ∃ b, w5.heap.size = b := ⟨_, rfl⟩
  rw [hbc] at C6 ⊢
  clear hW hbc a6 a7 B5 HB5
  have A0 : (W6.drewN 1).cell? ⟨bl, 0, none⟩ = some (.int .i64 r1.1) := a0
  have A1 : (W6.drewN 1).cell? ⟨bl, 1, none⟩ = some (.int .i64 r1.2) := a1
  have BB : Hid (Own2 (W6.drewN 1) bb r2.1 r2.2) := Lib.hid ⟨B6.c0, B6.c1, B6.f0, B6.f1⟩
  have CC : Hid (Own2 (W6.drewN 1) bc r3.1 r3.2) := Lib.hid ⟨C6.c0, C6.c1, C6.f0, C6.f1⟩
  clear B6 C6
  go_region_held3 (fun w' => w'.cell? ⟨bl, 0, none⟩ = some (.int .i64 r1.1) ∧ w'.cell? ⟨bl, 1, none⟩ = some (.int .i64 r1.2)) (go_keep)
    (first | (go_at_call 21; refine (of_law _ _ _).mono ?_; rintro e q6 ⟨rfl, hv⟩; (first | (replace A0 := cellB hv A0; replace A1 := cellB hv A1; replace BB := Lib.hid (BB.out.below hv); replace CC := Lib.hid (CC.out.below hv); replace HB := Lib.hid (below_up HB.out hv HB.out.size); try (replace SS := Lib.hid (SS.out.below hv))) | (have hne := Nat.ne_of_lt (cellLt A0); have hnb := Nat.ne_of_lt (cellLt BB.out.c0); have hnc := Nat.ne_of_lt (cellLt CC.out.c0); have hcw := HB.out.size; replace A0 := cellB hv (cellB (below_box _ _) A0); replace A1 := cellB hv (cellB (below_box _ _) A1); replace BB := Lib.hid ((BB.out.alloc _).below hv); replace CC := Lib.hid ((CC.out.alloc _).below hv); replace HB := Lib.hid (below_up (HB.out.alloc HB.out.size _) hv (by have := HB.out.size; simp <;> omega)); have SS := Lib.hid ((own2_new _ 0 0 _).below hv)) | (have hne := ne_ad A0; have hnb := ne_ad BB.out.c0; have hnc := ne_ad CC.out.c0; have hcw := HB.out.size; replace A0 := cellB hv (cell_ad A0); replace A1 := cellB hv (cell_ad A1); replace BB := Lib.hid ((own2_ad BB.out).below hv); replace CC := Lib.hid ((own2_ad CC.out).below hv); have SS := Lib.hid ((own2_nd _ 0 0 _).below hv); replace HB := Lib.hid (below_up (below_ad HB.out HB.out.size) hv (by have := HB.out.size; simp at this ⊢ <;> omega)))); clear hv) | (go_at_call 24; refine (L1.add_any 1 1 r1.1 r1.2 _).mono ?_; rw [HA1.out]; rintro e q7 ⟨rfl, hv⟩; (first | (replace A0 := cellB hv A0; replace A1 := cellB hv A1; replace BB := Lib.hid (BB.out.below hv); replace CC := Lib.hid (CC.out.below hv); replace HB := Lib.hid (below_up HB.out hv HB.out.size); try (replace SS := Lib.hid (SS.out.below hv))) | (have hne := Nat.ne_of_lt (cellLt A0); have hnb := Nat.ne_of_lt (cellLt BB.out.c0); have hnc := Nat.ne_of_lt (cellLt CC.out.c0); have hcw := HB.out.size; replace A0 := cellB hv (cellB (below_box _ _) A0); replace A1 := cellB hv (cellB (below_box _ _) A1); replace BB := Lib.hid ((BB.out.alloc _).below hv); replace CC := Lib.hid ((CC.out.alloc _).below hv); replace HB := Lib.hid (below_up (HB.out.alloc HB.out.size _) hv (by have := HB.out.size; simp <;> omega)); have SS := Lib.hid ((own2_new _ 0 0 _).below hv)) | (have hne := ne_ad A0; have hnb := ne_ad BB.out.c0; have hnc := ne_ad CC.out.c0; have hcw := HB.out.size; replace A0 := cellB hv (cell_ad A0); replace A1 := cellB hv (cell_ad A1); replace BB := Lib.hid ((own2_ad BB.out).below hv); replace CC := Lib.hid ((own2_ad CC.out).below hv); have SS := Lib.hid ((own2_nd _ 0 0 _).below hv); replace HB := Lib.hid (below_up (below_ad HB.out HB.out.size) hv (by have := HB.out.size; simp at this ⊢ <;> omega)))); clear hv; try (have s0 := SS.out.c0; have s1 := SS.out.c1; have s2 := SS.out.f0; have s3 := SS.out.f1; have t0 := cell_two hne A0; have t1 := cell_two hne A1); have u0 := (fun o => cellB (below_box q7 o) A0); have u1 := (fun o => cellB (below_box q7 o) A1); have u2 := (fun o x y => cell_two (Nat.ne_of_lt (cellLt A0)) (cellB (below_box q7 o) A0) x y); have u3 := (fun o x y => cell_two (Nat.ne_of_lt (cellLt A1)) (cellB (below_box q7 o) A1) x y); have u4 := Nat.ne_of_lt (cellLt A0)))
  all_goals
    first
      | (have B9 := own2_other BB.out hnb (.int .i64 sn) (.int .i64 sd); have C9 := own2_other CC.out hnc (.int .i64 sn) (.int .i64 sd); have S9 := own2_store SS.out sn sd; have HB9 : Hid (Below w.heap.size w _) := Lib.hid (below_two (u := .int .i64 sn) (v := .int .i64 sd) HB.out hcw))
      | (have B9 := BB.out.alloc (Obj.cells #[Value.int IntKind.i64 sn, Value.int IntKind.i64 sd] 32); have C9 := CC.out.alloc (Obj.cells #[Value.int IntKind.i64 sn, Value.int IntKind.i64 sd] 32); have S9 := own2_new q7 sn sd 32; have HB9 := Lib.hid (HB.out.alloc HB.out.size (Obj.cells #[Value.int IntKind.i64 sn, Value.int IntKind.i64 sd] 32)))
    have b0 := B9.c0
    have b1 := B9.c1
    have c0 := C9.c0
    have c1 := C9.c1
    go_wp2_with fail
    refine (L1.add_any r2.1 r2.2 r3.1 r3.2 _).mono ?_
    rw [HA2.out]
    rintro e10 w10 ⟨rfl, hb⟩
    have S10 := S9.below hb
    have HB10 := Lib.hid (below_up HB9.out hb HB9.out.size)
    have z0 := fun o => (S10.alloc o).c0
    have z1 := fun o => (S10.alloc o).c1
    clear b0 b1 c0 c1 B9 C9 S9 HB9 hb
    go_wp2_with fail
    refine (L1.cmp_any sn sd tn td _).mono ?_
    rw [HC.out]
    rintro e11 w11 ⟨rfl, hb⟩
    have HB11 := Lib.hid (below_up (HB10.out.alloc HB10.out.size _) hb (by have := HB10.out.size; simp <;> omega))
    clear hb z0 z1 S10
    go_wp2_with fail
    go_ret
    exact ⟨rfl, HB11.out⟩

set_option maxRecDepth 100000 in
set_option maxHeartbeats 4000000 in
theorem sets_x_m (l m n : List (List UInt8)) (u v x : Value) (r1 r2 r3 : Int × Int) (sn sd tn td cs : Int) (HF : Hid (fewB [l, m, n] = true)) (hl : l.length ≤ 40) (hm : m.length ≤ 40) (hn : n.length ≤ 40) (el : ∀ x ∈ l, x.length ≤ 2000) (em : ∀ x ∈ m, x.length ≤ 2000) (en : ∀ x ∈ n, x.length ≤ 2000)
    (HR1 : Hid (jacT l m = r1)) (HR2 : Hid (jacT l n = r2)) (HR3 : Hid (jacT n m = r3)) (HW1 : Hid (withinB l m = false)) (HAP : Hid (apartB l m = true)) (HE1 : decide (r1 = (1, 1)) = false) (HE0 : decide (r1 = (0, 1)) = decide ((0 : Int) < (m.length : Int))) (hlq : decide (0 < l.length) = false) 
    (HA1 : Hid (L1.opr (L1.vldB 1 1 && L1.vldB r1.1 r1.2) (1 * r1.2 + r1.1 * 1) (1 * r1.2) = (sn, sd, 0))) (HA2 : Hid (L1.opr (L1.vldB r2.1 r2.2 && L1.vldB r3.1 r3.2) (r2.1 * r3.2 + r3.1 * r2.2) (r2.2 * r3.2) = (tn, td, 0))) (HC : Hid (L1.cmpR sn sd tn td = cs)) (hcs : 0 ≤ cs)
    (w : World) (hu : Strs w u l) (hv : Strs w v m) (hx : Strs w x n) :
    Calls Tryz.prog 4 #[u, v, x] w fun e w' => e = .returned (.bool true) ∧ Below w.heap.size w w' := by
  have HU := Lib.hid hu
  have HV := Lib.hid hv
  have HX := Lib.hid hx
  obtain ⟨A, cap, rfl, hcap, _, _⟩ := hu
  obtain ⟨A2, cap2, rfl, hcap2, _, _⟩ := hv
  obtain ⟨A3, cap3, rfl, hcap3, _, _⟩ := hx
  have C1 := Lib.hid (fun W (h1 : Strs W (.slice A l.length cap) l) (h2 : Strs W (.slice A2 m.length cap2) m) => jaccard_any l m _ _ W (by omega) (by omega) el em h1 h2)
  have C2 := Lib.hid (fun W (h1 : Strs W (.slice A l.length cap) l) (h2 : Strs W (.slice A3 n.length cap3) n) => jaccard_any l n _ _ W (by omega) (by omega) el en h1 h2)
  have C3 := Lib.hid (fun W (h1 : Strs W (.slice A3 n.length cap3) n) (h2 : Strs W (.slice A2 m.length cap2) m) => jaccard_any n m _ _ W (by omega) (by omega) en em h1 h2)
  rw [HR1.out] at C1
  rw [HR2.out] at C2
  rw [HR3.out] at C3
  have eqr := fun (r s : Int × Int) (W : World) => eql_rat r s W
  clear el em en
  go_enter Tryz.func4, Tryz.ntmps4
  go_wp2_with fail
  refine (head_any _).mono ?_
  rintro e1 w1 ⟨rfl, hb⟩
  have HB1 := Lib.hid hb
  clear hb
  go_wp2_with fail
  refine (few_lit [l, m, n] [_, _, _] 22 w1 rfl (by simp) (fun i h1 h2 => by
    match i, h1 with
    | 0, _ => exact HU.out.below HB1.out
    | 1, _ => exact HV.out.below HB1.out
    | 2, _ => exact HX.out.below HB1.out)).mono ?_
  rw [HF.out]
  rintro e2 w2 ⟨rfl, hb⟩
  have HB2 := Lib.hid (below_up HB1.out hb HB1.out.size)
  clear hb
  go_wp2_with fail
  refine (C1.out _ (HU.out.below HB2.out) (HV.out.below HB2.out)).mono ?_
  rintro e3 w3 ⟨rfl, hb⟩
  have HB3 := Lib.hid (below_up HB2.out hb HB2.out.size)
  clear hb
  go_wp2_with fail
  obtain ⟨W, hW⟩ : ∃ W, W = w3.alloc (Obj.cells #[Value.int IntKind.i64 r1.1, Value.int IntKind.i64 r1.2] 32) := ⟨_, rfl⟩
  rw [← hW]
  have R : Own2 W w3.heap.size r1.1 r1.2 := by rw [hW]; exact own2_new w3 _ _ _
  have HB : Hid (Below w.heap.size w (W.drewN 1)) := Lib.hid (by rw [hW]; exact dN (HB3.out.alloc HB3.out.size _) 1)
  obtain ⟨bl, hbl⟩ : ∃ bl, w3.heap.size = bl := ⟨_, rfl⟩
  rw [hbl] at R ⊢
  clear hW hbl
  have a0 := R.c0
  have a1 := R.c1
  have A0 : (W.drewN 1).cell? ⟨bl, 0, none⟩ = some (.int .i64 r1.1) := a0
  have A1 : (W.drewN 1).cell? ⟨bl, 1, none⟩ = some (.int .i64 r1.2) := a1
  clear R
  refine wp_region_held_drew (S := (fun w' => w'.cell? ⟨bl, 0, none⟩ = some (.int .i64 r1.1) ∧ w'.cell? ⟨bl, 1, none⟩ = some (.int .i64 r1.2))) (by kernel_rfl) ?_ (fun hHeld => ?_)
  · try dsimp only
    go_keep
  refine wpAnyH_take (i := 0) (v := ?_) (by (simp only [List.getElem?_toArray, List.getElem?_cons_zero]; rfl)) (by kernel_rfl) (by kernel_rfl) (by kernel_rfl) (by intro _ _ _ h; exact h) (Or.inl ⟨by kernel_rfl, ?_⟩) hHeld ?_
  case refine_2 =>
    intro w hSw
    try dsimp only at hSw
    go_simp
    try with_reducible rfl
  try simp only [Act.put, List.setIfInBounds_toArray, List.set_cons_zero, List.set_cons_succ]
  refine wpAnyH_take (i := 3) (v := ?_) (by (simp only [List.getElem?_toArray, List.getElem?_cons_succ, List.getElem?_cons_zero]; rfl)) (by kernel_rfl) (by kernel_rfl) (by kernel_rfl) (by intro _ _ _ h; exact h) (Or.inl ⟨by kernel_rfl, ?_⟩) hHeld ?_
  case refine_2 =>
    intro w hSw
    try dsimp only at hSw
    go_simp
    try with_reducible rfl
  try simp only [Act.put, List.setIfInBounds_toArray, List.set_cons_zero, List.set_cons_succ]
  refine wpAnyH_take (i := 4) (v := ?_) (by (simp only [List.getElem?_toArray, List.getElem?_cons_succ, List.getElem?_cons_zero]; rfl)) (by kernel_rfl) (by kernel_rfl) (by kernel_rfl) (by intro _ _ _ h; exact h) (Or.inl ⟨by kernel_rfl, ?_⟩) hHeld ?_
  case refine_2 =>
    intro w hSw
    try dsimp only at hSw
    go_simp
    try with_reducible rfl
  try simp only [Act.put, List.setIfInBounds_toArray, List.set_cons_zero, List.set_cons_succ]
  refine wpAnyH_ready (rs := [1]) (by kernel_rfl) (by simp) ?_
  refine AllReadyH.cons (by (simp only [List.getElem?_toArray, List.getElem?_cons_succ, List.getElem?_cons_zero]; rfl)) (fun K hK => ?_) AllReadyH.nil
  go_simp
  refine (of_law _ _ _).mono ?_
  rintro e q1 ⟨rfl, hv⟩
  replace A0 := cellB hv A0
  replace A1 := cellB hv A1
  replace HB := Lib.hid (below_up HB.out hv HB.out.size)
  clear hv
  try go_wp2_with fail
  clear hHeld
  refine hK.out _ _ ?_ (fun hHeld => ?_)
  · try dsimp only
    go_keep
  clear hK K
  try simp only [Act.put, List.setIfInBounds_toArray, List.set_cons_zero, List.set_cons_succ]
  refine wpAnyH_take (i := 2) (v := ?_) (by (simp only [List.getElem?_toArray, List.getElem?_cons_succ, List.getElem?_cons_zero]; rfl)) (by kernel_rfl) (by kernel_rfl) (by kernel_rfl) (by intro _ _ _ h; exact h) (Or.inl ⟨by kernel_rfl, ?_⟩) hHeld ?_
  case refine_2 =>
    intro w hSw
    try dsimp only at hSw
    go_simp
    try with_reducible rfl
  try simp only [Act.put, List.setIfInBounds_toArray, List.set_cons_zero, List.set_cons_succ]
  refine wpAnyH_ready (rs := [5]) (by kernel_rfl) (by simp) ?_
  refine AllReadyH.cons (by (simp only [List.getElem?_toArray, List.getElem?_cons_succ, List.getElem?_cons_zero]; rfl)) (fun K hK => ?_) AllReadyH.nil
  go_simp
  refine (within_any l m _ _ _ (by omega) (by omega) (HU.out.below HB.out) (HV.out.below HB.out)).mono ?_
  rw [HW1.out]
  rintro e q2 ⟨rfl, hv⟩
  replace A0 := cellB hv A0
  replace A1 := cellB hv A1
  replace HB := Lib.hid (below_up HB.out hv HB.out.size)
  clear hv
  try go_wp2_with fail
  clear hHeld
  refine hK.out _ _ ?_ (fun hHeld => ?_)
  · try dsimp only
    go_keep
  clear hK K
  try simp only [Act.put, List.setIfInBounds_toArray, List.set_cons_zero, List.set_cons_succ]
  refine wpAnyH_take (i := 6) (v := ?_) (by (simp only [List.getElem?_toArray, List.getElem?_cons_succ, List.getElem?_cons_zero]; rfl)) (by kernel_rfl) (by kernel_rfl) (by kernel_rfl) (by intro _ _ _ h; exact h) (Or.inl ⟨by kernel_rfl, ?_⟩) hHeld ?_
  case refine_2 =>
    intro w hSw
    try dsimp only at hSw
    go_simp
    try with_reducible rfl
  try simp only [Act.put, List.setIfInBounds_toArray, List.set_cons_zero, List.set_cons_succ]
  refine wpAnyH_take (i := 7) (v := undef) (by (simp only [List.getElem?_toArray, List.getElem?_cons_succ, List.getElem?_cons_zero]; rfl)) (by kernel_rfl) (by kernel_rfl) (by kernel_rfl) (by intro _ _ _ h; exact h) (Or.inr ⟨by kernel_rfl, rfl⟩) hHeld ?_
  try simp only [Act.put, List.setIfInBounds_toArray, List.set_cons_zero, List.set_cons_succ]
  refine wpAnyH_take (i := 8) (v := undef) (by (simp only [List.getElem?_toArray, List.getElem?_cons_succ, List.getElem?_cons_zero]; rfl)) (by kernel_rfl) (by kernel_rfl) (by kernel_rfl) (by intro _ _ _ h; exact h) (Or.inr ⟨by kernel_rfl, rfl⟩) hHeld ?_
  try simp only [Act.put, List.setIfInBounds_toArray, List.set_cons_zero, List.set_cons_succ]
  refine wpAnyH_take (i := 9) (v := undef) (by (simp only [List.getElem?_toArray, List.getElem?_cons_succ, List.getElem?_cons_zero]; rfl)) (by kernel_rfl) (by kernel_rfl) (by kernel_rfl) (by intro _ _ _ h; exact h) (Or.inr ⟨by kernel_rfl, rfl⟩) hHeld ?_
  try simp only [Act.put, List.setIfInBounds_toArray, List.set_cons_zero, List.set_cons_succ]
  refine wpAnyH_take (i := 10) (v := ?_) (by (simp only [List.getElem?_toArray, List.getElem?_cons_succ, List.getElem?_cons_zero]; rfl)) (by kernel_rfl) (by kernel_rfl) (by kernel_rfl) (by intro _ _ _ h; exact h) (Or.inl ⟨by kernel_rfl, ?_⟩) hHeld ?_
  case refine_2 =>
    intro w hSw
    try dsimp only at hSw
    go_simp
    try with_reducible rfl
  try simp only [Act.put, List.setIfInBounds_toArray, List.set_cons_zero, List.set_cons_succ]
  refine wpAnyH_take (i := 11) (v := ?_) (by (simp only [List.getElem?_toArray, List.getElem?_cons_succ, List.getElem?_cons_zero]; rfl)) (by kernel_rfl) (by kernel_rfl) (by kernel_rfl) (by intro _ _ _ h; exact h) (Or.inl ⟨by kernel_rfl, ?_⟩) hHeld ?_
  case refine_2 =>
    intro w hSw
    try dsimp only at hSw
    go_simp
    try with_reducible rfl
  try simp only [Act.put, List.setIfInBounds_toArray, List.set_cons_zero, List.set_cons_succ]
  refine wpAnyH_take (i := 12) (v := ?_) (by (simp only [List.getElem?_toArray, List.getElem?_cons_succ, List.getElem?_cons_zero]; rfl)) (by kernel_rfl) (by kernel_rfl) (by kernel_rfl) (by intro _ _ _ h; exact h) (Or.inl ⟨by kernel_rfl, ?_⟩) hHeld ?_
  case refine_2 =>
    intro w hSw
    try dsimp only at hSw
    go_simp
    try with_reducible rfl
  try simp only [Act.put, List.setIfInBounds_toArray, List.set_cons_zero, List.set_cons_succ]
  refine wpAnyH_take (i := 13) (v := ?_) (by (simp only [List.getElem?_toArray, List.getElem?_cons_succ, List.getElem?_cons_zero]; rfl)) (by kernel_rfl) (by kernel_rfl) (by kernel_rfl) (by intro _ _ _ h; exact h) (Or.inl ⟨by kernel_rfl, ?_⟩) hHeld ?_
  case refine_2 =>
    intro w hSw
    try dsimp only at hSw
    go_simp
    try with_reducible rfl
  try simp only [Act.put, List.setIfInBounds_toArray, List.set_cons_zero, List.set_cons_succ]
  refine wpAnyH_take (i := 16) (v := ?_) (by (simp only [List.getElem?_toArray, List.getElem?_cons_succ, List.getElem?_cons_zero]; rfl)) (by kernel_rfl) (by kernel_rfl) (by kernel_rfl) (by intro _ _ _ h; exact h) (Or.inl ⟨by kernel_rfl, ?_⟩) hHeld ?_
  case refine_2 =>
    intro w hSw
    try dsimp only at hSw
    go_simp
    try with_reducible rfl
  try simp only [Act.put, List.setIfInBounds_toArray, List.set_cons_zero, List.set_cons_succ]
  refine wpAnyH_take (i := 17) (v := ?_) (by (simp only [List.getElem?_toArray, List.getElem?_cons_succ, List.getElem?_cons_zero]; rfl)) (by kernel_rfl) (by kernel_rfl) (by kernel_rfl) (by intro _ _ _ h; exact h) (Or.inl ⟨by kernel_rfl, ?_⟩) hHeld ?_
  case refine_2 =>
    intro w hSw
    try dsimp only at hSw
    go_simp
    try with_reducible rfl
  try simp only [Act.put, List.setIfInBounds_toArray, List.set_cons_zero, List.set_cons_succ]
  refine wpAnyH_ready (rs := [14]) (by kernel_rfl) (by simp) ?_
  refine AllReadyH.cons (by (simp only [List.getElem?_toArray, List.getElem?_cons_succ, List.getElem?_cons_zero]; rfl)) (fun K hK => ?_) AllReadyH.nil
  go_simp
  refine (of_law _ _ _).mono ?_
  rintro e q4 ⟨rfl, hv⟩
  replace A0 := cellB hv A0
  replace A1 := cellB hv A1
  replace HB := Lib.hid (below_up HB.out hv HB.out.size)
  clear hv
  try go_wp2_with fail
  clear hHeld
  refine hK.out _ _ ?_ (fun hHeld => ?_)
  · try dsimp only
    go_keep
  clear hK K
  try simp only [Act.put, List.setIfInBounds_toArray, List.set_cons_zero, List.set_cons_succ]
  refine wpAnyH_take (i := 15) (v := ?_) (by (simp only [List.getElem?_toArray, List.getElem?_cons_succ, List.getElem?_cons_zero]; rfl)) (by kernel_rfl) (by kernel_rfl) (by kernel_rfl) (by intro _ _ _ h; exact h) (Or.inl ⟨by kernel_rfl, ?_⟩) hHeld ?_
  case refine_2 =>
    intro w hSw
    try dsimp only at hSw
    go_simp
    try with_reducible rfl
  try simp only [Act.put, List.setIfInBounds_toArray, List.set_cons_zero, List.set_cons_succ]
  refine wpAnyH_ready (rs := [18]) (by kernel_rfl) (by simp) ?_
  refine AllReadyH.cons (by (simp only [List.getElem?_toArray, List.getElem?_cons_succ, List.getElem?_cons_zero]; rfl)) (fun K hK => ?_) AllReadyH.nil
  go_simp
  refine (apart_any l m _ _ _ (by omega) (by omega) (HU.out.below HB.out) (HV.out.below HB.out)).mono ?_
  rw [HAP.out]
  rintro e q5 ⟨rfl, hv⟩
  replace A0 := cellB hv A0
  replace A1 := cellB hv A1
  replace HB := Lib.hid (below_up HB.out hv HB.out.size)
  clear hv
  try go_wp2_with fail
  clear hHeld
  refine hK.out _ _ ?_ (fun hHeld => ?_)
  · try dsimp only
    go_keep
  clear hK K
  try simp only [Act.put, List.setIfInBounds_toArray, List.set_cons_zero, List.set_cons_succ]
  refine wpAnyH_take (i := 19) (v := ?_) (by (simp only [List.getElem?_toArray, List.getElem?_cons_succ, List.getElem?_cons_zero]; rfl)) (by kernel_rfl) (by kernel_rfl) (by kernel_rfl) (by intro _ _ _ h; exact h) (Or.inl ⟨by kernel_rfl, ?_⟩) hHeld ?_
  case refine_2 =>
    intro w hSw
    try dsimp only at hSw
    go_simp
    try with_reducible rfl
  try simp only [Act.put, List.setIfInBounds_toArray, List.set_cons_zero, List.set_cons_succ]
  refine wpAnyH_take (i := 20) (v := ?_) (by (simp only [List.getElem?_toArray, List.getElem?_cons_succ, List.getElem?_cons_zero]; rfl)) (by kernel_rfl) (by kernel_rfl) (by kernel_rfl) (by intro _ _ _ h; exact h) (Or.inl ⟨by kernel_rfl, ?_⟩) hHeld ?_
  case refine_2 =>
    intro w hSw
    try dsimp only at hSw
    go_simp
    try with_reducible rfl
  try simp only [Act.put, List.setIfInBounds_toArray, List.set_cons_zero, List.set_cons_succ]
  refine wpAnyH_take (i := 21) (v := ?_) (by (simp only [List.getElem?_toArray, List.getElem?_cons_succ, List.getElem?_cons_zero]; rfl)) (by kernel_rfl) (by kernel_rfl) (by kernel_rfl) (by intro _ _ _ h; exact h) (Or.inl ⟨by kernel_rfl, ?_⟩) hHeld ?_
  case refine_2 =>
    intro w hSw
    try dsimp only at hSw
    go_simp
    try with_reducible rfl
  try simp only [Act.put, List.setIfInBounds_toArray, List.set_cons_zero, List.set_cons_succ]
  refine wpAnyH_take (i := 22) (v := ?_) (by (simp only [List.getElem?_toArray, List.getElem?_cons_succ, List.getElem?_cons_zero]; rfl)) (by kernel_rfl) (by kernel_rfl) (by kernel_rfl) (by intro _ _ _ h; exact h) (Or.inl ⟨by kernel_rfl, ?_⟩) hHeld ?_
  case refine_2 =>
    intro w hSw
    try dsimp only at hSw
    go_simp
    try with_reducible rfl
  try simp only [Act.put, List.setIfInBounds_toArray, List.set_cons_zero, List.set_cons_succ]
  refine wpAnyH_take (i := 23) (v := ?_) (by (simp only [List.getElem?_toArray, List.getElem?_cons_succ, List.getElem?_cons_zero]; rfl)) (by kernel_rfl) (by kernel_rfl) (by kernel_rfl) (by intro _ _ _ h; exact h) (Or.inl ⟨by kernel_rfl, ?_⟩) hHeld ?_
  case refine_2 =>
    intro w hSw
    try dsimp only at hSw
    go_simp
    try with_reducible rfl
  try simp only [Act.put, List.setIfInBounds_toArray, List.set_cons_zero, List.set_cons_succ]
  refine wpAnyH_take (i := 24) (v := ?_) (by (simp only [List.getElem?_toArray, List.getElem?_cons_succ, List.getElem?_cons_zero]; rfl)) (by kernel_rfl) (by kernel_rfl) (by kernel_rfl) (by intro _ _ _ h; exact h) (Or.inl ⟨by kernel_rfl, ?_⟩) hHeld ?_
  case refine_2 =>
    intro w hSw
    try dsimp only at hSw
    go_simp
    try with_reducible rfl
  try simp only [Act.put, List.setIfInBounds_toArray, List.set_cons_zero, List.set_cons_succ]
  refine wpAnyH_take (i := 25) (v := ?_) (by (simp only [List.getElem?_toArray, List.getElem?_cons_succ, List.getElem?_cons_zero]; rfl)) (by kernel_rfl) (by kernel_rfl) (by kernel_rfl) (by intro _ _ _ h; exact h) (Or.inl ⟨by kernel_rfl, ?_⟩) hHeld ?_
  case refine_2 =>
    intro w hSw
    try dsimp only at hSw
    go_simp
    try with_reducible rfl
  try simp only [Act.put, List.setIfInBounds_toArray, List.set_cons_zero, List.set_cons_succ]
  refine wpAnyH_take (i := 26) (v := ?_) (by (simp only [List.getElem?_toArray, List.getElem?_cons_succ, List.getElem?_cons_zero]; rfl)) (by kernel_rfl) (by kernel_rfl) (by kernel_rfl) (by intro _ _ _ h; exact h) (Or.inl ⟨by kernel_rfl, ?_⟩) hHeld ?_
  case refine_2 =>
    intro w hSw
    try dsimp only at hSw
    go_simp
    try with_reducible rfl
  try simp only [Act.put, List.setIfInBounds_toArray, List.set_cons_zero, List.set_cons_succ]
  refine wpAnyH_take (i := 27) (v := ?_) (by (simp only [List.getElem?_toArray, List.getElem?_cons_succ, List.getElem?_cons_zero]; rfl)) (by kernel_rfl) (by kernel_rfl) (by kernel_rfl) (by intro _ _ _ h; exact h) (Or.inl ⟨by kernel_rfl, ?_⟩) hHeld ?_
  case refine_2 =>
    intro w hSw
    try dsimp only at hSw
    go_simp
    try with_reducible rfl
  try simp only [Act.put, List.setIfInBounds_toArray, List.set_cons_zero, List.set_cons_succ]
  refine wpAnyH_take (i := 28) (v := ?_) (by (simp only [List.getElem?_toArray, List.getElem?_cons_succ, List.getElem?_cons_zero]; rfl)) (by kernel_rfl) (by kernel_rfl) (by kernel_rfl) (by intro _ _ _ h; exact h) (Or.inl ⟨by kernel_rfl, ?_⟩) hHeld ?_
  case refine_2 =>
    intro w hSw
    try dsimp only at hSw
    go_simp
    try with_reducible rfl
  try simp only [Act.put, List.setIfInBounds_toArray, List.set_cons_zero, List.set_cons_succ]
  refine wpAnyH_take (i := 29) (v := ?_) (by (simp only [List.getElem?_toArray, List.getElem?_cons_succ, List.getElem?_cons_zero]; rfl)) (by kernel_rfl) (by kernel_rfl) (by kernel_rfl) (by intro _ _ _ h; exact h) (Or.inl ⟨by kernel_rfl, ?_⟩) hHeld ?_
  case refine_2 =>
    intro w hSw
    try dsimp only at hSw
    go_simp
    try with_reducible rfl
  try simp only [Act.put, List.setIfInBounds_toArray, List.set_cons_zero, List.set_cons_succ]
  refine wpAnyH_take (i := 30) (v := ?_) (by (simp only [List.getElem?_toArray, List.getElem?_cons_succ, List.getElem?_cons_zero]; rfl)) (by kernel_rfl) (by kernel_rfl) (by kernel_rfl) (by intro _ _ _ h; exact h) (Or.inl ⟨by kernel_rfl, ?_⟩) hHeld ?_
  case refine_2 =>
    intro w hSw
    try dsimp only at hSw
    go_simp
    try with_reducible rfl
  try simp only [Act.put, List.setIfInBounds_toArray, List.set_cons_zero, List.set_cons_succ]
  refine wpAnyH_done (by kernel_rfl) ?_ _
  go_wp2_with fail
  clear a0 a1
  refine (C2.out _ (HU.out.below HB.out) (HX.out.below HB.out)).mono ?_
  rintro e4 w4 ⟨rfl, hb⟩
  have a4 := cellB hb A0
  have a5 := cellB hb A1
  have HB4 := Lib.hid (below_up HB.out hb HB.out.size)
  clear hb A0 A1 HB
  have HX4 : Hid (Below w.heap.size w (w4.alloc (Obj.cells #[Value.int IntKind.i64 r2.1, Value.int IntKind.i64 r2.2] 32))) := Lib.hid (HB4.out.alloc HB4.out.size _)
  go_wp2_with fail
  refine (C3.out _ (HX.out.below HX4.out) (HV.out.below HX4.out)).mono ?_
  rintro e5 w5 ⟨rfl, hb⟩
  have a6 := cellB hb (cellB (below_box w4 _) a4)
  have a7 := cellB hb (cellB (below_box w4 _) a5)
  have B5 := (own2_new w4 r2.1 r2.2 _).below hb
  have HB5 := Lib.hid (below_up HX4.out hb HX4.out.size)
  clear hb a4 a5 HX4 HB4
  obtain ⟨bb, hbb⟩ : ∃ b, w4.heap.size = b := ⟨_, rfl⟩
  rw [hbb] at B5 ⊢
  clear hbb
  go_wp2_with fail
  obtain ⟨W6, hW⟩ : ∃ W6, W6 = w5.alloc (Obj.cells #[Value.int IntKind.i64 r3.1, Value.int IntKind.i64 r3.2] 32) := ⟨_, rfl⟩
  rw [← hW]
  have B6 : Own2 W6 bb r2.1 r2.2 := by rw [hW]; exact B5.alloc _
  have C6 : Own2 W6 w5.heap.size r3.1 r3.2 := by rw [hW]; exact own2_new w5 _ _ _
  have a0 : W6.cell? ⟨bl, 0, none⟩ = some (.int .i64 r1.1) := by rw [hW]; exact cellB (below_box w5 _) a6
  have a1 : W6.cell? ⟨bl, 1, none⟩ = some (.int .i64 r1.2) := by rw [hW]; exact cellB (below_box w5 _) a7
  have HB : Hid (Below w.heap.size w (W6.drewN 1)) := Lib.hid (by rw [hW]; exact dN (HB5.out.alloc HB5.out.size _) 1)
  obtain ⟨bc, hbc⟩ : ∃ b, w5.heap.size = b := ⟨_, rfl⟩
  rw [hbc] at C6 ⊢
  clear hW hbc a6 a7 B5 HB5
  have A0 : (W6.drewN 1).cell? ⟨bl, 0, none⟩ = some (.int .i64 r1.1) := a0
  have A1 : (W6.drewN 1).cell? ⟨bl, 1, none⟩ = some (.int .i64 r1.2) := a1
  have BB : Hid (Own2 (W6.drewN 1) bb r2.1 r2.2) := Lib.hid ⟨B6.c0, B6.c1, B6.f0, B6.f1⟩
  have CC : Hid (Own2 (W6.drewN 1) bc r3.1 r3.2) := Lib.hid ⟨C6.c0, C6.c1, C6.f0, C6.f1⟩
  clear B6 C6
  go_region_held3 (fun w' => w'.cell? ⟨bl, 0, none⟩ = some (.int .i64 r1.1) ∧ w'.cell? ⟨bl, 1, none⟩ = some (.int .i64 r1.2)) (go_keep)
    (first | (go_at_call 21; refine (of_law _ _ _).mono ?_; rintro e q6 ⟨rfl, hv⟩; (first | (replace A0 := cellB hv A0; replace A1 := cellB hv A1; replace BB := Lib.hid (BB.out.below hv); replace CC := Lib.hid (CC.out.below hv); replace HB := Lib.hid (below_up HB.out hv HB.out.size); try (replace SS := Lib.hid (SS.out.below hv))) | (have hne := Nat.ne_of_lt (cellLt A0); have hnb := Nat.ne_of_lt (cellLt BB.out.c0); have hnc := Nat.ne_of_lt (cellLt CC.out.c0); have hcw := HB.out.size; replace A0 := cellB hv (cellB (below_box _ _) A0); replace A1 := cellB hv (cellB (below_box _ _) A1); replace BB := Lib.hid ((BB.out.alloc _).below hv); replace CC := Lib.hid ((CC.out.alloc _).below hv); replace HB := Lib.hid (below_up (HB.out.alloc HB.out.size _) hv (by have := HB.out.size; simp <;> omega)); have SS := Lib.hid ((own2_new _ 0 0 _).below hv)) | (have hne := ne_ad A0; have hnb := ne_ad BB.out.c0; have hnc := ne_ad CC.out.c0; have hcw := HB.out.size; replace A0 := cellB hv (cell_ad A0); replace A1 := cellB hv (cell_ad A1); replace BB := Lib.hid ((own2_ad BB.out).below hv); replace CC := Lib.hid ((own2_ad CC.out).below hv); have SS := Lib.hid ((own2_nd _ 0 0 _).below hv); replace HB := Lib.hid (below_up (below_ad HB.out HB.out.size) hv (by have := HB.out.size; simp at this ⊢ <;> omega)))); clear hv) | (go_at_call 24; refine (L1.add_any 1 1 r1.1 r1.2 _).mono ?_; rw [HA1.out]; rintro e q7 ⟨rfl, hv⟩; (first | (replace A0 := cellB hv A0; replace A1 := cellB hv A1; replace BB := Lib.hid (BB.out.below hv); replace CC := Lib.hid (CC.out.below hv); replace HB := Lib.hid (below_up HB.out hv HB.out.size); try (replace SS := Lib.hid (SS.out.below hv))) | (have hne := Nat.ne_of_lt (cellLt A0); have hnb := Nat.ne_of_lt (cellLt BB.out.c0); have hnc := Nat.ne_of_lt (cellLt CC.out.c0); have hcw := HB.out.size; replace A0 := cellB hv (cellB (below_box _ _) A0); replace A1 := cellB hv (cellB (below_box _ _) A1); replace BB := Lib.hid ((BB.out.alloc _).below hv); replace CC := Lib.hid ((CC.out.alloc _).below hv); replace HB := Lib.hid (below_up (HB.out.alloc HB.out.size _) hv (by have := HB.out.size; simp <;> omega)); have SS := Lib.hid ((own2_new _ 0 0 _).below hv)) | (have hne := ne_ad A0; have hnb := ne_ad BB.out.c0; have hnc := ne_ad CC.out.c0; have hcw := HB.out.size; replace A0 := cellB hv (cell_ad A0); replace A1 := cellB hv (cell_ad A1); replace BB := Lib.hid ((own2_ad BB.out).below hv); replace CC := Lib.hid ((own2_ad CC.out).below hv); have SS := Lib.hid ((own2_nd _ 0 0 _).below hv); replace HB := Lib.hid (below_up (below_ad HB.out HB.out.size) hv (by have := HB.out.size; simp at this ⊢ <;> omega)))); clear hv; try (have s0 := SS.out.c0; have s1 := SS.out.c1; have s2 := SS.out.f0; have s3 := SS.out.f1; have t0 := cell_two hne A0; have t1 := cell_two hne A1); have u0 := (fun o => cellB (below_box q7 o) A0); have u1 := (fun o => cellB (below_box q7 o) A1); have u2 := (fun o x y => cell_two (Nat.ne_of_lt (cellLt A0)) (cellB (below_box q7 o) A0) x y); have u3 := (fun o x y => cell_two (Nat.ne_of_lt (cellLt A1)) (cellB (below_box q7 o) A1) x y); have u4 := Nat.ne_of_lt (cellLt A0)))
  all_goals
    first
      | (have B9 := own2_other BB.out hnb (.int .i64 sn) (.int .i64 sd); have C9 := own2_other CC.out hnc (.int .i64 sn) (.int .i64 sd); have S9 := own2_store SS.out sn sd; have HB9 : Hid (Below w.heap.size w _) := Lib.hid (below_two (u := .int .i64 sn) (v := .int .i64 sd) HB.out hcw))
      | (have B9 := BB.out.alloc (Obj.cells #[Value.int IntKind.i64 sn, Value.int IntKind.i64 sd] 32); have C9 := CC.out.alloc (Obj.cells #[Value.int IntKind.i64 sn, Value.int IntKind.i64 sd] 32); have S9 := own2_new q7 sn sd 32; have HB9 := Lib.hid (HB.out.alloc HB.out.size (Obj.cells #[Value.int IntKind.i64 sn, Value.int IntKind.i64 sd] 32)))
    have b0 := B9.c0
    have b1 := B9.c1
    have c0 := C9.c0
    have c1 := C9.c1
    go_wp2_with fail
    refine (L1.add_any r2.1 r2.2 r3.1 r3.2 _).mono ?_
    rw [HA2.out]
    rintro e10 w10 ⟨rfl, hb⟩
    have S10 := S9.below hb
    have HB10 := Lib.hid (below_up HB9.out hb HB9.out.size)
    have z0 := fun o => (S10.alloc o).c0
    have z1 := fun o => (S10.alloc o).c1
    clear b0 b1 c0 c1 B9 C9 S9 HB9 hb
    go_wp2_with fail
    refine (L1.cmp_any sn sd tn td _).mono ?_
    rw [HC.out]
    rintro e11 w11 ⟨rfl, hb⟩
    have HB11 := Lib.hid (below_up (HB10.out.alloc HB10.out.size _) hb (by have := HB10.out.size; simp <;> omega))
    clear hb z0 z1 S10
    go_wp2_with fail
    go_ret
    exact ⟨rfl, HB11.out⟩

theorem sets_any (l m n : List (List UInt8)) (u v x : Value) (w : World) (hu : Strs w u l) (hv : Strs w v m) (hx : Strs w x n) :
    Calls Tryz.prog 4 #[u, v, x] w fun e w' => e = .returned (.bool true) ∧ Below w.heap.size w w' := by
  cases h : fewB [l, m, n] with
  | false => exact sets_l l m n u v x h w hu hv hx
  | true =>
    have e := few_each h
    obtain ⟨bl, el⟩ := e l (by simp)
    obtain ⟨bm, em⟩ := e m (by simp)
    obtain ⟨bn, en⟩ := e n (by simp)
    replace el := fun x hx => Nat.le_trans (el x hx) (show 100 ≤ 2000 by decide)
    replace em := fun x hx => Nat.le_trans (em x hx) (show 100 ≤ 2000 by decide)
    replace en := fun x hx => Nat.le_trans (en x hx) (show 100 ≤ 2000 by decide)
    have g1 := sets_one l m (by omega)
    have g0 := sets_zero l m (by omega)
    obtain ⟨sn, sd, tn, td, hs, ht, hc⟩ := sets_math l m n bl bm bn
    have hz : decide ((0 : Int) < (m.length : Int)) = decide (0 < m.length) := by
      rw [Bool.eq_iff_iff]
      simp
    cases hw : withinB l m with
    | true =>
      cases ha : apartB l m with
      | false => exact sets_w_no l m n u v x _ _ _ sn sd tn td _ (withinB m l) (Lib.hid h) bl bm bn el em en (Lib.hid rfl) (Lib.hid rfl) (Lib.hid rfl) (Lib.hid hw) (Lib.hid rfl) (Lib.hid ha) (by rw [g1, hw]; rfl) (by rw [g0, ha]; rfl) (Lib.hid hs) (Lib.hid ht) (Lib.hid rfl) (by omega) w hu hv hx
      | true =>
        by_cases hp : 0 < l.length
        · exact sets_w_l l m n u v x _ _ _ sn sd tn td _ (withinB m l) (Lib.hid h) bl bm bn el em en (Lib.hid rfl) (Lib.hid rfl) (Lib.hid rfl) (Lib.hid hw) (Lib.hid rfl) (Lib.hid ha) (by rw [g1, hw]; rfl) (by rw [g0, ha, decide_eq_true hp]; rfl) (decide_eq_true hp) (Lib.hid hs) (Lib.hid ht) (Lib.hid rfl) (by omega) w hu hv hx
        · exact sets_w_m l m n u v x _ _ _ sn sd tn td _ (withinB m l) (Lib.hid h) bl bm bn el em en (Lib.hid rfl) (Lib.hid rfl) (Lib.hid rfl) (Lib.hid hw) (Lib.hid rfl) (Lib.hid ha) (by rw [g1, hw]; rfl) (by rw [g0, ha, decide_eq_false hp, hz]; rfl) (decide_eq_false hp) (Lib.hid hs) (Lib.hid ht) (Lib.hid rfl) (by omega) w hu hv hx
    | false =>
      cases ha : apartB l m with
      | false => exact sets_x_no l m n u v x _ _ _ sn sd tn td _ (Lib.hid h) bl bm bn el em en (Lib.hid rfl) (Lib.hid rfl) (Lib.hid rfl) (Lib.hid hw) (Lib.hid ha) (by rw [g1, hw]; rfl) (by rw [g0, ha]; rfl) (Lib.hid hs) (Lib.hid ht) (Lib.hid rfl) (by omega) w hu hv hx
      | true =>
        by_cases hp : 0 < l.length
        · exact sets_x_l l m n u v x _ _ _ sn sd tn td _ (Lib.hid h) bl bm bn el em en (Lib.hid rfl) (Lib.hid rfl) (Lib.hid rfl) (Lib.hid hw) (Lib.hid ha) (by rw [g1, hw]; rfl) (by rw [g0, ha, decide_eq_true hp]; rfl) (decide_eq_true hp) (Lib.hid hs) (Lib.hid ht) (Lib.hid rfl) (by omega) w hu hv hx
        · exact sets_x_m l m n u v x _ _ _ sn sd tn td _ (Lib.hid h) bl bm bn el em en (Lib.hid rfl) (Lib.hid rfl) (Lib.hid rfl) (Lib.hid hw) (Lib.hid ha) (by rw [g1, hw]; rfl) (by rw [g0, ha, decide_eq_false hp, hz]; rfl) (decide_eq_false hp) (Lib.hid hs) (Lib.hid ht) (Lib.hid rfl) (by omega) w hu hv hx
end Go.Proofs.YtendkghifcjffaaGreatDoor
