/- The contracts of refuseAdd, refuseDrop, refuseRename and refuseCast. -/
import Derived.Test.YteokcgfbhaeklaaGreatDoorPFit
import Derived.Test.YteokcgfbhaeklaaGreatDoorPFind
namespace Go.Proofs.YteokcgfbhaeklaaGreatDoor
open Go.RowKit

theorem name_same (t : Txt) (r : Bool) (hr : nameB t = r) (w : World) : Calls Tryz.prog 68 #[str t] w fun e w' => e = .returned (.bool r) ∧ w = w' :=
  (isName_any t w).mono fun e w' h => ⟨by rw [h.1, hr], h.2⟩
theorem refT_add {t : TabT} {col : Int} {c : ChgT} (hk : c.kind = 1) : refT t col c = (if nameB c.name = false ∨ typedB c.to c.dft = false then 1 else if 0 ≤ colT t.attrs c.name then 9 else if 12 ≤ t.attrs.length then 3 else 0) := if_pos hk
theorem refT_drop {t : TabT} {col : Int} {c : ChgT} (hk : c.kind = 2) : refT t col c = (if col ∈ t.key then 1 else 0) := by unfold refT; rw [if_neg (by omega), if_pos hk]
theorem refT_rename {t : TabT} {col : Int} {c : ChgT} (hk : c.kind = 3) : refT t col c = (if nameB c.name = false then 1 else if 0 ≤ colT t.attrs c.name then 9 else 0) := by unfold refT; rw [if_neg (by omega), if_neg (by omega), if_pos hk]
theorem refT_cast {t : TabT} {col : Int} {c : ChgT} (hk : c.kind = 4) : refT t col c = (if typedB c.to c.dft = false ∨ (t.attrs[col.toNat]?).map AttrT.kind = some c.to then 1 else 0) := by unfold refT; rw [if_neg (by omega), if_neg (by omega), if_neg (by omega)]

theorem boxes_tc (w : World) (a b : Obj) : Below w.heap.size w ((w.alloc a).alloc b) := (below_box w _).alloc (by simp) _
set_option maxHeartbeats 4000000 in
theorem refuseDrop_any (t : TabT) (col : Int) (c : ChgT) (va vk : Value) (hk : c.kind = 2) (hkl : t.key.length ≤ 4000) (w : World) (hi : Ints w vk t.key) :
    Calls Tryz.prog 82 #[.agg #[str t.name, va, vk], .int .i64 col, Cv c] w (IntPost w (refT t col c)) := by
  rw [refT_drop hk]
  have HI := Lib.hid hi
  have C := Lib.hid (fun W (hW : Below w.heap.size w W) => containsI_any t.key col vk hkl W (HI.out.below hW))
  clear hi hk
  by_cases hm : col ∈ t.key
  · rw [if_pos hm]
    have HD := Lib.hid (decide_eq_true hm)
    clear hm
    go_enter Tryz.func82, Tryz.ntmps82
    go_wp2_with fail
    refine (C.out _ (boxes_tc w _ _)).mono ?_
    rw [HD.out]
    rintro e w1 ⟨rfl, rfl⟩
    go_wp2_with fail
    go_ret
    exact ⟨rfl, boxes_tc w _ _⟩
  · rw [if_neg hm]
    have HD := Lib.hid (decide_eq_false hm)
    clear hm
    go_enter Tryz.func82, Tryz.ntmps82
    go_wp2_with fail
    refine (C.out _ (boxes_tc w _ _)).mono ?_
    rw [HD.out]
    rintro e w1 ⟨rfl, rfl⟩
    go_wp2_with fail
    go_ret
    exact ⟨rfl, boxes_tc w _ _⟩

set_option maxHeartbeats 4000000 in
theorem refuseRename_any (t : TabT) (col : Int) (c : ChgT) (va vk : Value) (hk : c.kind = 3) (hl : t.attrs.length ≤ 4000) (hw : ∀ a ∈ t.attrs, a.was.length ≤ 4000) (w : World) (ha : Attrs w va t.attrs) :
    Calls Tryz.prog 86 #[.agg #[str t.name, va, vk], .int .i64 col, Cv c] w (IntPost w (refT t col c)) := by
  rw [refT_rename hk]
  have HA := Lib.hid ha
  obtain ⟨n, hn⟩ : ∃ n, t.name = n := ⟨_, rfl⟩
  rw [hn]
  obtain ⟨x, hx⟩ : ∃ x, colT t.attrs c.name = x := ⟨_, rfl⟩
  have C := Lib.hid (fun W (hW : Below w.heap.size w W) => (column_any n t.attrs va vk c.name hl hw W (HA.out.below hW)))
  rw [hx] at C ⊢
  clear ha hk hw hn hx
  obtain ⟨r, hr⟩ : ∃ r, nameB c.name = r := ⟨_, rfl⟩
  have D := Lib.hid (fun W => name_same c.name r hr W)
  rw [hr]
  clear hr
  cases r
  · rw [if_pos rfl]
    go_enter Tryz.func86, Tryz.ntmps86
    go_wp2_with fail
    refine (D.out _).mono ?_
    rintro e w1 ⟨rfl, rfl⟩
    go_wp2_with fail
    go_ret
    exact ⟨rfl, boxes_tc w _ _⟩
  · rw [if_neg (by simp)]
    by_cases h0 : 0 ≤ x
    · rw [if_pos h0]
      go_enter Tryz.func86, Tryz.ntmps86
      go_wp2_with fail
      refine (D.out _).mono ?_
      rintro e w1 ⟨rfl, rfl⟩
      go_wp2_with fail
      refine (C.out _ (boxes_tc w _ _)).mono ?_
      rintro e w2 ⟨rfl, hb⟩
      have HB := Lib.hid (below_up (boxes_tc w _ _) hb (by simp; omega))
      clear hb
      go_wp2_with fail
      go_ret
      exact ⟨rfl, HB.out⟩
    · rw [if_neg h0]
      go_enter Tryz.func86, Tryz.ntmps86
      go_wp2_with fail
      refine (D.out _).mono ?_
      rintro e w1 ⟨rfl, rfl⟩
      go_wp2_with fail
      refine (C.out _ (boxes_tc w _ _)).mono ?_
      rintro e w2 ⟨rfl, hb⟩
      have HB := Lib.hid (below_up (boxes_tc w _ _) hb (by simp; omega))
      clear hb
      go_wp2_with fail
      go_ret
      exact ⟨rfl, HB.out⟩

set_option maxHeartbeats 4000000 in
theorem refuseAdd_any (t : TabT) (col : Int) (c : ChgT) (va vk : Value) (hk : c.kind = 1) (hl : t.attrs.length ≤ 4000) (hw : ∀ a ∈ t.attrs, a.was.length ≤ 4000) (w : World) (ha : Attrs w va t.attrs) :
    Calls Tryz.prog 78 #[.agg #[str t.name, va, vk], .int .i64 col, Cv c] w (IntPost w (refT t col c)) := by
  rw [refT_add hk]
  obtain ⟨A, cap, rfl, hcap⟩ := ha.form
  have HA := Lib.hid ha
  obtain ⟨n, hn⟩ : ∃ n, t.name = n := ⟨_, rfl⟩
  rw [hn]
  obtain ⟨x, hx⟩ : ∃ x, colT t.attrs c.name = x := ⟨_, rfl⟩
  have C := Lib.hid (fun W (hW : Below w.heap.size w W) => (column_any n t.attrs (.slice A t.attrs.length cap) vk c.name hl hw W (HA.out.below hW)))
  rw [hx] at C ⊢
  clear ha hk hw hn hx
  obtain ⟨r, hr⟩ : ∃ r, nameB c.name = r := ⟨_, rfl⟩
  have D := Lib.hid (fun W => name_same c.name r hr W)
  rw [hr]
  clear hr
  cases r
  · rw [if_pos (Or.inl rfl)]
    go_enter Tryz.func78, Tryz.ntmps78
    go_wp2_with fail
    refine (D.out _).mono ?_
    rintro e w1 ⟨rfl, rfl⟩
    go_wp2_with fail
    go_ret
    exact ⟨rfl, boxes_tc w _ _⟩
  · obtain ⟨q, hq⟩ : ∃ q, typedB c.to c.dft = q := ⟨_, rfl⟩
    have E := fun W => typed_any c.to c.dft W
    rw [hq] at E ⊢
    replace E := Lib.hid E
    clear hq
    cases q
    · rw [if_pos (Or.inr rfl)]
      go_enter Tryz.func78, Tryz.ntmps78
      go_wp2_with fail
      refine (D.out _).mono ?_
      rintro e w1 ⟨rfl, rfl⟩
      go_wp2_with fail
      refine (E.out _).mono ?_
      rintro e w2 ⟨rfl, hb⟩
      have HB := Lib.hid (below_up (boxes_tc w _ _) hb (by simp; omega))
      clear hb
      go_wp2_with fail
      go_ret
      exact ⟨rfl, HB.out⟩
    · rw [if_neg (by simp)]
      obtain ⟨res, hres⟩ : ∃ r : Int, (if 0 ≤ x then 9 else if 12 ≤ t.attrs.length then 3 else 0) = r := ⟨_, rfl⟩
      rw [hres]
      have HR := Lib.hid hres
      clear hres
      go_enter Tryz.func78, Tryz.ntmps78
      go_wp2_with fail
      refine (D.out _).mono ?_
      rintro e w1 ⟨rfl, rfl⟩
      go_wp2_with fail
      refine (E.out _).mono ?_
      rintro e w2 ⟨rfl, hb⟩
      have HB := Lib.hid (below_up (boxes_tc w _ _) hb (by simp; omega))
      have t0 : w2.cell? ⟨w.heap.size, 0, none⟩ = some (str n) := cellB hb (by simp [go_sem])
      have t1 : w2.cell? ⟨w.heap.size, 1, none⟩ = some (.slice A t.attrs.length cap) := cellB hb (by simp [go_sem])
      have t2 : w2.cell? ⟨w.heap.size, 2, none⟩ = some vk := cellB hb (by simp [go_sem])
      have t3 : w2.cell? ⟨w.heap.size + 1, 3, none⟩ = some (str c.name) := cellB hb (by simp [go_sem])
      clear hb D E
      go_wp2_with fail
      refine (C.out _ HB.out).mono ?_
      rintro e w3 ⟨rfl, hb⟩
      have HB3 := Lib.hid (below_up HB.out hb HB.out.size)
      have u1 := cellB hb t1
      clear hb C t0 t1 t2 t3
      by_cases h0 : 0 ≤ x
      · have HE := Lib.hid (show res = 9 by have := HR.out; rw [if_pos h0] at this; exact this.symm)
        go_wp2_with fail
        go_ret
        exact ⟨ret_int HE.out.symm, HB3.out⟩
      · by_cases h12 : 12 ≤ t.attrs.length
        · have HE := Lib.hid (show res = 3 by have := HR.out; rw [if_neg h0, if_pos h12] at this; exact this.symm)
          go_wp2_with fail
          go_ret
          exact ⟨ret_int HE.out.symm, HB3.out⟩
        · have HE := Lib.hid (show res = 0 by have := HR.out; rw [if_neg h0, if_neg h12] at this; exact this.symm)
          go_wp2_with fail
          go_ret
          exact ⟨ret_int HE.out.symm, HB3.out⟩

set_option maxRecDepth 100000 in
set_option maxHeartbeats 4000000 in
theorem refuseCast_any (t : TabT) (col : Nat) (c : ChgT) (va vk : Value) (hk : c.kind = 4) (hcol : col < t.attrs.length) (hl : t.attrs.length ≤ 4000) (w : World) (ha : Attrs w va t.attrs) :
    Calls Tryz.prog 90 #[.agg #[str t.name, va, vk], .int .i64 (col : Int), Cv c] w (IntPost w (refT t (col : Int) c)) := by
  rw [refT_cast hk]
  obtain ⟨A, cap, rfl, hcap⟩ := ha.form
  obtain ⟨_, _, b, off, rfl, hcell⟩ := Slc.spot ha (by omega)
  obtain ⟨a, hx⟩ : ∃ a, t.attrs[col] = a := ⟨_, rfl⟩
  have hk1 := hcell col hcol
  rw [hx] at hk1
  obtain ⟨wv, hat, _⟩ := hk1
  have c1 := hat.c1
  have e1 : (t.attrs[(col : Int).toNat]?).map AttrT.kind = some a.kind := by simp [hcol, hx]
  rw [e1]
  obtain ⟨n, hn⟩ : ∃ n, t.name = n := ⟨_, rfl⟩
  rw [hn]
  obtain ⟨q, hq⟩ : ∃ q, typedB c.to c.dft = q := ⟨_, rfl⟩
  have E := fun W => typed_any c.to c.dft W
  rw [hq] at E ⊢
  replace E := Lib.hid E
  have i1 : (0 : Int) ≤ (col : Int) := by omega
  have i2 : (col : Int) < (t.attrs.length : Int) := by omega
  clear hq hx hcell hat ha e1 hn hk
  obtain ⟨W, hW⟩ : ∃ W, (w.alloc (.cells #[str n, .slice (some ⟨b, off, none⟩) t.attrs.length cap, vk] 44)).alloc (.cells #[.int .i64 c.kind, str c.table, str c.attr, str c.name, .int .i64 c.to, .int .i64 c.dft.1, .int .i64 c.dft.2.1, str c.dft.2.2] 28) = W := ⟨_, rfl⟩
  have HW := Lib.hid hW
  have d1 : W.cell? ⟨b, off + col * 6 + 1, none⟩ = some (.int .i64 a.kind) := by rw [← hW]; exact Cell.alloc (Cell.alloc c1 _) _
  have t1 : W.cell? ⟨w.heap.size, 1, none⟩ = some (.slice (some ⟨b, off, none⟩) t.attrs.length cap) := by rw [← hW]; simp [go_sem]
  have k4 : W.cell? ⟨w.heap.size + 1, 4, none⟩ = some (.int .i64 c.to) := by rw [← hW]; simp [go_sem]
  have k5 : W.cell? ⟨w.heap.size + 1, 5, none⟩ = some (.int .i64 c.dft.1) := by rw [← hW]; simp [go_sem]
  have k6 : W.cell? ⟨w.heap.size + 1, 6, none⟩ = some (.int .i64 c.dft.2.1) := by rw [← hW]; simp [go_sem]
  have k7 : W.cell? ⟨w.heap.size + 1, 7, none⟩ = some (str c.dft.2.2) := by rw [← hW]; simp [go_sem]
  have HB : Hid (Below w.heap.size w W) := Lib.hid (by rw [← hW]; exact boxes_tc w _ _)
  clear hW c1
  cases q
  · rw [if_pos (Or.inl rfl)]
    go_enter Tryz.func90, Tryz.ntmps90
    go_wp2_with fail
    rw [HW.out]
    -- by hand
    refine wp_region_held_drew (S := (fun w' => w'.cell? ⟨w.heap.size + 1, 4, none⟩ = some (.int .i64 c.to) ∧ w'.cell? ⟨w.heap.size + 1, 5, none⟩ = some (.int .i64 c.dft.1) ∧ w'.cell? ⟨w.heap.size + 1, 6, none⟩ = some (.int .i64 c.dft.2.1) ∧ w'.cell? ⟨w.heap.size + 1, 7, none⟩ = some (str c.dft.2.2))) (by kernel_rfl) ?_ (fun hHeld => ?_)
    · try dsimp only
      go_keep
    refine wpAnyH_take (i := 0) (v := ?_) (by (simp only [List.getElem?_toArray, List.getElem?_cons_zero]; rfl)) (by kernel_rfl) (by kernel_rfl) (by kernel_rfl) (by intro _ _ _ h; exact h) (Or.inl ⟨by kernel_rfl, ?_⟩) hHeld ?_
    case refine_2 =>
      intro w hSw
      try dsimp only at hSw
      go_simp
      try with_reducible rfl
    try simp only [Act.put, List.setIfInBounds_toArray, List.set_cons_zero, List.set_cons_succ]
    refine wpAnyH_take (i := 1) (v := ?_) (by (simp only [List.getElem?_toArray, List.getElem?_cons_succ, List.getElem?_cons_zero]; rfl)) (by kernel_rfl) (by kernel_rfl) (by kernel_rfl) (by intro _ _ _ h; exact h) (Or.inl ⟨by kernel_rfl, ?_⟩) hHeld ?_
    case refine_2 =>
      intro w hSw
      try dsimp only at hSw
      go_simp
      try with_reducible rfl
    try simp only [Act.put, List.setIfInBounds_toArray, List.set_cons_zero, List.set_cons_succ]
    refine wpAnyH_take (i := 2) (v := ?_) (by (simp only [List.getElem?_toArray, List.getElem?_cons_succ, List.getElem?_cons_zero]; rfl)) (by kernel_rfl) (by kernel_rfl) (by kernel_rfl) (by intro _ _ _ h; exact h) (Or.inl ⟨by kernel_rfl, ?_⟩) hHeld ?_
    case refine_2 =>
      intro w hSw
      try dsimp only at hSw
      go_simp
      try with_reducible rfl
    try simp only [Act.put, List.setIfInBounds_toArray, List.set_cons_zero, List.set_cons_succ]
    refine wpAnyH_take (i := 3) (v := ?_) (by (simp only [List.getElem?_toArray, List.getElem?_cons_succ, List.getElem?_cons_zero]; rfl)) (by kernel_rfl) (by kernel_rfl) (by kernel_rfl) (by intro _ _ _ h; exact h) (Or.inl ⟨by kernel_rfl, ?_⟩) hHeld ?_
    case refine_2 =>
      intro w hSw
      try dsimp only at hSw
      go_simp
      try with_reducible rfl
    try simp only [Act.put, List.setIfInBounds_toArray, List.set_cons_zero, List.set_cons_succ]
    refine wpAnyH_ready (rs := [4]) (by kernel_rfl) (by simp) ?_
    refine AllReadyH.cons (by (simp only [List.getElem?_toArray, List.getElem?_cons_succ, List.getElem?_cons_zero]; rfl)) (fun K hK => ?_) AllReadyH.nil
    go_simp
    refine (E.out _).mono ?_
    rintro e w2 ⟨rfl, hb⟩
    have hb1 := (below_drewN W.heap.size W 1).trans hb
    have g1 := Lib.hid hb1
    have p4 := cellB hb1 k4
    have p5 := cellB hb1 k5
    have p6 := cellB hb1 k6
    have p7 := cellB hb1 k7
    clear hb hb1
    try go_wp2_with fail
    clear hHeld
    refine hK.out _ _ ?_ (fun hHeld => ?_)
    · try dsimp only
      go_keep
    clear hK K
    try simp only [Act.put, List.setIfInBounds_toArray, List.set_cons_zero, List.set_cons_succ]
    refine wpAnyH_take (i := 5) (v := ?_) (by (simp only [List.getElem?_toArray, List.getElem?_cons_succ, List.getElem?_cons_zero]; rfl)) (by kernel_rfl) (by kernel_rfl) (by kernel_rfl) (by intro _ _ _ h; exact h) (Or.inl ⟨by kernel_rfl, ?_⟩) hHeld ?_
    case refine_2 =>
      intro w hSw
      try dsimp only at hSw
      go_simp
      try with_reducible rfl
    try simp only [Act.put, List.setIfInBounds_toArray, List.set_cons_zero, List.set_cons_succ]
    refine wpAnyH_take (i := 6) (v := ?_) (by (simp only [List.getElem?_toArray, List.getElem?_cons_succ, List.getElem?_cons_zero]; rfl)) (by kernel_rfl) (by kernel_rfl) (by kernel_rfl) (by intro _ _ _ h; exact h) (Or.inl ⟨by kernel_rfl, ?_⟩) hHeld ?_
    case refine_2 =>
      intro w hSw
      try dsimp only at hSw
      go_simp
      try with_reducible rfl
    try simp only [Act.put, List.setIfInBounds_toArray, List.set_cons_zero, List.set_cons_succ]
    refine wpAnyH_take (i := 7) (v := undef) (by (simp only [List.getElem?_toArray, List.getElem?_cons_succ, List.getElem?_cons_zero]; rfl)) (by kernel_rfl) (by kernel_rfl) (by kernel_rfl) (by intro _ _ _ h; exact h) (Or.inr ⟨by kernel_rfl, rfl⟩) hHeld ?_
    try simp only [Act.put, List.setIfInBounds_toArray, List.set_cons_zero, List.set_cons_succ]
    refine wpAnyH_take (i := 8) (v := undef) (by (simp only [List.getElem?_toArray, List.getElem?_cons_succ, List.getElem?_cons_zero]; rfl)) (by kernel_rfl) (by kernel_rfl) (by kernel_rfl) (by intro _ _ _ h; exact h) (Or.inr ⟨by kernel_rfl, rfl⟩) hHeld ?_
    try simp only [Act.put, List.setIfInBounds_toArray, List.set_cons_zero, List.set_cons_succ]
    refine wpAnyH_take (i := 9) (v := undef) (by (simp only [List.getElem?_toArray, List.getElem?_cons_succ, List.getElem?_cons_zero]; rfl)) (by kernel_rfl) (by kernel_rfl) (by kernel_rfl) (by intro _ _ _ h; exact h) (Or.inr ⟨by kernel_rfl, rfl⟩) hHeld ?_
    try simp only [Act.put, List.setIfInBounds_toArray, List.set_cons_zero, List.set_cons_succ]
    refine wpAnyH_take (i := 10) (v := undef) (by (simp only [List.getElem?_toArray, List.getElem?_cons_succ, List.getElem?_cons_zero]; rfl)) (by kernel_rfl) (by kernel_rfl) (by kernel_rfl) (by intro _ _ _ h; exact h) (Or.inr ⟨by kernel_rfl, rfl⟩) hHeld ?_
    try simp only [Act.put, List.setIfInBounds_toArray, List.set_cons_zero, List.set_cons_succ]
    refine wpAnyH_take (i := 11) (v := undef) (by (simp only [List.getElem?_toArray, List.getElem?_cons_succ, List.getElem?_cons_zero]; rfl)) (by kernel_rfl) (by kernel_rfl) (by kernel_rfl) (by intro _ _ _ h; exact h) (Or.inr ⟨by kernel_rfl, rfl⟩) hHeld ?_
    try simp only [Act.put, List.setIfInBounds_toArray, List.set_cons_zero, List.set_cons_succ]
    refine wpAnyH_take (i := 12) (v := undef) (by (simp only [List.getElem?_toArray, List.getElem?_cons_succ, List.getElem?_cons_zero]; rfl)) (by kernel_rfl) (by kernel_rfl) (by kernel_rfl) (by intro _ _ _ h; exact h) (Or.inr ⟨by kernel_rfl, rfl⟩) hHeld ?_
    try simp only [Act.put, List.setIfInBounds_toArray, List.set_cons_zero, List.set_cons_succ]
    refine wpAnyH_take (i := 13) (v := undef) (by (simp only [List.getElem?_toArray, List.getElem?_cons_succ, List.getElem?_cons_zero]; rfl)) (by kernel_rfl) (by kernel_rfl) (by kernel_rfl) (by intro _ _ _ h; exact h) (Or.inr ⟨by kernel_rfl, rfl⟩) hHeld ?_
    try simp only [Act.put, List.setIfInBounds_toArray, List.set_cons_zero, List.set_cons_succ]
    refine wpAnyH_take (i := 14) (v := undef) (by (simp only [List.getElem?_toArray, List.getElem?_cons_succ, List.getElem?_cons_zero]; rfl)) (by kernel_rfl) (by kernel_rfl) (by kernel_rfl) (by intro _ _ _ h; exact h) (Or.inr ⟨by kernel_rfl, rfl⟩) hHeld ?_
    try simp only [Act.put, List.setIfInBounds_toArray, List.set_cons_zero, List.set_cons_succ]
    refine wpAnyH_take (i := 15) (v := undef) (by (simp only [List.getElem?_toArray, List.getElem?_cons_succ, List.getElem?_cons_zero]; rfl)) (by kernel_rfl) (by kernel_rfl) (by kernel_rfl) (by intro _ _ _ h; exact h) (Or.inr ⟨by kernel_rfl, rfl⟩) hHeld ?_
    try simp only [Act.put, List.setIfInBounds_toArray, List.set_cons_zero, List.set_cons_succ]
    refine wpAnyH_take (i := 16) (v := ?_) (by (simp only [List.getElem?_toArray, List.getElem?_cons_succ, List.getElem?_cons_zero]; rfl)) (by kernel_rfl) (by kernel_rfl) (by kernel_rfl) (by intro _ _ _ h; exact h) (Or.inl ⟨by kernel_rfl, ?_⟩) hHeld ?_
    case refine_2 =>
      intro w hSw
      try dsimp only at hSw
      go_simp
      try with_reducible rfl
    try simp only [Act.put, List.setIfInBounds_toArray, List.set_cons_zero, List.set_cons_succ]
    refine wpAnyH_done (by kernel_rfl) ?_ _
    go_wp2_with fail
    go_ret
    exact ⟨rfl, HB.out.trans (g1.out.mono HB.out.size)⟩
  · by_cases hke : a.kind = c.to
    · rw [if_pos (Or.inr (by rw [hke]))]
      have eb : (c.to == a.kind) = true := by simp [hke]
      clear hke
      go_enter Tryz.func90, Tryz.ntmps90
      go_wp2_with fail
      rw [HW.out]
      go_region_held3 (fun w' => w'.cell? ⟨b, off + col * 6 + 1, none⟩ = some (.int .i64 a.kind) ∧ w'.cell? ⟨w.heap.size, 1, none⟩ = some (.slice (some ⟨b, off, none⟩) t.attrs.length cap) ∧ w'.cell? ⟨w.heap.size + 1, 4, none⟩ = some (.int .i64 c.to) ∧ w'.cell? ⟨w.heap.size + 1, 5, none⟩ = some (.int .i64 c.dft.1) ∧ w'.cell? ⟨w.heap.size + 1, 6, none⟩ = some (.int .i64 c.dft.2.1) ∧ w'.cell? ⟨w.heap.size + 1, 7, none⟩ = some (str c.dft.2.2)) (go_keep)
        (first | (go_at_call 65; refine (E.out _).mono ?_; rintro e w2 ⟨rfl, hb⟩; have hb1 := (below_drewN W.heap.size W 1).trans hb; have g1 := Lib.hid hb1; have p0 := cellB hb1 d1; have p1 := cellB hb1 t1; have p4 := cellB hb1 k4; have p5 := cellB hb1 k5; have p6 := cellB hb1 k6; have p7 := cellB hb1 k7; clear hb hb1))
      go_wp2_with fail
      go_ret
      exact ⟨rfl, HB.out.trans (g1.out.mono HB.out.size)⟩
    · rw [if_neg (by simp; exact hke)]
      have eb : (c.to == a.kind) = false := by simp; exact fun h => hke h.symm
      clear hke
      go_enter Tryz.func90, Tryz.ntmps90
      go_wp2_with fail
      rw [HW.out]
      go_region_held3 (fun w' => w'.cell? ⟨b, off + col * 6 + 1, none⟩ = some (.int .i64 a.kind) ∧ w'.cell? ⟨w.heap.size, 1, none⟩ = some (.slice (some ⟨b, off, none⟩) t.attrs.length cap) ∧ w'.cell? ⟨w.heap.size + 1, 4, none⟩ = some (.int .i64 c.to) ∧ w'.cell? ⟨w.heap.size + 1, 5, none⟩ = some (.int .i64 c.dft.1) ∧ w'.cell? ⟨w.heap.size + 1, 6, none⟩ = some (.int .i64 c.dft.2.1) ∧ w'.cell? ⟨w.heap.size + 1, 7, none⟩ = some (str c.dft.2.2)) (go_keep)
        (first | (go_at_call 65; refine (E.out _).mono ?_; rintro e w2 ⟨rfl, hb⟩; have hb1 := (below_drewN W.heap.size W 1).trans hb; have g1 := Lib.hid hb1; have p0 := cellB hb1 d1; have p1 := cellB hb1 t1; have p4 := cellB hb1 k4; have p5 := cellB hb1 k5; have p6 := cellB hb1 k6; have p7 := cellB hb1 k7; clear hb hb1))
      go_wp2_with fail
      go_ret
      exact ⟨rfl, HB.out.trans (g1.out.mono HB.out.size)⟩
end Go.Proofs.YteokcgfbhaeklaaGreatDoor
