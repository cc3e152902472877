/- The walks of ValueCasts. -/
import Derived.Test.YtdoenjkebeidlaaDoorOrderW
namespace Go.Proofs.YtdoenjkebeidlaaDoor
open Go.RowKit

theorem castT_cases (l : List UInt8) (kind : Int) : castT l kind = (0, 0, [], 15) ∨ ∃ n t, castT l kind = (kind, n, t, 0) ∧ vldB kind n t = true ∧ txt kind n t = l := by
  unfold castT
  by_cases h : (parse l).2.2.2 = 0 ∧ (parse l).1 = kind
  · rw [if_pos h]
    rcases parse_cases l with ⟨e, _⟩ | ⟨k, n, t, e, hv, ht⟩
    · rw [e] at h; exact absurd h.1 (by decide)
    · rw [e] at h ⊢
      obtain rfl : k = kind := h.2
      exact Or.inr ⟨n, t, rfl, hv, ht⟩
  · rw [if_neg h]; exact Or.inl rfl
theorem castT_txt {k n : Int} {t : List UInt8} (hv : vldB k n t = true) : castT (txt k n t) k = (k, n, t, 0) := by
  unfold castT
  rw [parse_txt hv, if_pos ⟨rfl, rfl⟩]
theorem castN_cases (n kind : Int) : castN n kind = (0, 0, [], 15) ∨ (castN n kind = (kind, n, [], 0) ∧ vldB kind n [] = true) := by
  unfold castN
  cases h : vldB kind n []
  · rw [if_neg (by decide)]; exact Or.inl rfl
  · rw [if_pos rfl]; exact Or.inr ⟨rfl, rfl⟩
theorem cast_good (k n : Int) (t : List UInt8) (kind : Int) (hv : vldB k n t = true) (h1 : 1 ≤ kind) (h4 : kind ≤ 4) (h0 : k ≠ 0) :
    (∃ e, cast k n t kind = (0, 0, [], e) ∧ e ≠ 0 ∧ e ≠ 1) ∨ ∃ xn xt, cast k n t kind = (kind, xn, xt, 0) ∧ vldB kind xn xt = true := by
  unfold cast
  rw [if_neg (by rw [hv]; simp; omega)]
  by_cases c2 : k = 0 ∨ k = kind
  · rw [if_pos c2]
    have hk : k = kind := by omega
    subst hk
    exact Or.inr ⟨n, t, rfl, hv⟩
  · rw [if_neg c2]
    by_cases c3 : kind = 1
    · subst c3
      rw [if_pos rfl]
      refine Or.inr ⟨0, txt k n t, rfl, vldB_mk (Or.inr (Or.inl ⟨rfl, rfl, ?_⟩))⟩
      have hb := vld_bound hv
      have hi := Lib.itoa_length_le n (by omega) (by omega)
      rcases vld_cases hv with rfl | rfl | rfl | rfl | rfl
      · rw [txt_null hv]; simp
      · exact absurd (Or.inr rfl) c2
      · rw [txt_num hv]; omega
      · rw [txt_day hv]; simp; omega
      · rw [txt_flag hv]; split <;> simp
    · rw [if_neg c3]
      by_cases c4 : k = 1
      · rw [if_pos c4]
        rcases castT_cases t kind with e | ⟨xn, xt, e, hx, _⟩
        · exact Or.inl ⟨15, e, by decide, by decide⟩
        · exact Or.inr ⟨xn, xt, e, hx⟩
      · rw [if_neg c4]
        by_cases c5 : k = 4 ∨ kind = 4
        · rw [if_pos c5]; exact Or.inl ⟨10, rfl, by decide, by decide⟩
        · rw [if_neg c5]
          rcases castN_cases n kind with e | ⟨e, hx⟩
          · exact Or.inl ⟨15, e, by decide, by decide⟩
          · exact Or.inr ⟨n, [], e, hx⟩
theorem cast_null (n : Int) (t : List UInt8) (kind : Int) (hv : vldB 0 n t = true) (h1 : 1 ≤ kind) (h4 : kind ≤ 4) : cast 0 n t kind = (0, n, t, 0) := by
  unfold cast
  rw [if_neg (by rw [hv]; simp; omega), if_pos (Or.inl rfl)]
theorem cast_bad (k n : Int) (t : List UInt8) (kind : Int) (h : vldB k n t = false ∨ kind < 1 ∨ 4 < kind) : cast k n t kind = (0, 0, [], 1) := by
  unfold cast
  rw [if_pos h]
theorem cast_to_text {k n : Int} {t : List UInt8} (hv : vldB k n t = true) (h0 : k ≠ 0) (h1 : k ≠ 1) : cast k n t 1 = (1, 0, txt k n t, 0) := by
  unfold cast
  rw [if_neg (by rw [hv]; simp), if_neg (by omega), if_pos rfl]
theorem txt_vld {k n : Int} {t : List UInt8} (hv : vldB k n t = true) (h0 : k ≠ 0) (h1 : k ≠ 1) : vldB 1 0 (txt k n t) = true := by
  rcases cast_good k n t 1 hv (by decide) (by decide) h0 with ⟨e, h, _, _⟩ | ⟨xn, xt, h, hx⟩
  · rw [cast_to_text hv h0 h1] at h
    simp at h
  · rw [cast_to_text hv h0 h1] at h
    simp at h
    rw [← h.1, ← h.2] at hx
    exact hx
theorem cast_back {k n : Int} {t : List UInt8} (hv : vldB k n t = true) (h0 : k ≠ 0) (h1 : k ≠ 1) : cast 1 0 (txt k n t) k = (k, n, t, 0) := by
  have hx := txt_vld hv h0 h1
  have hk := vld_cases hv
  unfold cast
  rw [if_neg (by rw [hx]; simp; omega), if_neg (by omega), if_neg (by omega), if_pos rfl]
  exact castT_txt hv
theorem cast_day {n : Int} (hv : vldB 3 n [] = true) : cast 3 n [] 2 = (2, n, [], 0) ∧ cast 2 n [] 3 = (3, n, [], 0) := by
  have hb := vld_bound hv
  have hv2 : vldB 2 n [] = true := vldB_mk (Or.inr (Or.inr (Or.inl ⟨rfl, hb.1, hb.2, rfl⟩)))
  constructor
  · unfold cast
    rw [if_neg (by rw [hv]; simp), if_neg (by decide), if_neg (by decide), if_neg (by decide), if_neg (by decide)]
    unfold castN; rw [if_pos hv2]
  · unfold cast
    rw [if_neg (by rw [hv2]; simp), if_neg (by decide), if_neg (by decide), if_neg (by decide), if_neg (by decide)]
    unfold castN; rw [if_pos hv]

set_option maxRecDepth 100000 in
set_option maxHeartbeats 1600000 in
theorem casts_long (k n : Int) (t : List UInt8) (kind : Int) (hs : shortB [t] = false) (w : World) (he : Env w) :
    Calls Tryd.prog 7 #[V k n t, .int .i64 kind] w fun e w' => e = .returned (.bool true) ∧ Below w.heap.size w w' := by
  have HE := Lib.hid he
  have HB := Lib.hid (Below.refl w.heap.size w)
  clear he
  go_enter Tryd.func7, Tryd.ntmps7
  go_wp2_with fail
  refine (head_any _ (HE.out.alloc _)).mono ?_
  rintro e w1 ⟨rfl, hb⟩
  have RA := Lib.hid (show Val3 w1 (w.heap.size) k n t from Val3.below ⟨by simp [go_sem], by simp [go_sem], by simp [go_sem]⟩ hb)
  replace HE := Lib.hid ((HE.out.alloc _).below hb)
  replace HB := Lib.hid (below_next HB.out HB.out.size hb)
  clear hb
  have zRAc0 := RA.out.c0
  have zRAc1 := RA.out.c1
  have zRAc2 := RA.out.c2
  go_wp2_with fail
  refine (short_b1 k n t false hs _ ).mono ?_
  rintro e w2 ⟨rfl, hb⟩
  replace RA := Lib.hid ((RA.out.alloc _).below hb)
  replace HE := Lib.hid ((HE.out.alloc _).below hb)
  replace HB := Lib.hid (below_next HB.out HB.out.size hb)
  clear hb
  clear zRAc0 zRAc1 zRAc2
  go_wp2_with fail
  go_ret
  exact ⟨rfl, HB.out⟩


set_option maxRecDepth 100000 in
set_option maxHeartbeats 1600000 in
theorem casts_e1 (k n : Int) (t : List UInt8) (kind : Int) (hs : shortB [t] = true) (hv : vldB k n t = false) (hc : cast k n t kind = (0, 0, [], 1)) (w : World) (he : Env w) :
    Calls Tryd.prog 7 #[V k n t, .int .i64 kind] w fun e w' => e = .returned (.bool true) ∧ Below w.heap.size w w' := by
  have HC := Lib.hid hc; clear hc
  have HE := Lib.hid he
  have HB := Lib.hid (Below.refl w.heap.size w)
  clear he
  go_enter Tryd.func7, Tryd.ntmps7
  go_wp2_with fail
  refine (head_any _ (HE.out.alloc _)).mono ?_
  rintro e w1 ⟨rfl, hb⟩
  have RA := Lib.hid (show Val3 w1 (w.heap.size) k n t from Val3.below ⟨by simp [go_sem], by simp [go_sem], by simp [go_sem]⟩ hb)
  replace HE := Lib.hid ((HE.out.alloc _).below hb)
  replace HB := Lib.hid (below_next HB.out HB.out.size hb)
  clear hb
  have zRAc0 := RA.out.c0
  have zRAc1 := RA.out.c1
  have zRAc2 := RA.out.c2
  go_wp2_with fail
  refine (short_b1 k n t true hs _ ).mono ?_
  rintro e w2 ⟨rfl, hb⟩
  replace RA := Lib.hid ((RA.out.alloc _).below hb)
  replace HE := Lib.hid ((HE.out.alloc _).below hb)
  replace HB := Lib.hid (below_next HB.out HB.out.size hb)
  clear hb
  clear zRAc0 zRAc1 zRAc2
  have zRAc0 := RA.out.c0
  have zRAc1 := RA.out.c1
  have zRAc2 := RA.out.c2
  go_wp2_with fail
  have C := fun W h => cast_any k n t kind W h
  rw [HC.out] at C
  refine (C _ HE.out).mono ?_
  clear C
  rintro e w3 ⟨rfl, hb⟩
  replace RA := Lib.hid (RA.out.below hb)
  replace HE := Lib.hid (HE.out.below hb)
  replace HB := Lib.hid (below_up HB.out hb HB.out.size)
  clear hb
  clear zRAc0 zRAc1 zRAc2
  have yRAc0 := fun o => (RA.out.alloc o).c0
  have zRAc0 := RA.out.c0
  have yRAc1 := fun o => (RA.out.alloc o).c1
  have zRAc1 := RA.out.c1
  have yRAc2 := fun o => (RA.out.alloc o).c2
  have zRAc2 := RA.out.c2
  have qx := eql_yes 0 0 []
  go_wp2_with fail
  refine (valid_any k n t _ ).mono ?_
  rintro e w4 ⟨rfl, hb⟩
  replace RA := Lib.hid ((RA.out.alloc _).below hb)
  have RX := Lib.hid (show Val3 w4 (w3.heap.size) 0 0 [] from Val3.below ⟨by simp [go_sem], by simp [go_sem], by simp [go_sem]⟩ hb)
  replace HE := Lib.hid ((HE.out.alloc _).below hb)
  replace HB := Lib.hid (below_next HB.out HB.out.size hb)
  clear hb
  clear yRAc0 zRAc0 yRAc1 zRAc1 yRAc2 zRAc2
  go_wp2_with fail
  go_ret
  exact ⟨rfl, HB.out⟩


set_option maxRecDepth 100000 in
set_option maxHeartbeats 1600000 in
theorem casts_e2 (k n : Int) (t : List UInt8) (kind : Int) (hs : shortB [t] = true) (hv : vldB k n t = true) (hk : kind < 1) (hc : cast k n t kind = (0, 0, [], 1)) (w : World) (he : Env w) :
    Calls Tryd.prog 7 #[V k n t, .int .i64 kind] w fun e w' => e = .returned (.bool true) ∧ Below w.heap.size w w' := by
  have HC := Lib.hid hc; clear hc
  have HE := Lib.hid he
  have HB := Lib.hid (Below.refl w.heap.size w)
  clear he
  go_enter Tryd.func7, Tryd.ntmps7
  go_wp2_with fail
  refine (head_any _ (HE.out.alloc _)).mono ?_
  rintro e w1 ⟨rfl, hb⟩
  have RA := Lib.hid (show Val3 w1 (w.heap.size) k n t from Val3.below ⟨by simp [go_sem], by simp [go_sem], by simp [go_sem]⟩ hb)
  replace HE := Lib.hid ((HE.out.alloc _).below hb)
  replace HB := Lib.hid (below_next HB.out HB.out.size hb)
  clear hb
  have zRAc0 := RA.out.c0
  have zRAc1 := RA.out.c1
  have zRAc2 := RA.out.c2
  go_wp2_with fail
  refine (short_b1 k n t true hs _ ).mono ?_
  rintro e w2 ⟨rfl, hb⟩
  replace RA := Lib.hid ((RA.out.alloc _).below hb)
  replace HE := Lib.hid ((HE.out.alloc _).below hb)
  replace HB := Lib.hid (below_next HB.out HB.out.size hb)
  clear hb
  clear zRAc0 zRAc1 zRAc2
  have zRAc0 := RA.out.c0
  have zRAc1 := RA.out.c1
  have zRAc2 := RA.out.c2
  go_wp2_with fail
  have C := fun W h => cast_any k n t kind W h
  rw [HC.out] at C
  refine (C _ HE.out).mono ?_
  clear C
  rintro e w3 ⟨rfl, hb⟩
  replace RA := Lib.hid (RA.out.below hb)
  replace HE := Lib.hid (HE.out.below hb)
  replace HB := Lib.hid (below_up HB.out hb HB.out.size)
  clear hb
  clear zRAc0 zRAc1 zRAc2
  have yRAc0 := fun o => (RA.out.alloc o).c0
  have zRAc0 := RA.out.c0
  have yRAc1 := fun o => (RA.out.alloc o).c1
  have zRAc1 := RA.out.c1
  have yRAc2 := fun o => (RA.out.alloc o).c2
  have zRAc2 := RA.out.c2
  have qx := eql_yes 0 0 []
  go_wp2_with fail
  refine (valid_any k n t _ ).mono ?_
  rintro e w4 ⟨rfl, hb⟩
  replace RA := Lib.hid ((RA.out.alloc _).below hb)
  have RX := Lib.hid (show Val3 w4 (w3.heap.size) 0 0 [] from Val3.below ⟨by simp [go_sem], by simp [go_sem], by simp [go_sem]⟩ hb)
  replace HE := Lib.hid ((HE.out.alloc _).below hb)
  replace HB := Lib.hid (below_next HB.out HB.out.size hb)
  clear hb
  clear yRAc0 zRAc0 yRAc1 zRAc1 yRAc2 zRAc2
  go_wp2_with fail
  go_ret
  exact ⟨rfl, HB.out⟩


set_option maxRecDepth 100000 in
set_option maxHeartbeats 1600000 in
theorem casts_e3 (k n : Int) (t : List UInt8) (kind : Int) (hs : shortB [t] = true) (hv : vldB k n t = true) (hk : ¬ kind < 1) (hk4 : 4 < kind) (hc : cast k n t kind = (0, 0, [], 1)) (w : World) (he : Env w) :
    Calls Tryd.prog 7 #[V k n t, .int .i64 kind] w fun e w' => e = .returned (.bool true) ∧ Below w.heap.size w w' := by
  have HC := Lib.hid hc; clear hc
  have HE := Lib.hid he
  have HB := Lib.hid (Below.refl w.heap.size w)
  clear he
  go_enter Tryd.func7, Tryd.ntmps7
  go_wp2_with fail
  refine (head_any _ (HE.out.alloc _)).mono ?_
  rintro e w1 ⟨rfl, hb⟩
  have RA := Lib.hid (show Val3 w1 (w.heap.size) k n t from Val3.below ⟨by simp [go_sem], by simp [go_sem], by simp [go_sem]⟩ hb)
  replace HE := Lib.hid ((HE.out.alloc _).below hb)
  replace HB := Lib.hid (below_next HB.out HB.out.size hb)
  clear hb
  have zRAc0 := RA.out.c0
  have zRAc1 := RA.out.c1
  have zRAc2 := RA.out.c2
  go_wp2_with fail
  refine (short_b1 k n t true hs _ ).mono ?_
  rintro e w2 ⟨rfl, hb⟩
  replace RA := Lib.hid ((RA.out.alloc _).below hb)
  replace HE := Lib.hid ((HE.out.alloc _).below hb)
  replace HB := Lib.hid (below_next HB.out HB.out.size hb)
  clear hb
  clear zRAc0 zRAc1 zRAc2
  have zRAc0 := RA.out.c0
  have zRAc1 := RA.out.c1
  have zRAc2 := RA.out.c2
  go_wp2_with fail
  have C := fun W h => cast_any k n t kind W h
  rw [HC.out] at C
  refine (C _ HE.out).mono ?_
  clear C
  rintro e w3 ⟨rfl, hb⟩
  replace RA := Lib.hid (RA.out.below hb)
  replace HE := Lib.hid (HE.out.below hb)
  replace HB := Lib.hid (below_up HB.out hb HB.out.size)
  clear hb
  clear zRAc0 zRAc1 zRAc2
  have yRAc0 := fun o => (RA.out.alloc o).c0
  have zRAc0 := RA.out.c0
  have yRAc1 := fun o => (RA.out.alloc o).c1
  have zRAc1 := RA.out.c1
  have yRAc2 := fun o => (RA.out.alloc o).c2
  have zRAc2 := RA.out.c2
  have qx := eql_yes 0 0 []
  go_wp2_with fail
  refine (valid_any k n t _ ).mono ?_
  rintro e w4 ⟨rfl, hb⟩
  replace RA := Lib.hid ((RA.out.alloc _).below hb)
  have RX := Lib.hid (show Val3 w4 (w3.heap.size) 0 0 [] from Val3.below ⟨by simp [go_sem], by simp [go_sem], by simp [go_sem]⟩ hb)
  replace HE := Lib.hid ((HE.out.alloc _).below hb)
  replace HB := Lib.hid (below_next HB.out HB.out.size hb)
  clear hb
  clear yRAc0 zRAc0 yRAc1 zRAc1 yRAc2 zRAc2
  go_wp2_with fail
  go_ret
  exact ⟨rfl, HB.out⟩


set_option maxRecDepth 100000 in
set_option maxHeartbeats 1600000 in
theorem casts_e4 (k n : Int) (t : List UInt8) (kind : Int) (hs : shortB [t] = true) (hv : vldB k n t = true) (hk : ¬ kind < 1) (hk4 : ¬ 4 < kind) (e : Int) (he0 : e ≠ 0) (he1 : e ≠ 1) (hc : cast k n t kind = (0, 0, [], e)) (w : World) (he : Env w) :
    Calls Tryd.prog 7 #[V k n t, .int .i64 kind] w fun e w' => e = .returned (.bool true) ∧ Below w.heap.size w w' := by
  have HC := Lib.hid hc; clear hc
  have e0 : (e != 0) = true := by simpa using he0
  have e1 : (e == 1) = false := by simpa using he1
  clear he0 he1
  have HE := Lib.hid he
  have HB := Lib.hid (Below.refl w.heap.size w)
  clear he
  go_enter Tryd.func7, Tryd.ntmps7
  go_wp2_with fail
  refine (head_any _ (HE.out.alloc _)).mono ?_
  rintro e w1 ⟨rfl, hb⟩
  have RA := Lib.hid (show Val3 w1 (w.heap.size) k n t from Val3.below ⟨by simp [go_sem], by simp [go_sem], by simp [go_sem]⟩ hb)
  replace HE := Lib.hid ((HE.out.alloc _).below hb)
  replace HB := Lib.hid (below_next HB.out HB.out.size hb)
  clear hb
  have zRAc0 := RA.out.c0
  have zRAc1 := RA.out.c1
  have zRAc2 := RA.out.c2
  go_wp2_with fail
  refine (short_b1 k n t true hs _ ).mono ?_
  rintro e w2 ⟨rfl, hb⟩
  replace RA := Lib.hid ((RA.out.alloc _).below hb)
  replace HE := Lib.hid ((HE.out.alloc _).below hb)
  replace HB := Lib.hid (below_next HB.out HB.out.size hb)
  clear hb
  clear zRAc0 zRAc1 zRAc2
  have zRAc0 := RA.out.c0
  have zRAc1 := RA.out.c1
  have zRAc2 := RA.out.c2
  go_wp2_with fail
  have C := fun W h => cast_any k n t kind W h
  rw [HC.out] at C
  refine (C _ HE.out).mono ?_
  clear C
  rintro e w3 ⟨rfl, hb⟩
  replace RA := Lib.hid (RA.out.below hb)
  replace HE := Lib.hid (HE.out.below hb)
  replace HB := Lib.hid (below_up HB.out hb HB.out.size)
  clear hb
  clear zRAc0 zRAc1 zRAc2
  have yRAc0 := fun o => (RA.out.alloc o).c0
  have zRAc0 := RA.out.c0
  have yRAc1 := fun o => (RA.out.alloc o).c1
  have zRAc1 := RA.out.c1
  have yRAc2 := fun o => (RA.out.alloc o).c2
  have zRAc2 := RA.out.c2
  have qx := eql_yes 0 0 []
  go_wp2_with fail
  refine (valid_any k n t _ ).mono ?_
  rintro e w4 ⟨rfl, hb⟩
  replace RA := Lib.hid ((RA.out.alloc _).below hb)
  have RX := Lib.hid (show Val3 w4 (w3.heap.size) 0 0 [] from Val3.below ⟨by simp [go_sem], by simp [go_sem], by simp [go_sem]⟩ hb)
  replace HE := Lib.hid ((HE.out.alloc _).below hb)
  replace HB := Lib.hid (below_next HB.out HB.out.size hb)
  clear hb
  clear yRAc0 zRAc0 yRAc1 zRAc1 yRAc2 zRAc2
  go_wp2_with fail
  go_ret
  exact ⟨bool_ret (by simp; omega), HB.out⟩


set_option maxRecDepth 100000 in
set_option maxHeartbeats 1600000 in
theorem casts_k0 (n : Int) (t : List UInt8) (kind : Int) (hs : shortB [t] = true) (hv : vldB 0 n t = true) (hc : cast 0 n t kind = (0, n, t, 0)) (w : World) (he : Env w) :
    Calls Tryd.prog 7 #[V 0 n t, .int .i64 kind] w fun e w' => e = .returned (.bool true) ∧ Below w.heap.size w w' := by
  have HC := Lib.hid hc; clear hc
  have HE := Lib.hid he
  have HB := Lib.hid (Below.refl w.heap.size w)
  clear he
  go_enter Tryd.func7, Tryd.ntmps7
  go_wp2_with fail
  refine (head_any _ (HE.out.alloc _)).mono ?_
  rintro e w1 ⟨rfl, hb⟩
  have RA := Lib.hid (show Val3 w1 (w.heap.size) 0 n t from Val3.below ⟨by simp [go_sem], by simp [go_sem], by simp [go_sem]⟩ hb)
  replace HE := Lib.hid ((HE.out.alloc _).below hb)
  replace HB := Lib.hid (below_next HB.out HB.out.size hb)
  clear hb
  have zRAc0 := RA.out.c0
  have zRAc1 := RA.out.c1
  have zRAc2 := RA.out.c2
  go_wp2_with fail
  refine (short_b1 0 n t true hs _ ).mono ?_
  rintro e w2 ⟨rfl, hb⟩
  replace RA := Lib.hid ((RA.out.alloc _).below hb)
  replace HE := Lib.hid ((HE.out.alloc _).below hb)
  replace HB := Lib.hid (below_next HB.out HB.out.size hb)
  clear hb
  clear zRAc0 zRAc1 zRAc2
  have zRAc0 := RA.out.c0
  have zRAc1 := RA.out.c1
  have zRAc2 := RA.out.c2
  go_wp2_with fail
  have C := fun W h => cast_any 0 n t kind W h
  rw [HC.out] at C
  refine (C _ HE.out).mono ?_
  clear C
  rintro e w3 ⟨rfl, hb⟩
  replace RA := Lib.hid (RA.out.below hb)
  replace HE := Lib.hid (HE.out.below hb)
  replace HB := Lib.hid (below_up HB.out hb HB.out.size)
  clear hb
  clear zRAc0 zRAc1 zRAc2
  go_wp2_with fail
  refine (valid_any 0 n t _ ).mono ?_
  rintro e w4 ⟨rfl, hb⟩
  replace RA := Lib.hid ((RA.out.alloc _).below hb)
  have RX := Lib.hid (show Val3 w4 (w3.heap.size) 0 n t from Val3.below ⟨by simp [go_sem], by simp [go_sem], by simp [go_sem]⟩ hb)
  replace HE := Lib.hid ((HE.out.alloc _).below hb)
  replace HB := Lib.hid (below_next HB.out HB.out.size hb)
  clear hb
  have zRAc0 := RA.out.c0
  have zRAc1 := RA.out.c1
  have zRAc2 := RA.out.c2
  have zRXc0 := RX.out.c0
  have zRXc1 := RX.out.c1
  have zRXc2 := RX.out.c2
  go_wp2_with fail
  go_ret
  exact ⟨rfl, HB.out⟩


set_option maxRecDepth 100000 in
set_option maxHeartbeats 1600000 in
theorem casts_k1 (n : Int) (t : List UInt8) (kind : Int) (hs : shortB [t] = true) (xn : Int) (xt : List UInt8) (hx : vldB kind xn xt = true) (hk0 : kind ≠ 0) (hc : cast 1 n t kind = (kind, xn, xt, 0)) (w : World) (he : Env w) :
    Calls Tryd.prog 7 #[V 1 n t, .int .i64 kind] w fun e w' => e = .returned (.bool true) ∧ Below w.heap.size w w' := by
  have HC := Lib.hid hc; clear hc
  have f0 : (kind == 0) = false := by simpa using hk0
  have f1 : (kind != 0) = true := by simpa using hk0
  clear hk0
  have HE := Lib.hid he
  have HB := Lib.hid (Below.refl w.heap.size w)
  clear he
  go_enter Tryd.func7, Tryd.ntmps7
  go_wp2_with fail
  refine (head_any _ (HE.out.alloc _)).mono ?_
  rintro e w1 ⟨rfl, hb⟩
  have RA := Lib.hid (show Val3 w1 (w.heap.size) 1 n t from Val3.below ⟨by simp [go_sem], by simp [go_sem], by simp [go_sem]⟩ hb)
  replace HE := Lib.hid ((HE.out.alloc _).below hb)
  replace HB := Lib.hid (below_next HB.out HB.out.size hb)
  clear hb
  have zRAc0 := RA.out.c0
  have zRAc1 := RA.out.c1
  have zRAc2 := RA.out.c2
  go_wp2_with fail
  refine (short_b1 1 n t true hs _ ).mono ?_
  rintro e w2 ⟨rfl, hb⟩
  replace RA := Lib.hid ((RA.out.alloc _).below hb)
  replace HE := Lib.hid ((HE.out.alloc _).below hb)
  replace HB := Lib.hid (below_next HB.out HB.out.size hb)
  clear hb
  clear zRAc0 zRAc1 zRAc2
  have zRAc0 := RA.out.c0
  have zRAc1 := RA.out.c1
  have zRAc2 := RA.out.c2
  go_wp2_with fail
  have C := fun W h => cast_any 1 n t kind W h
  rw [HC.out] at C
  refine (C _ HE.out).mono ?_
  clear C
  rintro e w3 ⟨rfl, hb⟩
  replace RA := Lib.hid (RA.out.below hb)
  replace HE := Lib.hid (HE.out.below hb)
  replace HB := Lib.hid (below_up HB.out hb HB.out.size)
  clear hb
  clear zRAc0 zRAc1 zRAc2
  go_wp2_with fail
  refine (valid_any kind xn xt _ ).mono ?_
  rintro e w4 ⟨rfl, hb⟩
  replace RA := Lib.hid ((RA.out.alloc _).below hb)
  have RX := Lib.hid (show Val3 w4 (w3.heap.size) kind xn xt from Val3.below ⟨by simp [go_sem], by simp [go_sem], by simp [go_sem]⟩ hb)
  replace HE := Lib.hid ((HE.out.alloc _).below hb)
  replace HB := Lib.hid (below_next HB.out HB.out.size hb)
  clear hb
  have zRAc0 := RA.out.c0
  have zRAc1 := RA.out.c1
  have zRAc2 := RA.out.c2
  have zRXc0 := RX.out.c0
  have zRXc1 := RX.out.c1
  have zRXc2 := RX.out.c2
  go_wp2_with fail
  go_ret
  exact ⟨rfl, HB.out⟩


set_option maxRecDepth 100000 in
set_option maxHeartbeats 1600000 in
theorem casts_k2 (n : Int) (kind : Int) (hs : shortB [[]] = true) (xn : Int) (xt : List UInt8) (hx : vldB kind xn xt = true) (hk0 : kind ≠ 0) (hc : cast 2 n [] kind = (kind, xn, xt, 0)) (tx : List UInt8) (hct : txt 2 n [] = tx) (hf : cast 2 n [] 1 = (1, 0, tx, 0)) (hg : cast 1 0 tx 2 = (2, n, [], 0)) (w : World) (he : Env w) :
    Calls Tryd.prog 7 #[V 2 n [], .int .i64 kind] w fun e w' => e = .returned (.bool true) ∧ Below w.heap.size w w' := by
  have HC := Lib.hid hc; clear hc
  have HF := Lib.hid hf; clear hf
  have HG := Lib.hid hg; clear hg
  have HCT := Lib.hid hct; clear hct
  have f0 : (kind == 0) = false := by simpa using hk0
  have f1 : (kind != 0) = true := by simpa using hk0
  clear hk0
  have HE := Lib.hid he
  have HB := Lib.hid (Below.refl w.heap.size w)
  clear he
  go_enter Tryd.func7, Tryd.ntmps7
  go_wp2_with fail
  refine (head_any _ (HE.out.alloc _)).mono ?_
  rintro e w1 ⟨rfl, hb⟩
  have RA := Lib.hid (show Val3 w1 (w.heap.size) 2 n [] from Val3.below ⟨by simp [go_sem], by simp [go_sem], by simp [go_sem]⟩ hb)
  replace HE := Lib.hid ((HE.out.alloc _).below hb)
  replace HB := Lib.hid (below_next HB.out HB.out.size hb)
  clear hb
  have zRAc0 := RA.out.c0
  have zRAc1 := RA.out.c1
  have zRAc2 := RA.out.c2
  go_wp2_with fail
  refine (short_b1 2 n [] true hs _ ).mono ?_
  rintro e w2 ⟨rfl, hb⟩
  replace RA := Lib.hid ((RA.out.alloc _).below hb)
  replace HE := Lib.hid ((HE.out.alloc _).below hb)
  replace HB := Lib.hid (below_next HB.out HB.out.size hb)
  clear hb
  clear zRAc0 zRAc1 zRAc2
  have zRAc0 := RA.out.c0
  have zRAc1 := RA.out.c1
  have zRAc2 := RA.out.c2
  go_wp2_with fail
  have C := fun W h => cast_any 2 n [] kind W h
  rw [HC.out] at C
  refine (C _ HE.out).mono ?_
  clear C
  rintro e w3 ⟨rfl, hb⟩
  replace RA := Lib.hid (RA.out.below hb)
  replace HE := Lib.hid (HE.out.below hb)
  replace HB := Lib.hid (below_up HB.out hb HB.out.size)
  clear hb
  clear zRAc0 zRAc1 zRAc2
  go_wp2_with fail
  refine (valid_any kind xn xt _ ).mono ?_
  rintro e w4 ⟨rfl, hb⟩
  replace RA := Lib.hid ((RA.out.alloc _).below hb)
  have RX := Lib.hid (show Val3 w4 (w3.heap.size) kind xn xt from Val3.below ⟨by simp [go_sem], by simp [go_sem], by simp [go_sem]⟩ hb)
  replace HE := Lib.hid ((HE.out.alloc _).below hb)
  replace HB := Lib.hid (below_next HB.out HB.out.size hb)
  clear hb
  have zRAc0 := RA.out.c0
  have zRAc1 := RA.out.c1
  have zRAc2 := RA.out.c2
  have zRXc0 := RX.out.c0
  have zRXc1 := RX.out.c1
  have zRXc2 := RX.out.c2
  go_wp2_with fail
  have C := fun W h => cast_any 2 n [] 1 W h
  rw [HF.out] at C
  refine (C _ HE.out).mono ?_
  clear C
  rintro e w5 ⟨rfl, hb⟩
  replace RA := Lib.hid (RA.out.below hb)
  replace RX := Lib.hid (RX.out.below hb)
  replace HE := Lib.hid (HE.out.below hb)
  replace HB := Lib.hid (below_up HB.out hb HB.out.size)
  clear hb
  clear zRAc0 zRAc1 zRAc2 zRXc0 zRXc1 zRXc2
  have yRAc0 := fun o => (RA.out.alloc o).c0
  have zRAc0 := RA.out.c0
  have yRAc1 := fun o => (RA.out.alloc o).c1
  have zRAc1 := RA.out.c1
  have yRAc2 := fun o => (RA.out.alloc o).c2
  have zRAc2 := RA.out.c2
  go_wp2_with fail
  have C := fun W h => cast_any 1 0 tx 2 W h
  rw [HG.out] at C
  refine (C _ (HE.out.alloc _)).mono ?_
  clear C
  rintro e w6 ⟨rfl, hb⟩
  replace RA := Lib.hid ((RA.out.alloc _).below hb)
  replace RX := Lib.hid ((RX.out.alloc _).below hb)
  have RS := Lib.hid (show Val3 w6 (w5.heap.size) 1 0 tx from Val3.below ⟨by simp [go_sem], by simp [go_sem], by simp [go_sem]⟩ hb)
  replace HE := Lib.hid ((HE.out.alloc _).below hb)
  replace HB := Lib.hid (below_next HB.out HB.out.size hb)
  clear hb
  clear yRAc0 zRAc0 yRAc1 zRAc1 yRAc2 zRAc2
  go_wp2_with fail
  obtain ⟨w7, hW⟩ : ∃ W, W = w6.alloc (Obj.cells #[Value.int IntKind.i64 2, Value.int IntKind.i64 n, Value.string ⟨#[]⟩] 23) := ⟨_, rfl⟩
  rw [← hW]
  replace RA := Lib.hid (by have h := RA.out.alloc (Obj.cells #[Value.int IntKind.i64 2, Value.int IntKind.i64 n, Value.string ⟨#[]⟩] 23); rw [← hW] at h; exact h)
  replace RX := Lib.hid (by have h := RX.out.alloc (Obj.cells #[Value.int IntKind.i64 2, Value.int IntKind.i64 n, Value.string ⟨#[]⟩] 23); rw [← hW] at h; exact h)
  replace RS := Lib.hid (by have h := RS.out.alloc (Obj.cells #[Value.int IntKind.i64 2, Value.int IntKind.i64 n, Value.string ⟨#[]⟩] 23); rw [← hW] at h; exact h)
  have RBK := Lib.hid (show Val3 w7 w6.heap.size 2 n [] by rw [hW]; exact ⟨by simp [go_sem], by simp [go_sem], by simp [go_sem]⟩)
  replace HE := Lib.hid (show Env w7 by rw [hW]; exact HE.out.alloc _)
  replace HB := Lib.hid (show Below w.heap.size w w7 by rw [hW]; exact HB.out.alloc HB.out.size _)
  clear hW
  have q1 := neq_no 2 n []
  have CTH : Hid (∀ W, Env W → Calls Tryd.prog 21 #[V 2 n []] W fun e w' => e = .returned (.string ⟨tx.toArray⟩) ∧ Below W.heap.size W w') := Lib.hid (fun W h => by have C := text_any 2 n [] W h; rw [HCT.out] at C; exact C)
  have zRAc0 := RA.out.c0
  have zRAc1 := RA.out.c1
  have zRAc2 := RA.out.c2
  have zRSc0 := RS.out.c0
  have zRSc1 := RS.out.c1
  have zRSc2 := RS.out.c2
  have zRBKc0 := RBK.out.c0
  have zRBKc1 := RBK.out.c1
  have zRBKc2 := RBK.out.c2
  go_region_held3 (fun w' => w'.cell? ⟨w.heap.size, 0, none⟩ = some (.int .i64 2) ∧ w'.cell? ⟨w.heap.size, 1, none⟩ = some (.int .i64 n) ∧ w'.cell? ⟨w.heap.size, 2, none⟩ = some (.string ⟨#[]⟩) ∧ w'.cell? ⟨w5.heap.size, 2, none⟩ = some (.string ⟨tx.toArray⟩) ∧ w'.cell? ⟨w6.heap.size, 0, none⟩ = some (.int .i64 2) ∧ w'.cell? ⟨w6.heap.size, 1, none⟩ = some (.int .i64 n) ∧ w'.cell? ⟨w6.heap.size, 2, none⟩ = some (.string ⟨#[]⟩)) (go_keep)
    (first | (go_at_call 21; refine (CTH.out _ (HE.out.drewN 1)).mono ?_; rintro e v7_1 ⟨rfl, hv1⟩; have g1 := Lib.hid ((below_drewN _ w7 1).trans hv1); clear hv1; have RA_1 := Lib.hid (RA.out.below g1.out); have RX_1 := Lib.hid (RX.out.below g1.out); have RS_1 := Lib.hid (RS.out.below g1.out); have RBK_1 := Lib.hid (RBK.out.below g1.out); have E_1 := Lib.hid (HE.out.below g1.out); have k1RA0 := RA_1.out.c0; have k1RA1 := RA_1.out.c1; have k1RA2 := RA_1.out.c2; have k1RS2 := RS_1.out.c2; have k1RBK0 := RBK_1.out.c0; have k1RBK1 := RBK_1.out.c1; have k1RBK2 := RBK_1.out.c2))
  replace HB := Lib.hid (below_up HB.out g1.out HB.out.size)
  replace RA := RA_1
  replace RX := RX_1
  replace RS := RS_1
  replace RBK := RBK_1
  replace HE := E_1
  clear zRAc0 zRAc1 zRAc2 zRSc0 zRSc1 zRSc2 zRBKc0 zRBKc1 zRBKc2
  clear g1 E_1 RA_1 RX_1 RS_1 RBK_1 k1RA0 k1RA1 k1RA2 k1RS2 k1RBK0 k1RBK1 k1RBK2
  clear q1
  have zRAc0 := RA.out.c0
  have zRAc1 := RA.out.c1
  have zRAc2 := RA.out.c2
  go_wp2_with fail
  go_ret
  exact ⟨rfl, HB.out⟩


set_option maxRecDepth 100000 in
set_option maxHeartbeats 1600000 in
theorem casts_k4 (n : Int) (kind : Int) (hs : shortB [[]] = true) (xn : Int) (xt : List UInt8) (hx : vldB kind xn xt = true) (hk0 : kind ≠ 0) (hc : cast 4 n [] kind = (kind, xn, xt, 0)) (tx : List UInt8) (hct : txt 4 n [] = tx) (hf : cast 4 n [] 1 = (1, 0, tx, 0)) (hg : cast 1 0 tx 4 = (4, n, [], 0)) (w : World) (he : Env w) :
    Calls Tryd.prog 7 #[V 4 n [], .int .i64 kind] w fun e w' => e = .returned (.bool true) ∧ Below w.heap.size w w' := by
  have HC := Lib.hid hc; clear hc
  have HF := Lib.hid hf; clear hf
  have HG := Lib.hid hg; clear hg
  have HCT := Lib.hid hct; clear hct
  have f0 : (kind == 0) = false := by simpa using hk0
  have f1 : (kind != 0) = true := by simpa using hk0
  clear hk0
  have HE := Lib.hid he
  have HB := Lib.hid (Below.refl w.heap.size w)
  clear he
  go_enter Tryd.func7, Tryd.ntmps7
  go_wp2_with fail
  refine (head_any _ (HE.out.alloc _)).mono ?_
  rintro e w1 ⟨rfl, hb⟩
  have RA := Lib.hid (show Val3 w1 (w.heap.size) 4 n [] from Val3.below ⟨by simp [go_sem], by simp [go_sem], by simp [go_sem]⟩ hb)
  replace HE := Lib.hid ((HE.out.alloc _).below hb)
  replace HB := Lib.hid (below_next HB.out HB.out.size hb)
  clear hb
  have zRAc0 := RA.out.c0
  have zRAc1 := RA.out.c1
  have zRAc2 := RA.out.c2
  go_wp2_with fail
  refine (short_b1 4 n [] true hs _ ).mono ?_
  rintro e w2 ⟨rfl, hb⟩
  replace RA := Lib.hid ((RA.out.alloc _).below hb)
  replace HE := Lib.hid ((HE.out.alloc _).below hb)
  replace HB := Lib.hid (below_next HB.out HB.out.size hb)
  clear hb
  clear zRAc0 zRAc1 zRAc2
  have zRAc0 := RA.out.c0
  have zRAc1 := RA.out.c1
  have zRAc2 := RA.out.c2
  go_wp2_with fail
  have C := fun W h => cast_any 4 n [] kind W h
  rw [HC.out] at C
  refine (C _ HE.out).mono ?_
  clear C
  rintro e w3 ⟨rfl, hb⟩
  replace RA := Lib.hid (RA.out.below hb)
  replace HE := Lib.hid (HE.out.below hb)
  replace HB := Lib.hid (below_up HB.out hb HB.out.size)
  clear hb
  clear zRAc0 zRAc1 zRAc2
  go_wp2_with fail
  refine (valid_any kind xn xt _ ).mono ?_
  rintro e w4 ⟨rfl, hb⟩
  replace RA := Lib.hid ((RA.out.alloc _).below hb)
  have RX := Lib.hid (show Val3 w4 (w3.heap.size) kind xn xt from Val3.below ⟨by simp [go_sem], by simp [go_sem], by simp [go_sem]⟩ hb)
  replace HE := Lib.hid ((HE.out.alloc _).below hb)
  replace HB := Lib.hid (below_next HB.out HB.out.size hb)
  clear hb
  have zRAc0 := RA.out.c0
  have zRAc1 := RA.out.c1
  have zRAc2 := RA.out.c2
  have zRXc0 := RX.out.c0
  have zRXc1 := RX.out.c1
  have zRXc2 := RX.out.c2
  go_wp2_with fail
  have C := fun W h => cast_any 4 n [] 1 W h
  rw [HF.out] at C
  refine (C _ HE.out).mono ?_
  clear C
  rintro e w5 ⟨rfl, hb⟩
  replace RA := Lib.hid (RA.out.below hb)
  replace RX := Lib.hid (RX.out.below hb)
  replace HE := Lib.hid (HE.out.below hb)
  replace HB := Lib.hid (below_up HB.out hb HB.out.size)
  clear hb
  clear zRAc0 zRAc1 zRAc2 zRXc0 zRXc1 zRXc2
  have yRAc0 := fun o => (RA.out.alloc o).c0
  have zRAc0 := RA.out.c0
  have yRAc1 := fun o => (RA.out.alloc o).c1
  have zRAc1 := RA.out.c1
  have yRAc2 := fun o => (RA.out.alloc o).c2
  have zRAc2 := RA.out.c2
  go_wp2_with fail
  have C := fun W h => cast_any 1 0 tx 4 W h
  rw [HG.out] at C
  refine (C _ (HE.out.alloc _)).mono ?_
  clear C
  rintro e w6 ⟨rfl, hb⟩
  replace RA := Lib.hid ((RA.out.alloc _).below hb)
  replace RX := Lib.hid ((RX.out.alloc _).below hb)
  have RS := Lib.hid (show Val3 w6 (w5.heap.size) 1 0 tx from Val3.below ⟨by simp [go_sem], by simp [go_sem], by simp [go_sem]⟩ hb)
  replace HE := Lib.hid ((HE.out.alloc _).below hb)
  replace HB := Lib.hid (below_next HB.out HB.out.size hb)
  clear hb
  clear yRAc0 zRAc0 yRAc1 zRAc1 yRAc2 zRAc2
  go_wp2_with fail
  obtain ⟨w7, hW⟩ : ∃ W, W = w6.alloc (Obj.cells #[Value.int IntKind.i64 4, Value.int IntKind.i64 n, Value.string ⟨#[]⟩] 23) := ⟨_, rfl⟩
  rw [← hW]
  replace RA := Lib.hid (by have h := RA.out.alloc (Obj.cells #[Value.int IntKind.i64 4, Value.int IntKind.i64 n, Value.string ⟨#[]⟩] 23); rw [← hW] at h; exact h)
  replace RX := Lib.hid (by have h := RX.out.alloc (Obj.cells #[Value.int IntKind.i64 4, Value.int IntKind.i64 n, Value.string ⟨#[]⟩] 23); rw [← hW] at h; exact h)
  replace RS := Lib.hid (by have h := RS.out.alloc (Obj.cells #[Value.int IntKind.i64 4, Value.int IntKind.i64 n, Value.string ⟨#[]⟩] 23); rw [← hW] at h; exact h)
  have RBK := Lib.hid (show Val3 w7 w6.heap.size 4 n [] by rw [hW]; exact ⟨by simp [go_sem], by simp [go_sem], by simp [go_sem]⟩)
  replace HE := Lib.hid (show Env w7 by rw [hW]; exact HE.out.alloc _)
  replace HB := Lib.hid (show Below w.heap.size w w7 by rw [hW]; exact HB.out.alloc HB.out.size _)
  clear hW
  have q1 := neq_no 4 n []
  have CTH : Hid (∀ W, Env W → Calls Tryd.prog 21 #[V 4 n []] W fun e w' => e = .returned (.string ⟨tx.toArray⟩) ∧ Below W.heap.size W w') := Lib.hid (fun W h => by have C := text_any 4 n [] W h; rw [HCT.out] at C; exact C)
  have zRAc0 := RA.out.c0
  have zRAc1 := RA.out.c1
  have zRAc2 := RA.out.c2
  have zRSc0 := RS.out.c0
  have zRSc1 := RS.out.c1
  have zRSc2 := RS.out.c2
  have zRBKc0 := RBK.out.c0
  have zRBKc1 := RBK.out.c1
  have zRBKc2 := RBK.out.c2
  go_region_held3 (fun w' => w'.cell? ⟨w.heap.size, 0, none⟩ = some (.int .i64 4) ∧ w'.cell? ⟨w.heap.size, 1, none⟩ = some (.int .i64 n) ∧ w'.cell? ⟨w.heap.size, 2, none⟩ = some (.string ⟨#[]⟩) ∧ w'.cell? ⟨w5.heap.size, 2, none⟩ = some (.string ⟨tx.toArray⟩) ∧ w'.cell? ⟨w6.heap.size, 0, none⟩ = some (.int .i64 4) ∧ w'.cell? ⟨w6.heap.size, 1, none⟩ = some (.int .i64 n) ∧ w'.cell? ⟨w6.heap.size, 2, none⟩ = some (.string ⟨#[]⟩)) (go_keep)
    (first | (go_at_call 21; refine (CTH.out _ (HE.out.drewN 1)).mono ?_; rintro e v7_1 ⟨rfl, hv1⟩; have g1 := Lib.hid ((below_drewN _ w7 1).trans hv1); clear hv1; have RA_1 := Lib.hid (RA.out.below g1.out); have RX_1 := Lib.hid (RX.out.below g1.out); have RS_1 := Lib.hid (RS.out.below g1.out); have RBK_1 := Lib.hid (RBK.out.below g1.out); have E_1 := Lib.hid (HE.out.below g1.out); have k1RA0 := RA_1.out.c0; have k1RA1 := RA_1.out.c1; have k1RA2 := RA_1.out.c2; have k1RS2 := RS_1.out.c2; have k1RBK0 := RBK_1.out.c0; have k1RBK1 := RBK_1.out.c1; have k1RBK2 := RBK_1.out.c2))
  replace HB := Lib.hid (below_up HB.out g1.out HB.out.size)
  replace RA := RA_1
  replace RX := RX_1
  replace RS := RS_1
  replace RBK := RBK_1
  replace HE := E_1
  clear zRAc0 zRAc1 zRAc2 zRSc0 zRSc1 zRSc2 zRBKc0 zRBKc1 zRBKc2
  clear g1 E_1 RA_1 RX_1 RS_1 RBK_1 k1RA0 k1RA1 k1RA2 k1RS2 k1RBK0 k1RBK1 k1RBK2
  clear q1
  have zRAc0 := RA.out.c0
  have zRAc1 := RA.out.c1
  have zRAc2 := RA.out.c2
  go_wp2_with fail
  go_ret
  exact ⟨rfl, HB.out⟩


set_option maxRecDepth 100000 in
set_option maxHeartbeats 1600000 in
theorem casts_k3 (n : Int) (kind : Int) (hs : shortB [[]] = true) (xn : Int) (xt : List UInt8) (hx : vldB kind xn xt = true) (hk0 : kind ≠ 0) (hc : cast 3 n [] kind = (kind, xn, xt, 0)) (tx : List UInt8) (hct : txt 3 n [] = tx) (hf : cast 3 n [] 1 = (1, 0, tx, 0)) (hg : cast 1 0 tx 3 = (3, n, [], 0)) (hn : cast 3 n [] 2 = (2, n, [], 0)) (hd : cast 2 n [] 3 = (3, n, [], 0)) (w : World) (he : Env w) :
    Calls Tryd.prog 7 #[V 3 n [], .int .i64 kind] w fun e w' => e = .returned (.bool true) ∧ Below w.heap.size w w' := by
  have HC := Lib.hid hc; clear hc
  have HF := Lib.hid hf; clear hf
  have HG := Lib.hid hg; clear hg
  have HCT := Lib.hid hct; clear hct
  have HN := Lib.hid hn; clear hn
  have HD := Lib.hid hd; clear hd
  have f0 : (kind == 0) = false := by simpa using hk0
  have f1 : (kind != 0) = true := by simpa using hk0
  clear hk0
  have HE := Lib.hid he
  have HB := Lib.hid (Below.refl w.heap.size w)
  clear he
  go_enter Tryd.func7, Tryd.ntmps7
  go_wp2_with fail
  refine (head_any _ (HE.out.alloc _)).mono ?_
  rintro e w1 ⟨rfl, hb⟩
  have RA := Lib.hid (show Val3 w1 (w.heap.size) 3 n [] from Val3.below ⟨by simp [go_sem], by simp [go_sem], by simp [go_sem]⟩ hb)
  replace HE := Lib.hid ((HE.out.alloc _).below hb)
  replace HB := Lib.hid (below_next HB.out HB.out.size hb)
  clear hb
  have zRAc0 := RA.out.c0
  have zRAc1 := RA.out.c1
  have zRAc2 := RA.out.c2
  go_wp2_with fail
  refine (short_b1 3 n [] true hs _ ).mono ?_
  rintro e w2 ⟨rfl, hb⟩
  replace RA := Lib.hid ((RA.out.alloc _).below hb)
  replace HE := Lib.hid ((HE.out.alloc _).below hb)
  replace HB := Lib.hid (below_next HB.out HB.out.size hb)
  clear hb
  clear zRAc0 zRAc1 zRAc2
  have zRAc0 := RA.out.c0
  have zRAc1 := RA.out.c1
  have zRAc2 := RA.out.c2
  go_wp2_with fail
  have C := fun W h => cast_any 3 n [] kind W h
  rw [HC.out] at C
  refine (C _ HE.out).mono ?_
  clear C
  rintro e w3 ⟨rfl, hb⟩
  replace RA := Lib.hid (RA.out.below hb)
  replace HE := Lib.hid (HE.out.below hb)
  replace HB := Lib.hid (below_up HB.out hb HB.out.size)
  clear hb
  clear zRAc0 zRAc1 zRAc2
  go_wp2_with fail
  refine (valid_any kind xn xt _ ).mono ?_
  rintro e w4 ⟨rfl, hb⟩
  replace RA := Lib.hid ((RA.out.alloc _).below hb)
  have RX := Lib.hid (show Val3 w4 (w3.heap.size) kind xn xt from Val3.below ⟨by simp [go_sem], by simp [go_sem], by simp [go_sem]⟩ hb)
  replace HE := Lib.hid ((HE.out.alloc _).below hb)
  replace HB := Lib.hid (below_next HB.out HB.out.size hb)
  clear hb
  have zRAc0 := RA.out.c0
  have zRAc1 := RA.out.c1
  have zRAc2 := RA.out.c2
  have zRXc0 := RX.out.c0
  have zRXc1 := RX.out.c1
  have zRXc2 := RX.out.c2
  go_wp2_with fail
  have C := fun W h => cast_any 3 n [] 1 W h
  rw [HF.out] at C
  refine (C _ HE.out).mono ?_
  clear C
  rintro e w5 ⟨rfl, hb⟩
  replace RA := Lib.hid (RA.out.below hb)
  replace RX := Lib.hid (RX.out.below hb)
  replace HE := Lib.hid (HE.out.below hb)
  replace HB := Lib.hid (below_up HB.out hb HB.out.size)
  clear hb
  clear zRAc0 zRAc1 zRAc2 zRXc0 zRXc1 zRXc2
  have yRAc0 := fun o => (RA.out.alloc o).c0
  have zRAc0 := RA.out.c0
  have yRAc1 := fun o => (RA.out.alloc o).c1
  have zRAc1 := RA.out.c1
  have yRAc2 := fun o => (RA.out.alloc o).c2
  have zRAc2 := RA.out.c2
  go_wp2_with fail
  have C := fun W h => cast_any 1 0 tx 3 W h
  rw [HG.out] at C
  refine (C _ (HE.out.alloc _)).mono ?_
  clear C
  rintro e w6 ⟨rfl, hb⟩
  replace RA := Lib.hid ((RA.out.alloc _).below hb)
  replace RX := Lib.hid ((RX.out.alloc _).below hb)
  have RS := Lib.hid (show Val3 w6 (w5.heap.size) 1 0 tx from Val3.below ⟨by simp [go_sem], by simp [go_sem], by simp [go_sem]⟩ hb)
  replace HE := Lib.hid ((HE.out.alloc _).below hb)
  replace HB := Lib.hid (below_next HB.out HB.out.size hb)
  clear hb
  clear yRAc0 zRAc0 yRAc1 zRAc1 yRAc2 zRAc2
  go_wp2_with fail
  obtain ⟨w7, hW⟩ : ∃ W, W = w6.alloc (Obj.cells #[Value.int IntKind.i64 3, Value.int IntKind.i64 n, Value.string ⟨#[]⟩] 23) := ⟨_, rfl⟩
  rw [← hW]
  replace RA := Lib.hid (by have h := RA.out.alloc (Obj.cells #[Value.int IntKind.i64 3, Value.int IntKind.i64 n, Value.string ⟨#[]⟩] 23); rw [← hW] at h; exact h)
  replace RX := Lib.hid (by have h := RX.out.alloc (Obj.cells #[Value.int IntKind.i64 3, Value.int IntKind.i64 n, Value.string ⟨#[]⟩] 23); rw [← hW] at h; exact h)
  replace RS := Lib.hid (by have h := RS.out.alloc (Obj.cells #[Value.int IntKind.i64 3, Value.int IntKind.i64 n, Value.string ⟨#[]⟩] 23); rw [← hW] at h; exact h)
  have RBK := Lib.hid (show Val3 w7 w6.heap.size 3 n [] by rw [hW]; exact ⟨by simp [go_sem], by simp [go_sem], by simp [go_sem]⟩)
  replace HE := Lib.hid (show Env w7 by rw [hW]; exact HE.out.alloc _)
  replace HB := Lib.hid (show Below w.heap.size w w7 by rw [hW]; exact HB.out.alloc HB.out.size _)
  clear hW
  have q1 := neq_no 3 n []
  have CTH : Hid (∀ W, Env W → Calls Tryd.prog 21 #[V 3 n []] W fun e w' => e = .returned (.string ⟨tx.toArray⟩) ∧ Below W.heap.size W w') := Lib.hid (fun W h => by have C := text_any 3 n [] W h; rw [HCT.out] at C; exact C)
  have zRAc0 := RA.out.c0
  have zRAc1 := RA.out.c1
  have zRAc2 := RA.out.c2
  have zRSc0 := RS.out.c0
  have zRSc1 := RS.out.c1
  have zRSc2 := RS.out.c2
  have zRBKc0 := RBK.out.c0
  have zRBKc1 := RBK.out.c1
  have zRBKc2 := RBK.out.c2
  go_region_held3 (fun w' => w'.cell? ⟨w.heap.size, 0, none⟩ = some (.int .i64 3) ∧ w'.cell? ⟨w.heap.size, 1, none⟩ = some (.int .i64 n) ∧ w'.cell? ⟨w.heap.size, 2, none⟩ = some (.string ⟨#[]⟩) ∧ w'.cell? ⟨w5.heap.size, 2, none⟩ = some (.string ⟨tx.toArray⟩) ∧ w'.cell? ⟨w6.heap.size, 0, none⟩ = some (.int .i64 3) ∧ w'.cell? ⟨w6.heap.size, 1, none⟩ = some (.int .i64 n) ∧ w'.cell? ⟨w6.heap.size, 2, none⟩ = some (.string ⟨#[]⟩)) (go_keep)
    (first | (go_at_call 21; refine (CTH.out _ (HE.out.drewN 1)).mono ?_; rintro e v7_1 ⟨rfl, hv1⟩; have g1 := Lib.hid ((below_drewN _ w7 1).trans hv1); clear hv1; have RA_1 := Lib.hid (RA.out.below g1.out); have RX_1 := Lib.hid (RX.out.below g1.out); have RS_1 := Lib.hid (RS.out.below g1.out); have RBK_1 := Lib.hid (RBK.out.below g1.out); have E_1 := Lib.hid (HE.out.below g1.out); have k1RA0 := RA_1.out.c0; have k1RA1 := RA_1.out.c1; have k1RA2 := RA_1.out.c2; have k1RS2 := RS_1.out.c2; have k1RBK0 := RBK_1.out.c0; have k1RBK1 := RBK_1.out.c1; have k1RBK2 := RBK_1.out.c2))
  replace HB := Lib.hid (below_up HB.out g1.out HB.out.size)
  replace RA := RA_1
  replace RX := RX_1
  replace RS := RS_1
  replace RBK := RBK_1
  replace HE := E_1
  clear zRAc0 zRAc1 zRAc2 zRSc0 zRSc1 zRSc2 zRBKc0 zRBKc1 zRBKc2
  clear g1 E_1 RA_1 RX_1 RS_1 RBK_1 k1RA0 k1RA1 k1RA2 k1RS2 k1RBK0 k1RBK1 k1RBK2
  clear q1
  have zRAc0 := RA.out.c0
  have zRAc1 := RA.out.c1
  have zRAc2 := RA.out.c2
  go_wp2_with fail
  have C := fun W h => cast_any 3 n [] 2 W h
  rw [HN.out] at C
  refine (C _ HE.out).mono ?_
  clear C
  rintro e w8 ⟨rfl, hb⟩
  replace RA := Lib.hid (RA.out.below hb)
  replace RX := Lib.hid (RX.out.below hb)
  replace RS := Lib.hid (RS.out.below hb)
  replace RBK := Lib.hid (RBK.out.below hb)
  replace HE := Lib.hid (HE.out.below hb)
  replace HB := Lib.hid (below_up HB.out hb HB.out.size)
  clear hb
  clear zRAc0 zRAc1 zRAc2
  go_wp2_with fail
  have C := fun W h => cast_any 2 n [] 3 W h
  rw [HD.out] at C
  refine (C _ (HE.out.alloc _)).mono ?_
  clear C
  rintro e w9 ⟨rfl, hb⟩
  replace RA := Lib.hid ((RA.out.alloc _).below hb)
  replace RX := Lib.hid ((RX.out.alloc _).below hb)
  replace RS := Lib.hid ((RS.out.alloc _).below hb)
  replace RBK := Lib.hid ((RBK.out.alloc _).below hb)
  have RN := Lib.hid (show Val3 w9 (w8.heap.size) 2 n [] from Val3.below ⟨by simp [go_sem], by simp [go_sem], by simp [go_sem]⟩ hb)
  replace HE := Lib.hid ((HE.out.alloc _).below hb)
  replace HB := Lib.hid (below_next HB.out HB.out.size hb)
  clear hb
  have q2 := eql_yes 3 n []
  have yRAc0 := fun o => (RA.out.alloc o).c0
  have zRAc0 := RA.out.c0
  have yRAc1 := fun o => (RA.out.alloc o).c1
  have zRAc1 := RA.out.c1
  have yRAc2 := fun o => (RA.out.alloc o).c2
  have zRAc2 := RA.out.c2
  have yRNc0 := fun o => (RN.out.alloc o).c0
  have zRNc0 := RN.out.c0
  have yRNc1 := fun o => (RN.out.alloc o).c1
  have zRNc1 := RN.out.c1
  have yRNc2 := fun o => (RN.out.alloc o).c2
  have zRNc2 := RN.out.c2
  go_wp2_with fail
  go_ret
  exact ⟨rfl, HB.out.alloc HB.out.size _⟩


theorem casts_any (k n : Int) (t : List UInt8) (kind : Int) (w : World) (he : Env w) :
    Calls Tryd.prog 7 #[V k n t, .int .i64 kind] w fun e w' => e = .returned (.bool true) ∧ Below w.heap.size w w' := by
  cases hs : shortB [t]
  · exact casts_long k n t kind hs w he
  cases hv : vldB k n t
  · exact casts_e1 k n t kind hs hv (cast_bad k n t kind (Or.inl hv)) w he
  by_cases hk : kind < 1
  · exact casts_e2 k n t kind hs hv hk (cast_bad k n t kind (Or.inr (Or.inl hk))) w he
  by_cases hk4 : 4 < kind
  · exact casts_e3 k n t kind hs hv hk hk4 (cast_bad k n t kind (Or.inr (Or.inr hk4))) w he
  by_cases h0 : k = 0
  · subst h0
    exact casts_k0 n t kind hs hv (cast_null n t kind hv (by omega) (by omega)) w he
  rcases cast_good k n t kind hv (by omega) (by omega) h0 with ⟨e, hc, e0, e1⟩ | ⟨xn, xt, hc, hx⟩
  · exact casts_e4 k n t kind hs hv hk hk4 e e0 e1 hc w he
  have hk0 : kind ≠ 0 := by omega
  by_cases h1 : k = 1
  · subst h1
    exact casts_k1 n t kind hs xn xt hx hk0 hc w he
  obtain rfl := vld_nil hv h1
  have hf := cast_to_text hv h0 h1
  have hg := cast_back hv h0 h1
  rcases vld_cases hv with rfl | rfl | rfl | rfl | rfl
  · exact absurd rfl h0
  · exact absurd rfl h1
  · exact casts_k2 n kind hs xn xt hx hk0 hc _ rfl hf hg w he
  · exact casts_k3 n kind hs xn xt hx hk0 hc _ rfl hf hg (cast_day hv).1 (cast_day hv).2 w he
  · exact casts_k4 n kind hs xn xt hx hk0 hc _ rfl hf hg w he
end Go.Proofs.YtdoenjkebeidlaaDoor
