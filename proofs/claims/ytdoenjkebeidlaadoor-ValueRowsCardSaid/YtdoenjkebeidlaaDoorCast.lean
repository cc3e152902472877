/- The contracts of castText, castNumber and Cast. -/
import Derived.Test.YtdoenjkebeidlaaDoorParse
namespace Go.Proofs.YtdoenjkebeidlaaDoor
open Go.RowKit

/-- What castText returns. -/
def castT (l : List UInt8) (kind : Int) : Int × Int × List UInt8 × Int :=
  if (parse l).2.2.2 = 0 ∧ (parse l).1 = kind then parse l else (0, 0, [], 15)
/-- What castNumber returns. -/
def castN (n kind : Int) : Int × Int × List UInt8 × Int := if vldB kind n [] = true then (kind, n, [], 0) else (0, 0, [], 15)
/-- What Cast returns. -/
def cast (k n : Int) (t : List UInt8) (kind : Int) : Int × Int × List UInt8 × Int :=
  if vldB k n t = false ∨ kind < 1 ∨ 4 < kind then (0, 0, [], 1)
  else if k = 0 ∨ k = kind then (k, n, t, 0)
  else if kind = 1 then (1, 0, txt k n t, 0)
  else if k = 1 then castT t kind
  else if k = 4 ∨ kind = 4 then (0, 0, [], 10)
  else castN n kind

theorem castText_any (l : List UInt8) (hl : l.length ≤ 1000) (kind : Int) (w : World) (he : Env w) :
    Calls Tryd.prog 33 #[.string ⟨l.toArray⟩, .int .i64 kind] w (ValPost w (castT l kind)) := by
  have HL := Lib.hid hl
  have HE := Lib.hid he
  obtain ⟨⟨pk, pn, pt, pe⟩, hp⟩ : ∃ p, parse l = p := ⟨_, rfl⟩
  have HP := Lib.hid hp
  clear hl he hp
  go_enter Tryd.func33, Tryd.ntmps33
  go_wp2_with fail
  have C := fun W h => parse_any l HL.out W h
  rw [HP.out] at C
  refine (C _ (HE.out.alloc _)).mono ?_
  clear C
  rintro e w1 ⟨rfl, hb1⟩
  have R1 : Own3 w1 w.heap.size 0 0 [] := Own3.below ⟨⟨by simp [go_sem], by simp [go_sem], by simp [go_sem]⟩, by simp [go_sem], by simp [go_sem], by simp [go_sem]⟩ hb1
  have HB := below_up (((Below.refl _ _).alloc (Nat.le_refl _) _)) hb1 (by simp)
  clear hb1
  have r0 := R1.c0; have r1 := R1.c1; have r2 := R1.c2; have f0 := R1.f0; have f1 := R1.f1; have f2 := R1.f2
  have hlt := R1.lt
  by_cases h1 : pe = 0
  · by_cases h2 : pk = kind
    · have hc := Lib.hid (show castT l kind = (pk, pn, pt, pe) by unfold castT; rw [HP.out, if_pos ⟨h1, h2⟩])
      subst h1 h2
      go_wp2_with fail
      refine bodyPost_ret (v := .tuple #[V pk pn pt, .int .i64 0]) (by simp [results, Tryd.results33, go_sem, hlt, r0, r1, r2]) rfl ?_
      rw [hc.out]
      exact ⟨rfl, (set3 HB _ (Nat.le_refl _) _ _ _).alloc (by have := HB.size; simp; omega) _⟩
    · have hc := Lib.hid (show castT l kind = (0, 0, [], 15) by unfold castT; rw [HP.out, if_neg (fun h => h2 h.2)])
      subst h1
      have e1 : (pk != kind) = true := by simpa using h2
      clear h2
      go_wp2_with fail
      refine bodyPost_ret (v := .tuple #[V 0 0 [], .int .i64 15]) (by simp [results, Tryd.results33, go_sem, hlt, r0, r1, r2]) rfl ?_
      rw [hc.out]
      exact ⟨rfl, (set3 HB _ (Nat.le_refl _) _ _ _).alloc (by have := HB.size; simp; omega) _⟩
  · have hc := Lib.hid (show castT l kind = (0, 0, [], 15) by unfold castT; rw [HP.out, if_neg (fun h => h1 h.1)])
    have e1 : (pe != 0) = true := by simpa using h1
    clear h1
    go_wp2_with fail
    refine bodyPost_ret (v := .tuple #[V 0 0 [], .int .i64 15]) (by simp [results, Tryd.results33, go_sem, hlt, r0, r1, r2]) rfl ?_
    rw [hc.out]
    exact ⟨rfl, (set3 HB _ (Nat.le_refl _) _ _ _).alloc (by have := HB.size; simp; omega) _⟩

theorem castNumber_any (n kind : Int) (w : World) :
    Calls Tryd.prog 34 #[.int .i64 n, .int .i64 kind] w (ValPost w (castN n kind)) := by
  go_enter Tryd.func34, Tryd.ntmps34
  go_wp2_with fail
  refine (valid_any kind n [] _).mono ?_
  rintro e w1 ⟨rfl, hb1⟩
  have R1 : Own3 w1 w.heap.size 0 0 [] := Own3.below ⟨⟨by simp [go_sem], by simp [go_sem], by simp [go_sem]⟩, by simp [go_sem], by simp [go_sem], by simp [go_sem]⟩ hb1
  have A1 : Val3 w1 (w.heap.size + 1) kind n [] := Val3.below ⟨by simp [go_sem], by simp [go_sem], by simp [go_sem]⟩ hb1
  have HB := below_up (boxes2 w _ _) hb1 (by simp; omega)
  clear hb1
  have r0 := R1.c0; have r1 := R1.c1; have r2 := R1.c2; have f0 := R1.f0; have f1 := R1.f1; have f2 := R1.f2
  have a0 := A1.c0; have a1 := A1.c1; have a2 := A1.c2
  cases hv : vldB kind n []
  · have hc := Lib.hid (show castN n kind = (0, 0, [], 15) by unfold castN; rw [hv, if_neg (by decide)])
    go_wp2_with fail
    refine bodyPost_ret (v := .tuple #[V 0 0 [], .int .i64 15]) (by simp [results, Tryd.results34, go_sem, r0, r1, r2]) rfl ?_
    rw [hc.out]
    exact ⟨rfl, set3 HB _ (Nat.le_refl _) _ _ _⟩
  · have hc := Lib.hid (show castN n kind = (kind, n, [], 0) by unfold castN; rw [hv, if_pos rfl])
    go_wp2_with fail
    refine bodyPost_ret (v := .tuple #[V kind n [], .int .i64 0]) (by simp [results, Tryd.results34, go_sem, r0, r1, r2]) rfl ?_
    rw [hc.out]
    exact ⟨rfl, set3 HB _ (Nat.le_refl _) _ _ _⟩

theorem cast_bad1 (k n : Int) (t : List UInt8) (kind : Int) (hv : vldB k n t = false) (w : World) :
    Calls Tryd.prog 15 #[V k n t, .int .i64 kind] w (ValPost w (0, 0, [], 1)) := by
  go_enter Tryd.func15, Tryd.ntmps15
  go_wp2_with fail
  refine (valid_any k n t _).mono ?_
  rintro e w1 ⟨rfl, hb1⟩
  have R1 : Own3 w1 (w.heap.size + 1) 0 0 [] := Own3.below ⟨⟨by simp [go_sem], by simp [go_sem], by simp [go_sem]⟩, by simp [go_sem], by simp [go_sem], by simp [go_sem]⟩ hb1
  have HB := below_up (boxes2 w _ _) hb1 (by simp; omega)
  clear hb1
  have r0 := R1.c0; have r1 := R1.c1; have r2 := R1.c2; have f0 := R1.f0; have f1 := R1.f1; have f2 := R1.f2
  go_wp2_with fail
  refine bodyPost_ret (v := .tuple #[V 0 0 [], .int .i64 1]) (by simp [results, Tryd.results15, go_sem, r0, r1, r2]) rfl ?_
  exact ⟨rfl, set3 HB _ (Nat.le_succ _) _ _ _⟩

theorem cast_bad2 (k n : Int) (t : List UInt8) (kind : Int) (hv : vldB k n t = true) (hk : kind < 1 ∨ 4 < kind) (w : World) :
    Calls Tryd.prog 15 #[V k n t, .int .i64 kind] w (ValPost w (0, 0, [], 1)) := by
  go_enter Tryd.func15, Tryd.ntmps15
  go_wp2_with fail
  refine (valid_any k n t _).mono ?_
  rintro e w1 ⟨rfl, hb1⟩
  have R1 : Own3 w1 (w.heap.size + 1) 0 0 [] := Own3.below ⟨⟨by simp [go_sem], by simp [go_sem], by simp [go_sem]⟩, by simp [go_sem], by simp [go_sem], by simp [go_sem]⟩ hb1
  have HB := below_up (boxes2 w _ _) hb1 (by simp; omega)
  clear hb1
  have r0 := R1.c0; have r1 := R1.c1; have r2 := R1.c2; have f0 := R1.f0; have f1 := R1.f1; have f2 := R1.f2
  rcases hk with hk | hk
  · go_wp2_with fail
    refine bodyPost_ret (v := .tuple #[V 0 0 [], .int .i64 1]) (by simp [results, Tryd.results15, go_sem, r0, r1, r2]) rfl ?_
    exact ⟨rfl, set3 HB _ (Nat.le_succ _) _ _ _⟩
  · have hk2 : ¬ kind < 1 := by omega
    go_wp2_with fail
    refine bodyPost_ret (v := .tuple #[V 0 0 [], .int .i64 1]) (by simp [results, Tryd.results15, go_sem, r0, r1, r2]) rfl ?_
    exact ⟨rfl, set3 HB _ (Nat.le_succ _) _ _ _⟩

/-- Where a value is returned as it is. -/
theorem cast_same (k n : Int) (t : List UInt8) (kind : Int) (hv : vldB k n t = true) (h1 : 1 ≤ kind) (h4 : kind ≤ 4) (h : k = 0 ∨ k = kind) (w : World) :
    Calls Tryd.prog 15 #[V k n t, .int .i64 kind] w (ValPost w (k, n, t, 0)) := by
  go_enter Tryd.func15, Tryd.ntmps15
  go_wp2_with fail
  refine (valid_any k n t _).mono ?_
  rintro e w1 ⟨rfl, hb1⟩
  have A1 : Val3 w1 w.heap.size k n t := Val3.below ⟨by simp [go_sem], by simp [go_sem], by simp [go_sem]⟩ hb1
  have R1 : Own3 w1 (w.heap.size + 1) 0 0 [] := Own3.below ⟨⟨by simp [go_sem], by simp [go_sem], by simp [go_sem]⟩, by simp [go_sem], by simp [go_sem], by simp [go_sem]⟩ hb1
  have HB := below_up (boxes2 w _ _) hb1 (by simp; omega)
  clear hb1
  have r0 := R1.c0; have r1 := R1.c1; have r2 := R1.c2; have f0 := R1.f0; have f1 := R1.f1; have f2 := R1.f2
  have a0 := A1.c0; have a1 := A1.c1; have a2 := A1.c2
  rcases h with rfl | rfl
  · go_wp2_with fail
    refine bodyPost_ret (v := .tuple #[V 0 n t, .int .i64 0]) (by simp [results, Tryd.results15, go_sem, r0, r1, r2]) rfl ?_
    exact ⟨rfl, set3 HB _ (Nat.le_succ _) _ _ _⟩
  · have e0 : (k == 0) = false := by simp; omega
    go_wp2_with fail
    refine bodyPost_ret (v := .tuple #[V k n t, .int .i64 0]) (by simp [results, Tryd.results15, go_sem, r0, r1, r2]) rfl ?_
    exact ⟨rfl, set3 HB _ (Nat.le_succ _) _ _ _⟩

/-- A number, a day or a flag as a text. -/
theorem cast_text (k n : Int) (t : List UInt8) (hv : vldB k n t = true) (h0 : k ≠ 0) (h1 : k ≠ 1) (w : World) (he : Env w) :
    Calls Tryd.prog 15 #[V k n t, .int .i64 1] w (ValPost w (1, 0, txt k n t, 0)) := by
  have e0 : (k == 0) = false := by simpa using h0
  have e1 : (k == 1) = false := by simpa using h1
  have HE := Lib.hid he
  clear h0 h1 he
  go_enter Tryd.func15, Tryd.ntmps15
  go_wp2_with fail
  refine (valid_any k n t _).mono ?_
  rintro e w1 ⟨rfl, hb1⟩
  have A1 : Val3 w1 w.heap.size k n t := Val3.below ⟨by simp [go_sem], by simp [go_sem], by simp [go_sem]⟩ hb1
  have R1 : Own3 w1 (w.heap.size + 1) 0 0 [] := Own3.below ⟨⟨by simp [go_sem], by simp [go_sem], by simp [go_sem]⟩, by simp [go_sem], by simp [go_sem], by simp [go_sem]⟩ hb1
  have HB := below_up (boxes2 w _ _) hb1 (by simp; omega)
  clear hb1
  have a0 := A1.c0; have a1 := A1.c1; have a2 := A1.c2
  go_wp2_with fail
  refine (text_any k n t _ (HE.out.below HB)).mono ?_
  rintro e w2 ⟨rfl, hb2⟩
  have R2 := R1.below hb2
  have HB2 := below_up HB hb2 HB.size
  clear hb2 a0 a1 a2
  have r0 := R2.c0; have r1 := R2.c1; have r2 := R2.c2; have f0 := R2.f0; have f1 := R2.f1; have f2 := R2.f2
  go_wp2_with fail
  refine bodyPost_ret (v := .tuple #[V 1 0 (txt k n t), .int .i64 0]) (by simp [results, Tryd.results15, go_sem, r0, r1, r2]) rfl ?_
  exact ⟨rfl, set3 HB2 _ (Nat.le_succ _) _ _ _⟩

/-- A text as another kind. -/
theorem cast_of_text (n : Int) (t : List UInt8) (kind : Int) (hv : vldB 1 n t = true) (h1 : 2 ≤ kind) (h4 : kind ≤ 4) (w : World) (he : Env w) :
    Calls Tryd.prog 15 #[V 1 n t, .int .i64 kind] w (ValPost w (castT t kind)) := by
  have e1 : ((1 : Int) == kind) = false := by simp; omega
  have e2 : (kind == 1) = false := by simp; omega
  have HE := Lib.hid he
  have HL := Lib.hid (vld_len hv)
  obtain ⟨⟨pk, pn, pt, pe⟩, hp⟩ : ∃ p, castT t kind = p := ⟨_, rfl⟩
  rw [hp]
  have HP := Lib.hid hp
  clear he hp
  go_enter Tryd.func15, Tryd.ntmps15
  go_wp2_with fail
  refine (valid_any 1 n t _).mono ?_
  rintro e w1 ⟨rfl, hb1⟩
  have A1 : Val3 w1 w.heap.size 1 n t := Val3.below ⟨by simp [go_sem], by simp [go_sem], by simp [go_sem]⟩ hb1
  have R1 : Own3 w1 (w.heap.size + 1) 0 0 [] := Own3.below ⟨⟨by simp [go_sem], by simp [go_sem], by simp [go_sem]⟩, by simp [go_sem], by simp [go_sem], by simp [go_sem]⟩ hb1
  have HB := below_up (boxes2 w _ _) hb1 (by simp; omega)
  clear hb1
  have a0 := A1.c0; have a1 := A1.c1; have a2 := A1.c2
  go_wp2_with fail
  have C := fun W h => castText_any t (by have := HL.out; omega) kind W h
  rw [HP.out] at C
  refine (C _ (HE.out.below HB)).mono ?_
  clear C
  rintro e w2 ⟨rfl, hb2⟩
  have R2 := R1.below hb2
  have HB2 := below_up HB hb2 HB.size
  clear hb2 a0 a1 a2
  have r0 := R2.c0; have r1 := R2.c1; have r2 := R2.c2; have f0 := R2.f0; have f1 := R2.f1; have f2 := R2.f2
  go_wp2_with fail
  refine bodyPost_ret (v := .tuple #[V pk pn pt, .int .i64 pe]) (by simp [results, Tryd.results15, go_sem, r0, r1, r2]) rfl ?_
  exact ⟨rfl, set3 HB2 _ (Nat.le_succ _) _ _ _⟩

/-- A flag, or to a flag: refused. -/
theorem cast_type (k n : Int) (t : List UInt8) (kind : Int) (hv : vldB k n t = true) (h0 : k ≠ 0) (h1 : k ≠ 1) (hk : k ≠ kind) (h2 : 2 ≤ kind) (h4 : kind ≤ 4) (h : k = 4 ∨ kind = 4) (w : World) :
    Calls Tryd.prog 15 #[V k n t, .int .i64 kind] w (ValPost w (0, 0, [], 10)) := by
  have e0 : (k == 0) = false := by simpa using h0
  have e1 : (k == 1) = false := by simpa using h1
  have e2 : (k == kind) = false := by simpa using hk
  have e3 : (kind == 1) = false := by simp; omega
  have H := Lib.hid h
  clear h0 h1 hk h
  go_enter Tryd.func15, Tryd.ntmps15
  go_wp2_with fail
  refine (valid_any k n t _).mono ?_
  rintro e w1 ⟨rfl, hb1⟩
  have A1 : Val3 w1 w.heap.size k n t := Val3.below ⟨by simp [go_sem], by simp [go_sem], by simp [go_sem]⟩ hb1
  have R1 : Own3 w1 (w.heap.size + 1) 0 0 [] := Own3.below ⟨⟨by simp [go_sem], by simp [go_sem], by simp [go_sem]⟩, by simp [go_sem], by simp [go_sem], by simp [go_sem]⟩ hb1
  have HB := below_up (boxes2 w _ _) hb1 (by simp; omega)
  clear hb1
  have r0 := R1.c0; have r1 := R1.c1; have r2 := R1.c2; have f0 := R1.f0; have f1 := R1.f1; have f2 := R1.f2
  have a0 := A1.c0; have a1 := A1.c1; have a2 := A1.c2
  by_cases h5 : k = 4
  · have e4 : (k == 4) = true := by simpa using h5
    clear h5
    go_wp2_with fail
    refine bodyPost_ret (v := .tuple #[V 0 0 [], .int .i64 10]) (by simp [results, Tryd.results15, go_sem, r0, r1, r2]) rfl ?_
    exact ⟨rfl, set3 HB _ (Nat.le_succ _) _ _ _⟩
  · have e4 : (k == 4) = false := by simpa using h5
    have e5 : (kind == 4) = true := by have := H.out; simp; omega
    clear h5
    go_wp2_with fail
    refine bodyPost_ret (v := .tuple #[V 0 0 [], .int .i64 10]) (by simp [results, Tryd.results15, go_sem, r0, r1, r2]) rfl ?_
    exact ⟨rfl, set3 HB _ (Nat.le_succ _) _ _ _⟩

/-- A number as a day, a day as a number. -/
theorem cast_num (k n : Int) (t : List UInt8) (kind : Int) (hv : vldB k n t = true) (h0 : k ≠ 0) (h1 : k ≠ 1) (hk : k ≠ kind) (h2 : 2 ≤ kind) (h4 : kind ≤ 4) (h5 : k ≠ 4) (h6 : kind ≠ 4) (w : World) :
    Calls Tryd.prog 15 #[V k n t, .int .i64 kind] w (ValPost w (castN n kind)) := by
  have e0 : (k == 0) = false := by simpa using h0
  have e1 : (k == 1) = false := by simpa using h1
  have e2 : (k == kind) = false := by simpa using hk
  have e3 : (kind == 1) = false := by simp; omega
  have e4 : (k == 4) = false := by simpa using h5
  have e5 : (kind == 4) = false := by simpa using h6
  obtain ⟨⟨pk, pn, pt, pe⟩, hp⟩ : ∃ p, castN n kind = p := ⟨_, rfl⟩
  rw [hp]
  have HP := Lib.hid hp
  clear h0 h1 hk h5 h6 hp
  go_enter Tryd.func15, Tryd.ntmps15
  go_wp2_with fail
  refine (valid_any k n t _).mono ?_
  rintro e w1 ⟨rfl, hb1⟩
  have A1 : Val3 w1 w.heap.size k n t := Val3.below ⟨by simp [go_sem], by simp [go_sem], by simp [go_sem]⟩ hb1
  have R1 : Own3 w1 (w.heap.size + 1) 0 0 [] := Own3.below ⟨⟨by simp [go_sem], by simp [go_sem], by simp [go_sem]⟩, by simp [go_sem], by simp [go_sem], by simp [go_sem]⟩ hb1
  have HB := below_up (boxes2 w _ _) hb1 (by simp; omega)
  clear hb1
  have a0 := A1.c0; have a1 := A1.c1; have a2 := A1.c2
  go_wp2_with fail
  have C := fun W => castNumber_any n kind W
  rw [HP.out] at C
  refine (C _).mono ?_
  clear C
  rintro e w2 ⟨rfl, hb2⟩
  have R2 := R1.below hb2
  have HB2 := below_up HB hb2 HB.size
  clear hb2 a0 a1 a2
  have r0 := R2.c0; have r1 := R2.c1; have r2 := R2.c2; have f0 := R2.f0; have f1 := R2.f1; have f2 := R2.f2
  go_wp2_with fail
  refine bodyPost_ret (v := .tuple #[V pk pn pt, .int .i64 pe]) (by simp [results, Tryd.results15, go_sem, r0, r1, r2]) rfl ?_
  exact ⟨rfl, set3 HB2 _ (Nat.le_succ _) _ _ _⟩

/-- Cast, for every value and kind. -/
theorem cast_any (k n : Int) (t : List UInt8) (kind : Int) (w : World) (he : Env w) :
    Calls Tryd.prog 15 #[V k n t, .int .i64 kind] w (ValPost w (cast k n t kind)) := by
  unfold cast
  by_cases c1 : vldB k n t = false ∨ kind < 1 ∨ 4 < kind
  · rw [if_pos c1]
    cases hv : vldB k n t
    · exact cast_bad1 k n t kind hv w
    · exact cast_bad2 k n t kind hv (by rcases c1 with c | c; rw [hv] at c; cases c; exact c) w
  · rw [if_neg c1]
    have hv : vldB k n t = true := by
      cases g : vldB k n t
      · exact absurd (Or.inl g) c1
      · rfl
    have h1 : 1 ≤ kind := by have := fun h => c1 (Or.inr (Or.inl h)); omega
    have h4 : kind ≤ 4 := by have := fun h => c1 (Or.inr (Or.inr h)); omega
    by_cases c2 : k = 0 ∨ k = kind
    · rw [if_pos c2]; exact cast_same k n t kind hv h1 h4 c2 w
    · rw [if_neg c2]
      have hk0 : k ≠ 0 := fun h => c2 (Or.inl h)
      have hkk : k ≠ kind := fun h => c2 (Or.inr h)
      by_cases c3 : kind = 1
      · subst c3
        rw [if_pos rfl]; exact cast_text k n t hv hk0 hkk w he
      · rw [if_neg c3]
        by_cases c4 : k = 1
        · subst c4
          rw [if_pos rfl]; exact cast_of_text n t kind hv (by omega) h4 w he
        · rw [if_neg c4]
          by_cases c5 : k = 4 ∨ kind = 4
          · rw [if_pos c5]; exact cast_type k n t kind hv hk0 c4 hkk (by omega) h4 c5 w
          · rw [if_neg c5]; exact cast_num k n t kind hv hk0 c4 hkk (by omega) h4 (fun h => c5 (Or.inl h)) (fun h => c5 (Or.inr h)) w
end Go.Proofs.YtdoenjkebeidlaaDoor
