/- The contracts of Cmp and Parse, for every argument; what the laws' own 'of' returns. -/
import Derived.Test.YtpmggfmhkjafkaaDoorParse
namespace Go.Proofs.YtpmggfmhkjafkaaDoor
open Go.RowKit

/-- The three-way comparison. -/
def cmpI (x y : Int) : Int := if x < y then -1 else if y < x then 1 else 0
/-- What Cmp returns. -/
def cmpR (an ad bn bd : Int) : Int := if vldB an ad && vldB bn bd then cmpI (an * bd) (bn * ad) else 0

theorem cmpInt_any (x y : Int) (w : World) : Calls Tryd.prog 43 #[.int .i64 x, .int .i64 y] w fun e w' => e = .returned (.int .i64 (cmpI x y)) ∧ w' = w := by
  refine (Any.cmp_Compare_int Tryd.lays122 x y w).mono ?_
  rintro e w' ⟨rfl, rfl⟩
  refine ⟨ret_int ?_, rfl⟩
  unfold Lib.compareInt cmpI
  rfl

theorem boxes2 (w : World) (A B : Obj) : Below w.heap.size w ((w.alloc A).alloc B) :=
  ((Below.refl _ _).alloc (Nat.le_refl _) _).alloc (by simp) _

theorem cmp_bad (an ad bn bd : Int) (w : World) (h : (vldB an ad && vldB bn bd) = false) :
    Calls Tryd.prog 25 #[.agg #[.int .i64 an, .int .i64 ad], .agg #[.int .i64 bn, .int .i64 bd]] w fun e w' => e = .returned (.int .i64 0) ∧ Below w.heap.size w w' := by
  by_cases hva : vldB an ad = true
  · have hvb : vldB bn bd = false := by simpa [hva] using h
    clear h
    go_enter Tryd.func25, Tryd.ntmps25
    go_wp2_with fail
    refine (valid_any an ad _).mono ?_
    rintro e w1 ⟨rfl, hb1⟩
    have B1 : Rat2 w1 (w.heap.size + 1) bn bd := Rat2.below ⟨by simp [go_sem], by simp [go_sem]⟩ hb1
    have c0 := B1.c0; have c1 := B1.c1
    have HB := below_up (boxes2 w _ _) hb1 (by simp; omega)
    clear hb1
    go_wp2_with fail
    refine (valid_any bn bd _).mono ?_
    rintro e w2 ⟨rfl, hb2⟩
    have HB2 := below_up HB hb2 HB.size
    clear hb2 c0 c1
    go_wp2_with fail
    go_ret
    exact ⟨rfl, HB2⟩
  · have hva' : vldB an ad = false := by simpa using hva
    clear h hva
    go_enter Tryd.func25, Tryd.ntmps25
    go_wp2_with fail
    refine (valid_any an ad _).mono ?_
    rintro e w2 ⟨rfl, hb1⟩
    have HB2 := below_up (boxes2 w _ _) hb1 (by simp; omega)
    clear hb1
    go_wp2_with fail
    go_ret
    exact ⟨rfl, HB2⟩

theorem cmp_ok (an ad bn bd : Int) (w : World) (ha : vldB an ad = true) (hb : vldB bn bd = true) :
    Calls Tryd.prog 25 #[.agg #[.int .i64 an, .int .i64 ad], .agg #[.int .i64 bn, .int .i64 bd]] w fun e w' => e = .returned (.int .i64 (cmpI (an * bd) (bn * ad))) ∧ Below w.heap.size w w' := by
  have P := prods (vldB_true ha) (vldB_true hb)
  go_enter Tryd.func25, Tryd.ntmps25
  go_wp2_with fail
  refine (valid_any an ad _).mono ?_
  rintro e w1 ⟨rfl, hb1⟩
  have A1 : Rat2 w1 w.heap.size an ad := Rat2.below ⟨by simp [go_sem], by simp [go_sem]⟩ hb1
  have B1 : Rat2 w1 (w.heap.size + 1) bn bd := Rat2.below ⟨by simp [go_sem], by simp [go_sem]⟩ hb1
  have c0 := B1.c0; have c1 := B1.c1
  have HB := below_up (boxes2 w _ _) hb1 (by simp; omega)
  clear hb1
  go_wp2_with fail
  refine (valid_any bn bd _).mono ?_
  rintro e w2 ⟨rfl, hb2⟩
  have A2 := A1.below hb2; have B2 := B1.below hb2
  have HB2 := below_up HB hb2 HB.size
  clear hb2 c0 c1
  have a0 := A2.c0; have a1 := A2.c1; have b0 := B2.c0; have b1 := B2.c1
  obtain ⟨p1, p2, p3, p4, p5⟩ := P
  go_wp2_with fail
  refine (cmpInt_any (an * bd) (bn * ad) _).mono ?_
  rintro e w' ⟨rfl, rfl⟩
  go_wp2_with fail
  go_ret
  exact ⟨rfl, HB2⟩

/-- Cmp, for every two ratios. -/
theorem cmp_any (an ad bn bd : Int) (w : World) :
    Calls Tryd.prog 25 #[.agg #[.int .i64 an, .int .i64 ad], .agg #[.int .i64 bn, .int .i64 bd]] w fun e w' => e = .returned (.int .i64 (cmpR an ad bn bd)) ∧ Below w.heap.size w w' := by
  unfold cmpR
  cases h : (vldB an ad && vldB bn bd)
  · rw [if_neg (by decide)]
    exact cmp_bad an ad bn bd w h
  · rw [if_pos rfl]
    exact cmp_ok an ad bn bd w (Bool.and_eq_true_iff.1 h).1 (Bool.and_eq_true_iff.1 h).2

theorem cut_len (l : List UInt8) (h : l.length ≤ 1000) : (Lib.cut l [47]).1.length ≤ 1000 ∧ (Lib.cut l [47]).2.1.length ≤ 1000 := by
  unfold Lib.cut
  split
  · simp only [List.length_take, List.length_drop]; omega
  · simp; omega

/-- Parse, for every text of at most 1000 bytes. -/
theorem parse_any (l : List UInt8) (hl : l.length ≤ 1000) (w : World) (he : Env w) :
    Calls Tryd.prog 13 #[.string ⟨l.toArray⟩] w (RatioPost w (parse l)) := by
  obtain ⟨hb, ha⟩ := cut_len l hl
  unfold parse
  generalize hc : Lib.cut l [47] = c at *
  obtain ⟨b, a, f⟩ := c
  simp only at hb ha ⊢
  cases f
  · rw [if_neg (by decide)]
    unfold parse2
    rcases h1 : Lib.atoiAll b with n | _ | _
    · obtain ⟨d, h2⟩ : ∃ d, Lib.atoiAll [49] = .ok d := ⟨1, by decide⟩
      simp only [h2]
      by_cases hq : txt n d = l
      · rw [if_pos hq]
        exact parse_whole_eq l b a hl hc hb n d h1 h2 _ rfl hq w he
      · rw [if_neg hq]
        exact parse_whole_ne l b a hl hc hb n d h1 h2 _ rfl hq w he
    · exact parse_whole_bad1 l b a hl hc hb (fun v h => by rw [h1] at h; cases h) w he
    · exact parse_whole_bad1 l b a hl hc hb (fun v h => by rw [h1] at h; cases h) w he
  · rw [if_pos rfl]
    unfold parse2
    rcases h1 : Lib.atoiAll b with n | _ | _
    · rcases h2 : Lib.atoiAll a with d | _ | _
      · simp only
        by_cases hq : txt n d = l
        · rw [if_pos hq]
          exact parse_cut_eq l b a hl hc hb ha n d h1 h2 _ rfl hq w he
        · rw [if_neg hq]
          exact parse_cut_ne l b a hl hc hb ha n d h1 h2 _ rfl hq w he
      · exact parse_cut_bad2 l b a hl hc hb ha n h1 (fun v h => by rw [h2] at h; cases h) w he
      · exact parse_cut_bad2 l b a hl hc hb ha n h1 (fun v h => by rw [h2] at h; cases h) w he
    · exact parse_cut_bad1 l b a hl hc hb ha (fun v h => by rw [h1] at h; cases h) w he
    · exact parse_cut_bad1 l b a hl hc hb ha (fun v h => by rw [h1] at h; cases h) w he

/-- What the laws' own 'of' returns: the two numbers as they stand. -/
theorem of_any (n d : Int) (w : World) :
    Calls Tryd.prog 30 #[.int .i64 n, .int .i64 d] w fun e w' => e = .returned (.agg #[.int .i64 n, .int .i64 d]) ∧ w.alloc (Obj.cells #[.int .i64 n, .int .i64 d] 23) = w' := by
  go_enter Tryd.func30, Tryd.ntmps30
  go_wp2_with fail
  go_returns
  exact ⟨rfl, rfl⟩
theorem of_below (n d : Int) (w : World) :
    Calls Tryd.prog 30 #[.int .i64 n, .int .i64 d] w fun e w' => e = .returned (.agg #[.int .i64 n, .int .i64 d]) ∧ Below w.heap.size w w' := by
  refine (of_any n d w).mono ?_
  rintro e w' ⟨rfl, rfl⟩
  exact ⟨rfl, (Below.refl _ _).alloc (Nat.le_refl _) _⟩
end Go.Proofs.YtpmggfmhkjafkaaDoor
