/- The contract of the reference's Parse. -/
import Derived.Test.YtpmggfmhkjafkaaDoorRefNum
import Derived.Deep.DeepFit
namespace Go.Proofs.YtpmggfmhkjafkaaDoor
open Go.RowKit

theorem fold_lt (l : List UInt8) : ∀ (a : Nat), l.all isDig = true → numFold a l < (a + 1) * 10 ^ l.length := by
  induction l with
  | nil => intro a _; rw [show numFold a [] = a from rfl, List.length_nil, Nat.pow_zero]; omega
  | cons c l ih =>
    intro a h
    rw [List.all_cons, Bool.and_eq_true] at h
    have h1 := h.1
    unfold isDig at h1
    rw [decide_eq_true_eq] at h1
    have ih := ih (10 * a + (c.toNat - 48)) h.2
    rw [List.length_cons, Nat.pow_succ, show numFold a (c :: l) = numFold (10 * a + (c.toNat - 48)) l from rfl]
    generalize 10 ^ l.length = p at *
    have m := Nat.mul_le_mul_right p (show 10 * a + (c.toNat - 48) + 1 ≤ (a + 1) * 10 by omega)
    rw [Nat.mul_comm p 10, ← Nat.mul_assoc]
    exact Nat.lt_of_lt_of_le ih m

theorem numF_le (l : List UInt8) : numF l ≤ 99999999999 := by
  unfold numF
  split
  · rename_i h
    rw [Bool.and_eq_true, decide_eq_true_eq] at h
    have a := fold_lt l 0 h.1
    have b := Nat.pow_le_pow_right (show 0 < 10 by omega) h.2
    omega
  · omega

theorem ext_eq (l : List UInt8) (i j : Nat) : (⟨l.toArray⟩ : ByteArray).extract i j = ⟨((l.drop i).take (j - i)).toArray⟩ := by
  apply ByteArray.ext
  simp

theorem refnumber_le (l : List UInt8) (hl : l.length ≤ 1000) (w : World) :
    Calls Tryd.prog 37 #[.string ⟨l.toArray⟩] w fun e w' => e = .returned (.int .i64 (numF l : Int)) ∧ w = w' :=
  (refnumber_any l hl w).mono fun _ _ h => ⟨h.1, h.2.symm⟩

set_option linter.unusedVariables false
theorem slash_at (b r : List UInt8) (hb : ∀ x ∈ b, x ≠ 47) : ∀ k (hk : k < (b ++ 47 :: r).length), k ≤ b.length → (((b ++ 47 :: r)[k].toNat = 47) ↔ k = b.length) := by
  intro k hk hkb
  constructor
  · intro h
    rcases Nat.lt_or_ge k b.length with h1 | h1
    · rw [List.getElem_append_left h1] at h
      exact absurd (UInt8.toNat_inj.1 h) (hb _ (List.getElem_mem h1))
    · omega
  · intro h
    subst h
    simp

theorem slash_no (b : List UInt8) (hb : ∀ x ∈ b, x ≠ 47) : ∀ k (hk : k < b.length), b[k].toNat ≠ 47 := by
  intro k hk h
  exact hb _ (List.getElem_mem hk) (UInt8.toNat_inj.1 h)

theorem refp_cut_neg_eq (y : List UInt8) (r : List UInt8) (l : List UInt8) (hl : l.length ≤ 1000) (h : l = (45 :: y) ++ 47 :: r) (hb : ∀ x ∈ (45 :: y : List UInt8), x ≠ 47) (N D : Int) (hN : N = (-(numF y : Int))) (hD : D = (numF r : Int)) (t : List UInt8) (ht : txt N D = t) (hq : t = l) (w : World) :
    Calls Tryd.prog 14 #[.string ⟨l.toArray⟩] w (RatioPost w (N, D, 0)) := by
  have len : l.length = y.length + 1 + (r.length + 1) := by rw [h]; simp; try omega
  have HS := Lib.hid (show ∀ k (hk : k < l.length), k ≤ y.length + 1 → ((l[k].toNat = 47) ↔ k = y.length + 1) from by rw [h]; exact slash_at _ _ hb)
  have H0 := Lib.hid (show ∀ (h0 : 0 < l.length), l[0].toNat = 45 from by rw [h]; intro h0; rfl)
  have HX := Lib.hid (show (⟨l.toArray⟩ : ByteArray).extract (y.length + 1 + 1) l.length = ⟨r.toArray⟩ from by rw [ext_eq, len, h]; congr 2; first | (simp; done) | (simp; exact List.take_of_length_le (by omega)))
  have lr : r.length ≤ 1000 := by omega
  have HY := Lib.hid (show (⟨l.toArray⟩ : ByteArray).extract 1 (y.length + 1) = ⟨y.toArray⟩ from by rw [ext_eq, h]; congr 2; simp)
  have ly : y.length ≤ 1000 := by omega
  have HT := Lib.hid ht
  have HQ := Lib.hid hq
  have HN := Lib.hid hN
  have HDD := Lib.hid hD
  have hle := numF_le y
  have LL := Lib.hid len
  clear ht hq h hb hN hD len
  go_enter Tryd.func14, Tryd.ntmps14
  go_wp2
  go_loopw [5, 6] (fun e i wr => ∃ k : Nat, i = .int .i64 (k : Int) ∧ k ≤ y.length + 1 ∧ e = .int .i64 (l.length : Int) ∧ wr = (w.alloc (Obj.cells #[Value.int IntKind.i64 0, Value.int IntKind.i64 0] 23)).alloc (Obj.cells #[Value.int IntKind.i64 0, Value.int IntKind.i64 1] 23)) (fun _ i _ => l.length - (intOf i).toNat)
  case atStart => exact ⟨0, by simp, by omega, by simp, rfl⟩
  case round =>
    obtain ⟨k, rfl, hk, rfl, rfl⟩ := hrel
    have hlt : k < l.length := by have := LL.out; omega
    have hb2 : ∀ (h : k < (ByteArray.mk l.toArray).size), (⟨l.toArray⟩ : ByteArray)[k]'h = l[k] := fun _ => rfl
    by_cases hkb : k = y.length + 1
    · subst hkb
      have e47 : ((l[y.length + 1].toNat : Int) == 47) = true := by have := (HS.out (y.length + 1) hlt (by omega)).2 rfl; simp [this]
      have hx := HX.out
      go_wp2_with fail
      refine (refnumber_le r lr _).mono ?_
      rintro e w' ⟨rfl, rfl⟩
      clear hb2 e47 hx
      have hlp : 0 < l.length := by have := LL.out; omega
      have hb3 : ∀ (h : 0 < (ByteArray.mk l.toArray).size), (⟨l.toArray⟩ : ByteArray)[0]'h = l[0] := fun _ => rfl
      have e45 : ((l[0].toNat : Int) == 45) = true := by have := H0.out hlp; simp; omega
      have hy := HY.out
      go_wp2_with fail
      refine (refnumber_le y ly _).mono ?_
      rintro e w' ⟨rfl, rfl⟩
      clear hy
      have hl0 : (l == []) = false := by cases l with | nil => have := LL.out; simp at this | cons _ _ => rfl
      have hl1 : ¬ (l = []) := by simpa using hl0
      have wn : IntKind.i64.wrap (0 - (numF y : Int)) = -(numF y : Int) := by simp only [IntKind.wrap_i64]; omega
      go_wp2_with fail
      have T := fun W => reftext_any N D W
      simp only [HT.out] at T
      simp only [HN.out, HDD.out] at T
      refine (T _).mono ?_
      clear T
      rintro e w1 ⟨rfl, hb1⟩
      have R1 : Own2 w1 w.heap.size 0 0 := Own2.below ⟨⟨by simp [go_sem], by simp [go_sem]⟩, by simp [go_sem], by simp [go_sem]⟩ hb1
      have A1 : Rat2 w1 (w.heap.size + 1) (-(numF y : Int)) (numF r : Int) := Rat2.below ⟨by simp [go_sem], by simp [go_sem]⟩ hb1
      have HB := below_up (boxes2 w _ _) hb1 (by simp; try omega)
      clear hb1
      have r0 := R1.c0; have r1 := R1.c1; have f0 := R1.f0; have f1 := R1.f1; have a0 := A1.c0; have a1 := A1.c1
      have hqq := HQ.out
      subst hqq
      go_wp2_with fail
      refine bodyPost_ret (v := .tuple #[.agg #[.int .i64 (-(numF y : Int)), .int .i64 (numF r : Int)], .int .i64 0]) (by simp [results, Tryd.results14, go_sem, r0, r1]) rfl ?_
      exact ⟨by rw [HN.out, HDD.out], (HB.setCell (show w.heap.size ≤ w.heap.size by omega) _).setCell (show w.heap.size ≤ w.heap.size by omega) _⟩
    · have e47 : ((l[k].toNat : Int) == 47) = false := by have : ¬ (l[k].toNat = 47) := fun h => hkb ((HS.out k hlt hk).1 h); simp; omega
      go_wp2_with fail
      exact ⟨⟨k + 1, by simp, by omega, by simp, by first | rfl | trivial⟩, by simp [intOf]; omega⟩

theorem refp_cut_neg_ne (y : List UInt8) (r : List UInt8) (l : List UInt8) (hl : l.length ≤ 1000) (h : l = (45 :: y) ++ 47 :: r) (hb : ∀ x ∈ (45 :: y : List UInt8), x ≠ 47) (N D : Int) (hN : N = (-(numF y : Int))) (hD : D = (numF r : Int)) (t : List UInt8) (ht : txt N D = t) (hq : t ≠ l) (w : World) :
    Calls Tryd.prog 14 #[.string ⟨l.toArray⟩] w (RatioPost w (0, 0, 6)) := by
  have len : l.length = y.length + 1 + (r.length + 1) := by rw [h]; simp; try omega
  have HS := Lib.hid (show ∀ k (hk : k < l.length), k ≤ y.length + 1 → ((l[k].toNat = 47) ↔ k = y.length + 1) from by rw [h]; exact slash_at _ _ hb)
  have H0 := Lib.hid (show ∀ (h0 : 0 < l.length), l[0].toNat = 45 from by rw [h]; intro h0; rfl)
  have HX := Lib.hid (show (⟨l.toArray⟩ : ByteArray).extract (y.length + 1 + 1) l.length = ⟨r.toArray⟩ from by rw [ext_eq, len, h]; congr 2; first | (simp; done) | (simp; exact List.take_of_length_le (by omega)))
  have lr : r.length ≤ 1000 := by omega
  have HY := Lib.hid (show (⟨l.toArray⟩ : ByteArray).extract 1 (y.length + 1) = ⟨y.toArray⟩ from by rw [ext_eq, h]; congr 2; simp)
  have ly : y.length ≤ 1000 := by omega
  have HT := Lib.hid ht
  have HQ := Lib.hid hq
  have HN := Lib.hid hN
  have HDD := Lib.hid hD
  have hle := numF_le y
  have LL := Lib.hid len
  clear ht hq h hb hN hD len
  go_enter Tryd.func14, Tryd.ntmps14
  go_wp2
  go_loopw [5, 6] (fun e i wr => ∃ k : Nat, i = .int .i64 (k : Int) ∧ k ≤ y.length + 1 ∧ e = .int .i64 (l.length : Int) ∧ wr = (w.alloc (Obj.cells #[Value.int IntKind.i64 0, Value.int IntKind.i64 0] 23)).alloc (Obj.cells #[Value.int IntKind.i64 0, Value.int IntKind.i64 1] 23)) (fun _ i _ => l.length - (intOf i).toNat)
  case atStart => exact ⟨0, by simp, by omega, by simp, rfl⟩
  case round =>
    obtain ⟨k, rfl, hk, rfl, rfl⟩ := hrel
    have hlt : k < l.length := by have := LL.out; omega
    have hb2 : ∀ (h : k < (ByteArray.mk l.toArray).size), (⟨l.toArray⟩ : ByteArray)[k]'h = l[k] := fun _ => rfl
    by_cases hkb : k = y.length + 1
    · subst hkb
      have e47 : ((l[y.length + 1].toNat : Int) == 47) = true := by have := (HS.out (y.length + 1) hlt (by omega)).2 rfl; simp [this]
      have hx := HX.out
      go_wp2_with fail
      refine (refnumber_le r lr _).mono ?_
      rintro e w' ⟨rfl, rfl⟩
      clear hb2 e47 hx
      have hlp : 0 < l.length := by have := LL.out; omega
      have hb3 : ∀ (h : 0 < (ByteArray.mk l.toArray).size), (⟨l.toArray⟩ : ByteArray)[0]'h = l[0] := fun _ => rfl
      have e45 : ((l[0].toNat : Int) == 45) = true := by have := H0.out hlp; simp; omega
      have hy := HY.out
      go_wp2_with fail
      refine (refnumber_le y ly _).mono ?_
      rintro e w' ⟨rfl, rfl⟩
      clear hy
      have hl0 : (l == []) = false := by cases l with | nil => have := LL.out; simp at this | cons _ _ => rfl
      have hl1 : ¬ (l = []) := by simpa using hl0
      have wn : IntKind.i64.wrap (0 - (numF y : Int)) = -(numF y : Int) := by simp only [IntKind.wrap_i64]; omega
      go_wp2_with fail
      have T := fun W => reftext_any N D W
      simp only [HT.out] at T
      simp only [HN.out, HDD.out] at T
      refine (T _).mono ?_
      clear T
      rintro e w1 ⟨rfl, hb1⟩
      have R1 : Own2 w1 w.heap.size 0 0 := Own2.below ⟨⟨by simp [go_sem], by simp [go_sem]⟩, by simp [go_sem], by simp [go_sem]⟩ hb1
      have A1 : Rat2 w1 (w.heap.size + 1) (-(numF y : Int)) (numF r : Int) := Rat2.below ⟨by simp [go_sem], by simp [go_sem]⟩ hb1
      have HB := below_up (boxes2 w _ _) hb1 (by simp; try omega)
      clear hb1
      have r0 := R1.c0; have r1 := R1.c1; have f0 := R1.f0; have f1 := R1.f1; have a0 := A1.c0; have a1 := A1.c1
      have hqq : (t == l) = false := by simpa using HQ.out
      have hqn : ¬ t = l := HQ.out
      go_wp2_with fail
      refine bodyPost_ret (v := .tuple #[.agg #[.int .i64 0, .int .i64 0], .int .i64 6]) (by simp [results, Tryd.results14, go_sem, r0, r1]) rfl ?_
      exact ⟨rfl, (HB.setCell (show w.heap.size ≤ w.heap.size by omega) _).setCell (show w.heap.size ≤ w.heap.size by omega) _⟩
    · have e47 : ((l[k].toNat : Int) == 47) = false := by have : ¬ (l[k].toNat = 47) := fun h => hkb ((HS.out k hlt hk).1 h); simp; omega
      go_wp2_with fail
      exact ⟨⟨k + 1, by simp, by omega, by simp, by first | rfl | trivial⟩, by simp [intOf]; omega⟩

theorem refp_cut_pos_eq (c : UInt8) (y : List UInt8) (hc : c ≠ 45) (r : List UInt8) (l : List UInt8) (hl : l.length ≤ 1000) (h : l = (c :: y) ++ 47 :: r) (hb : ∀ x ∈ (c :: y : List UInt8), x ≠ 47) (N D : Int) (hN : N = (numF (c :: y) : Int)) (hD : D = (numF r : Int)) (t : List UInt8) (ht : txt N D = t) (hq : t = l) (w : World) :
    Calls Tryd.prog 14 #[.string ⟨l.toArray⟩] w (RatioPost w (N, D, 0)) := by
  have len : l.length = y.length + 1 + (r.length + 1) := by rw [h]; simp; try omega
  have HS := Lib.hid (show ∀ k (hk : k < l.length), k ≤ y.length + 1 → ((l[k].toNat = 47) ↔ k = y.length + 1) from by rw [h]; exact slash_at _ _ hb)
  have H0 := Lib.hid (show ∀ (h0 : 0 < l.length), l[0].toNat ≠ 45 from by rw [h]; intro h0; exact fun e => hc (UInt8.toNat_inj.1 e))
  have HX := Lib.hid (show (⟨l.toArray⟩ : ByteArray).extract (y.length + 1 + 1) l.length = ⟨r.toArray⟩ from by rw [ext_eq, len, h]; congr 2; first | (simp; done) | (simp; exact List.take_of_length_le (by omega)))
  have lr : r.length ≤ 1000 := by omega
  have HY := Lib.hid (show (⟨l.toArray⟩ : ByteArray).extract 0 (y.length + 1) = ⟨(c :: y).toArray⟩ from by rw [ext_eq, h]; congr 2; simp)
  have ly : (c :: y).length ≤ 1000 := by simp; omega
  have HT := Lib.hid ht
  have HQ := Lib.hid hq
  have HN := Lib.hid hN
  have HDD := Lib.hid hD
  have hle := numF_le (c :: y)
  have LL := Lib.hid len
  clear ht hq h hb hN hD len
  go_enter Tryd.func14, Tryd.ntmps14
  go_wp2
  go_loopw [5, 6] (fun e i wr => ∃ k : Nat, i = .int .i64 (k : Int) ∧ k ≤ y.length + 1 ∧ e = .int .i64 (l.length : Int) ∧ wr = (w.alloc (Obj.cells #[Value.int IntKind.i64 0, Value.int IntKind.i64 0] 23)).alloc (Obj.cells #[Value.int IntKind.i64 0, Value.int IntKind.i64 1] 23)) (fun _ i _ => l.length - (intOf i).toNat)
  case atStart => exact ⟨0, by simp, by omega, by simp, rfl⟩
  case round =>
    obtain ⟨k, rfl, hk, rfl, rfl⟩ := hrel
    have hlt : k < l.length := by have := LL.out; omega
    have hb2 : ∀ (h : k < (ByteArray.mk l.toArray).size), (⟨l.toArray⟩ : ByteArray)[k]'h = l[k] := fun _ => rfl
    by_cases hkb : k = y.length + 1
    · subst hkb
      have e47 : ((l[y.length + 1].toNat : Int) == 47) = true := by have := (HS.out (y.length + 1) hlt (by omega)).2 rfl; simp [this]
      have hx := HX.out
      go_wp2_with fail
      refine (refnumber_le r lr _).mono ?_
      rintro e w' ⟨rfl, rfl⟩
      clear hb2 e47 hx
      have hlp : 0 < l.length := by have := LL.out; omega
      have hb3 : ∀ (h : 0 < (ByteArray.mk l.toArray).size), (⟨l.toArray⟩ : ByteArray)[0]'h = l[0] := fun _ => rfl
      have e45 : ((l[0].toNat : Int) == 45) = false := by have := H0.out hlp; simp; omega
      have hy := HY.out
      go_wp2_with fail
      refine (refnumber_le (c :: y) ly _).mono ?_
      rintro e w' ⟨rfl, rfl⟩
      clear hy
      have hl0 : (l == []) = false := by cases l with | nil => have := LL.out; simp at this | cons _ _ => rfl
      have hl1 : ¬ (l = []) := by simpa using hl0
      go_wp2_with fail
      have T := fun W => reftext_any N D W
      simp only [HT.out] at T
      simp only [HN.out, HDD.out] at T
      refine (T _).mono ?_
      clear T
      rintro e w1 ⟨rfl, hb1⟩
      have R1 : Own2 w1 w.heap.size 0 0 := Own2.below ⟨⟨by simp [go_sem], by simp [go_sem]⟩, by simp [go_sem], by simp [go_sem]⟩ hb1
      have A1 : Rat2 w1 (w.heap.size + 1) (numF (c :: y) : Int) (numF r : Int) := Rat2.below ⟨by simp [go_sem], by simp [go_sem]⟩ hb1
      have HB := below_up (boxes2 w _ _) hb1 (by simp; try omega)
      clear hb1
      have r0 := R1.c0; have r1 := R1.c1; have f0 := R1.f0; have f1 := R1.f1; have a0 := A1.c0; have a1 := A1.c1
      have hqq := HQ.out
      subst hqq
      go_wp2_with fail
      refine bodyPost_ret (v := .tuple #[.agg #[.int .i64 (numF (c :: y) : Int), .int .i64 (numF r : Int)], .int .i64 0]) (by simp [results, Tryd.results14, go_sem, r0, r1]) rfl ?_
      exact ⟨by rw [HN.out, HDD.out], (HB.setCell (show w.heap.size ≤ w.heap.size by omega) _).setCell (show w.heap.size ≤ w.heap.size by omega) _⟩
    · have e47 : ((l[k].toNat : Int) == 47) = false := by have : ¬ (l[k].toNat = 47) := fun h => hkb ((HS.out k hlt hk).1 h); simp; omega
      go_wp2_with fail
      exact ⟨⟨k + 1, by simp, by omega, by simp, by first | rfl | trivial⟩, by simp [intOf]; omega⟩

theorem refp_cut_pos_ne (c : UInt8) (y : List UInt8) (hc : c ≠ 45) (r : List UInt8) (l : List UInt8) (hl : l.length ≤ 1000) (h : l = (c :: y) ++ 47 :: r) (hb : ∀ x ∈ (c :: y : List UInt8), x ≠ 47) (N D : Int) (hN : N = (numF (c :: y) : Int)) (hD : D = (numF r : Int)) (t : List UInt8) (ht : txt N D = t) (hq : t ≠ l) (w : World) :
    Calls Tryd.prog 14 #[.string ⟨l.toArray⟩] w (RatioPost w (0, 0, 6)) := by
  have len : l.length = y.length + 1 + (r.length + 1) := by rw [h]; simp; try omega
  have HS := Lib.hid (show ∀ k (hk : k < l.length), k ≤ y.length + 1 → ((l[k].toNat = 47) ↔ k = y.length + 1) from by rw [h]; exact slash_at _ _ hb)
  have H0 := Lib.hid (show ∀ (h0 : 0 < l.length), l[0].toNat ≠ 45 from by rw [h]; intro h0; exact fun e => hc (UInt8.toNat_inj.1 e))
  have HX := Lib.hid (show (⟨l.toArray⟩ : ByteArray).extract (y.length + 1 + 1) l.length = ⟨r.toArray⟩ from by rw [ext_eq, len, h]; congr 2; first | (simp; done) | (simp; exact List.take_of_length_le (by omega)))
  have lr : r.length ≤ 1000 := by omega
  have HY := Lib.hid (show (⟨l.toArray⟩ : ByteArray).extract 0 (y.length + 1) = ⟨(c :: y).toArray⟩ from by rw [ext_eq, h]; congr 2; simp)
  have ly : (c :: y).length ≤ 1000 := by simp; omega
  have HT := Lib.hid ht
  have HQ := Lib.hid hq
  have HN := Lib.hid hN
  have HDD := Lib.hid hD
  have hle := numF_le (c :: y)
  have LL := Lib.hid len
  clear ht hq h hb hN hD len
  go_enter Tryd.func14, Tryd.ntmps14
  go_wp2
  go_loopw [5, 6] (fun e i wr => ∃ k : Nat, i = .int .i64 (k : Int) ∧ k ≤ y.length + 1 ∧ e = .int .i64 (l.length : Int) ∧ wr = (w.alloc (Obj.cells #[Value.int IntKind.i64 0, Value.int IntKind.i64 0] 23)).alloc (Obj.cells #[Value.int IntKind.i64 0, Value.int IntKind.i64 1] 23)) (fun _ i _ => l.length - (intOf i).toNat)
  case atStart => exact ⟨0, by simp, by omega, by simp, rfl⟩
  case round =>
    obtain ⟨k, rfl, hk, rfl, rfl⟩ := hrel
    have hlt : k < l.length := by have := LL.out; omega
    have hb2 : ∀ (h : k < (ByteArray.mk l.toArray).size), (⟨l.toArray⟩ : ByteArray)[k]'h = l[k] := fun _ => rfl
    by_cases hkb : k = y.length + 1
    · subst hkb
      have e47 : ((l[y.length + 1].toNat : Int) == 47) = true := by have := (HS.out (y.length + 1) hlt (by omega)).2 rfl; simp [this]
      have hx := HX.out
      go_wp2_with fail
      refine (refnumber_le r lr _).mono ?_
      rintro e w' ⟨rfl, rfl⟩
      clear hb2 e47 hx
      have hlp : 0 < l.length := by have := LL.out; omega
      have hb3 : ∀ (h : 0 < (ByteArray.mk l.toArray).size), (⟨l.toArray⟩ : ByteArray)[0]'h = l[0] := fun _ => rfl
      have e45 : ((l[0].toNat : Int) == 45) = false := by have := H0.out hlp; simp; omega
      have hy := HY.out
      go_wp2_with fail
      refine (refnumber_le (c :: y) ly _).mono ?_
      rintro e w' ⟨rfl, rfl⟩
      clear hy
      have hl0 : (l == []) = false := by cases l with | nil => have := LL.out; simp at this | cons _ _ => rfl
      have hl1 : ¬ (l = []) := by simpa using hl0
      go_wp2_with fail
      have T := fun W => reftext_any N D W
      simp only [HT.out] at T
      simp only [HN.out, HDD.out] at T
      refine (T _).mono ?_
      clear T
      rintro e w1 ⟨rfl, hb1⟩
      have R1 : Own2 w1 w.heap.size 0 0 := Own2.below ⟨⟨by simp [go_sem], by simp [go_sem]⟩, by simp [go_sem], by simp [go_sem]⟩ hb1
      have A1 : Rat2 w1 (w.heap.size + 1) (numF (c :: y) : Int) (numF r : Int) := Rat2.below ⟨by simp [go_sem], by simp [go_sem]⟩ hb1
      have HB := below_up (boxes2 w _ _) hb1 (by simp; try omega)
      clear hb1
      have r0 := R1.c0; have r1 := R1.c1; have f0 := R1.f0; have f1 := R1.f1; have a0 := A1.c0; have a1 := A1.c1
      have hqq : (t == l) = false := by simpa using HQ.out
      have hqn : ¬ t = l := HQ.out
      go_wp2_with fail
      refine bodyPost_ret (v := .tuple #[.agg #[.int .i64 0, .int .i64 0], .int .i64 6]) (by simp [results, Tryd.results14, go_sem, r0, r1]) rfl ?_
      exact ⟨rfl, (HB.setCell (show w.heap.size ≤ w.heap.size by omega) _).setCell (show w.heap.size ≤ w.heap.size by omega) _⟩
    · have e47 : ((l[k].toNat : Int) == 47) = false := by have : ¬ (l[k].toNat = 47) := fun h => hkb ((HS.out k hlt hk).1 h); simp; omega
      go_wp2_with fail
      exact ⟨⟨k + 1, by simp, by omega, by simp, by first | rfl | trivial⟩, by simp [intOf]; omega⟩

theorem refp_cut_emp_eq  (r : List UInt8) (l : List UInt8) (hl : l.length ≤ 1000) (h : l = ([]) ++ 47 :: r) (hb : ∀ x ∈ ([] : List UInt8), x ≠ 47) (N D : Int) (hN : N = (numF [] : Int)) (hD : D = (numF r : Int)) (t : List UInt8) (ht : txt N D = t) (hq : t = l) (w : World) :
    Calls Tryd.prog 14 #[.string ⟨l.toArray⟩] w (RatioPost w (N, D, 0)) := by
  have len : l.length = 0 + (r.length + 1) := by rw [h]; simp; try omega
  have HS := Lib.hid (show ∀ k (hk : k < l.length), k ≤ 0 → ((l[k].toNat = 47) ↔ k = 0) from by rw [h]; exact slash_at _ _ hb)
  have HX := Lib.hid (show (⟨l.toArray⟩ : ByteArray).extract (0 + 1) l.length = ⟨r.toArray⟩ from by rw [ext_eq, len, h]; congr 2; first | (simp; done) | (simp; exact List.take_of_length_le (by omega)))
  have lr : r.length ≤ 1000 := by omega
  have HY := Lib.hid (show (⟨l.toArray⟩ : ByteArray).extract 0 0 = ⟨([] : List UInt8).toArray⟩ from by rw [ext_eq]; congr 2)
  have ly : ([] : List UInt8).length ≤ 1000 := by simp
  have HT := Lib.hid ht
  have HQ := Lib.hid hq
  have HN := Lib.hid hN
  have HDD := Lib.hid hD
  have hle := numF_le []
  have LL := Lib.hid len
  clear ht hq h hb hN hD len
  go_enter Tryd.func14, Tryd.ntmps14
  go_wp2
  go_loopw [5, 6] (fun e i wr => ∃ k : Nat, i = .int .i64 (k : Int) ∧ k ≤ 0 ∧ e = .int .i64 (l.length : Int) ∧ wr = (w.alloc (Obj.cells #[Value.int IntKind.i64 0, Value.int IntKind.i64 0] 23)).alloc (Obj.cells #[Value.int IntKind.i64 0, Value.int IntKind.i64 1] 23)) (fun _ i _ => l.length - (intOf i).toNat)
  case atStart => exact ⟨0, by simp, by omega, by simp, rfl⟩
  case round =>
    obtain ⟨k, rfl, hk, rfl, rfl⟩ := hrel
    have hlt : k < l.length := by have := LL.out; omega
    have hb2 : ∀ (h : k < (ByteArray.mk l.toArray).size), (⟨l.toArray⟩ : ByteArray)[k]'h = l[k] := fun _ => rfl
    by_cases hkb : k = 0
    · subst hkb
      have e47 : ((l[0].toNat : Int) == 47) = true := by have := (HS.out (0) hlt (by omega)).2 rfl; simp [this]
      have hx := HX.out
      go_wp2_with fail
      refine (refnumber_le r lr _).mono ?_
      rintro e w' ⟨rfl, rfl⟩
      clear hb2 e47 hx
      have hy := HY.out
      go_wp2_with fail
      refine (refnumber_le [] ly _).mono ?_
      rintro e w' ⟨rfl, rfl⟩
      clear hy
      have hl0 : (l == []) = false := by cases l with | nil => have := LL.out; simp at this | cons _ _ => rfl
      have hl1 : ¬ (l = []) := by simpa using hl0
      go_wp2_with fail
      have T := fun W => reftext_any N D W
      simp only [HT.out] at T
      simp only [HN.out, HDD.out] at T
      refine (T _).mono ?_
      clear T
      rintro e w1 ⟨rfl, hb1⟩
      have R1 : Own2 w1 w.heap.size 0 0 := Own2.below ⟨⟨by simp [go_sem], by simp [go_sem]⟩, by simp [go_sem], by simp [go_sem]⟩ hb1
      have A1 : Rat2 w1 (w.heap.size + 1) (numF [] : Int) (numF r : Int) := Rat2.below ⟨by simp [go_sem], by simp [go_sem]⟩ hb1
      have HB := below_up (boxes2 w _ _) hb1 (by simp; try omega)
      clear hb1
      have r0 := R1.c0; have r1 := R1.c1; have f0 := R1.f0; have f1 := R1.f1; have a0 := A1.c0; have a1 := A1.c1
      have hqq := HQ.out
      subst hqq
      go_wp2_with fail
      refine bodyPost_ret (v := .tuple #[.agg #[.int .i64 (numF [] : Int), .int .i64 (numF r : Int)], .int .i64 0]) (by simp [results, Tryd.results14, go_sem, r0, r1]) rfl ?_
      exact ⟨by rw [HN.out, HDD.out], (HB.setCell (show w.heap.size ≤ w.heap.size by omega) _).setCell (show w.heap.size ≤ w.heap.size by omega) _⟩
    · have e47 : ((l[k].toNat : Int) == 47) = false := by have : ¬ (l[k].toNat = 47) := fun h => hkb ((HS.out k hlt hk).1 h); simp; omega
      go_wp2_with fail
      exact ⟨⟨k + 1, by simp, by omega, by simp, by first | rfl | trivial⟩, by simp [intOf]; omega⟩

theorem refp_cut_emp_ne  (r : List UInt8) (l : List UInt8) (hl : l.length ≤ 1000) (h : l = ([]) ++ 47 :: r) (hb : ∀ x ∈ ([] : List UInt8), x ≠ 47) (N D : Int) (hN : N = (numF [] : Int)) (hD : D = (numF r : Int)) (t : List UInt8) (ht : txt N D = t) (hq : t ≠ l) (w : World) :
    Calls Tryd.prog 14 #[.string ⟨l.toArray⟩] w (RatioPost w (0, 0, 6)) := by
  have len : l.length = 0 + (r.length + 1) := by rw [h]; simp; try omega
  have HS := Lib.hid (show ∀ k (hk : k < l.length), k ≤ 0 → ((l[k].toNat = 47) ↔ k = 0) from by rw [h]; exact slash_at _ _ hb)
  have HX := Lib.hid (show (⟨l.toArray⟩ : ByteArray).extract (0 + 1) l.length = ⟨r.toArray⟩ from by rw [ext_eq, len, h]; congr 2; first | (simp; done) | (simp; exact List.take_of_length_le (by omega)))
  have lr : r.length ≤ 1000 := by omega
  have HY := Lib.hid (show (⟨l.toArray⟩ : ByteArray).extract 0 0 = ⟨([] : List UInt8).toArray⟩ from by rw [ext_eq]; congr 2)
  have ly : ([] : List UInt8).length ≤ 1000 := by simp
  have HT := Lib.hid ht
  have HQ := Lib.hid hq
  have HN := Lib.hid hN
  have HDD := Lib.hid hD
  have hle := numF_le []
  have LL := Lib.hid len
  clear ht hq h hb hN hD len
  go_enter Tryd.func14, Tryd.ntmps14
  go_wp2
  go_loopw [5, 6] (fun e i wr => ∃ k : Nat, i = .int .i64 (k : Int) ∧ k ≤ 0 ∧ e = .int .i64 (l.length : Int) ∧ wr = (w.alloc (Obj.cells #[Value.int IntKind.i64 0, Value.int IntKind.i64 0] 23)).alloc (Obj.cells #[Value.int IntKind.i64 0, Value.int IntKind.i64 1] 23)) (fun _ i _ => l.length - (intOf i).toNat)
  case atStart => exact ⟨0, by simp, by omega, by simp, rfl⟩
  case round =>
    obtain ⟨k, rfl, hk, rfl, rfl⟩ := hrel
    have hlt : k < l.length := by have := LL.out; omega
    have hb2 : ∀ (h : k < (ByteArray.mk l.toArray).size), (⟨l.toArray⟩ : ByteArray)[k]'h = l[k] := fun _ => rfl
    by_cases hkb : k = 0
    · subst hkb
      have e47 : ((l[0].toNat : Int) == 47) = true := by have := (HS.out (0) hlt (by omega)).2 rfl; simp [this]
      have hx := HX.out
      go_wp2_with fail
      refine (refnumber_le r lr _).mono ?_
      rintro e w' ⟨rfl, rfl⟩
      clear hb2 e47 hx
      have hy := HY.out
      go_wp2_with fail
      refine (refnumber_le [] ly _).mono ?_
      rintro e w' ⟨rfl, rfl⟩
      clear hy
      have hl0 : (l == []) = false := by cases l with | nil => have := LL.out; simp at this | cons _ _ => rfl
      have hl1 : ¬ (l = []) := by simpa using hl0
      go_wp2_with fail
      have T := fun W => reftext_any N D W
      simp only [HT.out] at T
      simp only [HN.out, HDD.out] at T
      refine (T _).mono ?_
      clear T
      rintro e w1 ⟨rfl, hb1⟩
      have R1 : Own2 w1 w.heap.size 0 0 := Own2.below ⟨⟨by simp [go_sem], by simp [go_sem]⟩, by simp [go_sem], by simp [go_sem]⟩ hb1
      have A1 : Rat2 w1 (w.heap.size + 1) (numF [] : Int) (numF r : Int) := Rat2.below ⟨by simp [go_sem], by simp [go_sem]⟩ hb1
      have HB := below_up (boxes2 w _ _) hb1 (by simp; try omega)
      clear hb1
      have r0 := R1.c0; have r1 := R1.c1; have f0 := R1.f0; have f1 := R1.f1; have a0 := A1.c0; have a1 := A1.c1
      have hqq : (t == l) = false := by simpa using HQ.out
      have hqn : ¬ t = l := HQ.out
      go_wp2_with fail
      refine bodyPost_ret (v := .tuple #[.agg #[.int .i64 0, .int .i64 0], .int .i64 6]) (by simp [results, Tryd.results14, go_sem, r0, r1]) rfl ?_
      exact ⟨rfl, (HB.setCell (show w.heap.size ≤ w.heap.size by omega) _).setCell (show w.heap.size ≤ w.heap.size by omega) _⟩
    · have e47 : ((l[k].toNat : Int) == 47) = false := by have : ¬ (l[k].toNat = 47) := fun h => hkb ((HS.out k hlt hk).1 h); simp; omega
      go_wp2_with fail
      exact ⟨⟨k + 1, by simp, by omega, by simp, by first | rfl | trivial⟩, by simp [intOf]; omega⟩

theorem refp_no_neg_eq (y : List UInt8) (l : List UInt8) (hl : l.length ≤ 1000) (h : l = 45 :: y) (hb : ∀ x ∈ (45 :: y : List UInt8), x ≠ 47) (N D : Int) (hN : N = (-(numF y : Int))) (hD : D = (1 : Int)) (t : List UInt8) (ht : txt N D = t) (hq : t = l) (w : World) :
    Calls Tryd.prog 14 #[.string ⟨l.toArray⟩] w (RatioPost w (N, D, 0)) := by
  have len : l.length = y.length + 1 := by rw [h]; simp; try omega
  have HS := Lib.hid (show ∀ k (hk : k < l.length), l[k].toNat ≠ 47 from by rw [h]; exact slash_no _ hb)
  have H0 := Lib.hid (show ∀ (h0 : 0 < l.length), l[0].toNat = 45 from by rw [h]; intro h0; rfl)
  have HY := Lib.hid (show (⟨l.toArray⟩ : ByteArray).extract 1 (y.length + 1) = ⟨y.toArray⟩ from by rw [ext_eq, h]; congr 2; simp)
  have ly : y.length ≤ 1000 := by omega
  have HT := Lib.hid ht
  have HQ := Lib.hid hq
  have HN := Lib.hid hN
  have HDD := Lib.hid hD
  have hle := numF_le y
  have LL := Lib.hid len
  clear ht hq h hb hN hD len
  go_enter Tryd.func14, Tryd.ntmps14
  go_wp2
  go_loopw [5, 6] (fun e i wr => ∃ k : Nat, i = .int .i64 (k : Int) ∧ k ≤ y.length + 1 ∧ e = .int .i64 (l.length : Int) ∧ wr = (w.alloc (Obj.cells #[Value.int IntKind.i64 0, Value.int IntKind.i64 0] 23)).alloc (Obj.cells #[Value.int IntKind.i64 0, Value.int IntKind.i64 1] 23)) (fun _ i _ => l.length - (intOf i).toNat)
  case atStart => exact ⟨0, by simp, by omega, by simp, rfl⟩
  case round =>
    obtain ⟨k, rfl, hk, rfl, rfl⟩ := hrel
    by_cases hlt : k < l.length
    case pos =>
      have hb2 : ∀ (h : k < (ByteArray.mk l.toArray).size), (⟨l.toArray⟩ : ByteArray)[k]'h = l[k] := fun _ => rfl
      have e47 : ((l[k].toNat : Int) == 47) = false := by have := HS.out k hlt; simp; omega
      go_wp2_with fail
      exact ⟨⟨k + 1, by simp, by have := LL.out; omega, by simp, by first | rfl | trivial⟩, by simp [intOf]; omega⟩
    case neg =>
      have hk2 : k = l.length := by have := LL.out; omega
      subst hk2
      have hlp : 0 < l.length := by have := LL.out; omega
      have hb3 : ∀ (h : 0 < (ByteArray.mk l.toArray).size), (⟨l.toArray⟩ : ByteArray)[0]'h = l[0] := fun _ => rfl
      have e45 : ((l[0].toNat : Int) == 45) = true := by have := H0.out hlp; simp; omega
      have hy := HY.out
      have len := LL.out
      go_wp2_with fail
      refine (refnumber_le y ly _).mono ?_
      rintro e w' ⟨rfl, rfl⟩
      clear hy
      have hl0 : (l == []) = false := by cases l with | nil => have := LL.out; simp at this | cons _ _ => rfl
      have hl1 : ¬ (l = []) := by simpa using hl0
      have wn : IntKind.i64.wrap (0 - (numF y : Int)) = -(numF y : Int) := by simp only [IntKind.wrap_i64]; omega
      go_wp2_with fail
      have T := fun W => reftext_any N D W
      simp only [HT.out] at T
      simp only [HN.out, HDD.out] at T
      refine (T _).mono ?_
      clear T
      rintro e w1 ⟨rfl, hb1⟩
      have R1 : Own2 w1 w.heap.size 0 0 := Own2.below ⟨⟨by simp [go_sem], by simp [go_sem]⟩, by simp [go_sem], by simp [go_sem]⟩ hb1
      have A1 : Rat2 w1 (w.heap.size + 1) (-(numF y : Int)) (1 : Int) := Rat2.below ⟨by simp [go_sem], by simp [go_sem]⟩ hb1
      have HB := below_up (boxes2 w _ _) hb1 (by simp; try omega)
      clear hb1
      have r0 := R1.c0; have r1 := R1.c1; have f0 := R1.f0; have f1 := R1.f1; have a0 := A1.c0; have a1 := A1.c1
      have hqq := HQ.out
      subst hqq
      go_wp2_with fail
      refine bodyPost_ret (v := .tuple #[.agg #[.int .i64 (-(numF y : Int)), .int .i64 (1 : Int)], .int .i64 0]) (by simp [results, Tryd.results14, go_sem, r0, r1]) rfl ?_
      exact ⟨by rw [HN.out, HDD.out], (HB.setCell (show w.heap.size ≤ w.heap.size by omega) _).setCell (show w.heap.size ≤ w.heap.size by omega) _⟩

theorem refp_no_neg_ne (y : List UInt8) (l : List UInt8) (hl : l.length ≤ 1000) (h : l = 45 :: y) (hb : ∀ x ∈ (45 :: y : List UInt8), x ≠ 47) (N D : Int) (hN : N = (-(numF y : Int))) (hD : D = (1 : Int)) (t : List UInt8) (ht : txt N D = t) (hq : t ≠ l) (w : World) :
    Calls Tryd.prog 14 #[.string ⟨l.toArray⟩] w (RatioPost w (0, 0, 6)) := by
  have len : l.length = y.length + 1 := by rw [h]; simp; try omega
  have HS := Lib.hid (show ∀ k (hk : k < l.length), l[k].toNat ≠ 47 from by rw [h]; exact slash_no _ hb)
  have H0 := Lib.hid (show ∀ (h0 : 0 < l.length), l[0].toNat = 45 from by rw [h]; intro h0; rfl)
  have HY := Lib.hid (show (⟨l.toArray⟩ : ByteArray).extract 1 (y.length + 1) = ⟨y.toArray⟩ from by rw [ext_eq, h]; congr 2; simp)
  have ly : y.length ≤ 1000 := by omega
  have HT := Lib.hid ht
  have HQ := Lib.hid hq
  have HN := Lib.hid hN
  have HDD := Lib.hid hD
  have hle := numF_le y
  have LL := Lib.hid len
  clear ht hq h hb hN hD len
  go_enter Tryd.func14, Tryd.ntmps14
  go_wp2
  go_loopw [5, 6] (fun e i wr => ∃ k : Nat, i = .int .i64 (k : Int) ∧ k ≤ y.length + 1 ∧ e = .int .i64 (l.length : Int) ∧ wr = (w.alloc (Obj.cells #[Value.int IntKind.i64 0, Value.int IntKind.i64 0] 23)).alloc (Obj.cells #[Value.int IntKind.i64 0, Value.int IntKind.i64 1] 23)) (fun _ i _ => l.length - (intOf i).toNat)
  case atStart => exact ⟨0, by simp, by omega, by simp, rfl⟩
  case round =>
    obtain ⟨k, rfl, hk, rfl, rfl⟩ := hrel
    by_cases hlt : k < l.length
    case pos =>
      have hb2 : ∀ (h : k < (ByteArray.mk l.toArray).size), (⟨l.toArray⟩ : ByteArray)[k]'h = l[k] := fun _ => rfl
      have e47 : ((l[k].toNat : Int) == 47) = false := by have := HS.out k hlt; simp; omega
      go_wp2_with fail
      exact ⟨⟨k + 1, by simp, by have := LL.out; omega, by simp, by first | rfl | trivial⟩, by simp [intOf]; omega⟩
    case neg =>
      have hk2 : k = l.length := by have := LL.out; omega
      subst hk2
      have hlp : 0 < l.length := by have := LL.out; omega
      have hb3 : ∀ (h : 0 < (ByteArray.mk l.toArray).size), (⟨l.toArray⟩ : ByteArray)[0]'h = l[0] := fun _ => rfl
      have e45 : ((l[0].toNat : Int) == 45) = true := by have := H0.out hlp; simp; omega
      have hy := HY.out
      have len := LL.out
      go_wp2_with fail
      refine (refnumber_le y ly _).mono ?_
      rintro e w' ⟨rfl, rfl⟩
      clear hy
      have hl0 : (l == []) = false := by cases l with | nil => have := LL.out; simp at this | cons _ _ => rfl
      have hl1 : ¬ (l = []) := by simpa using hl0
      have wn : IntKind.i64.wrap (0 - (numF y : Int)) = -(numF y : Int) := by simp only [IntKind.wrap_i64]; omega
      go_wp2_with fail
      have T := fun W => reftext_any N D W
      simp only [HT.out] at T
      simp only [HN.out, HDD.out] at T
      refine (T _).mono ?_
      clear T
      rintro e w1 ⟨rfl, hb1⟩
      have R1 : Own2 w1 w.heap.size 0 0 := Own2.below ⟨⟨by simp [go_sem], by simp [go_sem]⟩, by simp [go_sem], by simp [go_sem]⟩ hb1
      have A1 : Rat2 w1 (w.heap.size + 1) (-(numF y : Int)) (1 : Int) := Rat2.below ⟨by simp [go_sem], by simp [go_sem]⟩ hb1
      have HB := below_up (boxes2 w _ _) hb1 (by simp; try omega)
      clear hb1
      have r0 := R1.c0; have r1 := R1.c1; have f0 := R1.f0; have f1 := R1.f1; have a0 := A1.c0; have a1 := A1.c1
      have hqq : (t == l) = false := by simpa using HQ.out
      have hqn : ¬ t = l := HQ.out
      go_wp2_with fail
      refine bodyPost_ret (v := .tuple #[.agg #[.int .i64 0, .int .i64 0], .int .i64 6]) (by simp [results, Tryd.results14, go_sem, r0, r1]) rfl ?_
      exact ⟨rfl, (HB.setCell (show w.heap.size ≤ w.heap.size by omega) _).setCell (show w.heap.size ≤ w.heap.size by omega) _⟩

theorem refp_no_pos_eq (c : UInt8) (y : List UInt8) (hc : c ≠ 45) (l : List UInt8) (hl : l.length ≤ 1000) (h : l = c :: y) (hb : ∀ x ∈ (c :: y : List UInt8), x ≠ 47) (N D : Int) (hN : N = (numF (c :: y) : Int)) (hD : D = (1 : Int)) (t : List UInt8) (ht : txt N D = t) (hq : t = l) (w : World) :
    Calls Tryd.prog 14 #[.string ⟨l.toArray⟩] w (RatioPost w (N, D, 0)) := by
  have len : l.length = y.length + 1 := by rw [h]; simp; try omega
  have HS := Lib.hid (show ∀ k (hk : k < l.length), l[k].toNat ≠ 47 from by rw [h]; exact slash_no _ hb)
  have H0 := Lib.hid (show ∀ (h0 : 0 < l.length), l[0].toNat ≠ 45 from by rw [h]; intro h0; exact fun e => hc (UInt8.toNat_inj.1 e))
  have HY := Lib.hid (show (⟨l.toArray⟩ : ByteArray).extract 0 (y.length + 1) = ⟨(c :: y).toArray⟩ from by rw [ext_eq, h]; congr 2; simp)
  have ly : (c :: y).length ≤ 1000 := by simp; omega
  have HT := Lib.hid ht
  have HQ := Lib.hid hq
  have HN := Lib.hid hN
  have HDD := Lib.hid hD
  have hle := numF_le (c :: y)
  have LL := Lib.hid len
  clear ht hq h hb hN hD len
  go_enter Tryd.func14, Tryd.ntmps14
  go_wp2
  go_loopw [5, 6] (fun e i wr => ∃ k : Nat, i = .int .i64 (k : Int) ∧ k ≤ y.length + 1 ∧ e = .int .i64 (l.length : Int) ∧ wr = (w.alloc (Obj.cells #[Value.int IntKind.i64 0, Value.int IntKind.i64 0] 23)).alloc (Obj.cells #[Value.int IntKind.i64 0, Value.int IntKind.i64 1] 23)) (fun _ i _ => l.length - (intOf i).toNat)
  case atStart => exact ⟨0, by simp, by omega, by simp, rfl⟩
  case round =>
    obtain ⟨k, rfl, hk, rfl, rfl⟩ := hrel
    by_cases hlt : k < l.length
    case pos =>
      have hb2 : ∀ (h : k < (ByteArray.mk l.toArray).size), (⟨l.toArray⟩ : ByteArray)[k]'h = l[k] := fun _ => rfl
      have e47 : ((l[k].toNat : Int) == 47) = false := by have := HS.out k hlt; simp; omega
      go_wp2_with fail
      exact ⟨⟨k + 1, by simp, by have := LL.out; omega, by simp, by first | rfl | trivial⟩, by simp [intOf]; omega⟩
    case neg =>
      have hk2 : k = l.length := by have := LL.out; omega
      subst hk2
      have hlp : 0 < l.length := by have := LL.out; omega
      have hb3 : ∀ (h : 0 < (ByteArray.mk l.toArray).size), (⟨l.toArray⟩ : ByteArray)[0]'h = l[0] := fun _ => rfl
      have e45 : ((l[0].toNat : Int) == 45) = false := by have := H0.out hlp; simp; omega
      have hy := HY.out
      have len := LL.out
      go_wp2_with fail
      refine (refnumber_le (c :: y) ly _).mono ?_
      rintro e w' ⟨rfl, rfl⟩
      clear hy
      have hl0 : (l == []) = false := by cases l with | nil => have := LL.out; simp at this | cons _ _ => rfl
      have hl1 : ¬ (l = []) := by simpa using hl0
      go_wp2_with fail
      have T := fun W => reftext_any N D W
      simp only [HT.out] at T
      simp only [HN.out, HDD.out] at T
      refine (T _).mono ?_
      clear T
      rintro e w1 ⟨rfl, hb1⟩
      have R1 : Own2 w1 w.heap.size 0 0 := Own2.below ⟨⟨by simp [go_sem], by simp [go_sem]⟩, by simp [go_sem], by simp [go_sem]⟩ hb1
      have A1 : Rat2 w1 (w.heap.size + 1) (numF (c :: y) : Int) (1 : Int) := Rat2.below ⟨by simp [go_sem], by simp [go_sem]⟩ hb1
      have HB := below_up (boxes2 w _ _) hb1 (by simp; try omega)
      clear hb1
      have r0 := R1.c0; have r1 := R1.c1; have f0 := R1.f0; have f1 := R1.f1; have a0 := A1.c0; have a1 := A1.c1
      have hqq := HQ.out
      subst hqq
      go_wp2_with fail
      refine bodyPost_ret (v := .tuple #[.agg #[.int .i64 (numF (c :: y) : Int), .int .i64 (1 : Int)], .int .i64 0]) (by simp [results, Tryd.results14, go_sem, r0, r1]) rfl ?_
      exact ⟨by rw [HN.out, HDD.out], (HB.setCell (show w.heap.size ≤ w.heap.size by omega) _).setCell (show w.heap.size ≤ w.heap.size by omega) _⟩

theorem refp_no_pos_ne (c : UInt8) (y : List UInt8) (hc : c ≠ 45) (l : List UInt8) (hl : l.length ≤ 1000) (h : l = c :: y) (hb : ∀ x ∈ (c :: y : List UInt8), x ≠ 47) (N D : Int) (hN : N = (numF (c :: y) : Int)) (hD : D = (1 : Int)) (t : List UInt8) (ht : txt N D = t) (hq : t ≠ l) (w : World) :
    Calls Tryd.prog 14 #[.string ⟨l.toArray⟩] w (RatioPost w (0, 0, 6)) := by
  have len : l.length = y.length + 1 := by rw [h]; simp; try omega
  have HS := Lib.hid (show ∀ k (hk : k < l.length), l[k].toNat ≠ 47 from by rw [h]; exact slash_no _ hb)
  have H0 := Lib.hid (show ∀ (h0 : 0 < l.length), l[0].toNat ≠ 45 from by rw [h]; intro h0; exact fun e => hc (UInt8.toNat_inj.1 e))
  have HY := Lib.hid (show (⟨l.toArray⟩ : ByteArray).extract 0 (y.length + 1) = ⟨(c :: y).toArray⟩ from by rw [ext_eq, h]; congr 2; simp)
  have ly : (c :: y).length ≤ 1000 := by simp; omega
  have HT := Lib.hid ht
  have HQ := Lib.hid hq
  have HN := Lib.hid hN
  have HDD := Lib.hid hD
  have hle := numF_le (c :: y)
  have LL := Lib.hid len
  clear ht hq h hb hN hD len
  go_enter Tryd.func14, Tryd.ntmps14
  go_wp2
  go_loopw [5, 6] (fun e i wr => ∃ k : Nat, i = .int .i64 (k : Int) ∧ k ≤ y.length + 1 ∧ e = .int .i64 (l.length : Int) ∧ wr = (w.alloc (Obj.cells #[Value.int IntKind.i64 0, Value.int IntKind.i64 0] 23)).alloc (Obj.cells #[Value.int IntKind.i64 0, Value.int IntKind.i64 1] 23)) (fun _ i _ => l.length - (intOf i).toNat)
  case atStart => exact ⟨0, by simp, by omega, by simp, rfl⟩
  case round =>
    obtain ⟨k, rfl, hk, rfl, rfl⟩ := hrel
    by_cases hlt : k < l.length
    case pos =>
      have hb2 : ∀ (h : k < (ByteArray.mk l.toArray).size), (⟨l.toArray⟩ : ByteArray)[k]'h = l[k] := fun _ => rfl
      have e47 : ((l[k].toNat : Int) == 47) = false := by have := HS.out k hlt; simp; omega
      go_wp2_with fail
      exact ⟨⟨k + 1, by simp, by have := LL.out; omega, by simp, by first | rfl | trivial⟩, by simp [intOf]; omega⟩
    case neg =>
      have hk2 : k = l.length := by have := LL.out; omega
      subst hk2
      have hlp : 0 < l.length := by have := LL.out; omega
      have hb3 : ∀ (h : 0 < (ByteArray.mk l.toArray).size), (⟨l.toArray⟩ : ByteArray)[0]'h = l[0] := fun _ => rfl
      have e45 : ((l[0].toNat : Int) == 45) = false := by have := H0.out hlp; simp; omega
      have hy := HY.out
      have len := LL.out
      go_wp2_with fail
      refine (refnumber_le (c :: y) ly _).mono ?_
      rintro e w' ⟨rfl, rfl⟩
      clear hy
      have hl0 : (l == []) = false := by cases l with | nil => have := LL.out; simp at this | cons _ _ => rfl
      have hl1 : ¬ (l = []) := by simpa using hl0
      go_wp2_with fail
      have T := fun W => reftext_any N D W
      simp only [HT.out] at T
      simp only [HN.out, HDD.out] at T
      refine (T _).mono ?_
      clear T
      rintro e w1 ⟨rfl, hb1⟩
      have R1 : Own2 w1 w.heap.size 0 0 := Own2.below ⟨⟨by simp [go_sem], by simp [go_sem]⟩, by simp [go_sem], by simp [go_sem]⟩ hb1
      have A1 : Rat2 w1 (w.heap.size + 1) (numF (c :: y) : Int) (1 : Int) := Rat2.below ⟨by simp [go_sem], by simp [go_sem]⟩ hb1
      have HB := below_up (boxes2 w _ _) hb1 (by simp; try omega)
      clear hb1
      have r0 := R1.c0; have r1 := R1.c1; have f0 := R1.f0; have f1 := R1.f1; have a0 := A1.c0; have a1 := A1.c1
      have hqq : (t == l) = false := by simpa using HQ.out
      have hqn : ¬ t = l := HQ.out
      go_wp2_with fail
      refine bodyPost_ret (v := .tuple #[.agg #[.int .i64 0, .int .i64 0], .int .i64 6]) (by simp [results, Tryd.results14, go_sem, r0, r1]) rfl ?_
      exact ⟨rfl, (HB.setCell (show w.heap.size ≤ w.heap.size by omega) _).setCell (show w.heap.size ≤ w.heap.size by omega) _⟩

theorem refp_no_emp (w : World) :
    Calls Tryd.prog 14 #[.string ⟨([] : List UInt8).toArray⟩] w (RatioPost w (0, 0, 6)) := by
  have HY := Lib.hid (show (⟨([] : List UInt8).toArray⟩ : ByteArray).extract 0 0 = ⟨([] : List UInt8).toArray⟩ from by rw [ext_eq]; congr 2)
  have hle := numF_le []
  go_enter Tryd.func14, Tryd.ntmps14
  go_wp2
  go_loopw [5, 6] (fun e i wr => i = .int .i64 0 ∧ e = .int .i64 0 ∧ wr = (w.alloc (Obj.cells #[Value.int IntKind.i64 0, Value.int IntKind.i64 0] 23)).alloc (Obj.cells #[Value.int IntKind.i64 0, Value.int IntKind.i64 1] 23)) (fun _ i _ => (intOf i).toNat)
  case atStart => exact ⟨rfl, by simp, rfl⟩
  case round =>
    obtain ⟨rfl, rfl, rfl⟩ := hrel
    have hy := HY.out
    go_wp2_with fail
    refine (refnumber_le [] (by simp) _).mono ?_
    rintro e w' ⟨rfl, rfl⟩
    clear hy
    go_wp2_with fail
    refine bodyPost_ret (v := .tuple #[.agg #[.int .i64 0, .int .i64 0], .int .i64 6]) (by simp [results, Tryd.results14, go_sem]) rfl ?_
    exact ⟨rfl, boxes2 w _ _⟩

end Go.Proofs.YtpmggfmhkjafkaaDoor
