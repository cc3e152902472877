/- The loop over the tokens, in plain words. -/
import Derived.Test.YtblgfillaenemaaDoorLxLaw
namespace Go.Proofs.YtblgfillaenemaaDoor.L7

theorem lexT_lx (t : List UInt8) : lexT t = if 20000 < t.length then ([], 3, -1) else
  match (lx t 0).1[5000]? with
  | some x => ([], 3, x.at_)
  | none => if (lx t 0).2.1 ≠ 0 then ([], (lx t 0).2) else ((lx t 0).1, 0, 0) := rfl
theorem lexT_long {t : List UInt8} (h : 20000 < t.length) : lexT t = ([], 3, -1) := by rw [lexT_lx, if_pos h]
/-- What has been read: acc, up to offset p, where a token begins or the text ends. -/
structure RI (t : List UInt8) (acc : List Tk) (p : Nat) : Prop where
  le : p ≤ t.length
  g0 : gap (t.drop p) = 0
  few : acc.length ≤ 5000
  eq : lx t 0 = (acc ++ (lx (t.drop p) p).1, (lx (t.drop p) p).2)
  short : t.length ≤ 20000
theorem ri_start (t : List UInt8) (h : t.length ≤ 20000) : RI t [] (gap t) :=
  ⟨gapC_le _ _, gap_of_drop t, by simp, by rw [lx_gap t 0, Nat.zero_add]; rfl, h⟩
theorem ri_end {t : List UInt8} {acc : List Tk} {p : Nat} (h : RI t acc p) (hp : p = t.length) : lexT t = (acc, 0, 0) := by
  have e := h.eq
  rw [hp, List.drop_length, lx_nil (r := []) rfl, List.append_nil] at e
  rw [lexT_lx, if_neg (by have := h.short; omega), e]
  simp only
  rw [List.getElem?_eq_none h.few]
  simp
theorem ri_err {t : List UInt8} {acc : List Tk} {p : Nat} {e : Int} (h : RI t acc p) (hp : p < t.length) (he : (tok (t.drop p)).2.2 = e) (h0 : e ≠ 0) : lexT t = ([], e, (p : Int)) := by
  have e1 := h.eq
  have e2 : lx (t.drop p) p = ([], e, (p : Int)) := by
    rw [lx_bad (by rw [h.g0, List.length_drop]; omega) (by rw [h.g0]; rw [List.drop_zero, he]; exact h0), h.g0, List.drop_zero, he]
    rfl
  rw [e2, List.append_nil] at e1
  rw [lexT_lx, if_neg (by have := h.short; omega), e1]
  simp only
  rw [List.getElem?_eq_none h.few]
  simp [h0]
theorem ri_tok {t : List UInt8} {acc : List Tk} {p n : Nat} {x : Int × List UInt8 × Int} (h : RI t acc p) (hp : p < t.length) (ht : tok (t.drop p) = (x, n, 0)) :
    lx t 0 = (acc ++ tkOf x p :: (lx (t.drop (p + n)) (p + n)).1, (lx (t.drop (p + n)) (p + n)).2) := by
  have e1 := h.eq
  have e2 := lx_tok (r := t.drop p) (p := p) (t := x) (n := n) (by rw [h.g0, List.length_drop]; omega) (by rw [h.g0, List.drop_zero]; exact ht)
  rw [h.g0, List.drop_drop, Nat.zero_add, Nat.add_zero] at e2
  rw [e1, e2]
theorem ri_limit {t : List UInt8} {acc : List Tk} {p n : Nat} {x : Int × List UInt8 × Int} (h : RI t acc p) (hp : p < t.length) (ht : tok (t.drop p) = (x, n, 0)) (hl : acc.length = 5000) : lexT t = ([], 3, (p : Int)) := by
  rw [lexT_lx, if_neg (by have := h.short; omega), ri_tok h hp ht]
  simp only
  rw [List.getElem?_append_right (by omega), hl]
  rfl
theorem ri_step {t : List UInt8} {acc : List Tk} {p n : Nat} {x : Int × List UInt8 × Int} (h : RI t acc p) (hp : p < t.length) (ht : tok (t.drop p) = (x, n, 0)) (hl : acc.length ≠ 5000) :
    1 ≤ n ∧ p + n ≤ t.length ∧ RI t (acc ++ [tkOf x p]) (p + n + gap (t.drop (p + n))) := by
  obtain ⟨hn, hle, _⟩ := tok_ext ht
  rw [List.length_drop] at hle
  have hg := gapC_le false (t.drop (p + n))
  rw [List.length_drop] at hg
  refine ⟨hn, by omega, ⟨by unfold gap; omega, ?_, by have := h.few; rw [List.length_append]; simp; omega, ?_, h.short⟩⟩
  · rw [← List.drop_drop]
    exact gap_of_drop _
  · rw [ri_tok h hp ht, lx_gap (t.drop (p + n)) (p + n), List.drop_drop, List.append_assoc]
    rfl
end Go.Proofs.YtblgfillaenemaaDoor.L7
