/- The fixed examples in plain words; a number that is written. -/
import Derived.Test.YtblgfillaenemaaDoorLxLaw3
namespace Go.Proofs.YtblgfillaenemaaDoor.L7

theorem hd_a : lexT [107, 101, 121, 32, 97, 95, 49, 59] = ([⟨1, [107, 101, 121], 0, 0⟩, ⟨1, [97, 95, 49], 0, 4⟩, ⟨4, [59], 0, 7⟩], 0, 0) := by decide +kernel
theorem hd_b : lexT [120, 60, 61, 49, 50, 32, 35, 32, 51] = ([⟨1, [120], 0, 0⟩, ⟨4, [60, 61], 0, 1⟩, ⟨2, [49, 50], 12, 3⟩], 0, 0) := by decide +kernel
theorem hd_c : lexT [34, 97, 92, 34, 98, 34] = ([⟨3, [97, 34, 98], 0, 0⟩], 0, 0) := by decide +kernel
theorem hd_d : lexT [97, 32, 34, 98] = ([], 7, 2) := by decide +kernel
theorem hd_e : lexT [55, 120] = ([], 6, 0) := by decide +kernel
theorem hd_f : lexT [97, 32, 33, 98] = ([], 5, 2) := by decide +kernel
theorem dg_ne {c : UInt8} (h : Dg c = true) : Lt c ≠ true := by
  unfold Dg at h
  unfold Lt
  simp only [Bool.and_eq_true, decide_eq_true_eq] at h
  simp only [ne_eq, Bool.or_eq_true, Bool.and_eq_true, decide_eq_true_eq]
  omega
/-- Digits, with nothing behind them that continues a token. -/
theorem tok_digits {w : List UInt8} (hw : ∀ c ∈ w, Dg c = true) (h0 : w ≠ []) (hl : w.length ≤ 10) {x : List UInt8} (hx : Good x) : tok (w ++ x) = ((2, w, (num w : Int)), w.length, 0) := by
  have hin : ∀ s, x.head? = some s → In s = false := fun s hs => (hx s hs).1
  have h3 := tw_app Dg w x hw (fun s hs => dg_in (hin s hs))
  match w with
  | [] => exact absurd rfl h0
  | c :: w =>
    have hc := hw c List.mem_cons_self
    rw [List.cons_append] at h3 ⊢
    rw [tok_num (dg_ne hc) hc, h3.1, h3.2, if_neg]
    rintro (q | ⟨s, q1, q2⟩)
    · omega
    · rw [hin s q1] at q2
      simp at q2
/-- A text and a number behind it. -/
theorem contents_math {s w : List UInt8} (hs : s.length ≤ 200) (hw : ∀ c ∈ w, Dg c = true) (h0 : w ≠ []) (hl : w.length ≤ 10) :
    lx (quo7 s ++ 32 :: w) 0 = ([⟨3, s, 0, 0⟩, ⟨2, w, (num w : Int), ((quo7 s).length + 1 : Nat)⟩], 0, 0) := by
  rw [lx_one (tok_quo s _ hs), lx_blank]
  have h := lx_one (x := []) (p := 0 + (quo7 s).length + 1) (tok_digits hw h0 hl (fun s h => by simp at h))
  rw [List.append_nil] at h
  rw [h, lx_nil rfl]
  simp [tkOf]
end Go.Proofs.YtblgfillaenemaaDoor.L7
