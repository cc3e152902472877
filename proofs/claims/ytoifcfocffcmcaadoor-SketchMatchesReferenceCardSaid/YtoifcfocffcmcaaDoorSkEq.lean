/- The reference's comparisons of lists; the contract of few. -/
import Derived.Test.YtoifcfocffcmcaaDoorSkBase
namespace Go.Proofs.YtoifcfocffcmcaaDoor
open Go.RowKit

set_option maxHeartbeats 1600000 in
theorem ints_ref_q (xs ys : List Int) (v u : Value) (w : World) (hl : xs.length ≤ 4000) (hs : Ints w v xs) (hs2 : Ints w u ys) :
    Calls Tryd.prog 22 #[v, u] w fun e w' => e = .returned (.bool (decide (xs = ys))) ∧ ∃ k, w' = w.drewN k := by
  have HS := Lib.hid hs
  have HU := Lib.hid hs2
  obtain ⟨A, cap, rfl, hcap, _, _⟩ := hs
  obtain ⟨B, cbp, rfl, hcbp, _, _⟩ := hs2
  by_cases hne : xs.length = ys.length
  · have HE := Lib.hid hne
    go_enter Tryd.func22, Tryd.ntmps22
    go_wp2_with fail
    go_loopw [5] (fun i wr => ∃ j : Nat, i = .int .i64 (j : Int) ∧ (xs = ys ↔ xs.drop j = ys.drop j) ∧ j ≤ xs.length ∧ ∃ q, wr = w.drewN q) (fun i _ => xs.length + 1 - (intOf i).toNat)
    case atStart => exact ⟨0, by simp, by simp, by omega, 0, rfl⟩
    case round =>
      obtain ⟨j, rfl, hi, hj, q, rfl⟩ := hrel
      have HI := Lib.hid hi
      clear hi
      by_cases hlt : j < xs.length
      · obtain ⟨A', cap', e, _, _, hc⟩ := HS.out
        cases e
        obtain ⟨b, off, rfl, c0⟩ := hc j (by omega)
        clear hc
        have hlt2 : j < ys.length := by omega
        obtain ⟨B', cbp', e, _, _, hc⟩ := HU.out
        cases e
        obtain ⟨b', off', rfl, c1⟩ := hc j (by omega)
        clear hc
        have HN := Lib.hid (show xs = ys ↔ xs[j] = ys[j] ∧ xs.drop (j + 1) = ys.drop (j + 1) from by rw [HI.out, List.drop_eq_getElem_cons hlt, List.drop_eq_getElem_cons hlt2, List.cons.injEq])
        go_wp2_with fail
        go_region
        go_wp2_with fail
        · have g : (!xs[j] == ys[j]) = true := by assumption
          have e : xs[j] ≠ ys[j] := by simpa using g
          go_ret
          exact ⟨bool_ret (by symm; rw [decide_eq_false_iff_not, HN.out]; exact fun k => e k.1), _, rfl⟩
        · have g : (!xs[j] == ys[j]) = false := by assumption
          have e : xs[j] = ys[j] := by simpa using g
          go_roundw
          case rel => exact ⟨j + 1, by simp, by rw [HN.out]; exact ⟨fun k => k.2, fun k => ⟨e, k⟩⟩, by omega, _, rfl⟩
          case measure => simp [intOf]; omega
      · go_wp2_with fail
        go_ret
        exact ⟨bool_ret (by symm; rw [decide_eq_true_eq, HI.out, List.drop_eq_nil_of_le (by omega), List.drop_eq_nil_of_le (by omega)]), _, rfl⟩
  · go_enter Tryd.func22, Tryd.ntmps22
    go_wp2_with fail
    go_ret
    exact ⟨bool_ret (by symm; rw [decide_eq_false_iff_not]; intro e; exact hne (by rw [e])), 0, rfl⟩
theorem ints_ref (xs ys : List Int) (v u : Value) (w : World) (hl : xs.length ≤ 4000) (hs : Ints w v xs) (hs2 : Ints w u ys) :
    Calls Tryd.prog 22 #[v, u] w fun e w' => e = .returned (.bool (decide (xs = ys))) ∧ Below w.heap.size w w' := by
  refine (ints_ref_q xs ys v u w hl hs hs2).mono ?_
  rintro e w' ⟨rfl, k, rfl⟩
  exact ⟨rfl, below_drewN _ _ _⟩

set_option maxHeartbeats 1600000 in
theorem strings_ref_q (xs ys : List (List UInt8)) (v u : Value) (w : World) (hl : xs.length ≤ 4000) (hs : Strs w v xs) (hs2 : Strs w u ys) :
    Calls Tryd.prog 23 #[v, u] w fun e w' => e = .returned (.bool (decide (xs = ys))) ∧ ∃ k, w' = w.drewN k := by
  have HS := Lib.hid hs
  have HU := Lib.hid hs2
  obtain ⟨A, cap, rfl, hcap, _, _⟩ := hs
  obtain ⟨B, cbp, rfl, hcbp, _, _⟩ := hs2
  by_cases hne : xs.length = ys.length
  · have HE := Lib.hid hne
    go_enter Tryd.func23, Tryd.ntmps23
    go_wp2_with fail
    go_loopw [5] (fun i wr => ∃ j : Nat, i = .int .i64 (j : Int) ∧ (xs = ys ↔ xs.drop j = ys.drop j) ∧ j ≤ xs.length ∧ ∃ q, wr = w.drewN q) (fun i _ => xs.length + 1 - (intOf i).toNat)
    case atStart => exact ⟨0, by simp, by simp, by omega, 0, rfl⟩
    case round =>
      obtain ⟨j, rfl, hi, hj, q, rfl⟩ := hrel
      have HI := Lib.hid hi
      clear hi
      by_cases hlt : j < xs.length
      · obtain ⟨A', cap', e, _, _, hc⟩ := HS.out
        cases e
        obtain ⟨b, off, rfl, c0⟩ := hc j (by omega)
        clear hc
        have hlt2 : j < ys.length := by omega
        obtain ⟨B', cbp', e, _, _, hc⟩ := HU.out
        cases e
        obtain ⟨b', off', rfl, c1⟩ := hc j (by omega)
        clear hc
        have HN := Lib.hid (show xs = ys ↔ xs[j] = ys[j] ∧ xs.drop (j + 1) = ys.drop (j + 1) from by rw [HI.out, List.drop_eq_getElem_cons hlt, List.drop_eq_getElem_cons hlt2, List.cons.injEq])
        go_wp2_with fail
        go_region
        go_wp2_with fail
        · have g : (!xs[j] == ys[j]) = true := by assumption
          have e : xs[j] ≠ ys[j] := by simpa using g
          go_ret
          exact ⟨bool_ret (by symm; rw [decide_eq_false_iff_not, HN.out]; exact fun k => e k.1), _, rfl⟩
        · have g : (!xs[j] == ys[j]) = false := by assumption
          have e : xs[j] = ys[j] := by simpa using g
          go_roundw
          case rel => exact ⟨j + 1, by simp, by rw [HN.out]; exact ⟨fun k => k.2, fun k => ⟨e, k⟩⟩, by omega, _, rfl⟩
          case measure => simp [intOf]; omega
      · go_wp2_with fail
        go_ret
        exact ⟨bool_ret (by symm; rw [decide_eq_true_eq, HI.out, List.drop_eq_nil_of_le (by omega), List.drop_eq_nil_of_le (by omega)]), _, rfl⟩
  · go_enter Tryd.func23, Tryd.ntmps23
    go_wp2_with fail
    go_ret
    exact ⟨bool_ret (by symm; rw [decide_eq_false_iff_not]; intro e; exact hne (by rw [e])), 0, rfl⟩

theorem strings_ref (xs ys : List (List UInt8)) (v u : Value) (w : World) (hl : xs.length ≤ 4000) (hs : Strs w v xs) (hs2 : Strs w u ys) :
    Calls Tryd.prog 23 #[v, u] w fun e w' => e = .returned (.bool (decide (xs = ys))) ∧ Below w.heap.size w w' := by
  refine (strings_ref_q xs ys v u w hl hs hs2).mono ?_
  rintro e w' ⟨rfl, k, rfl⟩
  exact ⟨rfl, below_drewN _ _ _⟩
/-- Whether there are at most 40 texts of at most 100 bytes. -/
def fewB (l : List (List UInt8)) : Bool := decide (l.length ≤ 40) && l.all (fun t => decide (t.length ≤ 100))
theorem fewB_yes {l : List (List UInt8)} (h : fewB l = true) : l.length ≤ 40 ∧ ∀ t ∈ l, t.length ≤ 100 := by
  unfold fewB at h
  simpa using h

theorem few_any (l : List (List UInt8)) (v : Value) (w : World) (hs : Strs w v l) :
    Calls Tryd.prog 11 #[v] w fun e w' => e = .returned (.bool (fewB l)) ∧ w' = w := by
  have HS := Lib.hid hs
  obtain ⟨A, cap, rfl, _⟩ := hs
  by_cases h40 : l.length ≤ 40
  · have HE := Lib.hid (show fewB l = l.all (fun t => decide (t.length ≤ 100)) by unfold fewB; rw [decide_eq_true h40]; rfl)
    go_enter Tryd.func11, Tryd.ntmps11
    go_wp2_with fail
    go_loopw [3] (fun i wr => ∃ j : Nat, i = .int .i64 (j : Int) ∧ fewB l = (l.drop j).all (fun t => decide (t.length ≤ 100)) ∧ j ≤ l.length ∧ wr = w) (fun i _ => l.length + 1 - (intOf i).toNat)
    case atStart => exact ⟨0, by simp, HE.out, by omega, rfl⟩
    case round =>
      obtain ⟨j, rfl, hi, hj, rfl⟩ := hrel
      have HI := Lib.hid hi
      clear hi
      by_cases hlt : j < l.length
      · obtain ⟨-, -, b, off, rfl, hc⟩ := HS.out.spot (by omega)
        have c0 := hc j hlt
        clear hc
        have HN := Lib.hid (show fewB l = (decide (l[j].length ≤ 100) && (l.drop (j + 1)).all (fun t => decide (t.length ≤ 100))) by rw [HI.out, List.drop_eq_getElem_cons hlt, List.all_cons])
        obtain ⟨t, ht⟩ : ∃ t, l[j] = t := ⟨_, rfl⟩
        rw [ht] at c0 HN
        clear ht
        by_cases h100 : t.length ≤ 100
        · go_wp2_with fail
          go_roundw
          case rel => exact ⟨j + 1, by simp, by rw [HN.out, decide_eq_true h100, Bool.true_and], by omega, trivial⟩
          case measure => simp [intOf]; omega
        · go_wp2_with fail
          go_ret
          exact ⟨bool_ret (by rw [HN.out, decide_eq_false h100, Bool.false_and]), rfl⟩
      · go_wp2_with fail
        go_ret
        exact ⟨bool_ret (by rw [HI.out, List.drop_eq_nil_of_le (by omega)]; rfl), rfl⟩
  · go_enter Tryd.func11, Tryd.ntmps11
    go_wp2_with fail
    go_ret
    exact ⟨bool_ret (by unfold fewB; rw [decide_eq_false h40]; rfl), rfl⟩
end Go.Proofs.YtoifcfocffcmcaaDoor
