/- The contracts of the laws' own helpers: number, text, day, short. -/
import Derived.Test.YtdoenjkebeidlaaDoorBase
namespace Go.Proofs.YtdoenjkebeidlaaDoor
open Go.RowKit

theorem number_any (n : Int) (w : World) : Calls Tryd.prog 27 #[.int .i64 n] w fun e w' => e = .returned (V 2 n []) ∧ Below w.heap.size w w' := by
  go_enter Tryd.func27, Tryd.ntmps27
  go_wp2_with fail
  refine bodyPost_ret (v := V 2 n []) (by simp [results, Tryd.results27, go_sem]) rfl ?_
  exact ⟨rfl, by go_grown⟩
theorem day_any (n : Int) (w : World) : Calls Tryd.prog 29 #[.int .i64 n] w fun e w' => e = .returned (V 3 n []) ∧ Below w.heap.size w w' := by
  go_enter Tryd.func29, Tryd.ntmps29
  go_wp2_with fail
  refine bodyPost_ret (v := V 3 n []) (by simp [results, Tryd.results29, go_sem]) rfl ?_
  exact ⟨rfl, by go_grown⟩
theorem mtext_any (t : List UInt8) (w : World) : Calls Tryd.prog 28 #[.string ⟨t.toArray⟩] w fun e w' => e = .returned (V 1 0 t) ∧ Below w.heap.size w w' := by
  go_enter Tryd.func28, Tryd.ntmps28
  go_wp2_with fail
  refine bodyPost_ret (v := V 1 0 t) (by simp [results, Tryd.results28, go_sem]) rfl ?_
  exact ⟨rfl, by go_grown⟩

/-- Whether texts have at most 500 bytes. -/
def shortB (ts : List (List UInt8)) : Bool := ts.all fun t => decide (t.length ≤ 500)
theorem shortB_take (ts : List (List UInt8)) (k : Nat) (hk : k < ts.length) (h : shortB (ts.take k) = true) (hs : ts[k].length ≤ 500) : shortB (ts.take (k + 1)) = true := by
  unfold shortB at *
  rw [List.take_succ_eq_append_getElem hk, List.all_append, h]
  simp [hs]
theorem shortB_bad (ts : List (List UInt8)) (k : Nat) (hk : k < ts.length) (hs : 500 < ts[k].length) : shortB ts = false := by
  unfold shortB
  rw [Bool.eq_false_iff]
  intro h
  rw [List.all_eq_true] at h
  have := h ts[k] (List.getElem_mem hk)
  simp at this
  omega

theorem short_any (ts : List (List UInt8)) (b off cap : Nat) (hl : ts.length ≤ 1000000) (w : World) (hc : ∀ i (h : i < ts.length), w.cell? ⟨b, off + i * 3 + 2, none⟩ = some (.string ⟨(ts[i]).toArray⟩)) :
    Calls Tryd.prog 12 #[.slice (some ⟨b, off, none⟩) ts.length cap] w fun e w' => e = .returned (.bool (shortB ts)) ∧ w = w' := by
  have HC := Lib.hid hc
  clear hc
  go_enter Tryd.func12, Tryd.ntmps12
  go_wp2_with fail
  go_loop [3] (fun i => ∃ k : Nat, k ≤ ts.length ∧ i = .int .i64 (k : Int) ∧ shortB (ts.take k) = true) (fun i => ts.length - (intOf i).toNat)
  case atStart => exact ⟨0, by omega, by simp, rfl⟩
  case round =>
    obtain ⟨k, hk, rfl, hs⟩ := hrel
    have HS := Lib.hid hs
    clear hs
    by_cases hlt : k < ts.length
    · have c := HC.out k hlt
      go_wp2_with fail
      · go_ret
        have h : 500 < (ts[k].length : Int) := by assumption
        exact ⟨bool_ret (shortB_bad ts k hlt (by omega)).symm, rfl⟩
      · have h : (ts[k].length : Int) ≤ 500 := by assumption
        go_round
        case rel => exact ⟨k + 1, by omega, by simp, shortB_take ts k hlt HS.out (by omega)⟩
        case measure => simp [intOf]; omega
    · have ke : k = ts.length := by omega
      go_wp2_with fail
      go_ret
      exact ⟨bool_ret (by have := HS.out; rw [ke, List.take_length] at this; exact this.symm), rfl⟩
end Go.Proofs.YtdoenjkebeidlaaDoor
