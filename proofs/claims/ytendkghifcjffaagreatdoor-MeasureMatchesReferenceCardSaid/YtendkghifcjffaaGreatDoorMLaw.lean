/- The contracts of Short, Few, unit and small. -/
import Derived.Test.YtendkghifcjffaaGreatDoorMHead
namespace Go.Proofs.YtendkghifcjffaaGreatDoor
open Go.RowKit

theorem min_if (a b : Int) : (if b < a then b else a) = min a b := by split <;> omega
theorem run_min2 {P : Program} (ts : Array TypeId) (t : TypeId) (a b : Int) (w : World) :
    (Builtin.min_ ts t #[.int .i64 a, .int .i64 b]).run P w = .ok (.int .i64 (min a b)) w := by
  simp [Builtin.min_, Builtin.min2, min_if]
/-- Whether texts have at most n bytes. -/
def shortB (n : Int) (l : List (List UInt8)) : Bool := l.all (fun x => decide ((x.length : Int) ≤ n))
theorem short_any (n : Int) (l : List (List UInt8)) (v : Value) (w : World) (hl : l.length ≤ 140000000000000) (hs : Strs w v l) :
    Calls Tryz.prog 7 #[.int .i64 n, v] w fun e w' => e = .returned (.bool (shortB n l)) ∧ Below w.heap.size w w' := by
  have HS := Lib.hid hs
  obtain ⟨A, cap, rfl, hcap, _, _⟩ := hs
  go_enter Tryz.func7, Tryz.ntmps7
  go_wp2_with fail
  go_loopw [5] (fun i wr => ∃ j : Nat, i = .int .i64 (j : Int) ∧ shortB n l = shortB n (l.drop j) ∧ j ≤ l.length ∧ Below w.heap.size w wr) (fun i _ => l.length + 1 - (intOf i).toNat)
  case atStart => exact ⟨0, by simp, rfl, by omega, Below.refl _ _⟩
  case round =>
    obtain ⟨j, rfl, hi, hj, hb⟩ := hrel
    have HI := Lib.hid hi
    have HB := Lib.hid hb
    clear hi hb
    by_cases hlt : j < l.length
    · obtain ⟨A', cap', e, _, _, hc⟩ := HS.out.below HB.out
      cases e
      obtain ⟨b, off, rfl, c0⟩ := hc j hlt
      clear hc
      have HN := Lib.hid (show shortB n (l.drop j) = (decide ((l[j].length : Int) ≤ n) && shortB n (l.drop (j + 1))) by rw [List.drop_eq_getElem_cons hlt]; rfl)
      obtain ⟨x, hx⟩ : ∃ x, l[j] = x := ⟨_, rfl⟩
      rw [hx] at c0 HN
      clear hx
      by_cases hn : (x.length : Int) ≤ n
      · have HN2 := Lib.hid (show shortB n (l.drop j) = shortB n (l.drop (j + 1)) by rw [HN.out, decide_eq_true hn]; rfl)
        go_wp2_with fail
        go_roundw
        case rel => exact ⟨j + 1, by simp, by rw [HI.out, HN2.out], by omega, HB.out⟩
        case measure => simp [intOf]; omega
      · have HN2 := Lib.hid (show shortB n (l.drop j) = false by rw [HN.out, decide_eq_false hn]; rfl)
        go_wp2_with fail
        go_ret
        exact ⟨bool_ret (by rw [HI.out, HN2.out]), HB.out⟩
    · have HE := Lib.hid (show shortB n l = true by rw [HI.out, List.drop_eq_nil_of_le (by omega)]; rfl)
      go_wp2_with fail
      go_ret
      exact ⟨bool_ret (by rw [HE.out]), HB.out⟩
theorem short_lit (n : Int) (l : List (List UInt8)) (hl : l.length ≤ 1000) (W : World) :
    Calls Tryz.prog 7 #[.int .i64 n, .slice (some ⟨W.heap.size, 0, none⟩) l.length l.length] (W.alloc (.cells (l.map str).toArray 9)) fun e w' => e = .returned (.bool (shortB n l)) ∧ Below W.heap.size W w' := by
  refine (short_any n l _ _ (by omega) (strs_lit W l 9)).mono ?_
  rintro e w1 ⟨rfl, hb⟩
  exact ⟨rfl, below_next (Below.refl _ _) (Nat.le_refl _) hb⟩

end Go.Proofs.YtendkghifcjffaaGreatDoor
