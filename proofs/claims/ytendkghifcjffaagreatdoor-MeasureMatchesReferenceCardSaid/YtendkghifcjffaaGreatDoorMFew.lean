/- The contract of Few. -/
import Derived.Test.YtendkghifcjffaaGreatDoorMLaw
namespace Go.Proofs.YtendkghifcjffaaGreatDoor
open Go.RowKit

/-- A slice whose cells hold the slices vs, which are the lists ls. -/
def Strss (w : World) (v : Value) (vs : List Value) (ls : List (List (List UInt8))) : Prop :=
  ls.length = vs.length ∧ ∃ (A : Option Addr) (cap : Nat), v = .slice A vs.length cap ∧ vs.length ≤ cap ∧ ∀ i (h : i < vs.length) (h2 : i < ls.length), (∃ b off, A = some ⟨b, off, none⟩ ∧ w.cell? ⟨b, off + i, none⟩ = some vs[i]) ∧ Strs w vs[i] ls[i]
theorem Strss.below {w w1 : World} {v : Value} {vs : List Value} {ls : List (List (List UInt8))} (h : Strss w v vs ls) (hb : Below w.heap.size w w1) : Strss w1 v vs ls := by
  obtain ⟨hl, A, cap, e, hc, f⟩ := h
  refine ⟨hl, A, cap, e, hc, fun i h h2 => ?_⟩
  obtain ⟨⟨b, off, h3, h4⟩, h5⟩ := f i h h2
  exact ⟨⟨b, off, h3, cellB hb h4⟩, h5.below hb⟩
/-- Whether lists have at most 40 elements of at most 100 bytes. -/
def fewB (ls : List (List (List UInt8))) : Bool := ls.all (fun l => decide (l.length ≤ 40) && shortB 100 l)

set_option maxRecDepth 100000 in
theorem few_any (ls : List (List (List UInt8))) (vs : List Value) (v : Value) (w : World) (hl : ls.length ≤ 1000) (hs : Strss w v vs ls) :
    Calls Tryz.prog 20 #[v] w fun e w' => e = .returned (.bool (fewB ls)) ∧ Below w.heap.size w w' := by
  have HS := Lib.hid hs
  obtain ⟨hlen, A, cap, rfl, hcap, _⟩ := hs
  go_enter Tryz.func20, Tryz.ntmps20
  go_wp2_with fail
  go_loopw [3] (fun i wr => ∃ j : Nat, i = .int .i64 (j : Int) ∧ fewB ls = fewB (ls.drop j) ∧ j ≤ vs.length ∧ Below w.heap.size w wr) (fun i _ => vs.length + 1 - (intOf i).toNat)
  case atStart => exact ⟨0, by simp, rfl, by omega, Below.refl _ _⟩
  case round =>
    obtain ⟨j, rfl, hi, hj, hb⟩ := hrel
    have HI := Lib.hid hi
    have HB := Lib.hid hb
    clear hi hb
    have hj2 : (j : Int) ≤ 1000 := by omega
    by_cases hlt : j < vs.length
    · obtain ⟨_, A', cap', e, _, hc⟩ := HS.out.below HB.out
      cases e
      obtain ⟨⟨b, off, rfl, c0⟩, hu⟩ := hc j hlt (by omega)
      clear hc
      have HN := Lib.hid (show fewB (ls.drop j) = ((decide ((ls[j]'(by omega)).length ≤ 40) && shortB 100 (ls[j]'(by omega))) && fewB (ls.drop (j + 1))) by rw [List.drop_eq_getElem_cons (show j < ls.length by omega)]; rfl)
      obtain ⟨l, hl2⟩ : ∃ l, ls[j]'(by omega) = l := ⟨_, rfl⟩
      obtain ⟨u, hu2⟩ : ∃ u, vs[j] = u := ⟨_, rfl⟩
      rw [hl2] at hu HN
      rw [hu2] at hu c0
      clear hl2 hu2
      have HU := Lib.hid hu
      obtain ⟨A2, cp, rfl, hcp, _, _⟩ := hu
      by_cases h40 : l.length ≤ 40
      · have C := Lib.hid (short_any 100 l _ wr (by omega) HU.out)
        cases hsb : shortB 100 l
        · have HN2 := Lib.hid (show fewB (ls.drop j) = false by rw [HN.out, hsb]; simp)
          rw [hsb] at C
          go_wp2_with fail
          refine C.out.mono ?_
          rintro e w1 ⟨rfl, hb⟩
          have HB1 := Lib.hid (below_up HB.out hb HB.out.size)
          clear hb
          go_wp2_with fail
          go_ret
          exact ⟨bool_ret (by rw [HI.out, HN2.out]), HB1.out⟩
        · have HN2 := Lib.hid (show fewB (ls.drop j) = fewB (ls.drop (j + 1)) by rw [HN.out, hsb, decide_eq_true h40]; rfl)
          rw [hsb] at C
          go_wp2_with fail
          refine C.out.mono ?_
          rintro e w1 ⟨rfl, hb⟩
          have HB1 := Lib.hid (below_up HB.out hb HB.out.size)
          clear hb
          go_wp2_with fail
          go_roundw
          case rel => exact ⟨j + 1, by simp, by rw [HI.out, HN2.out], by omega, HB1.out⟩
          case measure => simp [intOf]; omega
      · have HN2 := Lib.hid (show fewB (ls.drop j) = false by rw [HN.out, decide_eq_false h40]; rfl)
        go_wp2_with fail
        go_ret
        exact ⟨bool_ret (by rw [HI.out, HN2.out]), HB.out⟩
    · have HE := Lib.hid (show fewB ls = true by rw [HI.out, List.drop_eq_nil_of_le (by omega)]; rfl)
      go_wp2_with fail
      go_ret
      exact ⟨bool_ret (by rw [HE.out]), HB.out⟩
theorem strss_lit (W : World) (vs : List Value) (ls : List (List (List UInt8))) (T : TypeId) (hl : ls.length = vs.length) (hs : ∀ i (h : i < vs.length) (h2 : i < ls.length), Strs W vs[i] ls[i]) :
    Strss (W.alloc (.cells vs.toArray T)) (.slice (some ⟨W.heap.size, 0, none⟩) vs.length vs.length) vs ls :=
  ⟨hl, _, _, rfl, Nat.le_refl _, fun i h h2 => ⟨⟨_, 0, rfl, by
    have h : (W.alloc (.cells vs.toArray T)).heap[W.heap.size]? = some (.cells vs.toArray T) := heap_alloc_new W _
    unfold World.cell?
    rw [h]
    simp [*]⟩, (hs i h h2).below (below_box W _)⟩⟩
theorem few_lit (ls : List (List (List UInt8))) (vs : List Value) (T : TypeId) (W : World) (hl : ls.length = vs.length) (h1 : ls.length ≤ 1000) (hs : ∀ i (h : i < vs.length) (h2 : i < ls.length), Strs W vs[i] ls[i]) :
    Calls Tryz.prog 20 #[.slice (some ⟨W.heap.size, 0, none⟩) vs.length vs.length] (W.alloc (.cells vs.toArray T)) fun e w' => e = .returned (.bool (fewB ls)) ∧ Below W.heap.size W w' := by
  refine (few_any ls vs _ _ h1 (strss_lit W vs ls T hl hs)).mono ?_
  rintro e w1 ⟨rfl, hb⟩
  exact ⟨rfl, below_next (Below.refl _ _) (Nat.le_refl _) hb⟩
theorem few_each {ls : List (List (List UInt8))} (h : fewB ls = true) : ∀ l ∈ ls, l.length ≤ 40 ∧ ∀ x ∈ l, x.length ≤ 100 := by
  intro l hl
  unfold fewB at h
  rw [List.all_eq_true] at h
  have h2 := h l hl
  simp only [Bool.and_eq_true, decide_eq_true_eq] at h2
  refine ⟨h2.1, fun x hx => ?_⟩
  have h3 := h2.2
  unfold shortB at h3
  rw [List.all_eq_true] at h3
  have := h3 x hx
  simp at this
  omega
end Go.Proofs.YtendkghifcjffaaGreatDoor
