/- The contract of Fold: a loop over the iterator, whose body writes a builder. -/
import Derived.Test.YtendkghifcjffaaGreatDoorTParts
namespace Go.Proofs.YtendkghifcjffaaGreatDoor.L3
open Go.RowKit Go.Shelf
attribute [local go_sem] Oper.semAt_some

theorem bldAt_kept {T e : TypeId} {B b : Nat} {p : Value} {bs : List Value} {w w' : World} {row : Option Nat} (h : Lib.BuilderAtF T e B b p bs w) (hg : w.grownBy w' row)
    (hr : ∀ r, row = some r → ∃ o : Obj, w.heap[r]? = some o ∧ o.isCells = false) : Lib.BuilderAtF T e B b p bs w' := by
  obtain ⟨hB, v, hb, hown, hne⟩ := h
  refine ⟨hB, v, (hg.block b (Array.getElem?_eq_some_iff.1 hb).1 (fun x => ?_)).trans hb, hown.kept hg ?_, hne⟩
  · obtain ⟨o, ho, hc⟩ := hr b x.symm
    rw [hb] at ho
    cases ho
    cases hc
  · cases hv : v.ownBlock with
    | none => exact Or.inl rfl
    | some g =>
      refine Or.inr (fun x => ?_)
      obtain ⟨o, ho, hc⟩ := hr g x.symm
      obtain ⟨c, fz, hk⟩ := Lib.ownsRowF_kind hown g hv
      rw [hk] at ho
      cases ho
      cases hc
theorem isB_kept {B b : Nat} {l : List UInt8} {w w' : World} {row : Option Nat} (h : IsB B b l w) (hg : w.grownBy w' row)
    (hr : ∀ r, row = some r → ∃ o : Obj, w.heap[r]? = some o ∧ o.isCells = false) : IsB B b l w' :=
  h.elim (fun x => .inl (bldAt_kept x hg hr)) (fun x => .inr (bldAt_kept x hg hr))
theorem isB_cells {B b : Nat} {l : List UInt8} {w : World} (h : IsB B b l w) : ∃ c, w.heap[b]? = some (.cells c 88 (0, 0)) := by
  rcases h with ⟨_, v, hb, _⟩ | ⟨_, v, hb, _⟩ <;> exact ⟨_, hb⟩
/-- What is no cells stays, whatever is written into a builder. -/
theorem keeps_of_others {C B b : Nat} {l : List UInt8} {w w' : World} (h : IsB B b l w) (hs : w.heap.size ≤ w'.heap.size) (ho : Others b w w') : KeepsFrom C w w' := by
  refine ⟨hs, fun k o _ hk hc => ho k o hk ?_ ?_⟩
  · intro x
    obtain ⟨c, hb⟩ := isB_cells h
    rw [Option.some.inj x, hb] at hk
    cases hk
    cases hc
  · intro c fz x
    subst x
    cases hc
theorem keepB_of_others {n b : Nat} {v : Value} {w w' : World} (hne : n ≠ b) (ho : Others b w w') : KeepB n v w w' := fun h =>
  ho n _ h (fun x => hne (Option.some.inj x)) (fun c fz x => by cases x)

theorem isB_from (B b C : Nat) : OwnFrom C (fun (pre : List Wd) W => IsB B b (foldW (pre.map (·.1))) W) := fun _ _ _ _ hs hg hr => isB_kept hs hg (fun r e => (hr r e).2)
/-- What is kept at a return, when the block of the deferred calls is emptied. -/
theorem below_taken {w W : World} {D : Nat} (hB : Below w.heap.size w W) (hD : w.heap.size ≤ D) (o' : Obj) : Below w.heap.size w (W.putObj D o') :=
  hB.grown (grownBy_putObj' W D o') hB.size (fun k e => by have := Option.some.inj e; omega)
set_option maxRecDepth 100000 in
set_option maxHeartbeats 4000000 in
theorem fold_any (t : List UInt8) (ht : t.length ≤ 1100) (w : World) :
    Calls Tryz.prog 53 #[str t] w fun e w' => e = .returned (str (foldT t)) ∧ Below w.heap.size w w' := by
  refine (callsIn_wide (n := 6)).1 ?_
  refine callsIn_of_wp_marks Tryz.func53 rfl trivial ?_ rfl
  simp only [Tryz.ntmps53, List.size_toArray, List.length_cons, List.length_nil, Nat.reduceAdd, Nat.reduceSub, Array.replicate_succ, Array.replicate_zero, List.push_toArray, List.append_toArray, List.nil_append, List.cons_append]
  gi_wp2_with fail
  refine ⟨trivial, (callsIn_wide.2 (split_any t _)).mono ?_⟩
  rintro e w1 ⟨rfl, rfl⟩
  gi_wp2_with fail
  obtain ⟨w0, hw0⟩ : ∃ w0, (w.alloc (.cells #[.pointer none, .slice none 0 0] 88)).alloc (.cells #[str t] 9) = w0 := ⟨_, rfl⟩
  have hsz : w0.heap.size = w.heap.size + 2 := by rw [← hw0]; simp
  have hbx : Boxed w0 (w.heap.size + 1) 9 (str t) := by
    rw [← hw0]; have := Boxed.new (w.alloc (.cells #[.pointer none, .slice none 0 0] 88)) 9 (str t); simpa using this
  have hbl : IsB w.heap.size w.heap.size [] w0 := by rw [← hw0]; exact (Lib.IsBuilderF.of (Lib.fresh_isBuilder _ _ w)).alloc _
  have hB0 : Below w.heap.size w w0 := by rw [← hw0]; exact ((Below.refl _ _).alloc (Nat.le_refl _) _).alloc (by simp) _
  rw [hw0]
  clear hw0
  have HSZ := Lib.hid hsz
  refine wpIn_rangeFunc_ownG (n := 6) rfl (by omega) (gf := 78) (lb := #[.pointer (some ⟨w.heap.size + 1, 0, none⟩)]) rfl trivial (enters_of Tryz.func78 (by kernel_rfl) rfl)
    (split_stops 5 (w.heap.size + 1) t ht w0 hbx) (fun h k x => k (h x)) (fun W l o o' hl hW ho _ hx => hx.kept (grownBy_putObj' W l o') (fun x => by have := Option.some.inj x; omega)) (Below.refl _ _) (fun _ => rfl)
    (fun (pre : List Wd) W => IsB w.heap.size w.heap.size (foldW (pre.map (·.1))) W ∧ Below w.heap.size w W)
    (fun _ _ _ => False)
    (OwnFrom.and (isB_from _ _ _) (ownFrom_below (Nat.le_refl _) (by omega)))
    (fun _ _ _ _ _ hs _ _ => hs)
    ⟨hbl, hB0⟩
    (fun x => { tmps := #[str t, undef, .string ⟨#[]⟩, .pointer (some ⟨w.heap.size, 0, none⟩), str x.1, str t, .func (.func 78) #[] #[.pointer (some ⟨w.heap.size + 1, 0, none⟩)], str x.1, undef, undef, undef, undef, undef, undef], defers := [] }) ?assign ?body ?done ?stop
  case assign =>
    intro l x W K hK
    gi_wp2_with fail
    exact hK
  case body =>
    rintro l pre x W ⟨hI, hB⟩ hlt
    have hle := foldW_le (L := 1100) (pre.map (·.1)) (fun y hy => by
      obtain ⟨z, _, rfl⟩ := List.mem_map.1 hy
      exact z.2)
    rw [List.length_map] at hle
    have hN := words_len t
    have hx := x.2
    obtain ⟨acc, hacc⟩ : ∃ acc, foldW (pre.map (·.1)) = acc := ⟨_, rfl⟩
    have HS := Lib.hid (foldW_snoc (pre.map (·.1)) x.1)
    rw [hacc] at hle hI
    have HA := Lib.hid hacc
    have hal : acc.length + 1 + x.1.length ≤ 140737488355328 := by
      have : pre.length * (1100 + 1) ≤ 1100 * (1100 + 1) := Nat.mul_le_mul_right _ (by omega)
      omega
    clear hle hN hacc
    have C2 := Lib.hid (fun (a : List UInt8) (W1 : World) (h1 : IsB w.heap.size w.heap.size a W1) (h2 : a.length + x.1.length ≤ 140737488355328) (h3 : w.heap.size ≤ W1.heap.size) => writeString_any w.heap.size w.heap.size a x.1 W1 h1 h2 h3)
    by_cases h0 : acc = []
    · have HN := Lib.hid (show foldW ((pre ++ [x]).map (·.1)) = acc ++ x.1 from by rw [List.map_append]; refine HS.out.trans ?_; rw [HA.out, if_pos h0, h0]; rfl)
      subst h0
      gi_wp2_with fail
      refine ⟨trivial, (CallsIn.inRound l (callsIn_wide.2 (len_any _ _ _ _ hI))).mono ?_⟩
      rintro e1 W1 ⟨rfl, rfl⟩
      gi_wp2_with fail
      refine ⟨trivial, (CallsIn.inRound l (callsIn_wide.2 (C2.out [] W1 hI (by simp; omega) hB.size))).mono ?_⟩
      rintro e2 W2 ⟨rfl, hI2, hB2, hO2⟩
      gi_wp2_with fail
      refine ⟨keeps_of_others hI hB2.size hO2, keepB_of_others (by omega) hO2, by rw [HN.out]; exact hI2, hB.trans hB2⟩
    · have HN := Lib.hid (show foldW ((pre ++ [x]).map (·.1)) = (acc ++ [32]) ++ x.1 from by rw [List.map_append]; refine HS.out.trans ?_; rw [HA.out, if_neg h0, List.append_assoc]; rfl)
      have hp : 0 < acc.length := List.length_pos_iff.2 h0
      gi_wp2_with fail
      refine ⟨trivial, (CallsIn.inRound l (callsIn_wide.2 (len_any _ _ _ _ hI))).mono ?_⟩
      rintro e1 W1 ⟨rfl, rfl⟩
      gi_wp2_with fail
      refine ⟨trivial, (CallsIn.inRound l (callsIn_wide.2 (writeByte_any w.heap.size w.heap.size acc 32 W1 hI (by omega) hB.size))).mono ?_⟩
      rintro e2 W2 ⟨rfl, hI2, hB2, hO2⟩
      gi_wp2_with fail
      refine ⟨trivial, (CallsIn.inRound l (callsIn_wide.2 (C2.out _ W2 hI2 (by simp; omega) (Nat.le_trans hB.size hB2.size)))).mono ?_⟩
      rintro e3 W3 ⟨rfl, hI3, hB3, hO3⟩
      gi_wp2_with fail
      refine ⟨(keeps_of_others hI hB2.size hO2).trans (keeps_of_others hI2 hB3.size hO3), fun h => keepB_of_others (by omega) hO3 (keepB_of_others (by omega) hO2 h), by rw [HN.out]; exact hI3, (hB.trans hB2).trans hB3⟩
  case done =>
    rintro D ys W hD hys ⟨hI, hB⟩ hK
    rw [hys] at hI
    gi_wp2_with fail
    refine ⟨trivial, (callsIn_wide.2 (string_any _ _ _ _ hI hB.size)).mono ?_⟩
    rintro e1 W1 ⟨rfl, hI1, hB1, hO1⟩
    have hK1 := (keeps_of_others (C := 0) hI hB1.size hO1).same D _ (Nat.zero_le _) hK rfl
    gi_wp2_with fail
    refine ⟨by simp, .inl ⟨_, _, rfl, run_takeDeferred hK1, ?_⟩⟩
    exact ⟨_, results_tmp rfl _ _ _, rfl, below_taken (hB.trans hB1) (by have := HSZ.out; omega) _⟩
  case stop =>
    rintro D c pre W _ _ h _
    exact h.elim
end Go.Proofs.YtendkghifcjffaaGreatDoor.L3
