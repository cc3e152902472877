/- The contract of sortOnce: a loop over an iterator, whose body writes a map; its keys, sorted. -/
import Derived.Test.YtendkghifcjffaaGreatDoorTFold
import Derived.Test.YtendkghifcjffaaGreatDoorKeys
import Derived.Maps.OwnIn
import Derived.Shelf.SlIter.Nil
import Derived.Shelf.SortM.Plain
import Derived.Shelf.SortM.SortNone
namespace Go.Proofs.YtendkghifcjffaaGreatDoor.L3
open Go.RowKit Go.Maps Go.Sort Go.Shelf
attribute [local go_sem] Oper.semAt_some

theorem sorts_in (m : Nat) : AnyZ.SortsIn Tryz.prog Tryz.sorted82_ren Fence.wide m :=
  ⟨fun blk off cap ss W hH hblk hsz => callsIn_wide.2 (AnyM.slices_Sort_string Tryz.sort90 blk off cap ss W hH hblk hsz),
   fun p cap W => callsIn_wide.2 (AnyM.slices_Sort_string_none Tryz.sort90 p cap W)⟩
theorem keys_any (mb : Option Nat) (W : World) : CallsIn Fence.wide 5 Tryz.prog 83 #[.map mb] W fun e w' => e = .returned (.func (.func 91) #[] #[.pointer (some ⟨W.heap.size, 0, none⟩)]) ∧ w' = W.alloc (.cells #[.map mb] 51) :=
  AnyZ.keys_in Tryz.keys83 Fence.wide 5 trivial rfl mb W

set_option maxHeartbeats 1000000 in
theorem sorted_keys {H : Type} (b nn : Nat) (D0 : DataW H) (R : Value → Option (DataW H × List MemPlace)) (w : World) (hown : w.ownsMap Tryz.prog 9 R b nn D0) (hmax : Maps.size D0 ≤ maxLen) (hbytes : Maps.size D0 * 16 ≤ 140737488355328) :
    CallsIn Fence.wide 5 Tryz.prog 82 #[.func (.func 91) #[] #[.pointer (some ⟨w.heap.size, 0, none⟩)]] (w.alloc (.cells #[.map (some b)] 51)) fun e w' => ∃ (v : Value) (ss : List (List UInt8)), e = .returned v ∧ ss.Perm (strKeys D0) ∧
      w'.ownsRow (w.alloc (.cells #[.map (some b)] 51)).heap.size 9 1 v ss.length ((ss.mergeSort (fun x y => decide (x ≤ y))).map encStr) ∧ (v = .slice none 0 0 ↔ ss = []) ∧ Below (w.alloc (.cells #[.map (some b)] 51)).heap.size (w.alloc (.cells #[.map (some b)] 51)) w' := by
  have hbl := hown.lt
  have hseq : SeqGives Fence.wide 2 Tryz.prog 91 #[.pointer (some ⟨w.heap.size, 0, none⟩)] encStr (fun ss => ss.Perm (strKeys D0)) (Maps.size D0) (w.alloc (.cells #[.map (some b)] 51)) :=
    AnyZ.keys_gives (ρ := Tryz.keys83_ren) { Tryz.keys83 with } Fence.wide _ trivial rfl (by omega) w.heap.size b nn D0 _ (by simp) (by simp) (by
      obtain ⟨es, clock, hb, Ft, hs, hD⟩ := hown
      exact ⟨es, clock, (Below.heap_alloc _ _ b hbl).trans hb, Ft, hs, hD⟩)
  exact AnyZ.sorted_in Tryz.sorted82 Fence.wide 5 trivial trivial trivial trivial rfl (by omega) (sorts_in _) (enters_of Tryz.func90 (by kernel_rfl) rfl) 91 #[.pointer (some ⟨w.heap.size, 0, none⟩)] trivial (enters_of Tryz.func91 (by kernel_rfl) rfl) _ _ hmax hbytes _ hseq

/-! ### The set as a datum; its keys in order. -/
/-- The set of some texts. -/
def seenD (xs : List (List UInt8)) : DataW Unit := (xs.map Lit.string).foldl (fun m x => m.put x (.lit (.bool true))) (.map [])
theorem seenD_snoc (pre : List (List UInt8)) (x : List UInt8) : seenD (pre ++ [x]) = (seenD pre).put (.string x) (.lit (.bool true)) := by simp [seenD]
theorem has_seenD (xs : List (List UInt8)) (x : List UInt8) : Maps.has (seenD xs) (.string x) = true ↔ x ∈ xs := by
  unfold seenD
  rw [has_fold _ _ _ _ isMap_empty (fun y hy => by obtain ⟨z, _, rfl⟩ := List.mem_map.1 hy; trivial)]
  have h0 : Maps.has (.map [] : DataW Unit) (.string x) = false := rfl
  rw [h0, Bool.false_or, List.any_eq_true]
  constructor
  · rintro ⟨y, hy, h⟩
    obtain ⟨z, hz, rfl⟩ := List.mem_map.1 hy
    have := WideAt.sameKey_eq h
    cases this
    exact hz
  · intro h
    exact ⟨_, List.mem_map.2 ⟨x, h, rfl⟩, by simp [Lit.sameKey]⟩
theorem le_ltS : ∀ x y : List UInt8, x ≤ y ↔ ltS y x = false
  | [], y => by
    have h : ltS y [] = false := by cases y <;> rfl
    rw [h]
    exact ⟨fun _ => rfl, fun _ => List.nil_le y⟩
  | a :: x, [] => by
    have h : ltS [] (a :: x) = true := rfl
    rw [h]
    constructor
    · intro h1
      exact absurd h1 (by simp)
    · intro h1; cases h1
  | a :: x, b :: y => by
    rw [List.cons_le_cons_iff, le_ltS x y]
    simp only [ltS, Bool.or_eq_false_iff, Bool.and_eq_false_iff, decide_eq_false_iff_not]
    rw [UInt8.lt_iff_toNat_lt, ← UInt8.toNat_inj]
    cases ltS y x <;> simp <;> omega
theorem sortD_perm {xs ss : List (List UInt8)} (hp : ss.Perm (strKeys (seenD xs))) (ht : Maps.Tidy (seenD xs)) (hk : ∀ es, seenD xs = .map es → ∀ p ∈ es, ∃ x, p.1 = Lit.string x) : ss.mergeSort (fun x y => decide (x ≤ y)) = sortD xs ∧ ss.length = (sortD xs).length := by
  obtain ⟨es, he, hpw⟩ := ht
  have h1 : (sortD xs).Perm (strKeys (seenD xs)) := by
    have h0 := has_seenD xs
    rw [he] at h0 ⊢
    exact perm_strKeys hpw (hk es he) (strict_nodup (strict_sortD xs)) (fun x => by rw [mem_sortD, h0 x])
  have h2 := hp.trans h1.symm
  refine ⟨(mergeSort_of_perm h2).trans ?_, h2.length_eq⟩
  refine List.mergeSort_of_pairwise ?_
  refine (strict_sortD xs).imp (fun {a b} hab => ?_)
  simp only [leB, decide_eq_true_eq]
  rw [le_ltS]
  exact ltS_asymm _ _ hab

theorem key_str (x : List UInt8) (h : x.length ≤ maxLen) : keyOf Tryz.prog 9 (str x) = some (.string x) := by
  simp [keyOf, Tryz.underlying9, mapKey]
  rw [sz]; exact h
/-- What the loop of sortOnce knows: the box of the set, and the set. -/
def InvS (b : Nat) (pre : List Wd) (W : World) : Prop := W.cell? ⟨b + 1, 0, none⟩ = some (.map (some b)) ∧ W.ownsMap Tryz.prog 9 (plainElem (H := Unit) Tryz.prog 4) b pre.length (seenD (pre.map (·.1)))
theorem invS_from {b C : Nat} (h : b < C) : OwnFrom C (InvS b) := fun _ _ _ _ hs hg hr =>
  ⟨cell_kept hs.1 hg (fun r e => (hr r e).2), hs.2.kept hg (fun e => by have := (hr _ e.symm).1; omega)⟩

set_option maxRecDepth 100000 in
set_option maxHeartbeats 4000000 in
theorem sortOnce_any (gf : Nat) (lb : Array Value) (eg : ∀ args w, (callFunc gf args).run Tryz.prog w = .ok (.enter gf args) w) (Kp : World → World → Prop) (hKt : ∀ {A B C : World}, Kp A B → Kp B C → Kp A C) (N : Nat) (hN : N ≤ 4000) (xs : List (List UInt8)) (hxs : xs.length ≤ 4000) (w : World)
    (hKp : ∀ A B, Below w.heap.size A B → Kp A B) (hseq : SeqStopsK Fence.wide 5 Tryz.prog gf lb encW Kp (fun ys => ys.map (·.1) = xs) (fun _ => True) N w) :
    Calls Tryz.prog 72 #[.func (.func gf) #[] lb] w fun e w' => ∃ v, e = .returned v ∧ w'.ownsRow w.heap.size 9 1 v (sortD xs).length ((sortD xs).map encStr) ∧ (v = .slice none 0 0 ↔ sortD xs = []) ∧ Below w.heap.size w w' := by
  refine (callsIn_wide (n := 6)).1 ?_
  have hmm := @run_makeMap Tryz.prog
  have HQ := Lib.hid hseq
  have HK := Lib.hid hKp
  clear hseq hKp
  refine callsIn_of_wp_marks Tryz.func72 rfl trivial ?_ rfl
  simp only [Tryz.ntmps72, List.size_toArray, List.length_cons, List.length_nil, Nat.reduceAdd, Nat.reduceSub, Array.replicate_succ, Array.replicate_zero, List.push_toArray, List.append_toArray, List.nil_append, List.cons_append]
  gi_wp2_with fail
  have hm0 := World.ownsMap_made w Tryz.prog 9 (plainElem (H := Unit) Tryz.prog 4)
  obtain ⟨w0, hw0⟩ : ∃ w0, (w.alloc (.map #[] 0)).alloc (.cells #[.map (some w.heap.size)] 51) = w0 := ⟨_, rfl⟩
  have HSZ := Lib.hid (show w0.heap.size = w.heap.size + 2 by rw [← hw0]; simp)
  have hm1 : w0.ownsMap Tryz.prog 9 (plainElem (H := Unit) Tryz.prog 4) w.heap.size 0 (seenD []) := by rw [← hw0]; exact hm0.alloc _
  have hc1 : w0.cell? ⟨w.heap.size + 1, 0, none⟩ = some (.map (some w.heap.size)) := by rw [← hw0]; simp
  have hB0 : RowKit.Below w.heap.size w w0 := by rw [← hw0]; exact ((Below.refl _ _).alloc (Nat.le_refl _) _).alloc (by simp) _
  rw [hw0]
  clear hw0 hm0
  have hsz := HSZ.out
  refine wpIn_rangeFunc_ownG (n := 6) rfl (by omega) (gf := gf) (lb := lb) rfl trivial eg
    HQ.out (fun h k => hKt h k) (fun W l o o' hl hW _ _ => HK.out _ _ ((Below.refl _ _).grown (grownBy_putObj' W l o') (by have := (Array.getElem?_eq_some_iff.1 hW).1; omega) (fun k e => by have := Option.some.inj e; omega))) hB0 (fun _ => rfl)
    (fun (pre : List Wd) W => InvS w.heap.size pre W ∧ RowKit.Below w.heap.size w W)
    (fun _ _ _ => False)
    (OwnFrom.and (invS_from (by omega)) (ownFrom_below (Nat.le_refl _) (by omega)))
    (fun _ _ _ _ _ hs _ _ => hs)
    ⟨⟨hc1, hm1⟩, hB0⟩
    (fun x => { tmps := #[.func (.func gf) #[] lb, undef, .slice none 0 0, .pointer (some ⟨w.heap.size + 1, 0, none⟩), str x.1, .map (some w.heap.size), .func (.func gf) #[] lb, str x.1, undef, undef, undef, undef, undef], defers := [] }) ?assign ?body ?done ?stop
  case assign =>
    intro l x W K hK
    gi_wp2_with fail
    exact hK
  case body =>
    rintro l pre x W ⟨⟨hc, hown⟩, hB⟩ hlt
    have hx := x.2
    have hkey : keyOf Tryz.prog 9 (str x.1) = some (.string x.1) := key_str _ (by unfold maxLen; omega)
    gi_wp2_with (gi_at_mapUpdate; refine wpListIn_mapUpdate_own _ rfl _ _ _ 51 rfl 9 4 (Maps.string_keyed Tryz.underlying9) Tryz.underlying51 _ w.heap.size pre.length _ rfl hown (by unfold maxLen; omega) _ _ _ rfl rfl hkey _ [] (plainElem_bool Tryz.underlying4 true) ?_; intro w1 hown1 hgrow1)
    obtain ⟨es, ck, hh, _⟩ := hown
    exact ⟨KeepsFrom.of_grownBy hgrow1 (fun j e => by have := Option.some.inj e; omega), HK.out _ _ ((Below.refl _ W).grown hgrow1 hB.size (fun k e => by have := Option.some.inj e; omega)),
      ⟨cell_kept hc hgrow1 (fun r e => by cases e; exact ⟨_, hh, rfl⟩), by rw [List.map_append, List.length_append]; exact (seenD_snoc (pre.map (·.1)) x.1).symm ▸ hown1⟩, hB.grown hgrow1 hB.size (fun k e => by have := Option.some.inj e; omega)⟩
  case done =>
    rintro D ys W hD hys ⟨⟨hc, hown⟩, hB⟩ hK
    have hle := hown.size_le
    have hyl : ys.length = xs.length := by rw [← hys, List.length_map]
    gi_wp2_with fail
    refine ⟨trivial, (keys_any (some w.heap.size) W).mono ?_⟩
    rintro e1 W1 ⟨rfl, rfl⟩
    gi_wp2_with fail
    refine ⟨trivial, (sorted_keys w.heap.size ys.length _ _ W hown (by unfold maxLen; omega) (by omega)).mono ?_⟩
    rintro e2 W2 ⟨v, ss, rfl, hS, hrow, hnil, hb⟩
    have hDW : D < W.heap.size := (Array.getElem?_eq_some_iff.1 hK).1
    have hK2 : W2.heap[D]? = some (.deferred (some [])) := (hb.block D (by simp; omega)).trans ((Below.heap_alloc _ _ _ hDW).trans hK)
    have hP := sortD_perm hS (hown.tidy (Maps.string_keyed Tryz.underlying9)) (fun es he p hp => by
      obtain ⟨es', he', hk⟩ := hown.keysOf
      rw [he] at he'
      cases he'
      obtain ⟨v, hv⟩ := hk p hp
      obtain ⟨x, _, hx, _⟩ := Maps.keyOf_str Tryz.underlying9 hv
      exact ⟨x, hx⟩)
    rw [hys] at hP
    rw [hP.1, hP.2] at hrow
    have hB2 : RowKit.Below w.heap.size w W2 := (hB.alloc hB.size _).trans (hb.mono (by have := hB.size; simp; omega))
    gi_wp2_with fail
    refine ⟨by simp, .inl ⟨_, _, rfl, run_takeDeferred hK2, ?_⟩⟩
    refine ⟨_, results_tmp rfl _ _ _, v, rfl, ownsRow_base_a (ownsRow_putObj hrow _ hK2 rfl) (by have := hB.size; simp; omega), hnil.trans ?_, below_taken hB2 (by have := HSZ.out; omega) _⟩
    rw [← List.length_eq_zero_iff, ← List.length_eq_zero_iff, hP.2]
  case stop =>
    rintro D c pre W _ _ h _
    exact h.elim
end Go.Proofs.YtendkghifcjffaaGreatDoor.L3
