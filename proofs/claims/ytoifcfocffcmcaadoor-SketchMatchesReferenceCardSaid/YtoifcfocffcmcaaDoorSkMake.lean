/- The contract of Make. -/
import Derived.Test.YtoifcfocffcmcaaDoorSkUnion
import Derived.Test.YtoifcfocffcmcaaDoorSkHash
namespace Go.Proofs.YtoifcfocffcmcaaDoor
open Go.RowKit

/-- The first j of the values of a list, and those of f for the others. -/
def mixT (l : List Value) (f : Nat → Value) (j k : Nat) : Value := if k < j then l.getD k undef else f k
theorem Row.mix {w : World} {T : TypeId} {g n : Nat} {l : List Value} {f : Nat → Value} {j : Nat} (h : Row w T g n (mixT l f j)) (hj : j < l.length) : Row (w.setCell ⟨g, j, none⟩ l[j]) T g n (mixT l f (j + 1)) := by
  refine (h.set j l[j]).congr (fun k _ => ?_)
  unfold mixT
  by_cases q : k = j
  · subst q
    rw [if_pos rfl, if_pos (by omega)]
    simp [List.getD, hj]
  · rw [if_neg q]
    by_cases q2 : k < j
    · rw [if_pos q2, if_pos (by omega)]
    · rw [if_neg q2, if_neg (by omega)]
theorem Row.mixed {w : World} {T : TypeId} {g n : Nat} {l : List Int} {f : Nat → Value} (h : Row w T g n (mixT (l.map (Value.int .i64)) f n)) (hl : l.length = n) : Ints w (.slice (some ⟨g, 0, none⟩) n n) l := by
  subst hl
  refine ⟨_, l.length, rfl, Nat.le_refl _, (fun e => by cases e), fun i hi => ⟨g, 0, rfl, ?_⟩⟩
  rw [Nat.zero_add, h.cell hi]
  simp [mixT, hi, List.getD]

theorem Row.other {w : World} {T : TypeId} {g n : Nat} {f : Nat → Value} (h : Row w T g n f) {b : Nat} (hb : b ≠ g) (o : Nat) (v : Value) : Row (w.setCell ⟨b, o, none⟩ v) T g n f := by
  unfold Row at *
  rw [← h]
  simp [World.setCell, Array.getElem?_modify, hb]
/-- What Make returns: a list and an error; the list's block is new. -/
def MakePost (w : World) (r : List Int × Int) (e : Ending) (w' : World) : Prop := ∃ v, e = .returned (.tuple #[v, .int .i64 r.2]) ∧ Ints w' v r.1 ∧ Below w.heap.size w w' ∧ ∀ a n c, v = .slice (some a) n c → w.heap.size ≤ a.block
theorem make_out (toks : List (List UInt8)) (n : Int) (v : Value) (w : World) (hn : n < 1 ∨ 64 < n) :
    Calls Tryd.prog 12 #[v, .int .i64 n] w (MakePost w (makeT toks n)) := by
  have e : makeT toks n = ([], 1) := by unfold makeT; rw [if_neg (by omega)]
  rw [e]
  rcases hn with hn | hn
  · go_enter Tryd.func12, Tryd.ntmps12
    go_wp2_with fail
    go_returns
    exact ⟨_, rfl, ints_nil _, Below.refl _ _, fun a n c e => by cases e⟩
  · go_enter Tryd.func12, Tryd.ntmps12
    go_wp2_with fail
    go_returns
    exact ⟨_, rfl, ints_nil _, Below.refl _ _, fun a n c e => by cases e⟩

set_option maxHeartbeats 3200000 in
theorem make_in (toks : List (List UInt8)) (n : Nat) (v : Value) (w : World) (hn1 : 1 ≤ n) (hn2 : n ≤ 64) (hq : toks.length ≤ 100) (hl : ∀ t ∈ toks, t.length ≤ 1000) (h : Strs w v toks) :
    Calls Tryd.prog 12 #[v, .int .i64 (n : Int)] w (MakePost w (sk toks n, 0)) := by
  have HA := Lib.hid h
  have HL := Lib.hid hl
  obtain ⟨A, cap, ev, hca, _⟩ := h
  subst ev
  obtain ⟨q, hqe⟩ : ∃ q, toks.length = q := ⟨_, rfl⟩
  have HQ := Lib.hid hqe
  rw [hqe] at HA hca hq
  rw [hqe]
  clear hqe hl
  obtain ⟨i0, hi, hz0, hz1, hz2⟩ := info_parts infoInt
  go_enter Tryd.func12, Tryd.ntmps12
  go_wp2_with (at_make; refine wpList_make_full _ rfl _ _ 23 rfl w.heap.size 3 i0 (.int .i64 0) 1 Tryd.underlying23 hi hz0 hz1 .i64 .i64 _ _ n rfl rfl rfl rfl (by rw [hz2]; omega) (by unfold maxLen; omega) (Nat.le_refl _) ?_)
  intro w3 hown hg3
  have HO := Lib.hid (row_made ((sk toks n).map (Value.int .i64)) hown).1
  have HC3 := Lib.hid ((Below.refl w.heap.size w).grown hg3 (Nat.le_refl _) (fun k e => by cases e))
  clear hown hg3
  go_wp2_with (at_make; refine wpList_make_full _ rfl _ _ 23 rfl w3.heap.size 3 i0 (.int .i64 0) 1 Tryd.underlying23 hi hz0 hz1 .i64 .i64 _ _ q rfl rfl rfl rfl (by rw [hz2]; omega) (by unfold maxLen; omega) (Nat.le_refl _) ?_)
  intro w4 hown hg4
  have HP := Lib.hid (row_made [] hown).1
  have hb4 : Below w3.heap.size w3 w4 := (Below.refl w3.heap.size w3).grown hg4 (Nat.le_refl _) (fun k e => by cases e)
  have HO4 := Lib.hid (HO.out.below hb4)
  have HC4 := Lib.hid (below_up HC3.out hb4 HC3.out.size)
  have HG : Hid (w.heap.size < w3.heap.size) := Lib.hid HO.out.lt
  obtain ⟨g, hgg⟩ : ∃ g, w3.heap.size = g := ⟨_, rfl⟩
  rw [hgg] at HP HG
  rw [hgg]
  clear hown hg4 hb4 HO HC3 hi hz0 hz1 hz2 hgg
  obtain ⟨f0, hf0⟩ : ∃ f : Nat → Value, fillT [] (.int .i64 0) 0 = f := ⟨_, rfl⟩
  rw [hf0] at HP
  clear hf0
  obtain ⟨G, hG⟩ : ∃ G, w.heap.size = G := ⟨_, rfl⟩
  have HS := Lib.hid hG
  rw [hG] at HG HO4 HC4
  rw [hG]
  clear hG
  go_wp2_with fail
  go_loopw [23] (fun x wr => ∃ (j : Nat) (f : Nat → Value), x = .int .i64 (j : Int) ∧ j ≤ n ∧ Row wr 3 G n (fillT ((sk toks n).map (Value.int .i64)) (.int .i64 0) j) ∧ Row wr 3 g q f ∧ Below G w wr) (fun x _ => n + 1 - (intOf x).toNat)
  case atStart => exact ⟨0, f0, by simp, by omega, HO4.out, HP.out, HC4.out⟩
  case round =>
    clear HO4 HC4 HP
    obtain ⟨j, f, rfl, hj, ho, hp, hbw⟩ := hrel
    have HO := Lib.hid ho
    have HP := Lib.hid hp
    have HW := Lib.hid hbw
    clear ho hp hbw
    by_cases hlt : j < n
    · go_wp2_with fail
      obtain ⟨wo, rfl⟩ : ∃ wo, wo = wr := ⟨_, rfl⟩
      go_loopw [28] (fun x wr => ∃ i : Nat, x = .int .i64 (i : Int) ∧ i ≤ q ∧ Row wr 3 G n (fillT ((sk toks n).map (Value.int .i64)) (.int .i64 0) j) ∧ Row wr 3 g q (mixT ((hashes toks j).map (Value.int .i64)) f i) ∧ Below G w wr) (fun x _ => q + 1 - (intOf x).toNat)
      case atStart => exact ⟨0, by simp, by omega, HO.out, HP.out.congr (fun k _ => (if_neg (by omega)).symm), HW.out⟩
      case round =>
        clear HO HP HW
        obtain ⟨i, rfl, hi, ho, hp, hbw⟩ := hrel
        have HO := Lib.hid ho
        have HP := Lib.hid hp
        have HW := Lib.hid hbw
        have HA1 := Lib.hid (HA.out.below (by rw [HS.out]; exact hbw))
        clear ho hp hbw
        by_cases hlq : i < q
        · obtain ⟨-, -, b1, o1, rfl, x1⟩ := HA1.out.spot (by have := HQ.out; omega)
          have c1 := x1 i (by have := HQ.out; omega)
          have hz : ((hashes toks j).map (Value.int .i64))[i]'(by simp [hashes]; have := HQ.out; omega) = .int .i64 (hashT (toks[i]'(by have := HQ.out; omega)) (j : Int)) := by simp [hashes]
          have HH := Lib.hid (hash_any (toks[i]'(by have := HQ.out; omega)) (j : Int) (HL.out _ (List.getElem_mem _)) wr)
          obtain ⟨t, ht⟩ : ∃ t, toks[i]'(by have := HQ.out; omega) = t := ⟨_, rfl⟩
          rw [ht] at c1 hz HH
          obtain ⟨z, hze⟩ : ∃ z, hashT t (j : Int) = z := ⟨_, rfl⟩
          rw [hze] at hz HH
          have HZ := Lib.hid hz
          clear x1 ht hz hze
          go_wp2_with fail
          refine HH.out.mono ?_
          rintro e w5 ⟨rfl, hb5⟩
          have c0 := (HP.out.below hb5).cell hlq
          have f0 := (HP.out.below hb5).free i
          go_wp2_with fail
          go_roundw
          case rel => exact ⟨i + 1, by simp, by omega, (HO.out.below hb5).other (by have := HG.out; omega) _ _, (by rw [← HZ.out]; exact (HP.out.below hb5).mix (by simp [hashes]; have := HQ.out; omega)), (below_up HW.out hb5 (by have := HP.out.lt; have := HG.out; omega)).setCell (show G ≤ g by have := HG.out; omega) _⟩
          case measure => simp [intOf]; omega
        · have hqi : i = q := by omega
          subst hqi
          have HI := Lib.hid (HP.out.mixed (by simp [hashes]; exact HQ.out))
          have HM := Lib.hid (least_any (hashes toks j) _ wr (by simp [hashes]; have := HQ.out; omega) HI.out)
          have c0 := HO.out.cell hlt
          have f0 := HO.out.free j
          have hz : ((sk toks n).map (Value.int .i64))[j]'(by simpa [sk_len] using hlt) = .int .i64 (least (hashes toks j)) := by simp [sk, leastH]
          obtain ⟨z, hze⟩ : ∃ z, least (hashes toks j) = z := ⟨_, rfl⟩
          rw [hze] at hz HM
          have HZ := Lib.hid hz
          clear hz hze
          go_wp2_with fail
          refine HM.out.mono ?_
          rintro e w5 ⟨rfl, rfl⟩
          go_wp2_with fail
          go_roundw
          case rel => exact ⟨j + 1, _, by simp, by omega, (by rw [← HZ.out]; exact HO.out.fill (by simpa [sk_len] using hlt)), HP.out.other (by have := HG.out; omega) _ _, HW.out.setCell (Nat.le_refl _) _⟩
          case measure => simp [intOf]; omega
    · have hjn : j = n := by omega
      subst hjn
      go_wp2_with fail
      go_returns
      exact ⟨_, rfl, HO.out.ints (sk_len _ _), by rw [HS.out]; exact HW.out, fun a n c e => by cases e; exact Nat.le_of_eq HS.out⟩

theorem make_new (toks : List (List UInt8)) (n : Int) (v : Value) (w : World) (hq : toks.length ≤ 100) (hl : ∀ t ∈ toks, t.length ≤ 1000) (h : Strs w v toks) :
    Calls Tryd.prog 12 #[v, .int .i64 n] w (MakePost w (makeT toks n)) := by
  by_cases hn : n < 1 ∨ 64 < n
  · exact make_out toks n v w hn
  · obtain ⟨m, rfl⟩ : ∃ m : Nat, n = (m : Int) := ⟨n.toNat, by omega⟩
    have e : makeT toks (m : Int) = (sk toks m, 0) := by unfold makeT; rw [if_pos (by omega), Int.toNat_natCast]
    rw [e]
    exact make_in toks m v w (by omega) (by omega) hq hl h
theorem make_any (toks : List (List UInt8)) (n : Int) (v : Value) (w : World) (hq : toks.length ≤ 100) (hl : ∀ t ∈ toks, t.length ≤ 1000) (h : Strs w v toks) :
    Calls Tryd.prog 12 #[v, .int .i64 n] w (ListPost w (makeT toks n)) := by
  refine (make_new toks n v w hq hl h).mono ?_
  rintro e w' ⟨u, rfl, hi, hb, _⟩
  exact ⟨u, rfl, hi, hb⟩
end Go.Proofs.YtoifcfocffcmcaaDoor
