/- The plain words of sorted names; the contracts of slices.Sort on a row of the call's own, and of areNames. -/
import Derived.Test.YteokcgfbhaeklaaGreatDoorPFind
import Derived.Test.YteokcgfbhaeklaaGreatDoorPFit
import Derived.Shelf.Sort.Plain
import Derived.Shelf.Slices.In.SortNone
namespace Go.Proofs.YteokcgfbhaeklaaGreatDoor
open Go.RowKit

abbrev sorted (l : List Txt) : List Txt := l.mergeSort fun x y => decide (x ≤ y)
theorem le_lt : ∀ x y : Txt, x ≤ y ↔ L2.ltS y x = false
  | [], y => by
    have h : L2.ltS y [] = false := by cases y <;> rfl
    rw [h]
    exact ⟨fun _ => rfl, fun _ => List.nil_le y⟩
  | a :: x, [] => by
    have h : L2.ltS [] (a :: x) = true := rfl
    rw [h]
    constructor
    · intro h1
      exact absurd h1 (by simp)
    · intro h1; cases h1
  | a :: x, b :: y => by
    rw [List.cons_le_cons_iff, le_lt x y]
    simp only [L2.ltS, Bool.or_eq_false_iff, Bool.and_eq_false_iff, decide_eq_false_iff_not]
    rw [UInt8.lt_iff_toNat_lt, ← UInt8.toNat_inj]
    cases L2.ltS y x <;> simp <;> omega
theorem le_total (x y : Txt) : x ≤ y ∨ y ≤ x := by
  rw [le_lt, le_lt]
  cases h : L2.ltS y x
  · exact Or.inl rfl
  · exact Or.inr (L2.ltS_asymm _ _ h)
theorem le_antisymm {x y : Txt} (h : x ≤ y) (k : y ≤ x) : x = y := by
  rw [le_lt] at h k
  by_cases e : x = y
  · exact e
  · rcases L2.ltS_total x y e with g | g
    · rw [g] at k; cases k
    · rw [g] at h; cases h
theorem le_trans {x y z : Txt} (h : x ≤ y) (k : y ≤ z) : x ≤ z := by
  rw [le_lt] at h k ⊢
  cases g : L2.ltS z x
  · rfl
  · exfalso
    by_cases e : y = z
    · subst e; rw [g] at h; cases h
    · rcases L2.ltS_total y z e with q | q
      · rw [L2.ltS_trans y z x q g] at h; cases h
      · rw [q] at k; cases k
theorem sorted_perm (l : List Txt) : (sorted l).Perm l := List.mergeSort_perm _ _
theorem sorted_len (l : List Txt) : (sorted l).length = l.length := (sorted_perm l).length_eq
theorem sorted_up (l : List Txt) : (sorted l).Pairwise (· ≤ ·) := by
  have h := List.pairwise_mergeSort (le := fun x y : Txt => decide (x ≤ y)) (fun a b c h k => by
    rw [decide_eq_true_eq] at h k ⊢
    exact le_trans h k) (fun a b => by
    rw [Bool.or_eq_true, decide_eq_true_eq, decide_eq_true_eq]
    exact le_total a b) l
  exact h.imp (fun h => by simpa using h)
/-- The first k of a sorted list are names, each above the one before it. -/
def Names (l : List Txt) (k : Nat) : Prop := ∀ j (hj : j < k) (hl : j < l.length), nameB l[j] = true ∧ (0 < j → l[j] ≠ l[j - 1])
theorem names_zero (l : List Txt) : Names l 0 := fun j hj => by omega
theorem names_succ {l : List Txt} {k : Nat} (h : Names l k) (hk : k < l.length) (h1 : nameB l[k] = true) (h2 : 0 < k → l[k] ≠ l[k - 1]) : Names l (k + 1) := fun j hj hl => by
  by_cases e : j = k
  · subst e; exact ⟨h1, h2⟩
  · exact h j (by omega) hl
theorem names_good {l : List Txt} (h : Names (sorted l) (sorted l).length) : namesB l = true := by
  have hp := sorted_perm l
  have h1 : l.all nameB = true := by
    rw [List.all_eq_true]
    intro x hx
    obtain ⟨j, hj, rfl⟩ := List.getElem_of_mem (hp.mem_iff.2 hx)
    exact (h j hj hj).1
  have hup := List.pairwise_iff_getElem.1 (sorted_up l)
  have h2 : (sorted l).Nodup := by
    unfold List.Nodup
    rw [List.pairwise_iff_getElem]
    intro i j hi hj hij e
    have a1 := hup i (j - 1)
    have a2 := hup (j - 1) j (by omega) hj (by omega)
    by_cases q : i = j - 1
    · have := (h j hj hj).2 (by omega)
      subst q
      exact this e.symm
    · have a3 := a1 hi (by omega) (by omega)
      rw [e] at a3
      exact (h j hj hj).2 (by omega) (le_antisymm a3 a2)
  unfold namesB
  rw [h1, decide_eq_true (hp.nodup_iff.1 h2)]
  rfl
theorem names_bad {l : List Txt} {k : Nat} (hk : k < (sorted l).length) (h : nameB (sorted l)[k] = false ∨ (0 < k ∧ (sorted l)[k] = (sorted l)[k - 1])) : namesB l = false := by
  have hp := sorted_perm l
  unfold namesB
  rcases h with h | ⟨h0, h⟩
  · have : l.all nameB = false := by
      rw [List.all_eq_false]
      exact ⟨_, hp.mem_iff.1 (List.getElem_mem hk), by simpa using h⟩
    rw [this]
    rfl
  · have : ¬ l.Nodup := fun hn => by
      have := List.pairwise_iff_getElem.1 (hp.nodup_iff.2 hn) (k - 1) k (by omega) hk (by omega)
      exact this h.symm
    rw [decide_eq_false this, Bool.and_false]

/-! ### Sorting a row of the call's own. -/
abbrev OwnS (w : World) (base : Nat) (v : Value) (l : List Txt) : Prop := w.ownsRow base 9 1 v l.length (l.map str)
theorem sort_own (l : List Txt) (v : Value) (base : Nat) (hl : l.length ≤ 4000) (w : World) (h : OwnS w base v l) :
    Calls Tryz.prog 67 #[v] w fun e w' => e = .returned (.tuple #[]) ∧ OwnS w' base v (sorted l) ∧ w.grownBy w' v.ownBlock := by
  rcases h.2 with ⟨rfl, h0⟩ | ⟨g, cap, cur, rfl, hbase, hb, h1, h2, h3, h4⟩
  · have e : l = [] := List.length_eq_zero_iff.1 h0
    subst e
    refine (Any.slices_Sort_string_none Tryz.lays190 none 0 w).mono ?_
    rintro e w' ⟨rfl, rfl⟩
    have e0 : sorted ([] : List Txt) = [] := List.length_eq_zero_iff.1 (sorted_len [])
    rw [e0]
    exact ⟨rfl, World.ownsRow_nil _ _ _ _, World.grownBy.refl _ _⟩
  · have hH : Go.Sort.Holds encStr w g 0 l.toArray := Go.holds_of_block hb (by rw [Nat.mul_one] at h4; exact h4)
    refine (Any.slices_Sort_string Tryz.lays190 g 0 cap l w hH (Array.getElem?_eq_some_iff.1 hb).1 (by omega)).mono ?_
    rintro e w' ⟨rfl, n, os, rfl⟩
    refine ⟨rfl, ?_, Go.grownBy_sorted _⟩
    have := Go.ownsRow_sorted (n := n) (os := os) (sorted_len l) hbase hb h1 h2 h3
    unfold OwnS
    rw [sorted_len]
    exact this
theorem strs_of_own {w : World} {base : Nat} {v : Value} {l : List Txt} (h : OwnS w base v l) : Strs w v l := by
  rcases h.2 with ⟨rfl, h0⟩ | ⟨g, cap, cur, rfl, _, hg, hle, _, hsz, htk⟩
  · have : l = [] := List.length_eq_zero_iff.1 h0
    subst this
    exact strs_nil w
  · refine ⟨_, cap, rfl, hle, (fun x => by cases x), fun i hi => ⟨g, 0, rfl, ?_⟩⟩
    have h1 : (cur.toList.take (l.length * 1))[i]? = some (str l[i]) := by rw [htk, List.getElem?_map, List.getElem?_eq_getElem hi]; rfl
    rw [List.getElem?_take_of_lt (by omega)] at h1
    rw [Array.getElem?_toList] at h1
    simp [World.cell?, hg, h1]
theorem Strs.spot {w : World} {A : Option Addr} {n cap : Nat} {l : List Txt} (h : Strs w (.slice A n cap) l) (hl : 0 < l.length) : n = l.length ∧ n ≤ cap ∧ ∃ b off, A = some ⟨b, off, none⟩ ∧ ∀ i (h : i < l.length), w.cell? ⟨b, off + i, none⟩ = some (str l[i]) := by
  obtain ⟨A', cap', e, hc, hn, f⟩ := h
  injection e with e1 e2 e3
  subst e1 e3
  obtain ⟨b, off, rfl, _⟩ := f 0 hl
  refine ⟨e2, by omega, b, off, rfl, fun i hi => ?_⟩
  obtain ⟨b', off', e', h2⟩ := f i hi
  cases e'
  exact h2

theorem name_quiet (t : Txt) (r : Bool) (hr : nameB t = r) (w : World) : Calls Tryz.prog 68 #[str t] w fun e w' => e = .returned (.bool r) ∧ w' = w :=
  (isName_any t w).mono fun e w' h => ⟨by rw [h.1, hr], h.2.symm⟩
set_option maxRecDepth 100000 in
set_option maxHeartbeats 2000000 in
theorem areNames_any (l0 : List Txt) (v : Value) (base : Nat) (hl : l0.length ≤ 4000) (w : World) (hbase : base ≤ w.heap.size) (h : OwnS w base v l0) :
    Calls Tryz.prog 37 #[v] w fun e w' => e = .returned (.bool (namesB l0)) ∧ Below base w w' := by
  have HS := Lib.hid (sort_own l0 v base hl w h)
  have hlen := sorted_len l0
  obtain ⟨l, hsl⟩ : ∃ l, sorted l0 = l := ⟨_, rfl⟩
  have HB0 : Hid (∀ w', w.grownBy w' v.ownBlock → Below base w w') := Lib.hid (fun w' hg => (Below.refl _ _).grown hg hbase (fun k hk => (h.lt k hk).1))
  have HG : Hid (Names l l.length → namesB l0 = true) := Lib.hid (fun x => names_good (by rw [hsl]; exact x))
  have HX : Hid (∀ k (hk : k < l.length), (nameB l[k] = false ∨ (0 < k ∧ l[k] = l[k - 1])) → namesB l0 = false) := Lib.hid (fun k hk x => by
    subst hsl
    exact names_bad hk x)
  rw [hsl] at HS
  rw [hsl] at hlen
  obtain ⟨A, cap, rfl, hcap⟩ : ∃ A cap, v = .slice A l0.length cap ∧ l0.length ≤ cap := by
    obtain ⟨A, cap, e, hc, _⟩ := strs_of_own h
    exact ⟨A, cap, e, hc⟩
  rw [← hlen] at hcap hl HS HB0 ⊢
  clear h hsl hlen
  go_enter Tryz.func37, Tryz.ntmps37
  go_wp2_with fail
  refine HS.out.mono ?_
  rintro e w1 ⟨rfl, hown, hg⟩
  have HO := Lib.hid (strs_of_own hown)
  have HB1 := Lib.hid (HB0.out w1 hg)
  clear hown hg HS HB0
  go_wp2_with fail
  go_loopw [8] (fun i wr => ∃ k : Nat, k ≤ l.length ∧ i = .int .i64 (k : Int) ∧ Names l k ∧ Below w1.heap.size w1 wr) (fun i _ => l.length - (intOf i).toNat)
  case atStart => exact ⟨0, by omega, by simp, names_zero _, Below.refl _ _⟩
  case round =>
    obtain ⟨k, hk, rfl, hn, hb⟩ := hrel
    have HN := Lib.hid hn
    have HB := Lib.hid hb
    clear hn hb
    by_cases hlt : k < l.length
    · obtain ⟨_, _, b, off, rfl, hcell⟩ := Strs.spot HO.out (by omega)
      obtain ⟨x, hx⟩ : ∃ x, l[k] = x := ⟨_, rfl⟩
      have HXk := Lib.hid hx
      have c0 : ∀ m, (wr.drewN m).cell? ⟨b, off + k, none⟩ = some (str x) := fun m => by
        have := cellB HB.out (hcell k hlt)
        rw [hx] at this
        exact this
      have i1 : (0 : Int) ≤ (k : Int) := by omega
      have i2 : (k : Int) < (l.length : Int) := by omega
      clear hx
      obtain ⟨r, hr⟩ : ∃ r, nameB x = r := ⟨_, rfl⟩
      have C := Lib.hid (fun W => name_quiet x r hr W)
      have HR := Lib.hid hr
      clear hr
      cases r
      · have HF := Lib.hid (HX.out k hlt (Or.inl (by rw [HXk.out]; exact HR.out)))
        clear hcell
        go_wp2_with fail
        go_quiet ((go_at_call 68; exact Calls.quiet_of_same (C.out _)))
        go_wp2_with fail
        go_ret
        exact ⟨bool_ret HF.out.symm, HB1.out.trans ((dN HB.out _).mono (Nat.le_trans hbase HB1.out.size))⟩
      · by_cases hk0 : 0 < k
        · obtain ⟨y, hy⟩ : ∃ y, l[k - 1] = y := ⟨_, rfl⟩
          have HY := Lib.hid hy
          have e0 : ∀ m, (wr.drewN m).cell? ⟨b, off + (k - 1), none⟩ = some (str y) := fun m => by
            have := cellB HB.out (hcell (k - 1) (by omega))
            rw [hy] at this
            exact this
          have d4 : decide ((0 : Int) < (k : Int)) = true := decide_eq_true (by omega)
          have d5 : decide (0 < k) = true := decide_eq_true hk0
          have i3 : IntKind.i64.wrap ((k : Int) - 1) = (k : Int) - 1 := IntWalk.i64_in _ (by omega)
          have i4 : (0 : Int) ≤ (k : Int) - 1 := by omega
          have i5 : (k : Int) - 1 < (l.length : Int) := by omega
          have i6 : ((k : Int) - 1).toNat = k - 1 := by omega
          clear hy hcell
          by_cases q : x = y
          · have d6 : decide (x = y) = true := decide_eq_true q
            have HF := Lib.hid (HX.out k hlt (Or.inr ⟨hk0, by rw [HXk.out, HY.out]; exact q⟩))
            have d7 : (x == y) = true := by simpa using q
            clear q
            go_wp2_with fail
            go_quiet ((go_at_call 68; exact Calls.quiet_of_same (C.out _)))
            clear i3 i6
            go_wp2_with fail
            go_ret
            exact ⟨bool_ret HF.out.symm, HB1.out.trans ((dN HB.out _).mono (Nat.le_trans hbase HB1.out.size))⟩
          · have d6 : decide (x = y) = false := decide_eq_false q
            have HN2 := Lib.hid (names_succ HN.out hlt (by rw [HXk.out]; exact HR.out) (fun _ => by rw [HXk.out, HY.out]; exact q))
            have d7 : (x == y) = false := by simpa using q
            clear q
            go_wp2_with fail
            go_quiet ((go_at_call 68; exact Calls.quiet_of_same (C.out _)))
            clear i3 i6
            go_wp2_with fail
            go_roundw
            case rel => exact ⟨k + 1, by omega, by simp, HN2.out, dN HB.out _⟩
            case measure => simp [intOf]; omega
        · have d4 : decide ((0 : Int) < (k : Int)) = false := decide_eq_false (by omega)
          have d5 : decide (0 < k) = false := decide_eq_false hk0
          have HN2 := Lib.hid (names_succ HN.out hlt (by rw [HXk.out]; exact HR.out) (fun h => absurd h hk0))
          clear hcell
          go_wp2_with fail
          go_quiet ((go_at_call 68; exact Calls.quiet_of_same (C.out _)))
          go_wp2_with fail
          go_roundw
          case rel => exact ⟨k + 1, by omega, by simp, HN2.out, dN HB.out _⟩
          case measure => simp [intOf]; omega
    · have HF := Lib.hid (HG.out (by rw [show l.length = k by omega]; exact HN.out))
      go_wp2_with fail
      go_ret
      exact ⟨bool_ret HF.out.symm, HB1.out.trans (HB.out.mono (Nat.le_trans hbase HB1.out.size))⟩
end Go.Proofs.YteokcgfbhaeklaaGreatDoor
