/- The contracts of isLetter and isName, and of the reference's Name. -/
import Derived.Test.YteokcgfbhaeklaaGreatDoorPBase
import Derived.Laws.EntriesVeiled
namespace Go.Proofs.YteokcgfbhaeklaaGreatDoor
open Go.RowKit

theorem letB_iff {c : UInt8} {b : Bool} (h : b = true ↔ Let c) : b = letB c := by
  rw [Bool.eq_iff_iff, h]; exact ⟨fun x => decide_eq_true x, fun x => of_decide_eq_true x⟩
theorem letter_any (c : UInt8) (w : World) :
    Calls Tryz.prog 99 #[.int .u8 (c.toNat : Int)] w fun e w' => e = .returned (.bool (letB c)) ∧ w = w' := by
  have key : ∀ b : Bool, (b = true ↔ Let c) → b = letB c := fun b h => letB_iff h
  by_cases h1 : (97 : Int) ≤ (c.toNat : Int)
  · by_cases h2 : (c.toNat : Int) ≤ 122
    · go_enter Tryz.func99, Tryz.ntmps99
      go_wp2_with fail
      go_ret
      exact ⟨bool_ret (letB_iff (by unfold Let; simp; omega)), rfl⟩
    · have h3 : (65 : Int) ≤ (c.toNat : Int) := by omega
      have h4 : ¬ (c.toNat : Int) ≤ 90 := by omega
      go_enter Tryz.func99, Tryz.ntmps99
      go_wp2_with fail
      go_ret
      exact ⟨bool_ret (letB_iff (by unfold Let; simp; omega)), rfl⟩
  · by_cases h3 : (65 : Int) ≤ (c.toNat : Int)
    · by_cases h4 : (c.toNat : Int) ≤ 90
      · go_enter Tryz.func99, Tryz.ntmps99
        go_wp2_with fail
        go_ret
        exact ⟨bool_ret (letB_iff (by unfold Let; simp; omega)), rfl⟩
      · go_enter Tryz.func99, Tryz.ntmps99
        go_wp2_with fail
        go_ret
        exact ⟨bool_ret (letB_iff (by unfold Let; simp; omega)), rfl⟩
    · go_enter Tryz.func99, Tryz.ntmps99
      go_wp2_with fail
      go_ret
      exact ⟨bool_ret (letB_iff (by unfold Let; simp; omega)), rfl⟩

/-- Whether a text has a letter first, and other bytes of names from the k-th on. -/
theorem nameB_head {t : Txt} (h : letB (t.getD 0 0) = false) : nameB t = false := by unfold nameB; rw [h]; simp
theorem nameB_len {t : Txt} (h : ¬ (1 ≤ t.length ∧ t.length ≤ 24)) : nameB t = false := by unfold nameB; rw [decide_eq_false h]; rfl
theorem nameB_rest {t : Txt} (h1 : 1 ≤ t.length ∧ t.length ≤ 24) (h2 : letB (t.getD 0 0) = true) : nameB t = t.all othB := by unfold nameB; rw [decide_eq_true h1, h2]; rfl
theorem nameB_bad {t : Txt} {k : Nat} (hk : k < t.length) (h : othB t[k] = false) : nameB t = false := by
  have : t.all othB = false := by
    rw [List.all_eq_false]
    exact ⟨t[k], List.getElem_mem hk, by simpa using h⟩
  unfold nameB
  rw [this]
  simp
theorem nameB_good {t : Txt} (h1 : 1 ≤ t.length ∧ t.length ≤ 24) (h2 : letB (t.getD 0 0) = true) (h : ∀ k (hk : k < t.length), othB t[k] = true) : nameB t = true := by
  rw [nameB_rest h1 h2, List.all_eq_true]
  intro x hx
  obtain ⟨k, hk, rfl⟩ := List.getElem_of_mem hx
  exact h k hk
theorem othB_let {c : UInt8} (h : letB c = true) : othB c = true := decide_eq_true (Or.inl (of_decide_eq_true h))
theorem othB_dig {c : UInt8} (h1 : (48 : Int) ≤ (c.toNat : Int)) (h2 : (c.toNat : Int) ≤ 57) : othB c = true := decide_eq_true (Or.inr (Or.inl ⟨by omega, by omega⟩))
theorem othB_low {c : UInt8} (h : (c.toNat : Int) = 95) : othB c = true := decide_eq_true (Or.inr (Or.inr (by omega)))
theorem othB_no {c : UInt8} (h : letB c = false) (h1 : (c.toNat : Int) < 48 ∨ 57 < (c.toNat : Int)) (h2 : ¬ (c.toNat : Int) = 95) : othB c = false := by
  have hl : ¬ Let c := of_decide_eq_false h
  exact decide_eq_false (fun x => by
    unfold Oth at x
    rcases x with x | x | x
    · exact hl x
    · omega
    · omega)

set_option maxRecDepth 100000 in
set_option maxHeartbeats 1000000 in
/-- The loop of isName: from the first byte on. -/
theorem isName_any (t : Txt) (w : World) :
    Calls Tryz.prog 68 #[str t] w fun e w' => e = .returned (.bool (nameB t)) ∧ w = w' := by
  by_cases h0 : t = []
  · subst h0
    go_enter Tryz.func68, Tryz.ntmps68
    go_wp2_with fail
    go_ret
    exact ⟨rfl, rfl⟩
  · by_cases h1 : 24 < t.length
    · have HF := Lib.hid (nameB_len (t := t) (by omega))
      have hem : t.isEmpty = false := by
        cases t with
        | nil => exact absurd rfl h0
        | cons x y => rfl
      clear h0
      go_enter Tryz.func68, Tryz.ntmps68
      go_wp2_with fail
      go_ret
      exact ⟨bool_ret HF.out.symm, rfl⟩
    · obtain ⟨c, r, rfl⟩ : ∃ c r, t = c :: r := by
        cases t with
        | nil => exact absurd rfl h0
        | cons x y => exact ⟨x, y, rfl⟩
      obtain ⟨t, ht⟩ : ∃ t, c :: r = t := ⟨_, rfl⟩
      have hlen : 1 ≤ t.length ∧ t.length ≤ 24 := by rw [← ht]; simp at h1 ⊢; omega
      have hhd : t.getD 0 0 = c := by rw [← ht]; rfl
      have hi0 : ∀ (h : 0 < (ByteArray.mk t.toArray).size), (⟨t.toArray⟩ : ByteArray)[0]'h = c := by subst ht; intro _; rfl
      have hem : t.isEmpty = false := by rw [← ht]; rfl
      rw [ht]
      obtain ⟨hl1, hl2⟩ := hlen
      have HL : Hid (1 ≤ t.length ∧ t.length ≤ 24) := Lib.hid ⟨hl1, hl2⟩
      have HH := Lib.hid hhd
      clear h0 h1 ht hhd
      cases hc : letB c
      · have HF := Lib.hid (nameB_head (t := t) (by rw [HH.out]; exact hc))
        have C := fun W => letter_any c W
        rw [hc] at C
        clear hc
        go_enter Tryz.func68, Tryz.ntmps68
        go_wp2_with fail
        refine (C _).mono ?_
        clear C
        rintro e w1 ⟨rfl, rfl⟩
        go_wp2_with fail
        go_ret
        exact ⟨bool_ret HF.out.symm, rfl⟩
      · have C := fun W => letter_any c W
        rw [hc] at C
        have HC := Lib.hid hc
        clear hc
        go_enter Tryz.func68, Tryz.ntmps68
        go_wp2_with fail
        refine (C _).mono ?_
        clear C hi0
        rintro e w1 ⟨rfl, rfl⟩
        go_wp2_with fail
        go_loop [20] (fun i => ∃ k : Nat, k ≤ t.length ∧ i = .int .i64 (k : Int) ∧ ∀ j (hj : j < k) (hl : j < t.length), othB t[j] = true) (fun i => t.length - (intOf i).toNat)
        case atStart => exact ⟨0, by omega, by simp, fun j hj => by omega⟩
        case round =>
          obtain ⟨k, hk, rfl, hall⟩ := hrel
          have HA := Lib.hid hall
          clear hall
          by_cases hlt : k < t.length
          · obtain ⟨d, hd⟩ : ∃ d, t[k] = d := ⟨_, rfl⟩
            have hix : ∀ (h : k < (ByteArray.mk t.toArray).size), (⟨t.toArray⟩ : ByteArray)[k]'h = d := fun _ => hd
            have HD := Lib.hid hd
            clear hd
            have HN : Hid (othB d = true → ∀ j (hj : j < k + 1) (hl : j < t.length), othB t[j] = true) := Lib.hid (fun ho j hj hl => by
              by_cases e : j = k
              · subst e; rw [HD.out]; exact ho
              · exact HA.out j (by omega) hl)
            have HX : Hid (othB d = false → nameB t = false) := Lib.hid (fun ho => nameB_bad hlt (by rw [HD.out]; exact ho))
            cases hcd : letB d
            · have C := fun W => letter_any d W
              rw [hcd] at C
              have HE := Lib.hid hcd
              clear hcd
              by_cases q1 : (d.toNat : Int) < 48
              · by_cases q3 : (d.toNat : Int) = 95
                · omega
                · have b3 : ((d.toNat : Int) != 95) = true := by simpa using q3
                  go_wp2_with fail
                  refine (C _).mono ?_
                  clear C hix
                  rintro e w1 ⟨rfl, rfl⟩
                  go_wp2_with fail
                  go_ret
                  exact ⟨bool_ret (HX.out (othB_no HE.out (Or.inl q1) q3)).symm, rfl⟩
              · by_cases q2 : 57 < (d.toNat : Int)
                · by_cases q3 : (d.toNat : Int) = 95
                  · have HN2 := Lib.hid (HN.out (othB_low q3))
                    have b3 : ((d.toNat : Int) != 95) = false := by simpa using q3
                    clear q3
                    go_wp2_with fail
                    refine (C _).mono ?_
                    clear C hix
                    rintro e w1 ⟨rfl, rfl⟩
                    go_wp2_with fail
                    go_round
                    case rel => exact ⟨k + 1, by omega, by simp, HN2.out⟩
                    case measure => simp [intOf]; omega
                  · have b3 : ((d.toNat : Int) != 95) = true := by simpa using q3
                    go_wp2_with fail
                    refine (C _).mono ?_
                    clear C hix
                    rintro e w1 ⟨rfl, rfl⟩
                    go_wp2_with fail
                    go_ret
                    exact ⟨bool_ret (HX.out (othB_no HE.out (Or.inr q2) q3)).symm, rfl⟩
                · have HN2 := Lib.hid (HN.out (othB_dig (by omega) (by omega)))
                  go_wp2_with fail
                  refine (C _).mono ?_
                  clear C hix
                  rintro e w1 ⟨rfl, rfl⟩
                  go_wp2_with fail
                  go_round
                  case rel => exact ⟨k + 1, by omega, by simp, HN2.out⟩
                  case measure => simp [intOf]; omega
            · have C := fun W => letter_any d W
              rw [hcd] at C
              have HN2 := Lib.hid (HN.out (othB_let hcd))
              clear hcd
              go_wp2_with fail
              refine (C _).mono ?_
              clear C hix
              rintro e w1 ⟨rfl, rfl⟩
              go_wp2_with fail
              go_round
              case rel => exact ⟨k + 1, by omega, by simp, HN2.out⟩
              case measure => simp [intOf]; omega
          · have HF := Lib.hid (nameB_good (t := t) HL.out (by rw [HH.out]; exact HC.out) (fun j hj => HA.out j (by omega) hj))
            go_wp2_with fail
            go_ret
            exact ⟨bool_ret HF.out.symm, rfl⟩
end Go.Proofs.YteokcgfbhaeklaaGreatDoor

/- The contracts of fits, isTyped and isKey. -/
namespace Go.Proofs.YteokcgfbhaeklaaGreatDoor
open Go.RowKit

theorem fits_raw (a n : Int) (t : Txt) (k : Int) (w : World) :
    Calls Tryz.prog 41 #[.agg #[.int .i64 a, .int .i64 n, str t], .int .i64 k] w (BoolPost w (fitB (a, n, t) k)) := by
  have C := fun W => L2.valid_any a n t W
  cases hv : L2.vldB a n t
  · have HF := Lib.hid (show fitB (a, n, t) k = false by unfold fitB vB; simp [hv])
    rw [hv] at C
    clear hv
    go_enter Tryz.func41, Tryz.ntmps41
    go_wp2_with fail
    refine (C _).mono ?_
    clear C
    rintro e w1 ⟨rfl, hb⟩
    have HB := Lib.hid (below_up (below_box w _) hb (by simp))
    clear hb
    go_wp2_with fail
    go_ret
    exact ⟨bool_ret HF.out.symm, HB.out⟩
  · have HF := Lib.hid (show fitB (a, n, t) k = (decide (a = 0) || decide (a = k)) by unfold fitB vB; simp [hv])
    rw [hv] at C
    clear hv
    by_cases h0 : a = 0
    · have HG := Lib.hid (show fitB (a, n, t) k = true by rw [HF.out, h0]; rfl)
      have b0 : (a == 0) = true := by simpa using h0
      clear h0
      go_enter Tryz.func41, Tryz.ntmps41
      go_wp2_with fail
      refine (C _).mono ?_
      clear C
      rintro e w1 ⟨rfl, hb⟩
      have c0 : w1.cell? ⟨w.heap.size, 0, none⟩ = some (.int .i64 a) := cellB hb (by simp [go_sem])
      have HB := Lib.hid (below_up (below_box w _) hb (by simp))
      clear hb
      go_wp2_with fail
      go_ret
      exact ⟨bool_ret HG.out.symm, HB.out⟩
    · have b0 : (a == 0) = false := by simpa using h0
      have HG := Lib.hid (show fitB (a, n, t) k = decide (a = k) by rw [HF.out, decide_eq_false h0]; rfl)
      clear h0
      go_enter Tryz.func41, Tryz.ntmps41
      go_wp2_with fail
      refine (C _).mono ?_
      clear C
      rintro e w1 ⟨rfl, hb⟩
      have c0 : w1.cell? ⟨w.heap.size, 0, none⟩ = some (.int .i64 a) := cellB hb (by simp [go_sem])
      have HB := Lib.hid (below_up (below_box w _) hb (by simp))
      clear hb
      go_wp2_with fail
      go_ret
      exact ⟨bool_ret (by rw [HG.out, Bool.eq_iff_iff]; simp), HB.out⟩
theorem fits_any (v : T3) (k : Int) (w : World) : Calls Tryz.prog 41 #[Vv v, .int .i64 k] w (BoolPost w (fitB v k)) := fits_raw v.1 v.2.1 v.2.2 k w

theorem typed_raw (k : Int) (a n : Int) (t : Txt) (w : World) :
    Calls Tryz.prog 65 #[.int .i64 k, .agg #[.int .i64 a, .int .i64 n, str t]] w (BoolPost w (typedB k (a, n, t))) := by
  by_cases h1 : 1 ≤ k
  · by_cases h2 : k ≤ 4
    · have HF := Lib.hid (show typedB k (a, n, t) = fitB (a, n, t) k by unfold typedB; rw [decide_eq_true ⟨h1, h2⟩]; rfl)
      go_enter Tryz.func65, Tryz.ntmps65
      go_wp2_with fail
      refine (fits_raw a n t k _).mono ?_
      rintro e w1 ⟨rfl, hb⟩
      have HB := Lib.hid (below_up (below_box w _) hb (by simp))
      clear hb
      go_wp2_with fail
      go_ret
      exact ⟨bool_ret HF.out.symm, HB.out⟩
    · have HF := Lib.hid (show typedB k (a, n, t) = false by unfold typedB; rw [decide_eq_false (by omega)]; rfl)
      go_enter Tryz.func65, Tryz.ntmps65
      go_wp2_with fail
      go_ret
      exact ⟨bool_ret HF.out.symm, below_box w _⟩
  · have HF := Lib.hid (show typedB k (a, n, t) = false by unfold typedB; rw [decide_eq_false (by omega)]; rfl)
    go_enter Tryz.func65, Tryz.ntmps65
    go_wp2_with fail
    go_ret
    exact ⟨bool_ret HF.out.symm, below_box w _⟩
theorem typed_any (k : Int) (v : T3) (w : World) : Calls Tryz.prog 65 #[.int .i64 k, Vv v] w (BoolPost w (typedB k v)) := typed_raw k v.1 v.2.1 v.2.2 w

/-! ### Keys. -/
theorem keyB_bad {l : List Int} {n k : Nat} (hk : k < l.length) (h : l[k] < 0 ∨ (n : Int) ≤ l[k]) : keyB l n = false := by
  refine decide_eq_false (fun x => ?_)
  have := x.2.1 l[k] (List.getElem_mem hk)
  omega
theorem keyB_low {l : List Int} {n k : Nat} (hk : k < l.length) (h0 : 0 < k) (h : l[k] ≤ l[k - 1]) : keyB l n = false := by
  refine decide_eq_false (fun x => ?_)
  have := List.pairwise_iff_getElem.1 x.2.2 (k - 1) k (by omega) hk (by omega)
  omega
theorem keyB_nil (n : Nat) : keyB [] n = false := decide_eq_false (fun x => x.1 rfl)
theorem keyB_good {l : List Int} {n : Nat} (h0 : 0 < l.length) (h1 : ∀ k (hk : k < l.length), 0 ≤ l[k] ∧ l[k] < (n : Int)) (h2 : ∀ k (hk : k < l.length), 0 < k → l[k - 1] < l[k]) : keyB l n = true := by
  refine decide_eq_true ⟨fun e => by rw [e] at h0; simp at h0, fun x hx => ?_, ?_⟩
  · obtain ⟨k, hk, rfl⟩ := List.getElem_of_mem hx
    exact h1 k hk
  · rw [List.pairwise_iff_getElem]
    intro i j hi hj hij
    induction j with
    | zero => omega
    | succ j ih =>
      have hs := h2 (j + 1) hj (by omega)
      simp only [Nat.add_sub_cancel] at hs
      by_cases e : i = j
      · subst e; exact hs
      · have := ih (by omega) (by omega)
        omega
/-- The first k elements are above the ones before them. -/
def UpTo (l : List Int) (k : Nat) : Prop := ∀ j (hj : j < k) (hl : j < l.length), 0 < j → l[j - 1] < l[j]
set_option maxRecDepth 100000 in
set_option maxHeartbeats 1000000 in
theorem isKey_any (l : List Int) (n : Nat) (v : Value) (hl : l.length ≤ 4000) (w : World) (h : Ints w v l) :
    Calls Tryz.prog 66 #[v, .int .i64 (n : Int)] w fun e w' => e = .returned (.bool (keyB l n)) ∧ Below w.heap.size w w' := by
  obtain ⟨A, cap, rfl, hcap⟩ := h.form
  have H := Lib.hid h
  clear h
  go_enter Tryz.func66, Tryz.ntmps66
  go_wp2_with fail
  go_loopw [8] (fun i wr => ∃ k : Nat, k ≤ l.length ∧ i = .int .i64 (k : Int) ∧ (∀ j (hj : j < k) (hl : j < l.length), 0 ≤ l[j] ∧ l[j] < (n : Int)) ∧ UpTo l k ∧ Below w.heap.size w wr) (fun i _ => l.length - (intOf i).toNat)
  case atStart => exact ⟨0, by omega, by simp, fun j hj => by omega, fun j hj => by omega, Below.refl _ _⟩
  case round =>
    obtain ⟨k, hk, rfl, hin, hup, hb⟩ := hrel
    have HI := Lib.hid hin
    have HU := Lib.hid hup
    have HB := Lib.hid hb
    clear hin hup hb
    by_cases hlt : k < l.length
    · obtain ⟨_, _, b, off, rfl, hcell⟩ := Slc.spot H.out (by omega)
      obtain ⟨x, hx⟩ : ∃ x, l[k] = x := ⟨_, rfl⟩
      have HX := Lib.hid hx
      have c0 : ∀ m, (wr.drewN m).cell? ⟨b, off + k, none⟩ = some (.int .i64 x) := fun m => by
        have := cellB HB.out (hcell k hlt)
        rw [Nat.mul_one, hx] at this
        exact this
      have c1 : wr.cell? ⟨b, off + k, none⟩ = some (.int .i64 x) := c0 0
      have i1 : (0 : Int) ≤ (k : Int) := by omega
      have i2 : (k : Int) < (l.length : Int) := by omega
      clear hx
      by_cases q1 : x < 0
      · have d1 : decide (x < 0) = true := decide_eq_true q1
        have HF := Lib.hid (keyB_bad (n := n) hlt (Or.inl (by rw [HX.out]; exact q1)))
        clear hcell
        go_wp2_with fail
        go_quiet (fail)
        go_wp2_with fail
        go_ret
        exact ⟨bool_ret HF.out.symm, dN HB.out _⟩
      · have d1 : decide (x < 0) = false := decide_eq_false q1
        by_cases q2 : (n : Int) ≤ x
        · have d2 : decide ((n : Int) ≤ x) = true := decide_eq_true q2
          have HF := Lib.hid (keyB_bad (n := n) hlt (Or.inr (by rw [HX.out]; exact q2)))
          clear hcell
          go_wp2_with fail
          go_quiet (fail)
          go_wp2_with fail
          go_ret
          exact ⟨bool_ret HF.out.symm, dN HB.out _⟩
        · have d2 : decide ((n : Int) ≤ x) = false := decide_eq_false q2
          have HI2 : Hid (∀ j (hj : j < k + 1) (hl : j < l.length), 0 ≤ l[j] ∧ l[j] < (n : Int)) := Lib.hid (fun j hj hl => by
            by_cases e : j = k
            · subst e; rw [HX.out]; omega
            · exact HI.out j (by omega) hl)
          by_cases hk0 : k = 0
          · have hk1 : ¬ 0 < k := by omega
            have HU2 : Hid (UpTo l (k + 1)) := Lib.hid (fun j hj hl h0 => by omega)
            have d4 : decide ((0 : Int) < (k : Int)) = false := decide_eq_false (by omega)
            have d5 : decide (0 < k) = false := decide_eq_false hk1
            clear hk0 hk1
            clear hcell
            go_wp2_with fail
            go_quiet (fail)
            go_wp2_with fail
            go_roundw
            case rel => exact ⟨k + 1, by omega, by simp, HI2.out, HU2.out, dN HB.out _⟩
            case measure => simp [intOf]; omega
          · have hk1 : 0 < k := by omega
            obtain ⟨y, hy⟩ : ∃ y, l[k - 1] = y := ⟨_, rfl⟩
            have HY := Lib.hid hy
            have e0 : ∀ m, (wr.drewN m).cell? ⟨b, off + (k - 1), none⟩ = some (.int .i64 y) := fun m => by
              have := cellB HB.out (hcell (k - 1) (by omega))
              rw [Nat.mul_one, hy] at this
              exact this
            have d4 : decide ((0 : Int) < (k : Int)) = true := decide_eq_true (by omega)
            have d5 : decide (0 < k) = true := decide_eq_true hk1
            have i3 : IntKind.i64.wrap ((k : Int) - 1) = (k : Int) - 1 := IntWalk.i64_in _ (by omega)
            have i4 : (0 : Int) ≤ (k : Int) - 1 := by omega
            have i5 : (k : Int) - 1 < (l.length : Int) := by omega
            have i6 : ((k : Int) - 1).toNat = k - 1 := by omega
            clear hy hcell
            by_cases q3 : x ≤ y
            · have d3 : decide (x ≤ y) = true := decide_eq_true q3
              have HF := Lib.hid (keyB_low (n := n) hlt hk1 (by rw [HX.out, HY.out]; exact q3))
              go_wp2_with fail
              go_quiet (fail)
              clear i3 i6
              go_wp2_with fail
              go_ret
              exact ⟨bool_ret HF.out.symm, dN HB.out _⟩
            · have d3 : decide (x ≤ y) = false := decide_eq_false q3
              have HU2 : Hid (UpTo l (k + 1)) := Lib.hid (fun j hj hl h0 => by
                by_cases e : j = k
                · subst e; rw [HX.out, HY.out]; omega
                · exact HU.out j (by omega) hl h0)
              go_wp2_with fail
              go_quiet (fail)
              clear i3 i6
              go_wp2_with fail
              go_roundw
              case rel => exact ⟨k + 1, by omega, by simp, HI2.out, HU2.out, dN HB.out _⟩
              case measure => simp [intOf]; omega
    · by_cases h0 : 0 < l.length
      · have HF := Lib.hid (keyB_good (n := n) h0 (fun j hj => HI.out j (by omega) hj) (fun j hj h => HU.out j (by omega) hj h))
        go_wp2_with fail
        go_ret
        exact ⟨bool_ret (HF.out.symm), HB.out⟩
      · have e : l = [] := List.length_eq_zero_iff.1 (by omega)
        have HF := Lib.hid (show keyB l n = false by rw [e]; exact keyB_nil n)
        go_wp2_with fail
        go_ret
        exact ⟨bool_ret (HF.out.symm), HB.out⟩
end Go.Proofs.YteokcgfbhaeklaaGreatDoor

/- The contracts of workOf and of its closures. -/
namespace Go.Proofs.YteokcgfbhaeklaaGreatDoor
open Go.RowKit

set_option maxHeartbeats 1000000 in
theorem workOf1_any (w : World) (z : Nat) (hz : z = w.heap.size + 1) :
    Calls Tryz.prog 53 #[.int .i64 1] w fun e w' => e = .returned (.tuple #[.agg #[.func (Fn.func 77) #[] #[], .func (Fn.func 78) #[] #[], .func (Fn.func 79) #[] #[], .func (Fn.func 80) #[] #[]], .bool true]) ∧ w'.cell? ⟨z, 0, none⟩ = some (.func (Fn.func 76) #[] #[]) ∧ Below w.heap.size w w' := by
  subst hz
  go_enter Tryz.func53, Tryz.ntmps53
  go_wp2_with fail
  exact bodyPost_ret (v := .tuple #[.agg #[.func (Fn.func 77) #[] #[], .func (Fn.func 78) #[] #[], .func (Fn.func 79) #[] #[], .func (Fn.func 80) #[] #[]], .bool true]) (by simp [results, Tryz.results53, go_sem]) rfl ⟨rfl, by simp [go_sem], (below_box w _).alloc (by simp) _⟩
set_option maxHeartbeats 1000000 in
theorem workOf2_any (w : World) (z : Nat) (hz : z = w.heap.size + 1) :
    Calls Tryz.prog 53 #[.int .i64 2] w fun e w' => e = .returned (.tuple #[.agg #[.func (Fn.func 81) #[] #[.pointer (some ⟨z, 0, none⟩)], .func (Fn.func 82) #[] #[], .func (Fn.func 83) #[] #[], .func (Fn.func 84) #[] #[]], .bool true]) ∧ w'.cell? ⟨z, 0, none⟩ = some (.func (Fn.func 76) #[] #[]) ∧ Below w.heap.size w w' := by
  subst hz
  go_enter Tryz.func53, Tryz.ntmps53
  go_wp2_with fail
  exact bodyPost_ret (v := .tuple #[.agg #[.func (Fn.func 81) #[] #[.pointer (some ⟨w.heap.size + 1, 0, none⟩)], .func (Fn.func 82) #[] #[], .func (Fn.func 83) #[] #[], .func (Fn.func 84) #[] #[]], .bool true]) (by simp [results, Tryz.results53, go_sem]) rfl ⟨rfl, by simp [go_sem], (below_box w _).alloc (by simp) _⟩
set_option maxHeartbeats 1000000 in
theorem workOf3_any (w : World) (z : Nat) (hz : z = w.heap.size + 1) :
    Calls Tryz.prog 53 #[.int .i64 3] w fun e w' => e = .returned (.tuple #[.agg #[.func (Fn.func 85) #[] #[.pointer (some ⟨z, 0, none⟩)], .func (Fn.func 86) #[] #[], .func (Fn.func 87) #[] #[], .func (Fn.func 88) #[] #[]], .bool true]) ∧ w'.cell? ⟨z, 0, none⟩ = some (.func (Fn.func 76) #[] #[]) ∧ Below w.heap.size w w' := by
  subst hz
  go_enter Tryz.func53, Tryz.ntmps53
  go_wp2_with fail
  exact bodyPost_ret (v := .tuple #[.agg #[.func (Fn.func 85) #[] #[.pointer (some ⟨w.heap.size + 1, 0, none⟩)], .func (Fn.func 86) #[] #[], .func (Fn.func 87) #[] #[], .func (Fn.func 88) #[] #[]], .bool true]) (by simp [results, Tryz.results53, go_sem]) rfl ⟨rfl, by simp [go_sem], (below_box w _).alloc (by simp) _⟩
set_option maxHeartbeats 1000000 in
theorem workOf4_any (w : World) (z : Nat) (hz : z = w.heap.size + 1) :
    Calls Tryz.prog 53 #[.int .i64 4] w fun e w' => e = .returned (.tuple #[.agg #[.func (Fn.func 89) #[] #[], .func (Fn.func 90) #[] #[], .func (Fn.func 91) #[] #[], .func (Fn.func 92) #[] #[]], .bool true]) ∧ w'.cell? ⟨z, 0, none⟩ = some (.func (Fn.func 76) #[] #[]) ∧ Below w.heap.size w w' := by
  subst hz
  go_enter Tryz.func53, Tryz.ntmps53
  go_wp2_with fail
  exact bodyPost_ret (v := .tuple #[.agg #[.func (Fn.func 89) #[] #[], .func (Fn.func 90) #[] #[], .func (Fn.func 91) #[] #[], .func (Fn.func 92) #[] #[]], .bool true]) (by simp [results, Tryz.results53, go_sem]) rfl ⟨rfl, by simp [go_sem], (below_box w _).alloc (by simp) _⟩
set_option maxHeartbeats 1000000 in
theorem workOf0_any (k : Int) (w : World) (h : k ≠ 1 ∧ k ≠ 2 ∧ k ≠ 3 ∧ k ≠ 4) :
    Calls Tryz.prog 53 #[.int .i64 k] w fun e w' => e = .returned (.tuple #[.agg #[.nilFunc, .nilFunc, .nilFunc, .nilFunc], .bool false]) ∧ Below w.heap.size w w' := by
  have h1 : (k == 1) = false := by simpa using h.1
  have h2 : (k == 2) = false := by simpa using h.2.1
  have h3 : (k == 3) = false := by simpa using h.2.2.1
  have h4 : (k == 4) = false := by simpa using h.2.2.2
  clear h
  go_enter Tryz.func53, Tryz.ntmps53
  go_wp2_with fail
  exact bodyPost_ret (v := .tuple #[.agg #[.nilFunc, .nilFunc, .nilFunc, .nilFunc], .bool false]) (by simp [results, Tryz.results53, go_sem]) rfl ⟨rfl, (below_box w _).alloc (by simp) _⟩

/-! ### The closures. -/
theorem isZero_any (v : T3) (w : World) : Calls Tryz.prog 76 #[Vv v] w (BoolPost w (decide (v = z3))) := by
  obtain ⟨a, n, t⟩ := v
  by_cases e : (a, n, t) = z3
  · have e' : a = 0 ∧ n = 0 ∧ t = [] := by unfold z3 at e; simpa using e
    obtain ⟨rfl, rfl, rfl⟩ := e'
    have q := fun W => L2.eql_yes 0 0 [] W
    rw [decide_eq_true e]
    clear e
    go_enter Tryz.func76, Tryz.ntmps76
    go_wp2_with fail
    go_ret
    exact ⟨rfl, below_box w _⟩
  · have q := fun W => L2.eql_no (k := a) (n := n) (t := t) (k2 := 0) (n2 := 0) (t2 := []) (fun h => e (by obtain ⟨rfl, rfl, rfl⟩ := h; rfl)) W
    rw [decide_eq_false e]
    clear e
    go_enter Tryz.func76, Tryz.ntmps76
    go_wp2_with fail
    go_ret
    exact ⟨rfl, below_box w _⟩
theorem empty_bool (t : Txt) : decide (t = []) = t.isEmpty := by cases t <;> simp
theorem formed1_any (c : ChgT) (w : World) : Calls Tryz.prog 77 #[Cv c] w (BoolPost w (decide (c.attr = []))) := by
  by_cases e : c.attr = []
  · rw [decide_eq_true e]
    go_enter Tryz.func77, Tryz.ntmps77
    go_wp2_with fail
    go_ret
    exact ⟨by simp, below_box w _⟩
  · rw [decide_eq_false e]
    have HE := Lib.hid e
    clear e
    go_enter Tryz.func77, Tryz.ntmps77
    go_wp2_with fail
    go_ret
    exact ⟨bool_ret (by have := HE.out; simp [this]), below_box w _⟩
theorem formed4_any (c : ChgT) (w : World) : Calls Tryz.prog 89 #[Cv c] w (BoolPost w (decide (c.name = []))) := by
  by_cases e : c.name = []
  · rw [decide_eq_true e]
    go_enter Tryz.func89, Tryz.ntmps89
    go_wp2_with fail
    go_ret
    exact ⟨by simp, below_box w _⟩
  · rw [decide_eq_false e]
    have HE := Lib.hid e
    clear e
    go_enter Tryz.func89, Tryz.ntmps89
    go_wp2_with fail
    go_ret
    exact ⟨bool_ret (by have := HE.out; simp [this]), below_box w _⟩
set_option maxHeartbeats 1000000 in
theorem formed2_any (c : ChgT) (z : Nat) (w : World) (hz : w.cell? ⟨z, 0, none⟩ = some (.func (Fn.func 76) #[] #[])) : Calls Tryz.prog 81 #[Cv c, .pointer (some ⟨z, 0, none⟩)] w (BoolPost w (decide (c.name = [] ∧ c.to = 0 ∧ c.dft = z3))) := by
  have hz2 := Cell.alloc hz (.cells #[.int .i64 c.kind, str c.table, str c.attr, str c.name, .int .i64 c.to, .int .i64 c.dft.1, .int .i64 c.dft.2.1, str c.dft.2.2] 28)
  by_cases e : c.name = []
  · by_cases e2 : c.to = 0
    · have HF := Lib.hid (show decide (c.name = [] ∧ c.to = 0 ∧ c.dft = z3) = decide (c.dft = z3) by simp [e, e2])
      have C := fun W => isZero_any c.dft W
      obtain ⟨r, hr⟩ : ∃ r, decide (c.dft = z3) = r := ⟨_, rfl⟩
      rw [hr] at C HF
      have em : c.name.isEmpty = true := by rw [e]; rfl
      have eb : (c.to == 0) = true := by simpa using e2
      clear e e2 hr
      go_enter Tryz.func81, Tryz.ntmps81
      go_wp2_with fail
      refine (C _).mono ?_
      rintro e w1 ⟨rfl, hb⟩
      have HB := Lib.hid (below_up (below_box w _) hb (by simp))
      clear hb C
      go_wp2_with fail
      go_ret
      exact ⟨bool_ret HF.out.symm, HB.out⟩
    · have HF := Lib.hid (show decide (c.name = [] ∧ c.to = 0 ∧ c.dft = z3) = false by simp [e2])
      have em : c.name.isEmpty = true := by rw [e]; rfl
      have eb : (c.to == 0) = false := by simpa using e2
      clear e e2
      go_enter Tryz.func81, Tryz.ntmps81
      go_wp2_with fail
      go_ret
      exact ⟨bool_ret HF.out.symm, below_box w _⟩
  · have HF := Lib.hid (show decide (c.name = [] ∧ c.to = 0 ∧ c.dft = z3) = false by simp [e])
    have em : c.name.isEmpty = false := by rw [← empty_bool]; exact decide_eq_false e
    clear e
    go_enter Tryz.func81, Tryz.ntmps81
    go_wp2_with fail
    go_ret
    exact ⟨bool_ret HF.out.symm, below_box w _⟩
set_option maxHeartbeats 1000000 in
theorem formed3_any (c : ChgT) (z : Nat) (w : World) (hz : w.cell? ⟨z, 0, none⟩ = some (.func (Fn.func 76) #[] #[])) : Calls Tryz.prog 85 #[Cv c, .pointer (some ⟨z, 0, none⟩)] w (BoolPost w (decide (c.to = 0 ∧ c.dft = z3))) := by
  have hz2 := Cell.alloc hz (.cells #[.int .i64 c.kind, str c.table, str c.attr, str c.name, .int .i64 c.to, .int .i64 c.dft.1, .int .i64 c.dft.2.1, str c.dft.2.2] 28)
  by_cases e2 : c.to = 0
  · have HF := Lib.hid (show decide (c.to = 0 ∧ c.dft = z3) = decide (c.dft = z3) by simp [e2])
    have C := fun W => isZero_any c.dft W
    obtain ⟨r, hr⟩ : ∃ r, decide (c.dft = z3) = r := ⟨_, rfl⟩
    rw [hr] at C HF
    have eb : (c.to == 0) = true := by simpa using e2
    clear e2 hr
    go_enter Tryz.func85, Tryz.ntmps85
    go_wp2_with fail
    refine (C _).mono ?_
    rintro e w1 ⟨rfl, hb⟩
    have HB := Lib.hid (below_up (below_box w _) hb (by simp))
    clear hb C
    go_wp2_with fail
    go_ret
    exact ⟨bool_ret HF.out.symm, HB.out⟩
  · have HF := Lib.hid (show decide (c.to = 0 ∧ c.dft = z3) = false by simp [e2])
    have eb : (c.to == 0) = false := by simpa using e2
    clear e2
    go_enter Tryz.func85, Tryz.ntmps85
    go_wp2_with fail
    go_ret
    exact ⟨bool_ret HF.out.symm, below_box w _⟩
end Go.Proofs.YteokcgfbhaeklaaGreatDoor

