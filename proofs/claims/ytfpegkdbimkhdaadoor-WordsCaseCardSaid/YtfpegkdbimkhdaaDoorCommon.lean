/- The contracts of isSorted and Common, and of the reference's Increasing, Common, Same and In. -/
import Derived.Test.YtfpegkdbimkhdaaDoorTokens
namespace Go.Proofs.YtfpegkdbimkhdaaDoor
open Go.RowKit

theorem bytesLess_eq : ∀ x y, Op.bytesLess x y = ltS x y
  | _, [] => by unfold Op.bytesLess ltS; rfl
  | [], _ :: _ => rfl
  | a :: x, b :: y => by
    unfold Op.bytesLess ltS
    rw [bytesLess_eq x y, Bool.eq_iff_iff]
    simp [UInt8.lt_iff_toNat_lt, UInt8.toNat_inj]

theorem incB_step {l : List (List UInt8)} {j : Nat} (h : j + 1 < l.length) : incB (l.drop j) = (ltS l[j] l[j + 1] && incB (l.drop (j + 1))) := by
  rw [List.drop_eq_getElem_cons (show j < l.length by omega), List.drop_eq_getElem_cons h, incB]
theorem incB_end {l : List (List UInt8)} {j : Nat} (h : l.length ≤ j + 1) : incB (l.drop j) = true := by
  rcases Nat.lt_or_ge j l.length with h1 | h1
  · rw [List.drop_eq_getElem_cons h1, List.drop_eq_nil_of_le h]; rfl
  · rw [List.drop_eq_nil_of_le h1]; rfl

set_option maxHeartbeats 1600000 in
theorem isSorted_any (l : List (List UInt8)) (v : Value) (w : World) (hl : l.length ≤ 4000) (hs : Strs w v l) :
    Calls Tryd.prog 32 #[v] w fun e w' => e = .returned (.bool (incB l)) ∧ Below w.heap.size w w' := by
  have HS := Lib.hid hs
  obtain ⟨A, cap, rfl, hcap, _, _⟩ := hs
  go_enter Tryd.func32, Tryd.ntmps32
  go_wp2_with fail
  go_loopw [3] (fun i wr => ∃ j : Nat, i = .int .i64 ((j + 1 : Nat) : Int) ∧ incB l = incB (l.drop j) ∧ j ≤ l.length ∧ Below w.heap.size w wr) (fun i _ => l.length + 1 - (intOf i).toNat)
  case atStart => exact ⟨0, by simp, rfl, by omega, Below.refl _ _⟩
  case round =>
    obtain ⟨j, rfl, hi, hj, hb⟩ := hrel
    have HI := Lib.hid hi
    have HB := Lib.hid hb
    clear hi hb
    by_cases hlt : j + 1 < l.length
    · obtain ⟨A', cap', e, _, _, hc⟩ := HS.out.below HB.out
      cases e
      obtain ⟨b, off, rfl, c0⟩ := hc j (by omega)
      obtain ⟨b', off', e, c1⟩ := hc (j + 1) hlt
      cases e
      clear hc
      obtain ⟨c, hcc⟩ : ∃ c, Op.bytesLess l[j] l[j + 1] = c := ⟨_, rfl⟩
      have HN := Lib.hid (show incB l = (c && incB (l.drop (j + 1))) from by rw [HI.out, incB_step hlt, ← bytesLess_eq, hcc])
      have e1 : ((j + 1 : Nat) : Int) - 1 = (j : Int) := by omega
      go_wp2_with fail
      go_region
      cases c
      · go_wp2_with fail
        go_ret
        exact ⟨bool_ret (by rw [HN.out]; rfl), HB.out.drew⟩
      · go_wp2_with fail
        go_roundw
        case rel => exact ⟨j + 1, by simp, by rw [HN.out]; rfl, by omega, HB.out.drew⟩
        case measure => simp [intOf]; omega
    · go_wp2_with fail
      go_ret
      exact ⟨bool_ret (by rw [HI.out, incB_end (by omega)]), HB.out⟩

/-- How many elements two lists have in common, as the loop counts them. -/
def comm : List (List UInt8) → List (List UInt8) → Nat
  | [], _ => 0
  | _ :: _, [] => 0
  | a :: x, b :: y => if ltS a b then comm x (b :: y) else if ltS b a then comm (a :: x) y else comm x y + 1
termination_by x y => x.length + y.length
/-- What Common answers. -/
def commonT (a b : List (List UInt8)) : Nat := if incB a && incB b then comm a b else 0
def lenOf : Value → Nat
  | .slice _ n _ => n
  | _ => 0

theorem Strs.tail {w : World} {b off cap : Nat} {a : List UInt8} {x : List (List UInt8)} (h : Strs w (.slice (some ⟨b, off, none⟩) (a :: x).length cap) (a :: x)) :
    Strs w (.slice (if cap = 1 then some ⟨b, off, none⟩ else some ⟨b, off + 1, none⟩) x.length (cap - 1)) x := by
  obtain ⟨A, cap', e, hc, _, f⟩ := h
  cases e
  simp only [List.length_cons] at hc
  refine ⟨_, _, rfl, by omega, (fun e => by split at e <;> cases e), fun i hi => ?_⟩
  obtain ⟨b', off', e, h2⟩ := f (i + 1) (by simp; omega)
  cases e
  refine ⟨b, off + 1, if_neg (by omega), ?_⟩
  rw [show off + 1 + i = off + (i + 1) by omega, h2]
  rfl
theorem Strs.drew {w : World} {v : Value} {l : List (List UInt8)} (h : Strs w v l) : Strs w.drew v l := h.below (Below.refl _ _).drew
theorem comm_lt {a b : List UInt8} {x y : List (List UInt8)} (h : ltS a b = true) : comm (a :: x) (b :: y) = comm x (b :: y) := by rw [comm, if_pos h]
theorem comm_gt {a b : List UInt8} {x y : List (List UInt8)} (h : ltS a b = false) (g : ltS b a = true) : comm (a :: x) (b :: y) = comm (a :: x) y := by rw [comm, if_neg (by rw [h]; decide), if_pos g]
theorem comm_eq {a b : List UInt8} {x y : List (List UInt8)} (h : ltS a b = false) (g : ltS b a = false) : comm (a :: x) (b :: y) = comm x y + 1 := by rw [comm, if_neg (by rw [h]; decide), if_neg (by rw [g]; decide)]

set_option maxHeartbeats 1600000 in
theorem common_any (xs ys : List (List UInt8)) (v u : Value) (w : World) (hx : xs.length ≤ 4000) (hy : ys.length ≤ 4000) (hv : Strs w v xs) (hu : Strs w u ys) :
    Calls Tryd.prog 18 #[v, u] w fun e w' => e = .returned (.int .i64 (commonT xs ys : Int)) ∧ Below w.heap.size w w' := by
  have HX := Lib.hid hv
  have HY := Lib.hid hu
  have C1 := Lib.hid (isSorted_any xs v w hx hv)
  have C2 := Lib.hid (fun W (h : Below w.heap.size w W) => isSorted_any ys u W hy (hu.below h))
  clear hv hu
  go_enter Tryd.func18, Tryd.ntmps18
  go_wp2_with fail
  refine C1.out.mono ?_
  rintro e1 w1 ⟨rfl, hb1⟩
  have HB1 := Lib.hid hb1
  clear hb1
  cases hp : incB xs
  · have HR := Lib.hid (show commonT xs ys = 0 from by unfold commonT; rw [hp]; rfl)
    go_wp2_with fail
    go_ret
    exact ⟨ret_int (by rw [HR.out]; rfl), HB1.out⟩
  · go_wp2_with fail
    refine (C2.out _ HB1.out).mono ?_
    rintro e2 w2 ⟨rfl, hb2⟩
    have HB2 := Lib.hid (below_up HB1.out hb2 HB1.out.size)
    clear hb2
    cases hq : incB ys
    · have HR := Lib.hid (show commonT xs ys = 0 from by unfold commonT; rw [hp, hq]; rfl)
      go_wp2_with fail
      go_ret
      exact ⟨ret_int (by rw [HR.out]; rfl), HB2.out⟩
    · have HR := Lib.hid (show commonT xs ys = comm xs ys from by unfold commonT; rw [hp, hq]; rfl)
      clear hp hq
      go_wp2_with fail
      go_loopw [0, 1, 5] (fun a b c wr => ∃ (xs' ys' : List (List UInt8)) (k : Nat), Strs wr a xs' ∧ Strs wr b ys' ∧ c = .int .i64 (k : Int) ∧ k + comm xs' ys' = comm xs ys ∧ xs'.length ≤ 4000 ∧ ys'.length ≤ 4000 ∧ k + xs'.length ≤ 4000 ∧ Below w.heap.size w wr) (fun a b _ _ => lenOf a + lenOf b)
      case atStart => exact ⟨xs, ys, 0, HX.out.below HB2.out, HY.out.below HB2.out, rfl, by omega, hx, hy, by omega, HB2.out⟩
      case round =>
        obtain ⟨xs', ys', k, ha, hb, rfl, hk, hx', hy', hkl, hB⟩ := hrel
        have HA := Lib.hid ha
        have HBB := Lib.hid hb
        have HK := Lib.hid hk
        have HB := Lib.hid hB
        clear hk hB
        obtain ⟨A, ca, rfl, hca, _, fa⟩ := ha
        obtain ⟨B, cb, rfl, hcb, _, fb⟩ := hb
        cases xs' with
        | nil =>
          clear fa fb
          go_wp2_with fail
          go_ret
          exact ⟨ret_int (by rw [HR.out, ← HK.out, comm]; simp), HB.out⟩
        | cons a x =>
          cases ys' with
          | nil =>
            clear fa fb
            go_wp2_with fail
            go_ret
            exact ⟨ret_int (by rw [HR.out, ← HK.out, comm]; simp), HB.out⟩
          | cons b y =>
            obtain ⟨pa, oa, rfl, c0⟩ := fa 0 (by simp)
            obtain ⟨pb, ob, rfl, c1⟩ := fb 0 (by simp)
            have FA := Lib.hid fa
            have FB := Lib.hid fb
            clear fa fb
            simp only [List.length_cons] at hx' hy' hca hcb
            have c0' : wr.cell? ⟨pa, oa, none⟩ = some (str a) := c0
            have c1' : wr.cell? ⟨pb, ob, none⟩ = some (str b) := c1
            clear c0 c1
            have l0 : 0 < (a :: x).length := by simp
            have l1 : 0 < (b :: y).length := by simp
            obtain ⟨c, hcc⟩ : ∃ c, Op.bytesLess a b = c := ⟨_, rfl⟩
            have HC := Lib.hid (show ltS a b = c by rw [← bytesLess_eq, hcc])
            have HA2 := Lib.hid HA.out.tail
            have HBB2 := Lib.hid HBB.out.tail
            go_wp2_with fail
            go_region
            cases c
            · go_wp2_with fail
              go_region
              go_wp2_with fail
              · have g : (!a == b) = true := by assumption
                have e : a ≠ b := by simpa using g
                have HN := Lib.hid (comm_gt (x := x) (y := y) HC.out ((ltS_total a b e).resolve_left (by rw [HC.out]; decide)))
                go_roundw
                case rel => exact ⟨a :: x, y, k, HA.out.drew.drew, HBB2.out.drew.drew, rfl, by rw [← HK.out, HN.out], by simp; omega, by omega, by omega, HB.out.drew.drew⟩
                case measure => simp [lenOf]
              · have g : (!a == b) = false := by assumption
                have e : a = b := by simpa using g
                have HN := Lib.hid (comm_eq (x := x) (y := y) HC.out (by rw [e]; exact ltS_irrefl b))
                go_region
                go_wp2_with fail
                go_roundw
                case rel => exact ⟨x, y, k + 1, HA2.out.drew.drew.drew, HBB2.out.drew.drew.drew, by simp, by rw [← HK.out, HN.out]; omega, by omega, by omega, by simp at hkl; omega, HB.out.drew.drew.drew⟩
                case measure => simp [lenOf]; omega
            · have HN := Lib.hid (comm_lt (x := x) (y := y) HC.out)
              go_wp2_with fail
              go_roundw
              case rel => exact ⟨x, b :: y, k, HA2.out.drew, HBB.out.drew, rfl, by rw [← HK.out, HN.out], by omega, by simp; omega, by simp at hkl; omega, HB.out.drew⟩
              case measure => simp [lenOf]
end Go.Proofs.YtfpegkdbimkhdaaDoor
