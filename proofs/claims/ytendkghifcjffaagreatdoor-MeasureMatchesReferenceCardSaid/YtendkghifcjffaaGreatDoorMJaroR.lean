/- The contracts of differences and Jaro. -/
import Derived.Test.YtendkghifcjffaaGreatDoorMJaro
import Derived.Test.YtendkghifcjffaaGreatDoorMNear
namespace Go.Proofs.YtendkghifcjffaaGreatDoor
open Go.RowKit

/-- A slice whose cells hold the bytes l. -/
def Byts (w : World) (v : Value) (l : List UInt8) : Prop :=
  ∃ (A : Option Addr) (cap : Nat), v = .slice A l.length cap ∧ l.length ≤ cap ∧ ∀ i (h : i < l.length), ∃ b off, A = some ⟨b, off, none⟩ ∧ w.cell? ⟨b, off + i, none⟩ = some (.int .u8 (l[i].toNat : Int))
theorem Byts.below {w w1 : World} {v : Value} {l : List UInt8} (h : Byts w v l) (hb : Below w.heap.size w w1) : Byts w1 v l := by
  obtain ⟨A, cap, e, hc, f⟩ := h
  refine ⟨A, cap, e, hc, fun i hi => ?_⟩
  obtain ⟨b, off, h1, h2⟩ := f i hi
  exact ⟨b, off, h1, cellB hb h2⟩
theorem byts_own {w : World} {base : Nat} {v : Value} {l : List UInt8} (h : OwnY w base v l) : Byts w v l := by
  rcases h.2 with ⟨rfl, h0⟩ | ⟨g, cap, cur, rfl, _, hg, hle, _, hsz, htk⟩
  · have : l = [] := List.length_eq_zero_iff.1 h0
    subst this
    exact ⟨none, 0, rfl, Nat.le_refl _, fun i h => absurd h (by simp)⟩
  · refine ⟨_, cap, rfl, hle, fun i hi => ⟨g, 0, rfl, ?_⟩⟩
    have h1 : (cur.toList.take (l.length * 1))[i]? = some (.int .u8 (l[i].toNat : Int)) := by rw [htk]; unfold bys; rw [List.getElem?_map, List.getElem?_eq_getElem hi]; rfl
    rw [List.getElem?_take_of_lt (by omega)] at h1
    rw [Array.getElem?_toList] at h1
    simp [World.cell?, hg, h1]

theorem differences_any (x y : List UInt8) (u v : Value) (hl : x.length = y.length) (hx : x.length ≤ 200) (w : World) (hu : Byts w u x) (hv : Byts w v y) :
    Calls Tryz.prog 40 #[u, v] w fun e w' => e = .returned (.int .i64 (diffTo x y x.length : Nat)) ∧ Below w.heap.size w w' := by
  have HU := Lib.hid hu
  have HV := Lib.hid hv
  have HLE := Lib.hid hl
  clear hl
  obtain ⟨A, cap, rfl, hcap, _⟩ := hu
  obtain ⟨A2, cap2, rfl, hcap2, _⟩ := hv
  go_enter Tryz.func40, Tryz.ntmps40
  go_wp2_with fail
  go_loopw [5, 9] (fun c i wr => ∃ j : Nat, i = .int .i64 (j : Int) ∧ c = .int .i64 (diffTo x y j : Nat) ∧ j ≤ x.length ∧ Below w.heap.size w wr) (fun _ i _ => x.length + 1 - (intOf i).toNat)
  case atStart => exact ⟨0, by simp, by simp [diffTo], by omega, Below.refl _ _⟩
  case round =>
    obtain ⟨j, rfl, rfl, hj, hb⟩ := hrel
    have HB := Lib.hid hb
    have hd := diffTo_le x y j
    have HD := Lib.hid (show diffTo x y (j + 1) = diffTo x y j + (if x[j]? = y[j]? then 0 else 1) from rfl)
    obtain ⟨p, hp⟩ : ∃ p, diffTo x y j = p := ⟨_, rfl⟩
    rw [hp] at HD hd ⊢
    clear hb
    by_cases hlt : j < x.length
    · obtain ⟨A', cap', e, _, hc⟩ := HU.out.below HB.out
      cases e
      obtain ⟨b, off, rfl, c0⟩ := hc j hlt
      obtain ⟨A', cap', e, _, hc2⟩ := HV.out.below HB.out
      cases e
      obtain ⟨b2, off2, rfl, c1⟩ := hc2 j (by have := HLE.out; omega)
      clear hc hc2
      rw [List.getElem?_eq_getElem hlt, List.getElem?_eq_getElem (show j < y.length by have := HLE.out; omega)] at HD
      have hly : j < y.length := by have := HLE.out; omega
      obtain ⟨c, hc⟩ : ∃ c, x[j] = c := ⟨_, rfl⟩
      obtain ⟨d, hd⟩ : ∃ d, y[j]'hly = d := ⟨_, rfl⟩
      rw [hc, hd] at HD
      rw [hc] at c0
      rw [hd] at c1
      have hjl : (j : Int) ≤ 200 := by omega
      have hpl : (p : Int) ≤ 200 := by omega
      clear hc hd
      by_cases hcd : c = d
      · subst hcd
        have HN := Lib.hid (show diffTo x y (j + 1) = p by rw [HD.out, if_pos rfl, Nat.add_zero])
        go_wp2_with fail
        go_region
        go_wp2_with fail
        go_roundw
        case rel => exact ⟨j + 1, by simp, by rw [HN.out], by omega, HB.out.drew⟩
        case measure => simp [intOf]; omega
      · have hne : ((c.toNat : Int) == (d.toNat : Int)) = false := byte_ne hcd
        have hne2 : ((c.toNat : Int) != (d.toNat : Int)) = true := by rw [bne, hne]; rfl
        have HN := Lib.hid (show diffTo x y (j + 1) = p + 1 by rw [HD.out, if_neg (fun e => hcd (Option.some.inj e))])
        clear hcd
        go_wp2_with fail
        go_region
        go_wp2_with fail
        go_roundw
        case rel => exact ⟨j + 1, by simp, by rw [HN.out]; simp, by omega, HB.out.drew⟩
        case measure => simp [intOf]; omega
    · have HE := Lib.hid (show diffTo x y x.length = p by rw [← hp, show j = x.length by omega])
      go_wp2_with fail
      go_ret
      exact ⟨ret_int (by rw [HE.out]), HB.out⟩
end Go.Proofs.YtendkghifcjffaaGreatDoor
