/- The contract of the reference's Common. -/
import Derived.Test.YtfpegkdbimkhdaaDoorRefA
import Derived.Test.YtfpegkdbimkhdaaDoorMathC
namespace Go.Proofs.YtfpegkdbimkhdaaDoor
open Go.RowKit

theorem strict_drop {l : List (List UInt8)} (h : Strict l) (i : Nat) : Strict (l.drop i) := h.sublist (List.drop_sublist i l)

set_option maxRecDepth 100000 in
set_option maxHeartbeats 4000000 in
theorem common_ref (xs ys : List (List UInt8)) (v u : Value) (w : World) (hx : xs.length ≤ 4000) (hy : ys.length ≤ 4000) (hv : Strs w v xs) (hu : Strs w u ys) :
    Calls Tryd.prog 19 #[v, u] w fun e w' => e = .returned (.int .i64 (commonT xs ys : Int)) ∧ Below w.heap.size w w' := by
  have HX := Lib.hid hv
  have HY := Lib.hid hu
  have C1 := Lib.hid (increasing_ref xs v w hx hv)
  have C2 := Lib.hid (fun W (h : Below w.heap.size w W) => increasing_ref ys u W hy (hu.below h))
  obtain ⟨A, ca, rfl, hca, _, _⟩ := hv
  obtain ⟨B, cb, rfl, hcb, _, _⟩ := hu
  go_enter Tryd.func19, Tryd.ntmps19
  go_wp2_with fail
  refine C1.out.mono ?_
  rintro e1 w1 ⟨rfl, hb1⟩
  have HB1 := Lib.hid hb1
  clear hb1
  cases hp : incB xs
  · have HR := Lib.hid (show commonT xs ys = 0 from by unfold commonT; rw [hp]; rfl)
    go_wp2_with fail
    go_ret
    exact ⟨ret_int (by rw [HR.out]; rfl), HB1.out⟩
  · go_wp2_with fail
    refine (C2.out _ HB1.out).mono ?_
    rintro e2 w2 ⟨rfl, hb2⟩
    have HB2 := Lib.hid (below_up HB1.out hb2 HB1.out.size)
    clear hb2
    cases hq : incB ys
    · have HR := Lib.hid (show commonT xs ys = 0 from by unfold commonT; rw [hp, hq]; rfl)
      go_wp2_with fail
      go_ret
      exact ⟨ret_int (by rw [HR.out]; rfl), HB2.out⟩
    · have HR := Lib.hid (show commonT xs ys = comm xs ys from by unfold commonT; rw [hp, hq]; rfl)
      have HST := Lib.hid ((incB_strict xs).1 hp)
      clear hp hq
      go_wp2_with fail
      go_loopw [5, 6, 7] (fun a b c wr => ∃ (n k i : Nat), a = .int .i64 (n : Int) ∧ b = .int .i64 (k : Int) ∧ c = .int .i64 (i : Int) ∧ n + comm (xs.drop i) (ys.drop k) = comm xs ys ∧ n ≤ i ∧ k ≤ ys.length ∧ i ≤ xs.length ∧ Below w.heap.size w wr) (fun _ _ c _ => xs.length + 1 - (intOf c).toNat)
      case atStart => exact ⟨0, 0, 0, by simp, by simp, by simp, by simp, by omega, by omega, by omega, HB2.out⟩
      case round =>
        obtain ⟨n, k, i, rfl, rfl, rfl, hn, hni, hk, hi, hB⟩ := hrel
        have HN := Lib.hid hn
        have HB := Lib.hid hB
        clear hn hB
        by_cases hlt : i < xs.length
        · obtain ⟨A', cap', e, _, _, hc⟩ := HX.out.below HB.out
          cases e
          obtain ⟨b, off, rfl, c0⟩ := hc i hlt
          clear hc
          have HD := Lib.hid (drop_cons hlt)
          have HSD := Lib.hid (strict_drop HST.out i)
          obtain ⟨x, hxx⟩ : ∃ x, xs[i] = x := ⟨_, rfl⟩
          rw [hxx] at c0 HD
          clear hxx
          obtain ⟨wo, rfl⟩ : ∃ wo, wo = wr := ⟨_, rfl⟩
          go_wp2_with fail
          go_loopw [6] (fun b wr => ∃ (k : Nat), b = .int .i64 (k : Int) ∧ n + comm (xs.drop i) (ys.drop k) = comm xs ys ∧ k ≤ ys.length ∧ Below wo.heap.size wo wr) (fun b _ => ys.length + 1 - (intOf b).toNat)
          case atStart => exact ⟨k, rfl, HN.out, hk, Below.refl _ _⟩
          case round =>
            clear hk
            obtain ⟨k, rfl, hn, hk, hbq⟩ := hrel
            have HQ := Lib.hid hn
            have c1 := cellB hbq c0
            have HBQ := Lib.hid (below_up HB.out hbq HB.out.size)
            have HBR := Lib.hid hbq
            clear hn hbq c0
            by_cases hlt2 : k < ys.length
            · obtain ⟨B', cbp', e, _, _, hc⟩ := HY.out.below HBQ.out
              cases e
              obtain ⟨b', off', rfl, d0⟩ := hc k hlt2
              clear hc
              have HE := Lib.hid (drop_cons hlt2)
              obtain ⟨y, hyy⟩ : ∃ y, ys[k] = y := ⟨_, rfl⟩
              rw [hyy] at d0 HE
              clear hyy
              have d1 : ∀ m, (wr.drewN m).cell? ⟨b', off' + k, none⟩ = some (str y) := fun m => cellB (below_drewN wr.heap.size wr m) d0
              have c3 : ∀ m, (wr.drewN m).cell? ⟨b, off + i, none⟩ = some (str x) := fun m => cellB (below_drewN wr.heap.size wr m) c1
              obtain ⟨c, hcc⟩ : ∃ c, Op.bytesLess y x = c := ⟨_, rfl⟩
              have HC := Lib.hid (show ltS y x = c by rw [← bytesLess_eq, hcc])
              go_wp2_with fail
              go_quiet (fail)
              cases c
              · obtain ⟨d, hd⟩ : ∃ d, (y == x) = d := ⟨_, rfl⟩
                go_wp2_with fail
                go_quiet (fail)
                cases d
                · have e : y ≠ x := by simpa using hd
                  have HF : Hid (n + comm (xs.drop (i + 1)) (ys.drop k) = comm xs ys) := Lib.hid (by
                    have h := HQ.out
                    rw [HD.out, HE.out, comm_lt ((ltS_total x y (fun q => e q.symm)).resolve_right (by rw [HC.out]; decide)), ← HE.out] at h
                    exact h)
                  clear hcc hd
                  go_wp2_with fail
                  go_roundw
                  case rel => exact ⟨n, k, i + 1, rfl, rfl, by simp, HF.out, by omega, by omega, by omega, dN HBQ.out _⟩
                  case measure => simp [intOf]; omega
                · have e : y = x := by simpa using hd
                  have HF : Hid (n + 1 + comm (xs.drop (i + 1)) (ys.drop k) = comm xs ys) := Lib.hid (by
                    have h := HQ.out
                    have hs := HSD.out
                    rw [HD.out] at hs
                    rw [HD.out, HE.out, e, comm_hit hs, ← e, ← HE.out] at h
                    omega)
                  clear hcc hd
                  go_wp2_with fail
                  go_roundw
                  case rel => exact ⟨n + 1, k, i + 1, by simp, rfl, by simp, HF.out, by omega, by omega, by omega, dN HBQ.out _⟩
                  case measure => simp [intOf]; omega
              · have HF : Hid (n + comm (xs.drop i) (ys.drop (k + 1)) = comm xs ys) := Lib.hid (by
                  have h := HQ.out
                  rw [HD.out, HE.out, comm_gt (ltS_asymm _ _ HC.out) HC.out, ← HD.out] at h
                  exact h)
                clear hcc
                go_wp2_with fail
                go_roundw
                case rel => exact ⟨k + 1, by simp, HF.out, by omega, dN HBR.out _⟩
                case measure => simp [intOf]; omega
            · have HF : Hid (n + comm (xs.drop (i + 1)) (ys.drop k) = comm xs ys) := Lib.hid (by
                have h := HQ.out
                rw [List.drop_eq_nil_of_le (show ys.length ≤ k by omega), comm_nil_r] at h ⊢
                exact h)
              go_wp2_with fail
              go_quiet (fail)
              go_wp2_with fail
              go_quiet (fail)
              go_wp2_with fail
              go_roundw
              case rel => exact ⟨n, k, i + 1, rfl, rfl, by simp, HF.out, by omega, by omega, by omega, dN HBQ.out _⟩
              case measure => simp [intOf]; omega
        · have HF : Hid (comm xs ys = n) := Lib.hid (by
            have h := HN.out
            rw [List.drop_eq_nil_of_le (show xs.length ≤ i by omega), comm_nil_l] at h
            omega)
          go_wp2_with fail
          go_ret
          exact ⟨ret_int (by rw [HR.out, HF.out]), HB.out⟩
end Go.Proofs.YtfpegkdbimkhdaaDoor
