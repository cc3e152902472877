/- The contract of commonDivisor at a slice of two numbers. -/
import Derived.Test.YtoifcfocffcmcaaDoorRBase
import Derived.RegionTactic
import Derived.ChangeAlike
import Derived.Deep.QuietTactic
import Derived.BigQuiet
namespace Go.Proofs.YtoifcfocffcmcaaDoor.L1
open Go.RowKit

/-- The divisor after the first k numbers of x, y. -/
def gk (x y k : Nat) : Nat := if k = 0 then 0 else if k = 1 then x else Nat.gcd x y

theorem gk_step (x y k : Nat) (hk : k < 2) : Nat.gcd (gk x y k) (if k = 0 then x else y) = gk x y (k + 1) := by
  unfold gk
  rcases (by omega : k = 0 ∨ k = 1) with rfl | rfl
  · simp
  · simp

theorem gk_lt {x y : Nat} (hx : x < 18446744073709551616) (hy : y < 18446744073709551616) (k : Nat) : gk x y k < 18446744073709551616 := by
  unfold gk
  split
  · omega
  split
  · exact hx
  · by_cases h : 0 < x
    · have := Nat.gcd_le_left y h
      omega
    · obtain rfl : x = 0 := by omega
      simpa using hy

theorem gcd_any (x y : Nat) (hx : x < 18446744073709551616) (hy : y < 18446744073709551616) (b : Nat) (w : World)
    (c0 : w.cell? ⟨b, 0, none⟩ = some (.int .u64 (x : Int))) (c1 : w.cell? ⟨b, 1, none⟩ = some (.int .u64 (y : Int))) :
    Calls Tryd.prog 38 #[.slice (some ⟨b, 0, none⟩) 2 2] w fun e w' => e = .returned (.int .u64 (Nat.gcd x y : Int)) ∧ ∃ k, w' = w.drewN k := by
  have HX := Lib.hid hx
  have HY := Lib.hid hy
  clear hx hy
  go_enter Tryd.func38, Tryd.ntmps38
  go_wp2
  go_loopw [3, 8] (fun d i wr => ∃ k : Nat, k ≤ 2 ∧ i = .int .i64 k ∧ d = .int .u64 (gk x y k : Int) ∧ ∃ q, wr = w.drewN q) (fun _ i _ => 2 - (intOf i).toNat)
  case atStart => exact ⟨0, by omega, rfl, rfl, 0, rfl⟩
  case round =>
    obtain ⟨k, hk, rfl, rfl, q, rfl⟩ := hrel
    rcases (by omega : k = 0 ∨ k = 1 ∨ k = 2) with rfl | rfl | rfl
    · go_wp2
      go_loopw [3, 5] (fun d n wr => ∃ e m : Nat, d = .int .u64 (e : Int) ∧ n = .int .u64 (m : Int) ∧ Nat.gcd e m = gk x y 1 ∧ e < 18446744073709551616 ∧ m < 18446744073709551616 ∧ ∃ q, wr = w.drewN q) (fun _ n _ => (intOf n).toNat)
      case atStart => exact ⟨gk x y 0, x, rfl, rfl, gk_step x y 0 (by omega), gk_lt HX.out HY.out 0, HX.out, q, rfl⟩
      case round =>
        obtain ⟨e, m, rfl, rfl, hg, he, hm, q2, rfl⟩ := hrel
        have HG := Lib.hid hg
        have HE := Lib.hid he
        have HM := Lib.hid hm
        clear hg he hm
        by_cases h0 : m = 0
        · subst h0
          go_wp2
          go_roundw
          case rel => exact ⟨1, by omega, rfl, by rw [← HG.out]; simp, q2, rfl⟩
          case measure => simp [intOf]
        · have hp : 0 < m := by omega
          clear h0
          go_wp2
          go_quiet (fail)
          go_roundw
          case rel => refine ⟨_, _, _, _, _, _, _, _, ⟨m, e % m, rfl, by simp, (Nat.gcd_comm m (e % m)).trans ((Nat.gcd_rec m e).symm.trans ((Nat.gcd_comm m e).trans HG.out)), HM.out, Nat.lt_trans (Nat.mod_lt e hp) HM.out, _, World.drewN_drewN _ _ _⟩, rfl⟩
          case measure => simp [intOf]; have := Nat.mod_lt e hp; omega
    · go_wp2
      go_loopw [3, 5] (fun d n wr => ∃ e m : Nat, d = .int .u64 (e : Int) ∧ n = .int .u64 (m : Int) ∧ Nat.gcd e m = gk x y 2 ∧ e < 18446744073709551616 ∧ m < 18446744073709551616 ∧ ∃ q, wr = w.drewN q) (fun _ n _ => (intOf n).toNat)
      case atStart => exact ⟨gk x y 1, y, rfl, rfl, gk_step x y 1 (by omega), gk_lt HX.out HY.out 1, HY.out, q, rfl⟩
      case round =>
        obtain ⟨e, m, rfl, rfl, hg, he, hm, q2, rfl⟩ := hrel
        have HG := Lib.hid hg
        have HE := Lib.hid he
        have HM := Lib.hid hm
        clear hg he hm
        by_cases h0 : m = 0
        · subst h0
          go_wp2
          go_roundw
          case rel => exact ⟨2, by omega, rfl, by rw [← HG.out]; simp, q2, rfl⟩
          case measure => simp [intOf]
        · have hp : 0 < m := by omega
          clear h0
          go_wp2
          go_quiet (fail)
          go_roundw
          case rel => refine ⟨_, _, _, _, _, _, _, _, ⟨m, e % m, rfl, by simp, (Nat.gcd_comm m (e % m)).trans ((Nat.gcd_rec m e).symm.trans ((Nat.gcd_comm m e).trans HG.out)), HM.out, Nat.lt_trans (Nat.mod_lt e hp) HM.out, _, World.drewN_drewN _ _ _⟩, rfl⟩
          case measure => simp [intOf]; have := Nat.mod_lt e hp; omega
    · go_wp2
      go_ret
      exact ⟨by simp [gk], q, rfl⟩
end Go.Proofs.YtoifcfocffcmcaaDoor.L1
