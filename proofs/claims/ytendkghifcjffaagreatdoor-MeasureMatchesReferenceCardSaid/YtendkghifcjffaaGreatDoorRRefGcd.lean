/- The contract of the reference's Gcd. -/
import Derived.Test.YtendkghifcjffaaGreatDoorRGcd
namespace Go.Proofs.YtendkghifcjffaaGreatDoor.L1
open Go.RowKit

theorem refgcd_any (x y : Nat) (hx : x < 18446744073709551616) (hy : y < 18446744073709551616) (w : World) :
    Calls Tryz.prog 74 #[.int .u64 (x : Int), .int .u64 (y : Int)] w fun e w' => e = .returned (.int .u64 (Nat.gcd x y : Int)) ∧ ∃ k, w' = w.drewN k := by
  have HX := Lib.hid hx
  have HY := Lib.hid hy
  clear hx hy
  go_enter Tryz.func74, Tryz.ntmps74
  go_wp2
  go_loopw [0, 1] (fun a b wr => ∃ e m : Nat, a = .int .u64 (e : Int) ∧ b = .int .u64 (m : Int) ∧ Nat.gcd e m = Nat.gcd x y ∧ e < 18446744073709551616 ∧ m < 18446744073709551616 ∧ ∃ q, wr = w.drewN q) (fun _ b _ => (intOf b).toNat)
  case atStart => exact ⟨x, y, rfl, rfl, rfl, HX.out, HY.out, 0, rfl⟩
  case round =>
    obtain ⟨e, m, rfl, rfl, hg, he, hm, q2, rfl⟩ := hrel
    have HG := Lib.hid hg
    have HE := Lib.hid he
    have HM := Lib.hid hm
    clear hg he hm
    by_cases h0 : m = 0
    · subst h0
      go_wp2
      go_ret
      exact ⟨ret_int (by rw [← HG.out]; simp), q2, rfl⟩
    · have hp : 0 < m := by omega
      clear h0
      go_wp2
      go_quiet (fail)
      go_roundw
      case rel => refine ⟨_, _, _, _, _, _, _, _, ⟨m, e % m, rfl, by simp, (Nat.gcd_comm m (e % m)).trans ((Nat.gcd_rec m e).symm.trans ((Nat.gcd_comm m e).trans HG.out)), HM.out, Nat.lt_trans (Nat.mod_lt e hp) HM.out, _, World.drewN_drewN _ _ _⟩, rfl⟩
      case measure => simp [intOf]; have := Nat.mod_lt e hp; omega
end Go.Proofs.YtendkghifcjffaaGreatDoor.L1
