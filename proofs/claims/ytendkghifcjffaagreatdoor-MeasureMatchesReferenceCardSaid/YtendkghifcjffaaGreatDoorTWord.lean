/- The contracts of inWord and its closure. -/
import Derived.Test.YtendkghifcjffaaGreatDoorTBase
namespace Go.Proofs.YtendkghifcjffaaGreatDoor.L3
open Go.RowKit

theorem between_any (x y : Int) (c : UInt8) (b : Nat) (w : World) (hc : w.cell? ⟨b, 0, none⟩ = some (.int .u8 (c.toNat : Int))) :
    Calls Tryz.prog 84 #[.int .u8 x, .int .u8 y, .pointer (some ⟨b, 0, none⟩)] w fun e w' => e = .returned (.bool (decide (x ≤ (c.toNat : Int)) && decide ((c.toNat : Int) ≤ y))) ∧ w' = w := by
  go_enter Tryz.func84, Tryz.ntmps84
  by_cases h1 : x ≤ (c.toNat : Int)
  · by_cases h2 : (c.toNat : Int) ≤ y
    · go_wp2
      go_ret
      exact ⟨bool_ret (by first | rfl | (symm; simp; omega)), rfl⟩
    · go_wp2
      go_ret
      exact ⟨bool_ret (by first | rfl | (symm; simp; omega)), rfl⟩
  · go_wp2
    go_ret
    exact ⟨bool_ret (by first | rfl | (symm; simp; omega)), rfl⟩

set_option maxHeartbeats 1000000 in
theorem inWord_any (c : UInt8) (w : World) :
    Calls Tryz.prog 79 #[.int .u8 (c.toNat : Int)] w fun e w' => e = .returned (.bool (isW c)) ∧ w' = w.alloc (.cells #[.int .u8 (c.toNat : Int)] 5) := by
  have hc : (w.alloc (.cells #[.int .u8 (c.toNat : Int)] 5)).cell? ⟨w.heap.size, 0, none⟩ = some (.int .u8 (c.toNat : Int)) := cell_box (heap_alloc_new w _)
  have C1 := between_any 97 122 c w.heap.size _ hc
  have C2 := between_any 65 90 c w.heap.size _ hc
  have C3 := between_any 48 57 c w.heap.size _ hc
  clear hc
  have hW : isW c = ((decide ((97 : Int) ≤ (c.toNat : Int)) && decide ((c.toNat : Int) ≤ 122)) || ((decide ((65 : Int) ≤ (c.toNat : Int)) && decide ((c.toNat : Int) ≤ 90)) || (decide ((48 : Int) ≤ (c.toNat : Int)) && decide ((c.toNat : Int) ≤ 57)))) := by
    rw [Bool.eq_iff_iff]
    simp only [isW, Bool.or_eq_true, Bool.and_eq_true, decide_eq_true_eq]
    omega
  obtain ⟨b1, e1⟩ : ∃ b, (decide ((97 : Int) ≤ (c.toNat : Int)) && decide ((c.toNat : Int) ≤ 122)) = b := ⟨_, rfl⟩
  obtain ⟨b2, e2⟩ : ∃ b, (decide ((65 : Int) ≤ (c.toNat : Int)) && decide ((c.toNat : Int) ≤ 90)) = b := ⟨_, rfl⟩
  obtain ⟨b3, e3⟩ : ∃ b, (decide ((48 : Int) ≤ (c.toNat : Int)) && decide ((c.toNat : Int) ≤ 57)) = b := ⟨_, rfl⟩
  rw [e1] at C1 hW
  rw [e2] at C2 hW
  rw [e3] at C3 hW
  clear e1 e2 e3
  replace C1 := Lib.hid C1
  replace C2 := Lib.hid C2
  replace C3 := Lib.hid C3
  rw [hW]
  clear hW
  go_enter Tryz.func79, Tryz.ntmps79
  cases b1
  · cases b2
    · go_wp2_with (first | (go_at_call 84; refine C1.out.mono ?_; clear C1; rintro e w1 ⟨rfl, rfl⟩) | (go_at_call 84; refine C2.out.mono ?_; clear C2; rintro e w1 ⟨rfl, rfl⟩) | (go_at_call 84; refine C3.out.mono ?_; clear C3; rintro e w1 ⟨rfl, rfl⟩))
      go_ret
      exact ⟨by first | rfl | (cases b3 <;> rfl), rfl⟩
    · go_wp2_with (first | (go_at_call 84; refine C1.out.mono ?_; clear C1; rintro e w1 ⟨rfl, rfl⟩) | (go_at_call 84; refine C2.out.mono ?_; clear C2; rintro e w1 ⟨rfl, rfl⟩))
      go_ret
      exact ⟨rfl, rfl⟩
  · go_wp2_with (go_at_call 84; refine C1.out.mono ?_; clear C1; rintro e w1 ⟨rfl, rfl⟩)
    go_ret
    exact ⟨rfl, rfl⟩
end Go.Proofs.YtendkghifcjffaaGreatDoor.L3
