/- What several laws need: lists of one element, sizes, sketches of tokens. -/
import Derived.Test.YtoifcfocffcmcaaDoorSkHead
namespace Go.Proofs.YtoifcfocffcmcaaDoor
open Go.RowKit

theorem strs_one (w : World) (x : List UInt8) (T : TypeId) : Strs (w.alloc (.cells #[str x] T)) (.slice (some ⟨w.heap.size, 0, none⟩) 1 1) [x] :=
  ⟨_, 1, rfl, Nat.le_refl _, (fun e => by cases e), fun i hi => ⟨_, 0, rfl, by
    obtain rfl : i = 0 := by simpa using hi
    simp [go_sem]⟩⟩
theorem ints_one (w : World) (x : Int) (T : TypeId) : Ints (w.alloc (.cells #[.int .i64 x] T)) (.slice (some ⟨w.heap.size, 0, none⟩) 1 1) [x] :=
  ⟨_, 1, rfl, Nat.le_refl _, (fun e => by cases e), fun i hi => ⟨_, 0, rfl, by
    obtain rfl : i = 0 := by simpa using hi
    simp [go_sem]⟩⟩
theorem mod64 (c : UInt8) : ∃ n : Nat, 1 ≤ n ∧ n ≤ 64 ∧ (1 : Int) + (c.toNat : Int) % 64 = (n : Int) := ⟨1 + c.toNat % 64, by omega, by omega, by omega⟩
/-- The tokens in reverse order, with the first one again, have the same sketch. -/
theorem sk_back (toks : List (List UInt8)) (x : List UInt8) (hx : x ∈ toks) (n : Nat) : sk (toks.reverse ++ [x]) n = sk toks n := by
  unfold sk
  refine List.map_congr_left (fun i _ => least_ext (fun z => ?_))
  unfold hashes
  simp only [List.mem_map, List.mem_append, List.mem_reverse, List.mem_singleton]
  constructor
  · rintro ⟨t, h | rfl, e⟩
    · exact ⟨t, h, e⟩
    · exact ⟨t, hx, e⟩
  · rintro ⟨t, h, e⟩
    exact ⟨t, Or.inl h, e⟩
theorem make_ok (toks : List (List UInt8)) {n : Nat} (h1 : 1 ≤ n) (h2 : n ≤ 64) : makeT toks (n : Int) = (sk toks n, 0) := by
  unfold makeT; rw [if_pos (by omega), Int.toNat_natCast]
end Go.Proofs.YtoifcfocffcmcaaDoor
