/- Hash: its contract, and the reference's. -/
import Derived.Test.YtoifcfocffcmcaaDoorSkBase
import Derived.RangeFuncBox
namespace Go.Proofs.YtoifcfocffcmcaaDoor
open Go.RowKit

theorem rem_pos (n : Int) (h : 0 ≤ n) (m : Int) : n.tmod m = n % m := Int.tmod_eq_emod_of_nonneg h
/-- A seed modulo the prime. -/
theorem residue_eq (s : Int) : (s.tmod 2147483647 + 2147483647).tmod 2147483647 = s % 2147483647 := by
  rcases Int.le_total 0 s with h | h
  · rw [Int.tmod_eq_emod_of_nonneg h, Int.tmod_eq_emod_of_nonneg (by omega)]
    omega
  · have e : s.tmod 2147483647 = -((-s) % 2147483647) := by
      rw [← Int.tmod_eq_emod_of_nonneg (a := -s) (by omega), Int.neg_tmod, Int.neg_neg]
    rw [e, Int.tmod_eq_emod_of_nonneg (by omega)]
    omega
theorem tmod_range (s : Int) : -2147483647 < s.tmod 2147483647 ∧ s.tmod 2147483647 < 2147483647 := by
  have h1 := Int.tmod_lt_of_pos s (show (0 : Int) < 2147483647 by decide)
  have h2 := Int.lt_tmod_of_pos s (show (0 : Int) < 2147483647 by decide)
  omega

theorem residue_any (s : Int) (w : World) : Calls Tryd.prog 34 #[.int .i64 s] w fun e w' => e = .returned (.int .i64 (s % 2147483647)) ∧ Below w.heap.size w w' := by
  have HE := Lib.hid (residue_eq s)
  obtain ⟨t1, t2⟩ := tmod_range s
  obtain ⟨m, hm⟩ : ∃ m, s.tmod 2147483647 = m := ⟨_, rfl⟩
  rw [hm] at HE t1 t2
  have HF := Lib.hid (show (m + 2147483647) % 2147483647 = s % 2147483647 by rw [← rem_pos _ (by omega)]; exact HE.out)
  go_enter Tryd.func34, Tryd.ntmps34
  go_wp2_with fail
  go_ret
  exact ⟨ret_int HF.out, Below.refl _ _⟩

theorem boxed_set {w : World} {b : Nat} {T : TypeId} {v : Value} (h : Boxed w b T v) (u : Value) : Boxed (w.setCell ⟨b, 0, none⟩ u) b T u := by
  unfold Boxed at *
  simp [World.setCell, Array.getElem?_modify, h]
/-- The closure that multiplies: it writes the box that it holds. -/
theorem mult_any (b : Nat) (h f s : Int) (h0 : 0 ≤ h) (h1 : h < 2147483647) (f0 : 0 ≤ f) (f1 : f ≤ 1048576) (s0 : 0 ≤ s) (s1 : s ≤ 1024) (w : World) (hb : Boxed w b 3 (.int .i64 h)) :
    Calls Tryd.prog 35 #[.int .i64 f, .int .i64 s, .pointer (some ⟨b, 0, none⟩)] w fun e w' => (∃ v, e = .returned v) ∧ w' = w.setCell ⟨b, 0, none⟩ (.int .i64 ((h * f + s) % 2147483647)) := by
  have c0 := hb.cell
  have z0 := hb.frozen
  have m0 : 0 ≤ h * f := Int.mul_nonneg h0 f0
  have m1 : h * f ≤ 2147483647 * 1048576 := Int.le_trans (Int.mul_le_mul_of_nonneg_right (by omega) f0) (Int.mul_le_mul_of_nonneg_left f1 (by omega))
  go_enter Tryd.func35, Tryd.ntmps35
  go_wp2_with fail
  refine bodyPost_end (results_none rfl _ _ _) rfl ?_
  exact ⟨⟨_, rfl⟩, rfl⟩

theorem hash_any (t : List UInt8) (seed : Int) (hl : t.length ≤ 1000) (w : World) :
    Calls Tryd.prog 20 #[str t, .int .i64 seed] w fun e w' => e = .returned (.int .i64 (hashT t seed)) ∧ Below w.heap.size w w' := by
  have hs0 : 0 ≤ seed % 2147483647 := by omega
  have hs1 : seed % 2147483647 < 2147483647 := by omega
  have HD : hashT t seed = (t.foldl (stepH (factH (seed % 2147483647))) (seed % 2147483647) * 48271 + 11) % 2147483647 := rfl
  obtain ⟨r, hr⟩ : ∃ r, hashT t seed = r := ⟨_, rfl⟩
  have C := residue_any seed w
  obtain ⟨s, hs⟩ : ∃ s, seed % 2147483647 = s := ⟨_, rfl⟩
  rw [hs] at hs0 hs1 HD C
  rw [hr] at HD
  rw [hr]
  have HD' := Lib.hid HD
  have HL := Lib.hid hl
  clear hr hs HD hl
  go_enter Tryd.func20, Tryd.ntmps20
  go_wp2_with fail
  refine C.mono ?_
  rintro e w1 ⟨rfl, hb⟩
  go_wp2_with fail
  go_loopw [19] (fun x wr => ∃ (j : Nat) (h : Int), x = .int .i64 (j : Int) ∧ j ≤ t.length ∧ 0 ≤ h ∧ h < 2147483647 ∧ Boxed wr w1.heap.size 3 (.int .i64 h) ∧ (t.drop j).foldl (stepH (factH s)) h = t.foldl (stepH (factH s)) s ∧ Below w.heap.size w wr) (fun x _ => t.length + 1 - (intOf x).toNat)
  case atStart => exact ⟨0, s, by simp, by omega, hs0, hs1, Boxed.new w1 _ _, rfl, hb.alloc hb.size _⟩
  case round =>
    obtain ⟨j, h, rfl, hj, h0, h1, hbx, hf, hbw⟩ := hrel
    have HB := Lib.hid hbx
    have HW := Lib.hid hbw
    have HF := Lib.hid hf
    have hsz := hb.size
    have hl := HL.out
    clear hbx hbw hf
    by_cases hlt : j < t.length
    · have hx : ∀ (g : j < (ByteArray.mk t.toArray).size), (⟨t.toArray⟩ : ByteArray)[j]'g = t[j] := fun _ => rfl
      have hc : t[j].toNat < 256 := t[j].toNat_lt
      have HS := Lib.hid (show (t.drop (j + 1)).foldl (stepH (factH s)) ((h * (16807 + s % 1000003) + ((t[j].toNat : Int) + 1)) % 2147483647) = t.foldl (stepH (factH s)) s by rw [← HF.out, List.drop_eq_getElem_cons hlt]; rfl)
      go_wp2_with fail
      refine (mult_any w1.heap.size h _ _ h0 h1 (by omega) (by omega) (by omega) (by omega) wr HB.out).mono ?_
      rintro e w2 ⟨⟨v, rfl⟩, rfl⟩
      go_wp2_with fail
      go_roundw
      case rel => exact ⟨j + 1, _, by simp, by omega, by omega, by omega, boxed_set HB.out _, HS.out, HW.out.setCell hsz _⟩
      case measure => simp [intOf]; omega
    · have HT := Lib.hid (show h = t.foldl (stepH (factH s)) s by rw [← HF.out, List.drop_eq_nil_of_le (by omega)]; rfl)
      go_wp2_with fail
      refine (mult_any w1.heap.size h _ _ h0 h1 (by omega) (by omega) (by omega) (by omega) wr HB.out).mono ?_
      rintro e w2 ⟨⟨v, rfl⟩, rfl⟩
      have c2 := (boxed_set HB.out (.int .i64 ((h * 48271 + 11) % 2147483647))).cell
      go_wp2_with fail
      go_ret
      exact ⟨ret_int (by rw [HD'.out, HT.out]), HW.out.setCell hsz _⟩
end Go.Proofs.YtoifcfocffcmcaaDoor
