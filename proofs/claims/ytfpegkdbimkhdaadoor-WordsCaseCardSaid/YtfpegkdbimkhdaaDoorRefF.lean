/- The contracts of the reference's Fold. -/
import Derived.Test.YtfpegkdbimkhdaaDoorRefW
namespace Go.Proofs.YtfpegkdbimkhdaaDoor
open Go.RowKit

theorem foldW_step {ws : List (List UInt8)} (h : ∀ x ∈ ws, GoodW x) {i : Nat} (hi : i < ws.length) :
    foldW (ws.take (i + 1)) = (if 0 < i then foldW (ws.take i) ++ [32] else foldW (ws.take i)) ++ ws[i] := by
  rw [List.take_succ_eq_append_getElem hi, foldW_snoc]
  by_cases h0 : 0 < i
  · have hne : foldW (ws.take i) ≠ [] := fun e => by
      have := words_foldW (ws.take i) (fun x hx => h x (List.mem_of_mem_take hx))
      rw [e] at this
      have hl := congrArg List.length this
      simp [words, wordsFrom] at hl
      omega
    rw [if_neg hne, if_pos h0, List.append_assoc]
    rfl
  · have : i = 0 := by omega
    subst this
    simp [foldW]
theorem foldW_take_len {ws : List (List UInt8)} (h : ∀ x ∈ ws, x.length ≤ 1100) (hl : ws.length ≤ 1100) (i : Nat) : (foldW (ws.take i)).length ≤ 1300000 := by
  have h1 := foldW_le (L := 1100) (ws.take i) (fun x hx => h x (List.mem_of_mem_take hx))
  have h2 : (ws.take i).length ≤ 1100 := by rw [List.length_take]; omega
  have h3 : (ws.take i).length * (1100 + 1) ≤ 1100 * (1100 + 1) := Nat.mul_le_mul_right _ h2
  omega

set_option maxRecDepth 100000 in
set_option maxHeartbeats 4000000 in
theorem fold_ref (t : List UInt8) (ht : t.length ≤ 1100) (w : World) :
    Calls Tryd.prog 12 #[str t] w fun e w' => e = .returned (str (foldT t)) ∧ Below w.heap.size w w' := by
  have C := Lib.hid (words_ref t ht)
  have HL := Lib.hid (words_len t)
  have HE := Lib.hid (fun x (hx : x ∈ words t) => words_each hx)
  have HG := Lib.hid (words_good t)
  have HT := Lib.hid (show foldT t = foldW (words t) from rfl)
  have HM := Lib.hid ht
  obtain ⟨ws, hws⟩ : ∃ ws, words t = ws := ⟨_, rfl⟩
  rw [hws] at C HL HE HG HT
  clear hws ht
  go_enter Tryd.func12, Tryd.ntmps12
  go_wp2_with fail
  refine (C.out w).mono ?_
  rintro e1 w1 ⟨v, rfl, hs, hb⟩
  have HS := Lib.hid hs
  have HB := Lib.hid hb
  obtain ⟨A, cap, rfl, hcap, _, _⟩ := hs
  clear C hb
  go_wp2_with fail
  go_loopw [4, 5] (fun u i wr => ∃ (k : Nat), u = str (foldW (ws.take k)) ∧ i = .int .i64 (k : Int) ∧ k ≤ ws.length ∧ wr = w1)
    (fun _ i _ => ws.length + 1 - (intOf i).toNat)
  case atStart => exact ⟨0, rfl, by simp, by omega, rfl⟩
  case round =>
    obtain ⟨k, rfl, rfl, hk, rfl⟩ := hrel
    by_cases hlt : k < ws.length
    · obtain ⟨A', cap', e, _, _, hc⟩ := HS.out
      cases e
      obtain ⟨b, off, rfl, c0⟩ := hc k hlt
      clear hc
      have HN := Lib.hid (foldW_step HG.out hlt)
      have hal := foldW_take_len (fun x hx => Nat.le_trans (HE.out x hx) HM.out) (Nat.le_trans HL.out HM.out) k
      have hwk : ws[k].length ≤ 1100 := Nat.le_trans (HE.out _ (List.getElem_mem hlt)) HM.out
      have hln : ws.length ≤ 1100 := Nat.le_trans HL.out HM.out
      obtain ⟨acc, hacc⟩ : ∃ acc, foldW (ws.take k) = acc := ⟨_, rfl⟩
      rw [hacc] at HN hal
      rw [hacc]
      clear hacc
      by_cases h0 : 0 < k
      · have HP : Hid (foldW (ws.take (k + 1)) = (acc ++ [32]) ++ ws[k]) := Lib.hid (by rw [HN.out, if_pos h0])
        go_wp2_with fail
        go_roundw
        case rel => exact ⟨k + 1, by rw [HP.out]; exact congrArg Value.string ((congrArg (· ++ _) (str_add acc [32])).trans (str_add _ _)), by simp, by omega, trivial⟩
        case measure => simp [intOf]; omega
      · have HP : Hid (foldW (ws.take (k + 1)) = acc ++ ws[k]) := Lib.hid (by rw [HN.out, if_neg h0])
        go_wp2_with fail
        go_roundw
        case rel => exact ⟨k + 1, by rw [HP.out]; exact congrArg Value.string (str_add _ _), by simp, by omega, trivial⟩
        case measure => simp [intOf]; omega
    · go_wp2_with fail
      go_ret
      exact ⟨str_ret (by rw [HT.out, List.take_of_length_le (by omega)]), HB.out⟩
end Go.Proofs.YtfpegkdbimkhdaaDoor
