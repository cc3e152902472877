/- WordsTokens in plain words: the tokens of a text, of its tokens turned, and of the text twice. -/
import Derived.Test.YtfpegkdbimkhdaaDoorHead
namespace Go.Proofs.YtfpegkdbimkhdaaDoor
open Go.RowKit

theorem tot_take (l : List (List UInt8)) (k : Nat) : tot (l.take k) ≤ tot l := by
  conv => rhs; rw [← List.take_append_drop k l]
  rw [tot_append]
  omega
theorem turn_step {l : List (List UInt8)} {k : Nat} (h : k < l.length) : turnW (l.take (k + 1)) = l[k] ++ 44 :: turnW (l.take k) := by rw [List.take_succ_eq_append_getElem h, turnW_snoc]

set_option maxRecDepth 100000 in
theorem toklaw_l1 (t : List UInt8) (w : World) (h : 500 < t.length) : Calls Tryd.prog 6 #[str t] w fun e w' => e = .returned (.bool true) ∧ Below w.heap.size w w' := by
  go_enter Tryd.func6, Tryd.ntmps6
  go_wp2_with fail
  refine (head_any _).mono ?_
  rintro e1 w1 ⟨rfl, hb⟩
  have HB1 := Lib.hid hb
  clear hb
  go_wp2_with fail
  go_ret
  exact ⟨rfl, HB1.out⟩

set_option maxRecDepth 100000 in
set_option maxHeartbeats 4000000 in
theorem toklaw_main (t s tt : List UInt8) (L ws : List (List UInt8)) (w : World) (ht : t.length ≤ 500) (FSx : Hid (foldT t = s)) (FL : Hid (sortD (words t) = L)) (FW : Hid (words s = ws)) (hs : s.length ≤ 500)
    (M1 : Hid (∀ x ∈ L, x ∈ ws)) (M2 : Hid (∀ x ∈ ws, x ∈ L)) (hL : L.length ≤ 500) (hW : ws.length ≤ 500) (hTot : Hid (tot L ≤ 501)) (HI : Hid (incB L = true)) (HT : Hid (sortD (words (turnW L)) = L)) (HTT : Hid (sortD (words tt) = L)) (HTL : Hid (tt.length ≤ 1100))
    (htt : ((⟨t.toArray⟩ : ByteArray) ++ ⟨#[10]⟩) ++ ⟨t.toArray⟩ = ⟨tt.toArray⟩) :
    Calls Tryd.prog 6 #[str t] w fun e w' => e = .returned (.bool true) ∧ Below w.heap.size w w' := by
  have H1 := Lib.hid (show t.length ≤ 1100 by omega)
  have H2 := Lib.hid (show s.length ≤ 1100 by omega)
  have D := Lib.hid (tokens_any t H1.out)
  rw [FL.out] at D
  go_enter Tryd.func6, Tryd.ntmps6
  go_wp2_with fail
  refine (head_any _).mono ?_
  rintro e1 w1 ⟨rfl, hb⟩
  have HB1 := Lib.hid hb
  clear hb
  go_wp2_with fail
  refine (D.out _).mono ?_
  rintro e2 w2 ⟨v2, rfl, hs, hb⟩
  have HS2 := Lib.hid hs
  have HB2 := Lib.hid (below_up HB1.out hb HB1.out.size)
  clear hs hb D
  have D := Lib.hid (fold_any t H1.out)
  rw [FSx.out] at D
  go_wp2_with fail
  refine (D.out _).mono ?_
  rintro e3 w3 ⟨rfl, hb⟩
  have HS3 := Lib.hid (HS2.out.below hb)
  have HB3 := Lib.hid (below_up HB2.out hb HB2.out.size)
  clear hb D
  have D := Lib.hid (words_ref s H2.out)
  rw [FW.out] at D
  go_wp2_with fail
  refine (D.out _).mono ?_
  rintro e4 w4 ⟨v4, rfl, hs, hb⟩
  have HL4 := Lib.hid (HS3.out.below hb)
  have HW4 := Lib.hid hs
  have HB4 := Lib.hid (below_up HB3.out hb HB3.out.size)
  clear hs hb D HS2 HS3
  obtain ⟨A, ca, rfl, _, _, _⟩ := HL4.out
  obtain ⟨B, cb, rfl, _, _, _⟩ := HW4.out
  go_wp2_with fail
  go_loopw [6, 7] (fun u i wr => ∃ (k : Nat), u = str (turnW (L.take k)) ∧ i = .int .i64 (k : Int) ∧ k ≤ L.length ∧ Below w4.heap.size w4 wr) (fun _ i _ => L.length + 1 - (intOf i).toNat)
  case atStart => exact ⟨0, rfl, by simp, by omega, Below.refl _ _⟩
  case round =>
    obtain ⟨k, rfl, rfl, hk, hbr⟩ := hrel
    have HR := Lib.hid hbr
    clear hbr
    by_cases hlt : k < L.length
    · obtain ⟨A', cap', e, _, _, hc⟩ := HL4.out.below HR.out
      cases e
      obtain ⟨b, off, rfl, c0⟩ := hc k hlt
      clear hc
      have HN := Lib.hid (turn_step hlt)
      have D := Lib.hid (fun W (h : Below wr.heap.size wr W) => in_ref ws L[k] _ W (by omega) ((HW4.out.below HR.out).below h))
      rw [decide_eq_true (M1.out _ (List.getElem_mem hlt))] at D
      have hal : (turnW (L.take k)).length ≤ 501 := by rw [turnW_len]; exact Nat.le_trans (tot_take L k) hTot.out
      have hxl : (L[k]).length + 1 ≤ 501 := by
        have h1 := tot_take L (k + 1)
        rw [List.take_succ_eq_append_getElem hlt, tot_append, tot_one] at h1
        have := hTot.out
        omega
      obtain ⟨x, hx⟩ : ∃ x, L[k] = x := ⟨_, rfl⟩
      obtain ⟨acc, hacc⟩ : ∃ acc, turnW (L.take k) = acc := ⟨_, rfl⟩
      rw [hx] at c0 HN D hxl
      rw [hacc] at HN hal
      rw [hacc]
      clear hx hacc
      go_wp2_with fail
      refine (D.out _ (Below.refl _ _)).mono ?_
      rintro e5 w5 ⟨rfl, hb⟩
      have c1 := cellB hb c0
      have HR5 := Lib.hid (below_up HR.out hb HR.out.size)
      clear hb D
      go_wp2_with fail
      go_roundw
      case rel => exact ⟨k + 1, by rw [HN.out]; exact congrArg Value.string ((congrArg (· ++ _) (str_add x [44])).trans ((str_add _ _).trans (by rw [List.append_assoc]; rfl))), by simp, by omega, HR5.out⟩
      case measure => simp [intOf]; omega
    · have HK := Lib.hid (show L.take k = L from List.take_of_length_le (by omega))
      rw [HK.out]
      obtain ⟨z, hz⟩ : ∃ z, turnW L = z := ⟨_, rfl⟩
      rw [hz] at HT
      have hzl := turnW_len L
      have := hTot.out
      rw [hz] at hzl
      have HZL := Lib.hid (show z.length ≤ 1100 by omega)
      rw [hz]
      clear hzl this hz HK
      obtain ⟨w5, rfl⟩ : ∃ w5, w5 = wr := ⟨_, rfl⟩
      have HL5 := Lib.hid (HL4.out.below HR.out)
      have HW5 := Lib.hid (HW4.out.below HR.out)
      have HB5 := Lib.hid (below_up HB4.out HR.out HB4.out.size)
      go_wp2_with fail
      go_loopw [8] (fun i wr => ∃ (k : Nat), i = .int .i64 (k : Int) ∧ k ≤ ws.length ∧ Below w5.heap.size w5 wr) (fun i _ => ws.length + 1 - (intOf i).toNat)
      case atStart => exact ⟨0, by simp, by omega, Below.refl _ _⟩
      case round =>
        clear hk
        obtain ⟨k, rfl, hk, hbr⟩ := hrel
        have HR6 := Lib.hid hbr
        clear hbr
        by_cases hlt : k < ws.length
        · obtain ⟨B', cap', e, _, _, hc⟩ := HW5.out.below HR6.out
          cases e
          obtain ⟨b, off, rfl, c0⟩ := hc k hlt
          clear hc
          have D := Lib.hid (in_ref L ws[k] _ wr (by omega) (HL5.out.below HR6.out))
          rw [decide_eq_true (M2.out _ (List.getElem_mem hlt))] at D
          obtain ⟨x, hx⟩ : ∃ x, ws[k] = x := ⟨_, rfl⟩
          rw [hx] at c0 D
          clear hx
          go_wp2_with fail
          refine D.out.mono ?_
          rintro e6 w6 ⟨rfl, hb⟩
          have HR7 := Lib.hid (below_up HR6.out hb HR6.out.size)
          clear hb D
          go_wp2_with fail
          go_roundw
          case rel => exact ⟨k + 1, by simp, by omega, HR7.out⟩
          case measure => simp [intOf]; omega
        · have HL6 := Lib.hid (HL5.out.below HR6.out)
          have HB6 := Lib.hid (below_up HB5.out HR6.out HB5.out.size)
          have D := Lib.hid (increasing_ref L _ wr (by omega) HL6.out)
          rw [HI.out] at D
          go_wp2_with fail
          refine D.out.mono ?_
          rintro e7 w7 ⟨rfl, hb⟩
          have HL7 := Lib.hid (HL6.out.below hb)
          have HB7 := Lib.hid (below_up HB6.out hb HB6.out.size)
          clear hb D
          have D := Lib.hid (tokens_any z HZL.out)
          rw [HT.out] at D
          go_wp2_with fail
          refine (D.out _).mono ?_
          rintro e8 w8 ⟨v8, rfl, hs, hb⟩
          have HS8 := Lib.hid hs
          have HL8 := Lib.hid (HL7.out.below hb)
          have HB8 := Lib.hid (below_up HB7.out hb HB7.out.size)
          clear hs hb D
          go_wp2_with fail
          refine (same_ref L L _ _ _ (by omega) HS8.out HL8.out).mono ?_
          rintro e9 w9 ⟨rfl, hb⟩
          have HL9 := Lib.hid (HL8.out.below hb)
          have HB9 := Lib.hid (below_up HB8.out hb HB8.out.size)
          clear hb
          have D := Lib.hid (tokens_any tt HTL.out)
          rw [HTT.out] at D
          go_wp2_with fail
          refine (D.out _).mono ?_
          rintro e10 w10 ⟨v10, rfl, hs, hb⟩
          have HS10 := Lib.hid hs
          have HL10 := Lib.hid (HL9.out.below hb)
          have HB10 := Lib.hid (below_up HB9.out hb HB9.out.size)
          clear hs hb D
          go_wp2_with fail
          refine (same_ref L L _ _ _ (by omega) HS10.out HL10.out).mono ?_
          rintro e11 w11 ⟨rfl, hb⟩
          have HB11 := Lib.hid (below_up HB10.out hb HB10.out.size)
          clear hb
          go_wp2_with fail
          go_ret
          exact ⟨rfl, HB11.out⟩

theorem toklaw_any (t : List UInt8) (w : World) : Calls Tryd.prog 6 #[str t] w fun e w' => e = .returned (.bool true) ∧ Below w.heap.size w w' := by
  by_cases h1 : 500 < t.length
  · exact toklaw_l1 t w h1
  have h2 := foldT_len t
  have h3 := sortD_len (words t)
  have h4 := words_len t
  have h5 := tot_sortD (words t)
  have h6 := wf_tot t []
  have h7 : tot (words t) ≤ ([] : List UInt8).length + t.length + 1 := h6
  simp only [List.length_nil] at h7
  refine toklaw_main t (foldT t) (t ++ 10 :: t) (sortD (words t)) (words t) w (by omega) (Lib.hid rfl) (Lib.hid rfl) (Lib.hid (words_foldT t)) (by omega)
    (Lib.hid (fun x hx => (mem_sortD _ _).1 hx)) (Lib.hid (fun x hx => (mem_sortD _ _).2 hx)) (by omega) (by omega) (Lib.hid (by omega)) (Lib.hid (incB_sortD _)) (Lib.hid (tokens_turned t)) (Lib.hid (tokens_twice t)) (Lib.hid (by simp; omega)) ?_
  rw [show (⟨#[10]⟩ : ByteArray) = ⟨[10].toArray⟩ from rfl, str_add, str_add, List.append_assoc]
  rfl
end Go.Proofs.YtfpegkdbimkhdaaDoor
