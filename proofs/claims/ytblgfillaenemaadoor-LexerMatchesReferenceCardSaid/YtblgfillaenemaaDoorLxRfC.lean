/- The reference's content. -/
import Derived.Test.YtblgfillaenemaaDoorLxRfB
namespace Go.Proofs.YtblgfillaenemaaDoor
open Go.RowKit

open L7 (con con_esc con_plain)

/-- What has been read of a content: acc, out of m bytes; rest is still to be read. -/
def CI (r0 acc : List UInt8) (m : Nat) (rest : List UInt8) : Prop := (con r0).2.2 = (con rest).2.2 ∧ ((con rest).2.2 = 0 → (con r0).1 = acc ++ (con rest).1 ∧ (con r0).2.1 = m + (con rest).2.1)
theorem ci_start (r : List UInt8) : CI r [] 0 r := ⟨rfl, fun _ => ⟨rfl, by omega⟩⟩
theorem ci_plain {r0 acc rest : List UInt8} {m : Nat} {c : UInt8} (h1 : c ≠ 34) (h2 : c ≠ 10) (h3 : c ≠ 92) (h : CI r0 acc m (c :: rest)) : CI r0 (acc ++ [c]) (m + 1) rest := by
  by_cases hr : rest = []
  · subst hr
    have e1 : (con [c]).2.2 = 7 := by rw [con, if_neg h1, if_neg h2]
    have e2 : (con []).2.2 = 7 := by rw [con]
    refine ⟨by rw [h.1, e1, e2], fun q => ?_⟩
    rw [e2] at q
    simp at q
  · obtain ⟨a, b⟩ := h
    rw [con_plain h1 h2 h3 hr] at a b
    refine ⟨a, fun q => ?_⟩
    obtain ⟨x, y⟩ := b q
    refine ⟨?_, ?_⟩
    · rw [x, List.append_assoc]; rfl
    · rw [y]
      show m + ((con rest).2.1 + 1) = _
      omega
theorem ci_esc {r0 acc rest : List UInt8} {m : Nat} {d : UInt8} (hd : d = 34 ∨ d = 92 ∨ d = 110) (h : CI r0 acc m (92 :: d :: rest)) : CI r0 (acc ++ [if d = 110 then 10 else d]) (m + 2) rest := by
  obtain ⟨a, b⟩ := h
  rw [con_esc hd] at a b
  refine ⟨a, fun q => ?_⟩
  obtain ⟨x, y⟩ := b q
  refine ⟨?_, ?_⟩
  · rw [x, List.append_assoc]; rfl
  · rw [y]
    show m + ((con rest).2.1 + 2) = _
    omega
theorem ci_end {r0 acc rest : List UInt8} {m : Nat} (h : CI r0 acc m (34 :: rest)) : con r0 = (acc, m + 1, 0) := by
  obtain ⟨a, b⟩ := h
  rw [L7.con_end] at a b
  obtain ⟨x, y⟩ := b rfl
  exact Prod.ext (by rw [x]; simp) (Prod.ext y a)
theorem ci_err {r0 acc rest : List UInt8} {m : Nat} {e : Int} (h : CI r0 acc m rest) (he : (con rest).2.2 = e) : (con r0).2.2 = e := h.1.trans he
theorem con_nl (rest : List UInt8) : (con (10 :: rest)).2.2 = 5 := by
  cases rest with
  | nil => rw [con, if_neg (by decide), if_pos rfl]
  | cons d r => rw [con, if_neg (by decide), if_pos rfl]
theorem con_bad {d : UInt8} {r : List UInt8} (h : ¬ (d = 34 ∨ d = 92 ∨ d = 110)) : (con (92 :: d :: r)).2.2 = 5 := by rw [con, if_neg (by decide), if_neg (by decide), if_pos rfl, if_neg h]
theorem con_bs : (con [92]).2.2 = 7 := by rw [con, if_neg (by decide), if_neg (by decide)]
/-- What content returns. -/
def ctT (r : List UInt8) : List UInt8 × Nat × Int := if (con r).2.2 ≠ 0 then ([], 0, (con r).2.2) else if 200 < (con r).1.length then ([], 0, 3) else ((con r).1, (con r).2.1 + 1, 0)
theorem ct_err {r : List UInt8} {e : Int} (h : (con r).2.2 = e) (he : e ≠ 0) : ctT r = ([], 0, e) := by unfold ctT; rw [h, if_pos he]
theorem ct_long {r acc : List UInt8} {m : Nat} (h : con r = (acc, m, 0)) (hl : 200 < acc.length) : ctT r = ([], 0, 3) := by unfold ctT; rw [h, if_neg (by simp), if_pos hl]
theorem ct_ok {r acc : List UInt8} {m : Nat} (h : con r = (acc, m, 0)) (hl : ¬ 200 < acc.length) : ctT r = (acc, m + 1, 0) := by unfold ctT; rw [h, if_neg (by simp), if_neg hl]
/-- The bytes of a row of the call's own, as a string. -/
theorem conv_own7 {w : World} {B : Nat} {v : Value} {n : Nat} {l : List UInt8} (h : w.ownsRow B 5 1 v n (bys l)) :
    (convert 57 9 v).run Tryd.prog w = .ok (.string ⟨l.toArray⟩) w := by
  have hn : n = l.length := by have := h.1; rw [bys_len] at this; omega
  subst hn
  rcases Joins.ownsRow_forms h with ⟨rfl, h0⟩ | ⟨g, cap, rfl⟩
  · obtain rfl : l = [] := List.length_eq_zero_iff.1 h0
    rw [run_convert_bytes_string w 57 9 5 none 0 0 (by kernel_rfl) (by kernel_rfl) (by kernel_rfl)]
    simp [Conv.bytesToString]
    rfl
  · refine run_convert_bytes_back w 57 9 5 ⟨g, 0, none⟩ cap l (by kernel_rfl) (by kernel_rfl) (by kernel_rfl) (fun j hj => ?_)
    have h1 := h.cells (g := g) rfl j (.int .u8 (l[j].toNat : Int)) (by unfold bys; rw [List.getElem?_map, List.getElem?_eq_getElem hj]; rfl)
    exact h1
set_option maxRecDepth 100000 in
set_option maxHeartbeats 4000000 in
theorem content_rf (t : Txt) (p : Nat) (hp : p < t.length) (htl : t.length ≤ 90000) (w : World) :
    Calls Tryd.prog 35 #[str t, .int .i64 (p : Int)] w fun e w' => e = .returned (.tuple #[str (ctT (t.drop (p + 1))).1, .int .i64 ((ctT (t.drop (p + 1))).2.1 : Int), .int .i64 (ctT (t.drop (p + 1))).2.2]) ∧ Below w.heap.size w w' := by
  have hsz := sz t
  have HTL := Lib.hid htl
  clear htl
  obtain ⟨R, hR⟩ : ∃ R, ctT (t.drop (p + 1)) = R := ⟨_, rfl⟩
  rw [hR]
  have HRR := Lib.hid hR
  clear hR
  go_enter Tryd.func35, Tryd.ntmps35
  have htl := HTL.out
  go_wp2_with fail
  go_loopw [7, 8] (fun v i wr => ∃ (k : Nat) (acc : List UInt8), p + 1 ≤ k ∧ k ≤ t.length ∧ i = .int .i64 (k : Int) ∧ acc.length ≤ k ∧ wr.ownsRow w.heap.size 5 1 v acc.length (bys acc) ∧ CI (t.drop (p + 1)) acc (k - (p + 1)) (t.drop k) ∧ Below w.heap.size w wr) (fun _ i _ => t.length + 1 - (intOf i).toNat)
  case atStart => exact ⟨p + 1, [], by omega, by omega, by simp, by simp, World.ownsRow_nil _ _ _ _, by rw [Nat.sub_self]; exact ci_start _, Below.refl _ _⟩
  case round =>
    obtain ⟨v, rfl⟩ : ∃ v, v = u7 := ⟨_, rfl⟩
    obtain ⟨k, acc, hk0, hk, rfl, hal, hown, hci, hb⟩ := hrel
    have HO := Lib.hid hown
    have HB := Lib.hid hb
    obtain ⟨Av, cv, rfl⟩ := own_isSl hown
    have cvt := conv_own7 hown
    clear hown hb
    by_cases hlt : k < t.length
    · have hd : t.drop k = t[k] :: t.drop (k + 1) := List.drop_eq_getElem_cons hlt
      obtain ⟨c, hc⟩ : ∃ c, t[k] = c := ⟨_, rfl⟩
      rw [hd, hc] at hci
      have HC := Lib.hid hci
      have ex : ∀ h, (⟨t.toArray⟩ : ByteArray)[k]'h = c := fun _ => hc
      have i1 : (0 : Int) ≤ (k : Int) := by omega
      have i2 : (k : Int) < (t.length : Int) := by omega
      have i4 : IntKind.i64.wrap ((k : Int) + 1) = (k : Int) + 1 := IntWalk.i64_in _ (by omega)
      have i5 : IntKind.i64.wrap ((k : Int) + 1 - (p : Int)) = (k : Int) + 1 - (p : Int) := IntWalk.i64_in _ (by omega)
      clear hd hc hci
      by_cases h1 : c = 34
      · have hce := ci_end (by have := HC.out; rw [h1] at this; exact this)
        have d1 : ((c.toNat : Int) == 34) = true := by rw [h1]; rfl
        have HCE := Lib.hid hce
        clear h1 hce
        by_cases hl2 : 200 < acc.length
        · have d2 : (200 : Int) < (acc.length : Int) := by omega
          have HF := Lib.hid (show R = ([], 0, 3) from HRR.out.symm.trans (ct_long HCE.out hl2))
          clear HC
          go_wp2_with fail
          go_ret3
          exact ⟨by rw [HF.out] <;> rfl, HB.out⟩
        · have d2 : ¬ (200 : Int) < (acc.length : Int) := by omega
          have HF := Lib.hid (show R = (acc, k - (p + 1) + 1 + 1, 0) from HRR.out.symm.trans (ct_ok HCE.out hl2))
          clear HC
          go_wp2_with fail
          go_ret3
          exact ⟨by rw [HF.out]; show Ending.returned (.tuple #[str acc, .int .i64 ((k : Int) + 1 - (p : Int)), .int .i64 0]) = Ending.returned (.tuple #[str acc, .int .i64 ((k - (p + 1) + 1 + 1 : Nat) : Int), .int .i64 0]); rw [show ((k - (p + 1) + 1 + 1 : Nat) : Int) = (k : Int) + 1 - (p : Int) by omega], HB.out⟩
      · have d1 : ((c.toNat : Int) == 34) = false := by rw [beq_eq_false_iff_ne]; exact fun e => h1 (eq_of_int (d := 34) e)
        by_cases h2 : c = 10
        · have d2 : ((c.toNat : Int) == 10) = true := by rw [h2]; rfl
          have he := ci_err (e := 5) HC.out (by rw [h2]; exact con_nl _)
          clear h1 h2
          have HF := Lib.hid (show R = ([], 0, 5) from HRR.out.symm.trans (ct_err he (by decide)))
          clear he
          clear HC
          go_wp2_with fail
          go_ret3
          exact ⟨by rw [HF.out] <;> rfl, HB.out⟩
        · have d2 : ((c.toNat : Int) == 10) = false := by rw [beq_eq_false_iff_ne]; exact fun e => h2 (eq_of_int (d := 10) e)
          by_cases h3 : c = 92
          · have d3 : ((c.toNat : Int) == 92) = true := by rw [h3]; rfl
            by_cases hk1 : k + 1 < t.length
            · have hd : t.drop (k + 1) = t[k + 1] :: t.drop (k + 1 + 1) := List.drop_eq_getElem_cons hk1
              obtain ⟨d, hdd⟩ : ∃ d, t[k + 1] = d := ⟨_, rfl⟩
              have hci := HC.out
              rw [h3, hd, hdd] at hci
              have HD := Lib.hid hci
              have ex1 : ∀ h, (⟨t.toArray⟩ : ByteArray)[k + 1]'h = d := fun _ => hdd
              have i6 : ((k : Int) + 1 == (t.length : Int)) = false := by rw [beq_eq_false_iff_ne]; omega
              have i7 : (k : Int) + 1 < (t.length : Int) := by omega
              have i9 : IntKind.i64.wrap ((k : Int) + 1 + 1) = (k : Int) + 1 + 1 := IntWalk.i64_in _ (by omega)
              clear hd hdd hci h1 h2 h3 HC
              by_cases h5 : d = 34
              · have f34 : ((d.toNat : Int) != 34) = false := by simp [h5]
                have g110 : ((d.toNat : Int) == 110) = false := by rw [h5]; rfl
                have HC2 := Lib.hid (show CI (t.drop (p + 1)) (acc ++ [d]) (k - (p + 1) + 2) (t.drop (k + 1 + 1)) from by have := ci_esc (.inl h5) HD.out; rwa [if_neg (by rw [h5]; decide)] at this)
                clear h5
                go_wp2_with (at_builtin; (refine wpList_app elemByte rfl (.tmp 57) (.tmp 59) rfl (base := w.heap.size) (by rfl) (World.ownsRow.alloc HO.out _) (by rfl) (src_one (cell_new1 wr (.int .u8 (d.toNat : Int)) 5) rfl) (by omega) (by have := HB.out.size; simp; omega) ?_; intro v2 w2 hown2 hg2 hat2))
                have HO2 := Lib.hid (show w2.ownsRow w.heap.size 5 1 v2 (acc ++ [d]).length (bys (acc ++ [d])) from by rw [bys_app, List.length_append]; exact hown2)
                have HB2 := Lib.hid (below_app HB.out HB.out.size HO.out hg2)
                clear hown2 hg2 hat2 HD
                go_wp2_with fail
                go_roundw
                case rel => exact ⟨k + 1 + 1, _, by omega, by omega, by simp, by simp; omega, HO2.out, by have := HC2.out; rwa [show k - (p + 1) + 2 = k + 1 + 1 - (p + 1) by omega] at this, HB2.out⟩
                case measure => simp [intOf]; omega
              · have f34 : ((d.toNat : Int) != 34) = true := by simpa using fun e => h5 (eq_of_int (d := 34) e)
                by_cases h6 : d = 92
                · have f92 : ((d.toNat : Int) != 92) = false := by simp [h6]
                  have g110 : ((d.toNat : Int) == 110) = false := by rw [h6]; rfl
                  have HC2 := Lib.hid (show CI (t.drop (p + 1)) (acc ++ [d]) (k - (p + 1) + 2) (t.drop (k + 1 + 1)) from by have := ci_esc (.inr (.inl h6)) HD.out; rwa [if_neg (by rw [h6]; decide)] at this)
                  clear h5 h6
                  go_wp2_with (at_builtin; (refine wpList_app elemByte rfl (.tmp 57) (.tmp 59) rfl (base := w.heap.size) (by rfl) (World.ownsRow.alloc HO.out _) (by rfl) (src_one (cell_new1 wr (.int .u8 (d.toNat : Int)) 5) rfl) (by omega) (by have := HB.out.size; simp; omega) ?_; intro v2 w2 hown2 hg2 hat2))
                  have HO2 := Lib.hid (show w2.ownsRow w.heap.size 5 1 v2 (acc ++ [d]).length (bys (acc ++ [d])) from by rw [bys_app, List.length_append]; exact hown2)
                  have HB2 := Lib.hid (below_app HB.out HB.out.size HO.out hg2)
                  clear hown2 hg2 hat2 HD
                  go_wp2_with fail
                  go_roundw
                  case rel => exact ⟨k + 1 + 1, _, by omega, by omega, by simp, by simp; omega, HO2.out, by have := HC2.out; rwa [show k - (p + 1) + 2 = k + 1 + 1 - (p + 1) by omega] at this, HB2.out⟩
                  case measure => simp [intOf]; omega
                · have f92 : ((d.toNat : Int) != 92) = true := by simpa using fun e => h6 (eq_of_int (d := 92) e)
                  by_cases h7 : d = 110
                  · have f110 : ((d.toNat : Int) != 110) = false := by simp [h7]
                    have g110 : ((d.toNat : Int) == 110) = true := by rw [h7]; rfl
                    have HC2 := Lib.hid (show CI (t.drop (p + 1)) (acc ++ [10]) (k - (p + 1) + 2) (t.drop (k + 1 + 1)) from by have := ci_esc (.inr (.inr h7)) HD.out; rwa [if_pos h7] at this)
                    clear h5 h6 h7
                    go_wp2_with (at_builtin; (refine wpList_app elemByte rfl (.tmp 57) (.tmp 59) rfl (base := w.heap.size) (by rfl) (World.ownsRow.alloc HO.out _) (by rfl) (src_one (cell_new1 wr (.int .u8 10) 5) rfl) (by omega) (by have := HB.out.size; simp; omega) ?_; intro v2 w2 hown2 hg2 hat2))
                    have HO2 := Lib.hid (show w2.ownsRow w.heap.size 5 1 v2 (acc ++ [10]).length (bys (acc ++ [10])) from by rw [bys_app, List.length_append]; exact hown2)
                    have HB2 := Lib.hid (below_app HB.out HB.out.size HO.out hg2)
                    clear hown2 hg2 hat2 HD
                    go_wp2_with fail
                    go_roundw
                    case rel => exact ⟨k + 1 + 1, _, by omega, by omega, by simp, by simp; omega, HO2.out, by have := HC2.out; rwa [show k - (p + 1) + 2 = k + 1 + 1 - (p + 1) by omega] at this, HB2.out⟩
                    case measure => simp [intOf]; omega
                  · have f110 : ((d.toNat : Int) != 110) = true := by simpa using fun e => h7 (eq_of_int (d := 110) e)
                    have he := ci_err (e := 5) HD.out (con_bad (fun q => q.elim h5 (fun q => q.elim h6 h7)))
                    clear h5 h6 h7 HD
                    have HF := Lib.hid (show R = ([], 0, 5) from HRR.out.symm.trans (ct_err he (by decide)))
                    clear he
                    go_wp2_with fail
                    go_ret3
                    exact ⟨by rw [HF.out] <;> rfl, HB.out⟩
            · have hd : t.drop (k + 1) = [] := List.drop_eq_nil_of_le (by omega)
              have he := ci_err (e := 7) HC.out (by rw [h3, hd]; exact con_bs)
              have i6 : ((k : Int) + 1 == (t.length : Int)) = true := by rw [beq_iff_eq]; omega
              clear hd h1 h2 h3
              have HF := Lib.hid (show R = ([], 0, 7) from HRR.out.symm.trans (ct_err he (by decide)))
              clear he
              clear HC
              go_wp2_with fail
              go_ret3
              exact ⟨by rw [HF.out] <;> rfl, HB.out⟩
          · have d3 : ((c.toNat : Int) == 92) = false := by rw [beq_eq_false_iff_ne]; exact fun e => h3 (eq_of_int (d := 92) e)
            have HC2 := Lib.hid (ci_plain h1 h2 h3 HC.out)
            clear h1 h2 h3
            go_wp2_with (at_builtin; (refine wpList_app elemByte rfl (.tmp 57) (.tmp 59) rfl (base := w.heap.size) (by rfl) (World.ownsRow.alloc HO.out _) (by rfl) (src_one (cell_new1 wr (.int .u8 (c.toNat : Int)) 5) rfl) (by omega) (by have := HB.out.size; simp; omega) ?_; intro v2 w2 hown2 hg2 hat2))
            have HO2 := Lib.hid (show w2.ownsRow w.heap.size 5 1 v2 (acc ++ [c]).length (bys (acc ++ [c])) from by rw [bys_app, List.length_append]; exact hown2)
            have HB2 := Lib.hid (below_app HB.out HB.out.size HO.out hg2)
            clear hown2 hg2 hat2 HC
            go_wp2_with fail
            go_roundw
            case rel => exact ⟨k + 1, _, by omega, by omega, by simp, by simp; omega, HO2.out, by have := HC2.out; rwa [show k - (p + 1) + 1 = k + 1 - (p + 1) by omega] at this, HB2.out⟩
            case measure => simp [intOf]; omega
    · have hd : t.drop k = [] := List.drop_eq_nil_of_le (by omega)
      rw [hd] at hci
      have he := ci_err (e := 7) hci (show (con []).2.2 = 7 by rw [con])
      clear hd hci
      have HF := Lib.hid (show R = ([], 0, 7) from HRR.out.symm.trans (ct_err he (by decide)))
      clear he
      go_wp2_with fail
      go_ret3
      exact ⟨by rw [HF.out] <;> rfl, HB.out⟩
end Go.Proofs.YtblgfillaenemaaDoor
