/- The program's reader of texts. -/
import Derived.Test.YtcgkaecaddpenaaGreatDoorLxPgB
import Derived.Test.YtcgkaecaddpenaaGreatDoorPRf
namespace Go.Proofs.YtcgkaecaddpenaaGreatDoor
open Go.RowKit
open L7 (con con_esc con_plain)

/-- What readText returns behind a quote. -/
def TextPost (w : World) (R : List UInt8 × Nat × Int) (e : Ending) (w' : World) : Prop :=
  (R.2.2 ≠ 0 → Bad w R.2.2 e w') ∧ (R.2.2 = 0 → 200 < R.1.length → Bad w 3 e w') ∧ (R.2.2 = 0 → ¬ 200 < R.1.length → Hit w (3, R.1, 0) (R.2.1 + 1) e w')
theorem tp_err {w w' : World} {R : List UInt8 × Nat × Int} {er : Int} (h : R.2.2 = er) (h0 : er ≠ 0) (hb : Below w.heap.size w w') : TextPost w R (Pn er) w' :=
  ⟨fun _ => by rw [h]; exact ⟨rfl, hb⟩, fun q => absurd (h.symm.trans q) h0, fun q => absurd (h.symm.trans q) h0⟩
theorem tp_long {w w' : World} {R : List UInt8 × Nat × Int} {acc : List UInt8} {m : Nat} (h : R = (acc, m, 0)) (hl : 200 < acc.length) (hb : Below w.heap.size w w') : TextPost w R (Pn 3) w' := by
  subst h
  exact ⟨fun q => absurd rfl q, fun _ _ => ⟨rfl, hb⟩, fun _ q => absurd hl q⟩
theorem tp_ok {w w' : World} {R : List UInt8 × Nat × Int} {acc : List UInt8} {m : Nat} {n : Int} (h : R = (acc, m, 0)) (hl : ¬ 200 < acc.length) (hn : n = ((m + 1 : Nat) : Int)) (hb : Below w.heap.size w w') : TextPost w R (.returned (.tuple #[tokV 3 acc 0 0, .int .i64 n])) w' := by
  subst h hn
  exact ⟨fun q => absurd rfl q, fun _ q => absurd q hl, fun _ _ => ⟨rfl, hb⟩⟩
theorem ci_cut {r0 acc : List UInt8} {m n : Nat} (h : CI r0 acc m [92]) : CI r0 acc n [] :=
  ⟨h.1.trans (by rw [con_bs, con]), fun q => by rw [con] at q; simp at q⟩
set_option maxRecDepth 100000 in
set_option maxHeartbeats 2000000 in
theorem text_miss (t : Txt) (c : UInt8) (h0 : 0 < t.length) (hc : t[0] = c) (h : c ≠ 34) (w : World) :
    Calls Tryz.prog 25 #[str t] w (Miss w) := by
  have hsz := sz t
  have ex : ∀ h, (⟨t.toArray⟩ : ByteArray)[0]'h = c := fun _ => hc
  have i2 : (0 : Int) < (t.length : Int) := by omega
  have d1 : ((c.toNat : Int) != 34) = true := by simpa using fun e => h (eq_of_int (d := 34) e)
  clear hc h
  go_enter Tryz.func25, Tryz.ntmps25
  go_wp2_with fail
  exact bodyPost_ret (v := .tuple #[tokV 0 [] 0 0, .int .i64 0]) (by simp [results, Tryz.results25, go_sem]) rfl ⟨⟨0, rfl⟩, below_box _ _⟩
/-- The block of a result, as it is made. -/
abbrev OB : Obj := .cells #[.int .i64 0, .string ⟨#[]⟩, .int .i64 0, .int .i64 0] 37
set_option maxRecDepth 100000 in
set_option maxHeartbeats 4000000 in
theorem text_any (t : Txt) (h0 : 0 < t.length) (hc0 : t[0] = 34) (htl : t.length ≤ 90000) (w : World) :
    Calls Tryz.prog 25 #[str t] w (TextPost w (con (t.drop 1))) := by
  have hsz := sz t
  have HTL := Lib.hid htl
  clear htl
  obtain ⟨R, hR⟩ : ∃ R, con (t.drop 1) = R := ⟨_, rfl⟩
  rw [hR]
  have HRR := Lib.hid hR
  clear hR
  have ex0 : ∀ h, (⟨t.toArray⟩ : ByteArray)[0]'h = 34 := fun _ => hc0
  have i0 : (0 : Int) < (t.length : Int) := by omega
  clear hc0
  go_enter Tryz.func25, Tryz.ntmps25
  have htl := HTL.out
  go_wp2_with fail
  go_loopw [4, 5] (fun v i wr => ∃ (k : Nat) (acc : List UInt8), 1 ≤ k ∧ k ≤ t.length + 1 ∧ i = .int .i64 (k : Int) ∧ acc.length ≤ k ∧ wr.ownsRow (w.heap.size + 1) 5 1 v acc.length (bys acc) ∧ CI (t.drop 1) acc (k - 1) (t.drop k) ∧ Below (w.heap.size + 1) (w.alloc OB) wr) (fun _ i _ => t.length + 2 - (intOf i).toNat)
  case atStart => exact ⟨1, [], by omega, by omega, by simp, by simp, World.ownsRow_nil _ _ _ _, by rw [Nat.sub_self]; exact ci_start _, Below.refl _ _⟩
  case round =>
    obtain ⟨v, rfl⟩ : ∃ v, v = u4 := ⟨_, rfl⟩
    obtain ⟨k, acc, hk0, hk, rfl, hal, hown, hci, hb⟩ := hrel
    have HO := Lib.hid hown
    have HB := Lib.hid hb
    have HBw := Lib.hid (show Below w.heap.size w wr from below_up (below_box w OB) hb (by omega))
    obtain ⟨Av, cv, rfl⟩ := own_isSl hown
    have cvt := conv_own7 hown
    have hgs : w.heap.size + 1 ≤ wr.heap.size := by have := hb.size; simpa using this
    obtain ⟨r0, r1, r2, r3, f0, f1, f2, f3⟩ := (own4_new w (.int .i64 0) (.string ⟨#[]⟩) (.int .i64 0) (.int .i64 0) 37).below (by simpa using hb)
    clear hown hb
    by_cases hlt : k < t.length
    · have hd : t.drop k = t[k] :: t.drop (k + 1) := List.drop_eq_getElem_cons hlt
      obtain ⟨c, hc⟩ : ∃ c, t[k] = c := ⟨_, rfl⟩
      rw [hd, hc] at hci
      have HC := Lib.hid hci
      have ex : ∀ h, (⟨t.toArray⟩ : ByteArray)[k]'h = c := fun _ => hc
      have i1 : (0 : Int) ≤ (k : Int) := by omega
      have i2 : (k : Int) < (t.length : Int) := by omega
      have i4 : IntKind.i64.wrap ((k : Int) + 1) = (k : Int) + 1 := IntWalk.i64_in _ (by omega)
      clear hd hc hci
      by_cases h1 : c = 34
      · have hce := ci_end (by have := HC.out; rw [h1] at this; exact this)
        have d1 : ((c.toNat : Int) == 34) = true := by rw [h1]; rfl
        have HCE := Lib.hid hce
        clear h1 hce
        by_cases hl2 : 200 < acc.length
        · have d2 : (200 : Int) < (acc.length : Int) := by omega
          clear HC
          go_wp2_with fail
          exact ⟨rfl, tp_long (HRR.out.symm.trans HCE.out) hl2 HBw.out⟩
        · have d2 : ¬ (200 : Int) < (acc.length : Int) := by omega
          clear HC
          go_wp2_with fail
          exact bodyPost_ret (v := .tuple #[tokV 3 acc 0 0, .int .i64 ((k : Int) + 1)]) (by simp [results, Tryz.results25, go_sem, r0, r1, r2, r3]) rfl (tp_ok (HRR.out.symm.trans HCE.out) hl2 (by omega) ((((HBw.out.setCell (Nat.le_refl _) _).setCell (Nat.le_refl _) _).setCell (Nat.le_refl _) _).setCell (Nat.le_refl _) _))
      · have d1 : ((c.toNat : Int) == 34) = false := by rw [beq_eq_false_iff_ne]; exact fun e => h1 (eq_of_int (d := 34) e)
        by_cases h2 : c = 10
        · have d2 : ((c.toNat : Int) == 10) = true := by rw [h2]; rfl
          have he := ci_err (e := 5) HC.out (by rw [h2]; exact con_nl _)
          clear h1 h2
          have HF := Lib.hid (show R.2.2 = 5 from by rw [← HRR.out]; exact he)
          clear he HC
          go_wp2_with fail
          exact ⟨rfl, tp_err HF.out (by decide) HBw.out⟩
        · have d2 : ((c.toNat : Int) == 10) = false := by rw [beq_eq_false_iff_ne]; exact fun e => h2 (eq_of_int (d := 10) e)
          by_cases h3 : c = 92
          · have d3 : ((c.toNat : Int) == 92) = true := by rw [h3]; rfl
            by_cases hk1 : k + 1 < t.length
            · have hd : t.drop (k + 1) = t[k + 1] :: t.drop (k + 1 + 1) := List.drop_eq_getElem_cons hk1
              obtain ⟨d, hdd⟩ : ∃ d, t[k + 1] = d := ⟨_, rfl⟩
              have hci := HC.out
              rw [h3, hd, hdd] at hci
              have HD := Lib.hid hci
              have ex1 : ∀ h, (⟨t.toArray⟩ : ByteArray)[k + 1]'h = d := fun _ => hdd
              have i7 : (k : Int) + 1 < (t.length : Int) := by omega
              have i9 : IntKind.i64.wrap ((k : Int) + 1 + 1) = (k : Int) + 1 + 1 := IntWalk.i64_in _ (by omega)
              clear hd hdd hci h1 h2 h3 HC
              by_cases h5 : d = 34
              · have HC2 := Lib.hid (show CI (t.drop 1) (acc ++ [34]) (k - 1 + 2) (t.drop (k + 1 + 1)) from by have := ci_esc (.inl h5) HD.out; rwa [if_neg (by rw [h5]; decide), h5] at this)
                clear HD
                subst h5
                go_wp2_with (first | (go_at_call 39; refine (esc_q _).mono ?_; rintro e w1 ⟨rfl, rfl⟩) | (at_builtin; (refine wpList_app elemByte rfl (.tmp 47) (.tmp 52) rfl (base := w.heap.size + 1) (by rfl) (World.ownsRow.alloc HO.out _) (by rfl) (src_one (cell_new1 wr (.int .u8 34) 5) rfl) (by omega) (by simp; omega) ?_; intro v2 w2 hown2 hg2 hat2)))
                have HO2 := Lib.hid (show w2.ownsRow (w.heap.size + 1) 5 1 v2 (acc ++ [34]).length (bys (acc ++ [34])) from by rw [bys_app, List.length_append]; exact hown2)
                have HB2 := Lib.hid (below_app HB.out hgs HO.out hg2)
                clear hown2 hg2 hat2
                go_wp2_with fail
                go_roundw
                case rel => exact ⟨k + 1 + 1, _, by omega, by omega, by simp, by simp; omega, HO2.out, by have := HC2.out; rwa [show k - 1 + 2 = k + 1 + 1 - 1 by omega] at this, HB2.out⟩
                case measure => simp [intOf]; omega
              · by_cases h6 : d = 92
                · have HC2 := Lib.hid (show CI (t.drop 1) (acc ++ [92]) (k - 1 + 2) (t.drop (k + 1 + 1)) from by have := ci_esc (.inr (.inl h6)) HD.out; rwa [if_neg (by rw [h6]; decide), h6] at this)
                  clear HD h5
                  subst h6
                  go_wp2_with (first | (go_at_call 39; refine (esc_b _).mono ?_; rintro e w1 ⟨rfl, rfl⟩) | (at_builtin; (refine wpList_app elemByte rfl (.tmp 47) (.tmp 52) rfl (base := w.heap.size + 1) (by rfl) (World.ownsRow.alloc HO.out _) (by rfl) (src_one (cell_new1 wr (.int .u8 92) 5) rfl) (by omega) (by simp; omega) ?_; intro v2 w2 hown2 hg2 hat2)))
                  have HO2 := Lib.hid (show w2.ownsRow (w.heap.size + 1) 5 1 v2 (acc ++ [92]).length (bys (acc ++ [92])) from by rw [bys_app, List.length_append]; exact hown2)
                  have HB2 := Lib.hid (below_app HB.out hgs HO.out hg2)
                  clear hown2 hg2 hat2
                  go_wp2_with fail
                  go_roundw
                  case rel => exact ⟨k + 1 + 1, _, by omega, by omega, by simp, by simp; omega, HO2.out, by have := HC2.out; rwa [show k - 1 + 2 = k + 1 + 1 - 1 by omega] at this, HB2.out⟩
                  case measure => simp [intOf]; omega
                · by_cases h7 : d = 110
                  · have HC2 := Lib.hid (show CI (t.drop 1) (acc ++ [10]) (k - 1 + 2) (t.drop (k + 1 + 1)) from by have := ci_esc (.inr (.inr h7)) HD.out; rwa [if_pos h7] at this)
                    clear HD h5 h6
                    subst h7
                    go_wp2_with (first | (go_at_call 39; refine (esc_n _).mono ?_; rintro e w1 ⟨rfl, rfl⟩) | (at_builtin; (refine wpList_app elemByte rfl (.tmp 47) (.tmp 52) rfl (base := w.heap.size + 1) (by rfl) (World.ownsRow.alloc HO.out _) (by rfl) (src_one (cell_new1 wr (.int .u8 10) 5) rfl) (by omega) (by simp; omega) ?_; intro v2 w2 hown2 hg2 hat2)))
                    have HO2 := Lib.hid (show w2.ownsRow (w.heap.size + 1) 5 1 v2 (acc ++ [10]).length (bys (acc ++ [10])) from by rw [bys_app, List.length_append]; exact hown2)
                    have HB2 := Lib.hid (below_app HB.out hgs HO.out hg2)
                    clear hown2 hg2 hat2
                    go_wp2_with fail
                    go_roundw
                    case rel => exact ⟨k + 1 + 1, _, by omega, by omega, by simp, by simp; omega, HO2.out, by have := HC2.out; rwa [show k - 1 + 2 = k + 1 + 1 - 1 by omega] at this, HB2.out⟩
                    case measure => simp [intOf]; omega
                  · have he := ci_err (e := 5) HD.out (con_bad (fun q => q.elim h5 (fun q => q.elim h6 h7)))
                    have HF := Lib.hid (show R.2.2 = 5 from by rw [← HRR.out]; exact he)
                    have HE := Lib.hid (fun q : d = 34 ∨ d = 92 ∨ d = 110 => q.elim h5 (fun q => q.elim h6 h7))
                    clear he HD h5 h6 h7
                    go_wp2_with (go_at_call 39; refine (esc_bad d HE.out _).mono ?_; rintro e w1 ⟨rfl, rfl⟩)
                    exact ⟨rfl, tp_err HF.out (by decide) HBw.out⟩
            · have hd : t.drop (k + 1) = [] := List.drop_eq_nil_of_le (by omega)
              have HC2 := Lib.hid (show CI (t.drop 1) acc (k + 1 + 1 - 1) (t.drop (k + 1 + 1)) from by rw [show t.drop (k + 1 + 1) = [] from List.drop_eq_nil_of_le (by omega)]; have := HC.out; rw [h3, hd] at this; exact ci_cut this)
              have i7 : ¬ (k : Int) + 1 < (t.length : Int) := by omega
              have i9 : IntKind.i64.wrap ((k : Int) + 1 + 1) = (k : Int) + 1 + 1 := IntWalk.i64_in _ (by omega)
              clear hd h1 h2 h3 HC
              go_wp2_with fail
              go_roundw
              case rel => exact ⟨k + 1 + 1, _, by omega, by omega, by simp, by omega, HO.out, HC2.out, HB.out⟩
              case measure => simp [intOf]; omega
          · have d3 : ((c.toNat : Int) == 92) = false := by rw [beq_eq_false_iff_ne]; exact fun e => h3 (eq_of_int (d := 92) e)
            have HC2 := Lib.hid (ci_plain h1 h2 h3 HC.out)
            clear h1 h2 h3
            go_wp2_with (at_builtin; (refine wpList_app elemByte rfl (.tmp 21) (.tmp 23) rfl (base := w.heap.size + 1) (by rfl) (World.ownsRow.alloc HO.out _) (by rfl) (src_one (cell_new1 wr (.int .u8 (c.toNat : Int)) 5) rfl) (by omega) (by simp; omega) ?_; intro v2 w2 hown2 hg2 hat2))
            have HO2 := Lib.hid (show w2.ownsRow (w.heap.size + 1) 5 1 v2 (acc ++ [c]).length (bys (acc ++ [c])) from by rw [bys_app, List.length_append]; exact hown2)
            have HB2 := Lib.hid (below_app HB.out hgs HO.out hg2)
            clear hown2 hg2 hat2
            go_wp2_with fail
            go_roundw
            case rel => exact ⟨k + 1, _, by omega, by omega, by simp, by simp; omega, HO2.out, by have := HC2.out; rwa [show k - 1 + 1 = k + 1 - 1 by omega] at this, HB2.out⟩
            case measure => simp [intOf]; omega
    · have hd : t.drop k = [] := List.drop_eq_nil_of_le (by omega)
      rw [hd] at hci
      have he := ci_err (e := 7) hci (show (con []).2.2 = 7 by rw [con])
      have HF := Lib.hid (show R.2.2 = 7 from by rw [← HRR.out]; exact he)
      have i7 : ¬ (k : Int) < (t.length : Int) := by omega
      clear hd hci he
      go_wp2_with fail
      exact ⟨rfl, tp_err HF.out (by decide) HBw.out⟩
end Go.Proofs.YtcgkaecaddpenaaGreatDoor
