/- The contract of unquote. -/
import Derived.Test.YteokcgfbhaeklaaGreatDoorPVA
import Derived.Test.YteokcgfbhaeklaaGreatDoorPMath
namespace Go.Proofs.YteokcgfbhaeklaaGreatDoor.L2
open Go.RowKit

theorem unq_step1 (l : List UInt8) (k : Nat) (hk : k < l.length) (a : List UInt8) (h : unq l = a ++ unq (l.drop k)) (hc : l[k].toNat ≠ 92) : unq l = (a ++ [l[k]]) ++ unq (l.drop (k + 1)) := by
  rw [h, List.drop_eq_getElem_cons hk, unq_plain hc, List.append_assoc]; rfl
theorem unq_step2 (l : List UInt8) (k : Nat) (hk : k + 1 < l.length) (a : List UInt8) (h : unq l = a ++ unq (l.drop k)) (hc : l[k].toNat = 92) (e : UInt8) (he : (if l[k + 1].toNat = 110 then (10 : UInt8) else l[k + 1]) = e) : unq l = (a ++ [e]) ++ unq (l.drop (k + 1 + 1)) := by
  rw [h, List.drop_eq_getElem_cons (show k < l.length by omega), List.drop_eq_getElem_cons hk]
  have h92 : l[k] = 92 := UInt8.toNat_inj.1 (by rw [hc]; rfl)
  rw [h92, unq_esc, he, List.append_assoc]; rfl
theorem unq_step3 (l : List UInt8) (k : Nat) (hk : k < l.length) (hk1 : ¬ k + 1 < l.length) (a : List UInt8) (h : unq l = a ++ unq (l.drop k)) : unq l = (a ++ [l[k]]) ++ unq (l.drop (k + 1)) := by
  rw [h, List.drop_eq_getElem_cons hk, List.drop_eq_nil_of_le (by omega)]
  simp [unq]

set_option maxRecDepth 100000 in
set_option maxHeartbeats 1600000 in
theorem unquote_any (l : List UInt8) (hl : l.length ≤ 1000) (w : World) :
    Calls Tryz.prog 120 #[.string ⟨l.toArray⟩] w fun e w' => e = .returned (.string ⟨(unq l).toArray⟩) ∧ Below w.heap.size w w' := by
  obtain ⟨i0, hi, hz0, hz1, hz2⟩ := info_parts info5
  have HL := Lib.hid hl
  clear hl
  go_enter Tryz.func120, Tryz.ntmps120
  go_wp2_with fail
  go_loopw [3, 4] (fun v i wr => ∃ (k : Nat) (a : List UInt8), k ≤ l.length ∧ i = .int .i64 (k : Int) ∧ wr.ownsRow w.heap.size 5 1 v a.length (bys a) ∧ Below w.heap.size w wr ∧ unq l = a ++ unq (l.drop k) ∧ a.length ≤ k) (fun _ i _ => l.length - (intOf i).toNat)
  case atStart => exact ⟨0, [], by omega, by simp, World.ownsRow_nil _ _ _ _, Below.refl _ _, by simp, by simp⟩
  case round =>
    obtain ⟨k, a, hk, rfl, hown, hb, hu, ha⟩ := hrel
    have HB := Lib.hid hb
    have HU := Lib.hid hu
    have HA := Lib.hid ha
    clear hb hu ha
    by_cases hlt : k < l.length
    · have hb2 : ∀ (h : k < (ByteArray.mk l.toArray).size), (⟨l.toArray⟩ : ByteArray)[k]'h = l[k] := fun _ => rfl
      have hL := HL.out
      by_cases h1 : l[k].toNat = 92
      · have e1 : ((l[k].toNat : Int) == 92) = true := by simp; omega
        by_cases hk1 : k + 1 < l.length
        · have hb3 : ∀ (h : k + 1 < (ByteArray.mk l.toArray).size), (⟨l.toArray⟩ : ByteArray)[k + 1]'h = l[k + 1] := fun _ => rfl
          by_cases h2 : l[k + 1].toNat = 110
          · have e2 : ((l[k + 1].toNat : Int) == 110) = true := by simp; omega
            have HS := Lib.hid (unq_step2 l k hk1 a HU.out h1 10 (if_pos h2))
            clear h1 h2
            go_wp2_with (at_builtin; refine wpList_append_own _ rfl _ _ 111 rfl w.heap.size 5 i0 (.int .u8 0) 1 1 Tryz.underlying111 hi hz0 hz1 hz2 rfl (by decide) _ _ _ rfl (hown.alloc _) ⟨wr.heap.size, 0, none⟩ 1 1 [.int .u8 (10)] rfl rfl ?c1 ?c2 ?c3 ?c4 ?c5 ?_)
            case c1 =>
              intro j u hj
              match j, hj with
              | 0, hj => simp at hj; subst hj; simp [Addr.add, go_sem]
            case c2 => intro u hu; simp at hu; subst hu; rfl
            case c3 => have := HA.out; have := HL.out; unfold maxLen; omega
            case c4 => have := HA.out; have := HL.out; omega
            case c5 => have := HB.out.size; simp; omega
            intro v' w1 hown' hgrow _
            have R := Lib.hid (own_step (e := [10]) hown')
            have HB1 := Lib.hid (below_grown HB.out HB.out.size hown hgrow)
            clear hown' hgrow hown
            go_wp2
            go_roundw
            case rel => exact ⟨k + 1 + 1, _, by omega, by simp, R.out, HB1.out, HS.out, by have := HA.out; simp; omega⟩
            case measure => simp [intOf]; omega
          · have e2 : ((l[k + 1].toNat : Int) == 110) = false := by simp; omega
            have HS := Lib.hid (unq_step2 l k hk1 a HU.out h1 l[k + 1] (if_neg h2))
            clear h1 h2
            go_wp2_with (at_builtin; refine wpList_append_own _ rfl _ _ 111 rfl w.heap.size 5 i0 (.int .u8 0) 1 1 Tryz.underlying111 hi hz0 hz1 hz2 rfl (by decide) _ _ _ rfl (hown.alloc _) ⟨wr.heap.size, 0, none⟩ 1 1 [.int .u8 ((l[k + 1].toNat : Int))] rfl rfl ?c1 ?c2 ?c3 ?c4 ?c5 ?_)
            case c1 =>
              intro j u hj
              match j, hj with
              | 0, hj => simp at hj; subst hj; simp [Addr.add, go_sem]
            case c2 => intro u hu; simp at hu; subst hu; rfl
            case c3 => have := HA.out; have := HL.out; unfold maxLen; omega
            case c4 => have := HA.out; have := HL.out; omega
            case c5 => have := HB.out.size; simp; omega
            intro v' w1 hown' hgrow _
            have R := Lib.hid (own_step (e := [l[k + 1]]) hown')
            have HB1 := Lib.hid (below_grown HB.out HB.out.size hown hgrow)
            clear hown' hgrow hown
            go_wp2
            go_roundw
            case rel => exact ⟨k + 1 + 1, _, by omega, by simp, R.out, HB1.out, HS.out, by have := HA.out; simp; omega⟩
            case measure => simp [intOf]; omega
        · have HS := Lib.hid (unq_step3 l k hlt hk1 a HU.out)
          clear h1
          go_wp2_with (at_builtin; refine wpList_append_own _ rfl _ _ 111 rfl w.heap.size 5 i0 (.int .u8 0) 1 1 Tryz.underlying111 hi hz0 hz1 hz2 rfl (by decide) _ _ _ rfl (hown.alloc _) ⟨wr.heap.size, 0, none⟩ 1 1 [.int .u8 ((l[k].toNat : Int))] rfl rfl ?c1 ?c2 ?c3 ?c4 ?c5 ?_)
          case c1 =>
            intro j u hj
            match j, hj with
            | 0, hj => simp at hj; subst hj; simp [Addr.add, go_sem]
          case c2 => intro u hu; simp at hu; subst hu; rfl
          case c3 => have := HA.out; have := HL.out; unfold maxLen; omega
          case c4 => have := HA.out; have := HL.out; omega
          case c5 => have := HB.out.size; simp; omega
          intro v' w1 hown' hgrow _
          have R := Lib.hid (own_step (e := [l[k]]) hown')
          have HB1 := Lib.hid (below_grown HB.out HB.out.size hown hgrow)
          clear hown' hgrow hown
          go_wp2
          go_roundw
          case rel => exact ⟨k + 1, _, by omega, by simp, R.out, HB1.out, HS.out, by have := HA.out; simp; omega⟩
          case measure => simp [intOf]; omega
      · have e1 : ((l[k].toNat : Int) == 92) = false := by simp; omega
        have HS := Lib.hid (unq_step1 l k hlt a HU.out h1)
        clear h1
        go_wp2_with (at_builtin; refine wpList_append_own _ rfl _ _ 111 rfl w.heap.size 5 i0 (.int .u8 0) 1 1 Tryz.underlying111 hi hz0 hz1 hz2 rfl (by decide) _ _ _ rfl (hown.alloc _) ⟨wr.heap.size, 0, none⟩ 1 1 [.int .u8 ((l[k].toNat : Int))] rfl rfl ?c1 ?c2 ?c3 ?c4 ?c5 ?_)
        case c1 =>
          intro j u hj
          match j, hj with
          | 0, hj => simp at hj; subst hj; simp [Addr.add, go_sem]
        case c2 => intro u hu; simp at hu; subst hu; rfl
        case c3 => have := HA.out; have := HL.out; unfold maxLen; omega
        case c4 => have := HA.out; have := HL.out; omega
        case c5 => have := HB.out.size; simp; omega
        intro v' w1 hown' hgrow _
        have R := Lib.hid (own_step (e := [l[k]]) hown')
        have HB1 := Lib.hid (below_grown HB.out HB.out.size hown hgrow)
        clear hown' hgrow hown
        go_wp2
        go_roundw
        case rel => exact ⟨k + 1, _, by omega, by simp, R.out, HB1.out, HS.out, by have := HA.out; simp; omega⟩
        case measure => simp [intOf]; omega
    · have ke : k = l.length := by omega
      subst ke
      have cv := conv_own hown
      have hu : unq l = a := by rw [HU.out, List.drop_length]; simp [unq]
      have HUU := Lib.hid hu
      clear hu
      go_wp2
      go_ret
      exact ⟨str_ret HUU.out.symm, HB.out⟩
end Go.Proofs.YteokcgfbhaeklaaGreatDoor.L2

/- The contract of read: a guess that is right where there is a value to be guessed. -/
namespace Go.Proofs.YteokcgfbhaeklaaGreatDoor.L2
open Go.RowKit

def ReadPost (l : List UInt8) (w : World) (e : Ending) (w' : World) : Prop :=
  ∃ K N T, e = .returned (V K N T) ∧ Guess l K N T ∧ T.length ≤ 1000 ∧ Below w.heap.size w w'

theorem guess_of_parse {l : List UInt8} {K N : Int} {T : List UInt8} (h : parse l = (K, N, T, 0)) : Guess l K N T := fun k n t hv e => by
  rw [← e, parse_txt hv] at h
  simp at h
  exact ⟨h.1.symm, h.2.1.symm, h.2.2.symm⟩
theorem trim_len (r : List UInt8) : (Lib.trimSuffix r [34]).length ≤ r.length := by
  unfold Lib.trimSuffix
  split
  · rw [List.length_take]; omega
  · omega
theorem unq_len : ∀ r : List UInt8, (unq r).length ≤ r.length
  | [] => by simp [unq]
  | [c] => by simp [unq]
  | c :: d :: r => by
    unfold unq
    split
    · have := unq_len r; simp; omega
    · have := unq_len (d :: r); simp at this ⊢; omega

theorem read_null (w : World) : Calls Tryz.prog 102 #[.string ⟨#[110, 117, 108, 108]⟩] w (ReadPost [110, 117, 108, 108] w) := by
  go_enter Tryz.func102, Tryz.ntmps102
  go_wp2_with fail
  refine bodyPost_ret (v := V 0 0 []) (by simp [results, Tryz.results102, go_sem]) rfl ?_
  exact ⟨_, _, _, rfl, guess_of_parse (by decide +kernel), by simp, by go_grown⟩
theorem read_true (w : World) : Calls Tryz.prog 102 #[.string ⟨#[116, 114, 117, 101]⟩] w (ReadPost [116, 114, 117, 101] w) := by
  go_enter Tryz.func102, Tryz.ntmps102
  go_wp2_with fail
  refine bodyPost_ret (v := V 4 1 []) (by simp [results, Tryz.results102, go_sem]) rfl ?_
  exact ⟨_, _, _, rfl, guess_of_parse (by decide +kernel), by simp, by go_grown⟩
theorem read_false (w : World) : Calls Tryz.prog 102 #[.string ⟨#[102, 97, 108, 115, 101]⟩] w (ReadPost [102, 97, 108, 115, 101] w) := by
  go_enter Tryz.func102, Tryz.ntmps102
  go_wp2_with fail
  refine bodyPost_ret (v := V 4 0 []) (by simp [results, Tryz.results102, go_sem]) rfl ?_
  exact ⟨_, _, _, rfl, guess_of_parse (by decide +kernel), by simp, by go_grown⟩

theorem read_text (r : List UInt8) (hl : r.length ≤ 999) (w : World) : Calls Tryz.prog 102 #[.string ⟨(34 :: r).toArray⟩] w (ReadPost (34 :: r) w) := by
  have HT := Lib.hid (trim_len r)
  have HL := Lib.hid hl
  clear hl
  go_enter Tryz.func102, Tryz.ntmps102
  go_wp2_with fail
  refine (cutp_yes 34 r _).mono ?_
  rintro e w1 ⟨rfl, rfl⟩
  go_wp2_with fail
  refine (trims_any r [34] (by have := HL.out; omega) _).mono ?_
  rintro e w1 ⟨rfl, rfl⟩
  go_wp2_with fail
  refine (unquote_any (Lib.trimSuffix r [34]) (by have := HL.out; have := HT.out; omega) _).mono ?_
  rintro e w1 ⟨rfl, hb1⟩
  have R1 : Own3 w1 w.heap.size 0 0 [] := Own3.below ⟨⟨by simp [go_sem], by simp [go_sem], by simp [go_sem]⟩, by simp [go_sem], by simp [go_sem], by simp [go_sem]⟩ hb1
  have HB := below_up (((Below.refl _ _).alloc (Nat.le_refl _) _)) hb1 (by simp)
  clear hb1
  have r0 := R1.c0; have r1 := R1.c1; have r2 := R1.c2; have f0 := R1.f0; have f1 := R1.f1; have f2 := R1.f2
  go_wp2_with fail
  refine bodyPost_ret (v := V 1 0 (unq (Lib.trimSuffix r [34]))) (by simp [results, Tryz.results102, go_sem, r0, r1, r2]) rfl ?_
  refine ⟨_, _, _, rfl, ?_, ?_, ((HB.setCell (Nat.le_refl _) _).setCell (Nat.le_refl _) _).setCell (Nat.le_refl _) _⟩
  · intro k n t hv e
    obtain ⟨h1, h2, h3⟩ := guess_text hv e
    refine ⟨h1.symm, h2.symm, ?_⟩
    rw [h3, trim_quo, unq_flat]
  · have := unq_len (Lib.trimSuffix r [34]); have := HT.out; have := HL.out; omega

theorem read_day (r : List UInt8) (hl : r.length ≤ 999) (w : World) (he : Env w) : Calls Tryz.prog 102 #[.string ⟨(64 :: r).toArray⟩] w (ReadPost (64 :: r) w) := by
  have HL := Lib.hid hl
  have HE := Lib.hid he
  clear hl he
  go_enter Tryz.func102, Tryz.ntmps102
  go_wp2_with fail
  refine (cutp_no 34 (64 :: r) (by simp) _).mono ?_
  rintro e w1 ⟨rfl, rfl⟩
  go_wp2_with fail
  refine (cutp_yes 64 r _).mono ?_
  rintro e w1 ⟨rfl, rfl⟩
  go_wp2_with fail
  refine (atoi_any r (by have := HL.out; omega) _ (HE.out.alloc _)).mono ?_
  rintro e w1 ⟨N, f, rfl, hN, hb1⟩
  have HN := Lib.hid hN
  have R1 : Own3 w1 w.heap.size 0 0 [] := Own3.below ⟨⟨by simp [go_sem], by simp [go_sem], by simp [go_sem]⟩, by simp [go_sem], by simp [go_sem], by simp [go_sem]⟩ hb1
  have HB := below_up (((Below.refl _ _).alloc (Nat.le_refl _) _)) hb1 (by simp)
  clear hb1 hN
  have r0 := R1.c0; have r1 := R1.c1; have r2 := R1.c2; have f0 := R1.f0; have f1 := R1.f1; have f2 := R1.f2
  go_wp2_with fail
  refine bodyPost_ret (v := V 3 N []) (by simp [results, Tryz.results102, go_sem, r0, r1, r2]) rfl ?_
  refine ⟨_, _, _, rfl, ?_, by simp, ((HB.setCell (Nat.le_refl _) _).setCell (Nat.le_refl _) _).setCell (Nat.le_refl _) _⟩
  intro k n t hv e
  obtain ⟨h1, h2, h3⟩ := guess_day hv e
  have hb := vld_bound hv
  exact ⟨h1.symm, HN.out n (by rw [← h2]; exact atoi_itoa n hb.1 hb.2), h3.symm⟩

theorem read_num (l : List UInt8) (hl : l.length ≤ 1000) (h1 : l ≠ [110, 117, 108, 108]) (h2 : l ≠ [116, 114, 117, 101]) (h3 : l ≠ [102, 97, 108, 115, 101]) (h4 : ∀ r, l ≠ 34 :: r) (h5 : ∀ r, l ≠ 64 :: r) (w : World) (he : Env w) : Calls Tryz.prog 102 #[.string ⟨l.toArray⟩] w (ReadPost l w) := by
  have HL := Lib.hid hl
  have HE := Lib.hid he
  have q1 : (l == [110, 117, 108, 108]) = false := by simpa using h1
  have q2 : (l == [116, 114, 117, 101]) = false := by simpa using h2
  have q3 : (l == [102, 97, 108, 115, 101]) = false := by simpa using h3
  have H4 := Lib.hid h4
  have H5 := Lib.hid h5
  have H1 := Lib.hid h1
  have H2 := Lib.hid h2
  have H3 := Lib.hid h3
  clear hl he h1 h2 h3 h4 h5
  go_enter Tryz.func102, Tryz.ntmps102
  go_wp2_with fail
  refine (cutp_no 34 l H4.out _).mono ?_
  rintro e w1 ⟨rfl, rfl⟩
  go_wp2_with fail
  refine (cutp_no 64 l H5.out _).mono ?_
  rintro e w1 ⟨rfl, rfl⟩
  go_wp2_with fail
  refine (atoi_any l (by have := HL.out; omega) _ (HE.out.alloc _)).mono ?_
  rintro e w1 ⟨N, f, rfl, hN, hb1⟩
  have HN := Lib.hid hN
  have R1 : Own3 w1 w.heap.size 0 0 [] := Own3.below ⟨⟨by simp [go_sem], by simp [go_sem], by simp [go_sem]⟩, by simp [go_sem], by simp [go_sem], by simp [go_sem]⟩ hb1
  have HB := below_up (((Below.refl _ _).alloc (Nat.le_refl _) _)) hb1 (by simp)
  clear hb1 hN
  have r0 := R1.c0; have r1 := R1.c1; have r2 := R1.c2; have f0 := R1.f0; have f1 := R1.f1; have f2 := R1.f2
  go_wp2_with fail
  refine bodyPost_ret (v := V 2 N []) (by simp [results, Tryz.results102, go_sem, r0, r1, r2]) rfl ?_
  refine ⟨_, _, _, rfl, ?_, by simp, ((HB.setCell (Nat.le_refl _) _).setCell (Nat.le_refl _) _).setCell (Nat.le_refl _) _⟩
  intro k n t hv e
  obtain ⟨h1, h2, h3⟩ := guess_num hv e H1.out H2.out H3.out H4.out H5.out
  have hb := vld_bound hv
  exact ⟨h1.symm, HN.out n (by rw [← h2]; exact atoi_itoa n hb.1 hb.2), h3.symm⟩

theorem read_any (l : List UInt8) (hl : l.length ≤ 1000) (w : World) (he : Env w) : Calls Tryz.prog 102 #[.string ⟨l.toArray⟩] w (ReadPost l w) := by
  by_cases h1 : l = [110, 117, 108, 108]
  · subst h1; exact read_null w
  by_cases h2 : l = [116, 114, 117, 101]
  · subst h2; exact read_true w
  by_cases h3 : l = [102, 97, 108, 115, 101]
  · subst h3; exact read_false w
  by_cases h4 : ∀ r, l ≠ 34 :: r
  · by_cases h5 : ∀ r, l ≠ 64 :: r
    · exact read_num l hl h1 h2 h3 h4 h5 w he
    · obtain ⟨r, hr⟩ := Classical.not_forall.1 h5
      obtain rfl := Classical.not_not.1 hr
      exact read_day r (by simp at hl; omega) w he
  · obtain ⟨r, hr⟩ := Classical.not_forall.1 h4
    obtain rfl := Classical.not_not.1 hr
    exact read_text r (by simp at hl; omega) w
end Go.Proofs.YteokcgfbhaeklaaGreatDoor.L2

/- The contract of Parse. -/
namespace Go.Proofs.YteokcgfbhaeklaaGreatDoor.L2
open Go.RowKit

/-- The result's block behind its three stores. -/
theorem set3 {B : Nat} {a w : World} (h : Below B a w) (b : Nat) (hb : B ≤ b) (x y z : Value) : Below B a (((w.setCell ⟨b, 0, none⟩ x).setCell ⟨b, 1, none⟩ y).setCell ⟨b, 2, none⟩ z) :=
  ((h.setCell hb _).setCell hb _).setCell hb _

theorem parse_any (l : List UInt8) (hl : l.length ≤ 1000) (w : World) (he : Env w) :
    Calls Tryz.prog 75 #[.string ⟨l.toArray⟩] w (ValPost w (parse l)) := by
  have HL := Lib.hid hl
  have HE := Lib.hid he
  clear hl he
  go_enter Tryz.func75, Tryz.ntmps75
  go_wp2_with fail
  refine (read_any l HL.out _ (HE.out.alloc _)).mono ?_
  rintro e w1 ⟨K, N, T, rfl, hg, hT, hb1⟩
  have HG := Lib.hid hg
  have R1 : Own3 w1 w.heap.size 0 0 [] := Own3.below ⟨⟨by simp [go_sem], by simp [go_sem], by simp [go_sem]⟩, by simp [go_sem], by simp [go_sem], by simp [go_sem]⟩ hb1
  have HB := below_up (((Below.refl _ _).alloc (Nat.le_refl _) _)) hb1 (by simp)
  replace HE := Lib.hid (HE.out.below HB)
  clear hb1 hg
  go_wp2_with fail
  refine (valid_any K N T _).mono ?_
  rintro e w2 ⟨rfl, hb2⟩
  have A2 : Val3 w2 w1.heap.size K N T := Val3.below ⟨by simp [go_sem], by simp [go_sem], by simp [go_sem]⟩ hb2
  have hb3 : Below w1.heap.size w1 w2 := below_up (((Below.refl _ _).alloc (Nat.le_refl _) _)) hb2 (by simp)
  have R2 := R1.below hb3
  have HB2 := below_up HB hb3 HB.size
  replace HE := Lib.hid (HE.out.below hb3)
  clear hb2 hb3
  cases hv : vldB K N T
  · have hp := Lib.hid (parse_no HG.out (Or.inl hv))
    have r0 := R2.c0; have r1 := R2.c1; have r2 := R2.c2; have f0 := R2.f0; have f1 := R2.f1; have f2 := R2.f2
    go_wp2_with fail
    refine bodyPost_ret (v := .tuple #[V 0 0 [], .int .i64 4]) (by simp [results, Tryz.results75, go_sem, r0, r1, r2]) rfl ?_
    rw [hp.out]
    exact ⟨rfl, set3 HB2 _ (Nat.le_refl _) _ _ _⟩
  · have a0 := A2.c0; have a1 := A2.c1; have a2 := A2.c2
    go_wp2_with fail
    generalize ht : txt K N T = t
    have C := text_any K N T w2 HE.out
    rw [ht] at C
    have HT := Lib.hid ht
    clear ht
    refine C.mono ?_
    clear C
    rintro e w3 ⟨rfl, hb3⟩
    have A3 := A2.below hb3
    have R3 := R2.below hb3
    have HB3 := below_up HB2 hb3 HB2.size
    clear hb3 a0 a1 a2
    have a0 := A3.c0; have a1 := A3.c1; have a2 := A3.c2
    have r0 := R3.c0; have r1 := R3.c1; have r2 := R3.c2; have f0 := R3.f0; have f1 := R3.f1; have f2 := R3.f2
    by_cases hq : t = l
    · have hp := Lib.hid (parse_yes hv (HT.out.trans hq))
      subst hq
      go_wp2_with fail
      refine bodyPost_ret (v := .tuple #[V K N T, .int .i64 0]) (by simp [results, Tryz.results75, go_sem, r0, r1, r2]) rfl ?_
      rw [hp.out]
      exact ⟨rfl, set3 HB3 _ (Nat.le_refl _) _ _ _⟩
    · have hp := Lib.hid (parse_no HG.out (Or.inr (fun e => hq (HT.out.symm.trans e))))
      have e1 : (t == l) = false := by simpa using hq
      have e2 : (!t == l) = true := by simpa using hq
      clear hq
      go_wp2_with fail
      refine bodyPost_ret (v := .tuple #[V 0 0 [], .int .i64 4]) (by simp [results, Tryz.results75, go_sem, r0, r1, r2]) rfl ?_
      rw [hp.out]
      exact ⟨rfl, set3 HB3 _ (Nat.le_refl _) _ _ _⟩
end Go.Proofs.YteokcgfbhaeklaaGreatDoor.L2

/- The contracts of castText, castNumber and Cast. -/
namespace Go.Proofs.YteokcgfbhaeklaaGreatDoor.L2
open Go.RowKit

theorem castText_any (l : List UInt8) (hl : l.length ≤ 1000) (kind : Int) (w : World) (he : Env w) :
    Calls Tryz.prog 51 #[.string ⟨l.toArray⟩, .int .i64 kind] w (ValPost w (castT l kind)) := by
  have HL := Lib.hid hl
  have HE := Lib.hid he
  obtain ⟨⟨pk, pn, pt, pe⟩, hp⟩ : ∃ p, parse l = p := ⟨_, rfl⟩
  have HP := Lib.hid hp
  clear hl he hp
  go_enter Tryz.func51, Tryz.ntmps51
  go_wp2_with fail
  have C := fun W h => parse_any l HL.out W h
  rw [HP.out] at C
  refine (C _ (HE.out.alloc _)).mono ?_
  clear C
  rintro e w1 ⟨rfl, hb1⟩
  have R1 : Own3 w1 w.heap.size 0 0 [] := Own3.below ⟨⟨by simp [go_sem], by simp [go_sem], by simp [go_sem]⟩, by simp [go_sem], by simp [go_sem], by simp [go_sem]⟩ hb1
  have HB := below_up (((Below.refl _ _).alloc (Nat.le_refl _) _)) hb1 (by simp)
  clear hb1
  have r0 := R1.c0; have r1 := R1.c1; have r2 := R1.c2; have f0 := R1.f0; have f1 := R1.f1; have f2 := R1.f2
  have hlt := R1.lt
  by_cases h1 : pe = 0
  · by_cases h2 : pk = kind
    · have hc := Lib.hid (show castT l kind = (pk, pn, pt, pe) by unfold castT; rw [HP.out, if_pos ⟨h1, h2⟩])
      subst h1 h2
      go_wp2_with fail
      refine bodyPost_ret (v := .tuple #[V pk pn pt, .int .i64 0]) (by simp [results, Tryz.results51, go_sem, hlt, r0, r1, r2]) rfl ?_
      rw [hc.out]
      exact ⟨rfl, (set3 HB _ (Nat.le_refl _) _ _ _).alloc (by have := HB.size; simp; omega) _⟩
    · have hc := Lib.hid (show castT l kind = (0, 0, [], 15) by unfold castT; rw [HP.out, if_neg (fun h => h2 h.2)])
      subst h1
      have e1 : (pk != kind) = true := by simpa using h2
      clear h2
      go_wp2_with fail
      refine bodyPost_ret (v := .tuple #[V 0 0 [], .int .i64 15]) (by simp [results, Tryz.results51, go_sem, hlt, r0, r1, r2]) rfl ?_
      rw [hc.out]
      exact ⟨rfl, (set3 HB _ (Nat.le_refl _) _ _ _).alloc (by have := HB.size; simp; omega) _⟩
  · have hc := Lib.hid (show castT l kind = (0, 0, [], 15) by unfold castT; rw [HP.out, if_neg (fun h => h1 h.1)])
    have e1 : (pe != 0) = true := by simpa using h1
    clear h1
    go_wp2_with fail
    refine bodyPost_ret (v := .tuple #[V 0 0 [], .int .i64 15]) (by simp [results, Tryz.results51, go_sem, hlt, r0, r1, r2]) rfl ?_
    rw [hc.out]
    exact ⟨rfl, (set3 HB _ (Nat.le_refl _) _ _ _).alloc (by have := HB.size; simp; omega) _⟩

theorem castNumber_any (n kind : Int) (w : World) :
    Calls Tryz.prog 52 #[.int .i64 n, .int .i64 kind] w (ValPost w (castN n kind)) := by
  go_enter Tryz.func52, Tryz.ntmps52
  go_wp2_with fail
  refine (valid_any kind n [] _).mono ?_
  rintro e w1 ⟨rfl, hb1⟩
  have R1 : Own3 w1 w.heap.size 0 0 [] := Own3.below ⟨⟨by simp [go_sem], by simp [go_sem], by simp [go_sem]⟩, by simp [go_sem], by simp [go_sem], by simp [go_sem]⟩ hb1
  have A1 : Val3 w1 (w.heap.size + 1) kind n [] := Val3.below ⟨by simp [go_sem], by simp [go_sem], by simp [go_sem]⟩ hb1
  have HB := below_up (boxes2 w _ _) hb1 (by simp; omega)
  clear hb1
  have r0 := R1.c0; have r1 := R1.c1; have r2 := R1.c2; have f0 := R1.f0; have f1 := R1.f1; have f2 := R1.f2
  have a0 := A1.c0; have a1 := A1.c1; have a2 := A1.c2
  cases hv : vldB kind n []
  · have hc := Lib.hid (show castN n kind = (0, 0, [], 15) by unfold castN; rw [hv, if_neg (by decide)])
    go_wp2_with fail
    refine bodyPost_ret (v := .tuple #[V 0 0 [], .int .i64 15]) (by simp [results, Tryz.results52, go_sem, r0, r1, r2]) rfl ?_
    rw [hc.out]
    exact ⟨rfl, set3 HB _ (Nat.le_refl _) _ _ _⟩
  · have hc := Lib.hid (show castN n kind = (kind, n, [], 0) by unfold castN; rw [hv, if_pos rfl])
    go_wp2_with fail
    refine bodyPost_ret (v := .tuple #[V kind n [], .int .i64 0]) (by simp [results, Tryz.results52, go_sem, r0, r1, r2]) rfl ?_
    rw [hc.out]
    exact ⟨rfl, set3 HB _ (Nat.le_refl _) _ _ _⟩

theorem cast_bad1 (k n : Int) (t : List UInt8) (kind : Int) (hv : vldB k n t = false) (w : World) :
    Calls Tryz.prog 27 #[V k n t, .int .i64 kind] w (ValPost w (0, 0, [], 1)) := by
  go_enter Tryz.func27, Tryz.ntmps27
  go_wp2_with fail
  refine (valid_any k n t _).mono ?_
  rintro e w1 ⟨rfl, hb1⟩
  have R1 : Own3 w1 (w.heap.size + 1) 0 0 [] := Own3.below ⟨⟨by simp [go_sem], by simp [go_sem], by simp [go_sem]⟩, by simp [go_sem], by simp [go_sem], by simp [go_sem]⟩ hb1
  have HB := below_up (boxes2 w _ _) hb1 (by simp; omega)
  clear hb1
  have r0 := R1.c0; have r1 := R1.c1; have r2 := R1.c2; have f0 := R1.f0; have f1 := R1.f1; have f2 := R1.f2
  go_wp2_with fail
  refine bodyPost_ret (v := .tuple #[V 0 0 [], .int .i64 1]) (by simp [results, Tryz.results27, go_sem, r0, r1, r2]) rfl ?_
  exact ⟨rfl, set3 HB _ (Nat.le_succ _) _ _ _⟩

theorem cast_bad2 (k n : Int) (t : List UInt8) (kind : Int) (hv : vldB k n t = true) (hk : kind < 1 ∨ 4 < kind) (w : World) :
    Calls Tryz.prog 27 #[V k n t, .int .i64 kind] w (ValPost w (0, 0, [], 1)) := by
  go_enter Tryz.func27, Tryz.ntmps27
  go_wp2_with fail
  refine (valid_any k n t _).mono ?_
  rintro e w1 ⟨rfl, hb1⟩
  have R1 : Own3 w1 (w.heap.size + 1) 0 0 [] := Own3.below ⟨⟨by simp [go_sem], by simp [go_sem], by simp [go_sem]⟩, by simp [go_sem], by simp [go_sem], by simp [go_sem]⟩ hb1
  have HB := below_up (boxes2 w _ _) hb1 (by simp; omega)
  clear hb1
  have r0 := R1.c0; have r1 := R1.c1; have r2 := R1.c2; have f0 := R1.f0; have f1 := R1.f1; have f2 := R1.f2
  rcases hk with hk | hk
  · go_wp2_with fail
    refine bodyPost_ret (v := .tuple #[V 0 0 [], .int .i64 1]) (by simp [results, Tryz.results27, go_sem, r0, r1, r2]) rfl ?_
    exact ⟨rfl, set3 HB _ (Nat.le_succ _) _ _ _⟩
  · have hk2 : ¬ kind < 1 := by omega
    go_wp2_with fail
    refine bodyPost_ret (v := .tuple #[V 0 0 [], .int .i64 1]) (by simp [results, Tryz.results27, go_sem, r0, r1, r2]) rfl ?_
    exact ⟨rfl, set3 HB _ (Nat.le_succ _) _ _ _⟩

/-- Where a value is returned as it is. -/
theorem cast_same (k n : Int) (t : List UInt8) (kind : Int) (hv : vldB k n t = true) (h1 : 1 ≤ kind) (h4 : kind ≤ 4) (h : k = 0 ∨ k = kind) (w : World) :
    Calls Tryz.prog 27 #[V k n t, .int .i64 kind] w (ValPost w (k, n, t, 0)) := by
  go_enter Tryz.func27, Tryz.ntmps27
  go_wp2_with fail
  refine (valid_any k n t _).mono ?_
  rintro e w1 ⟨rfl, hb1⟩
  have A1 : Val3 w1 w.heap.size k n t := Val3.below ⟨by simp [go_sem], by simp [go_sem], by simp [go_sem]⟩ hb1
  have R1 : Own3 w1 (w.heap.size + 1) 0 0 [] := Own3.below ⟨⟨by simp [go_sem], by simp [go_sem], by simp [go_sem]⟩, by simp [go_sem], by simp [go_sem], by simp [go_sem]⟩ hb1
  have HB := below_up (boxes2 w _ _) hb1 (by simp; omega)
  clear hb1
  have r0 := R1.c0; have r1 := R1.c1; have r2 := R1.c2; have f0 := R1.f0; have f1 := R1.f1; have f2 := R1.f2
  have a0 := A1.c0; have a1 := A1.c1; have a2 := A1.c2
  rcases h with rfl | rfl
  · go_wp2_with fail
    refine bodyPost_ret (v := .tuple #[V 0 n t, .int .i64 0]) (by simp [results, Tryz.results27, go_sem, r0, r1, r2]) rfl ?_
    exact ⟨rfl, set3 HB _ (Nat.le_succ _) _ _ _⟩
  · have e0 : (k == 0) = false := by simp; omega
    go_wp2_with fail
    refine bodyPost_ret (v := .tuple #[V k n t, .int .i64 0]) (by simp [results, Tryz.results27, go_sem, r0, r1, r2]) rfl ?_
    exact ⟨rfl, set3 HB _ (Nat.le_succ _) _ _ _⟩

/-- A number, a day or a flag as a text. -/
theorem cast_text (k n : Int) (t : List UInt8) (hv : vldB k n t = true) (h0 : k ≠ 0) (h1 : k ≠ 1) (w : World) (he : Env w) :
    Calls Tryz.prog 27 #[V k n t, .int .i64 1] w (ValPost w (1, 0, txt k n t, 0)) := by
  have e0 : (k == 0) = false := by simpa using h0
  have e1 : (k == 1) = false := by simpa using h1
  have HE := Lib.hid he
  clear h0 h1 he
  go_enter Tryz.func27, Tryz.ntmps27
  go_wp2_with fail
  refine (valid_any k n t _).mono ?_
  rintro e w1 ⟨rfl, hb1⟩
  have A1 : Val3 w1 w.heap.size k n t := Val3.below ⟨by simp [go_sem], by simp [go_sem], by simp [go_sem]⟩ hb1
  have R1 : Own3 w1 (w.heap.size + 1) 0 0 [] := Own3.below ⟨⟨by simp [go_sem], by simp [go_sem], by simp [go_sem]⟩, by simp [go_sem], by simp [go_sem], by simp [go_sem]⟩ hb1
  have HB := below_up (boxes2 w _ _) hb1 (by simp; omega)
  clear hb1
  have a0 := A1.c0; have a1 := A1.c1; have a2 := A1.c2
  go_wp2_with fail
  refine (text_any k n t _ (HE.out.below HB)).mono ?_
  rintro e w2 ⟨rfl, hb2⟩
  have R2 := R1.below hb2
  have HB2 := below_up HB hb2 HB.size
  clear hb2 a0 a1 a2
  have r0 := R2.c0; have r1 := R2.c1; have r2 := R2.c2; have f0 := R2.f0; have f1 := R2.f1; have f2 := R2.f2
  go_wp2_with fail
  refine bodyPost_ret (v := .tuple #[V 1 0 (txt k n t), .int .i64 0]) (by simp [results, Tryz.results27, go_sem, r0, r1, r2]) rfl ?_
  exact ⟨rfl, set3 HB2 _ (Nat.le_succ _) _ _ _⟩

/-- A text as another kind. -/
theorem cast_of_text (n : Int) (t : List UInt8) (kind : Int) (hv : vldB 1 n t = true) (h1 : 2 ≤ kind) (h4 : kind ≤ 4) (w : World) (he : Env w) :
    Calls Tryz.prog 27 #[V 1 n t, .int .i64 kind] w (ValPost w (castT t kind)) := by
  have e1 : ((1 : Int) == kind) = false := by simp; omega
  have e2 : (kind == 1) = false := by simp; omega
  have HE := Lib.hid he
  have HL := Lib.hid (vld_len hv)
  obtain ⟨⟨pk, pn, pt, pe⟩, hp⟩ : ∃ p, castT t kind = p := ⟨_, rfl⟩
  rw [hp]
  have HP := Lib.hid hp
  clear he hp
  go_enter Tryz.func27, Tryz.ntmps27
  go_wp2_with fail
  refine (valid_any 1 n t _).mono ?_
  rintro e w1 ⟨rfl, hb1⟩
  have A1 : Val3 w1 w.heap.size 1 n t := Val3.below ⟨by simp [go_sem], by simp [go_sem], by simp [go_sem]⟩ hb1
  have R1 : Own3 w1 (w.heap.size + 1) 0 0 [] := Own3.below ⟨⟨by simp [go_sem], by simp [go_sem], by simp [go_sem]⟩, by simp [go_sem], by simp [go_sem], by simp [go_sem]⟩ hb1
  have HB := below_up (boxes2 w _ _) hb1 (by simp; omega)
  clear hb1
  have a0 := A1.c0; have a1 := A1.c1; have a2 := A1.c2
  go_wp2_with fail
  have C := fun W h => castText_any t (by have := HL.out; omega) kind W h
  rw [HP.out] at C
  refine (C _ (HE.out.below HB)).mono ?_
  clear C
  rintro e w2 ⟨rfl, hb2⟩
  have R2 := R1.below hb2
  have HB2 := below_up HB hb2 HB.size
  clear hb2 a0 a1 a2
  have r0 := R2.c0; have r1 := R2.c1; have r2 := R2.c2; have f0 := R2.f0; have f1 := R2.f1; have f2 := R2.f2
  go_wp2_with fail
  refine bodyPost_ret (v := .tuple #[V pk pn pt, .int .i64 pe]) (by simp [results, Tryz.results27, go_sem, r0, r1, r2]) rfl ?_
  exact ⟨rfl, set3 HB2 _ (Nat.le_succ _) _ _ _⟩

/-- A flag, or to a flag: refused. -/
theorem cast_type (k n : Int) (t : List UInt8) (kind : Int) (hv : vldB k n t = true) (h0 : k ≠ 0) (h1 : k ≠ 1) (hk : k ≠ kind) (h2 : 2 ≤ kind) (h4 : kind ≤ 4) (h : k = 4 ∨ kind = 4) (w : World) :
    Calls Tryz.prog 27 #[V k n t, .int .i64 kind] w (ValPost w (0, 0, [], 10)) := by
  have e0 : (k == 0) = false := by simpa using h0
  have e1 : (k == 1) = false := by simpa using h1
  have e2 : (k == kind) = false := by simpa using hk
  have e3 : (kind == 1) = false := by simp; omega
  have H := Lib.hid h
  clear h0 h1 hk h
  go_enter Tryz.func27, Tryz.ntmps27
  go_wp2_with fail
  refine (valid_any k n t _).mono ?_
  rintro e w1 ⟨rfl, hb1⟩
  have A1 : Val3 w1 w.heap.size k n t := Val3.below ⟨by simp [go_sem], by simp [go_sem], by simp [go_sem]⟩ hb1
  have R1 : Own3 w1 (w.heap.size + 1) 0 0 [] := Own3.below ⟨⟨by simp [go_sem], by simp [go_sem], by simp [go_sem]⟩, by simp [go_sem], by simp [go_sem], by simp [go_sem]⟩ hb1
  have HB := below_up (boxes2 w _ _) hb1 (by simp; omega)
  clear hb1
  have r0 := R1.c0; have r1 := R1.c1; have r2 := R1.c2; have f0 := R1.f0; have f1 := R1.f1; have f2 := R1.f2
  have a0 := A1.c0; have a1 := A1.c1; have a2 := A1.c2
  by_cases h5 : k = 4
  · have e4 : (k == 4) = true := by simpa using h5
    clear h5
    go_wp2_with fail
    refine bodyPost_ret (v := .tuple #[V 0 0 [], .int .i64 10]) (by simp [results, Tryz.results27, go_sem, r0, r1, r2]) rfl ?_
    exact ⟨rfl, set3 HB _ (Nat.le_succ _) _ _ _⟩
  · have e4 : (k == 4) = false := by simpa using h5
    have e5 : (kind == 4) = true := by have := H.out; simp; omega
    clear h5
    go_wp2_with fail
    refine bodyPost_ret (v := .tuple #[V 0 0 [], .int .i64 10]) (by simp [results, Tryz.results27, go_sem, r0, r1, r2]) rfl ?_
    exact ⟨rfl, set3 HB _ (Nat.le_succ _) _ _ _⟩

/-- A number as a day, a day as a number. -/
theorem cast_num (k n : Int) (t : List UInt8) (kind : Int) (hv : vldB k n t = true) (h0 : k ≠ 0) (h1 : k ≠ 1) (hk : k ≠ kind) (h2 : 2 ≤ kind) (h4 : kind ≤ 4) (h5 : k ≠ 4) (h6 : kind ≠ 4) (w : World) :
    Calls Tryz.prog 27 #[V k n t, .int .i64 kind] w (ValPost w (castN n kind)) := by
  have e0 : (k == 0) = false := by simpa using h0
  have e1 : (k == 1) = false := by simpa using h1
  have e2 : (k == kind) = false := by simpa using hk
  have e3 : (kind == 1) = false := by simp; omega
  have e4 : (k == 4) = false := by simpa using h5
  have e5 : (kind == 4) = false := by simpa using h6
  obtain ⟨⟨pk, pn, pt, pe⟩, hp⟩ : ∃ p, castN n kind = p := ⟨_, rfl⟩
  rw [hp]
  have HP := Lib.hid hp
  clear h0 h1 hk h5 h6 hp
  go_enter Tryz.func27, Tryz.ntmps27
  go_wp2_with fail
  refine (valid_any k n t _).mono ?_
  rintro e w1 ⟨rfl, hb1⟩
  have A1 : Val3 w1 w.heap.size k n t := Val3.below ⟨by simp [go_sem], by simp [go_sem], by simp [go_sem]⟩ hb1
  have R1 : Own3 w1 (w.heap.size + 1) 0 0 [] := Own3.below ⟨⟨by simp [go_sem], by simp [go_sem], by simp [go_sem]⟩, by simp [go_sem], by simp [go_sem], by simp [go_sem]⟩ hb1
  have HB := below_up (boxes2 w _ _) hb1 (by simp; omega)
  clear hb1
  have a0 := A1.c0; have a1 := A1.c1; have a2 := A1.c2
  go_wp2_with fail
  have C := fun W => castNumber_any n kind W
  rw [HP.out] at C
  refine (C _).mono ?_
  clear C
  rintro e w2 ⟨rfl, hb2⟩
  have R2 := R1.below hb2
  have HB2 := below_up HB hb2 HB.size
  clear hb2 a0 a1 a2
  have r0 := R2.c0; have r1 := R2.c1; have r2 := R2.c2; have f0 := R2.f0; have f1 := R2.f1; have f2 := R2.f2
  go_wp2_with fail
  refine bodyPost_ret (v := .tuple #[V pk pn pt, .int .i64 pe]) (by simp [results, Tryz.results27, go_sem, r0, r1, r2]) rfl ?_
  exact ⟨rfl, set3 HB2 _ (Nat.le_succ _) _ _ _⟩

/-- Cast, for every value and kind. -/
theorem cast_any (k n : Int) (t : List UInt8) (kind : Int) (w : World) (he : Env w) :
    Calls Tryz.prog 27 #[V k n t, .int .i64 kind] w (ValPost w (cast k n t kind)) := by
  unfold cast
  by_cases c1 : vldB k n t = false ∨ kind < 1 ∨ 4 < kind
  · rw [if_pos c1]
    cases hv : vldB k n t
    · exact cast_bad1 k n t kind hv w
    · exact cast_bad2 k n t kind hv (by rcases c1 with c | c; rw [hv] at c; cases c; exact c) w
  · rw [if_neg c1]
    have hv : vldB k n t = true := by
      cases g : vldB k n t
      · exact absurd (Or.inl g) c1
      · rfl
    have h1 : 1 ≤ kind := by have := fun h => c1 (Or.inr (Or.inl h)); omega
    have h4 : kind ≤ 4 := by have := fun h => c1 (Or.inr (Or.inr h)); omega
    by_cases c2 : k = 0 ∨ k = kind
    · rw [if_pos c2]; exact cast_same k n t kind hv h1 h4 c2 w
    · rw [if_neg c2]
      have hk0 : k ≠ 0 := fun h => c2 (Or.inl h)
      have hkk : k ≠ kind := fun h => c2 (Or.inr h)
      by_cases c3 : kind = 1
      · subst c3
        rw [if_pos rfl]; exact cast_text k n t hv hk0 hkk w he
      · rw [if_neg c3]
        by_cases c4 : k = 1
        · subst c4
          rw [if_pos rfl]; exact cast_of_text n t kind hv (by omega) h4 w he
        · rw [if_neg c4]
          by_cases c5 : k = 4 ∨ kind = 4
          · rw [if_pos c5]; exact cast_type k n t kind hv hk0 c4 hkk (by omega) h4 c5 w
          · rw [if_neg c5]; exact cast_num k n t kind hv hk0 c4 hkk (by omega) h4 (fun h => c5 (Or.inl h)) (fun h => c5 (Or.inr h)) w
end Go.Proofs.YteokcgfbhaeklaaGreatDoor.L2

