/- The reference's token. -/
import Derived.Test.YtblgfillaenemaaDoorLxRfC
import Derived.Test.YtblgfillaenemaaDoorLxPgD
import Derived.Test.YtblgfillaenemaaDoorLxNum
namespace Go.Proofs.YtblgfillaenemaaDoor
open Go.RowKit
open L7 (Lt Dg In tok con symN num)

/-- What token returns. -/
def RfPost (w : World) (R : (Int × Txt × Int) × Nat × Int) (p : Nat) (e : Ending) (w' : World) : Prop :=
  ((R.2.2 ≠ 0 ∧ e = .returned (.tuple #[tokV 0 [] 0 0, .int .i64 0, .int .i64 R.2.2])) ∨ (R.2.2 = 0 ∧ e = .returned (.tuple #[tokV R.1.1 R.1.2.1 R.1.2.2 (p : Int), .int .i64 (R.2.1 : Int), .int .i64 0]))) ∧ Below w.heap.size w w'
theorem rf_bad {w w' : World} {R : (Int × Txt × Int) × Nat × Int} {p : Nat} {er : Int} (h : R.2.2 = er) (h0 : er ≠ 0) (hb : Below w.heap.size w w') : RfPost w R p (.returned (.tuple #[tokV 0 [] 0 0, .int .i64 0, .int .i64 er])) w' :=
  ⟨.inl ⟨by rw [h]; exact h0, by rw [h]⟩, hb⟩
theorem rf_ok {w w' : World} {R : (Int × Txt × Int) × Nat × Int} {p n : Nat} {k nn : Int} {x : Txt} (h : R = ((k, x, nn), n, 0)) (hb : Below w.heap.size w w') : RfPost w R p (.returned (.tuple #[tokV k x nn (p : Int), .int .i64 (n : Int), .int .i64 0])) w' := by
  subst h
  exact ⟨.inr ⟨rfl, rfl⟩, hb⟩
theorem num_snoc (l : Txt) (c : UInt8) : num (l ++ [c]) = 10 * num l + (c.toNat - 48) := by unfold num; rw [List.foldl_append]; rfl
theorem ext_pq (t : Txt) (p n : Nat) : (⟨t.toArray⟩ : ByteArray).extract p (p + n) = ⟨((t.drop p).take n).toArray⟩ := by rw [ext_eq, Nat.add_sub_cancel_left]

set_option maxRecDepth 100000 in
set_option maxHeartbeats 8000000 in
theorem token_name (t : Txt) (p : Nat) (hp : p < t.length) (htl : t.length ≤ 90000) (c : UInt8) (hc : t[p] = c) (hl : Lt c = true) (w : World) :
    Calls Tryd.prog 20 #[str t, .int .i64 (p : Int)] w (RfPost w (tok (t.drop p)) p) := by
  have hsz := sz t
  obtain ⟨R, hR⟩ : ∃ R, tok (t.drop p) = R := ⟨_, rfl⟩
  have hdr : t.drop p = c :: t.drop (p + 1) := by rw [List.drop_eq_getElem_cons hp, hc]
  have ht : R = if 24 < ((t.drop p).takeWhile In).length then L7.bad 3 else ((1, (t.drop p).takeWhile In, 0), ((t.drop p).takeWhile In).length, 0) := by rw [← hR, hdr]; exact L7.tok_name hl
  have htk := L7.take_tw In (t.drop p)
  obtain ⟨G, hG⟩ : ∃ G, ((t.drop p).takeWhile In).length = G := ⟨_, rfl⟩
  have hstart : G = 1 + ((t.drop (p + 1)).takeWhile In).length := by rw [← hG]; exact tw_yes In hp (by rw [hc]; exact L7.lt_in hl)
  have hGl : p + G ≤ t.length := by
    have := (List.takeWhile_sublist (p := In) (l := t.drop p)).length_le
    rw [hG, List.length_drop] at this
    omega
  rw [hG] at ht htk
  obtain ⟨x, hx⟩ : ∃ x, (t.drop p).takeWhile In = x := ⟨_, rfl⟩
  rw [hx] at ht htk
  have xt := ext_pq t p G
  rw [htk] at xt
  have HT := Lib.hid ht
  have HS := Lib.hid hstart
  have C1 := Lib.hid (fun W => (show Calls Tryd.prog 32 #[.int .u8 (c.toNat : Int)] W (fun e w' => e = .returned (.bool true) ∧ W = w') by rw [← hl]; exact letter_rf c W))
  have ex0 : ∀ h, (⟨t.toArray⟩ : ByteArray)[p]'h = c := fun _ => hc
  have p0 : (0 : Int) ≤ (p : Int) := by omega
  have p1 : (p : Int) < (t.length : Int) := by omega
  rw [hR]
  clear hR ht htk hstart hdr hG hx hl hc
  go_enter Tryd.func20, Tryd.ntmps20
  go_wp2_with (go_at_call 32; refine (C1.out _).mono ?_; rintro e w1 ⟨rfl, rfl⟩)
  go_loopw [8] (fun y wr => ∃ k : Nat, 1 ≤ k ∧ p + k ≤ t.length ∧ y = .int .i64 (k : Int) ∧ G = k + ((t.drop (p + k)).takeWhile In).length ∧ wr = w.alloc OB) (fun y _ => t.length - (intOf y).toNat)
  case atStart => exact ⟨1, by omega, by omega, rfl, HS.out, rfl⟩
  case round =>
    obtain ⟨k, hk1, hkl, rfl, hg, rfl⟩ := hrel
    have i1 : (0 : Int) ≤ (p : Int) + (k : Int) := by omega
    have i3 : IntKind.i64.wrap ((p : Int) + (k : Int)) = (p : Int) + (k : Int) := IntWalk.i64_in _ (by omega)
    have i4 : IntKind.i64.wrap ((k : Int) + 1) = (k : Int) + 1 := IntWalk.i64_in _ (by omega)
    by_cases hlt : p + k < t.length
    · obtain ⟨d, hd⟩ : ∃ d, t[p + k] = d := ⟨_, rfl⟩
      have ex1 : ∀ h, (⟨t.toArray⟩ : ByteArray)[p + k]'h = d := fun _ => hd
      have i2 : (p : Int) + (k : Int) < (t.length : Int) := by omega
      cases hb : In d
      · have hGk : G = k := by rw [tw_no In hlt (by rw [hd]; exact hb)] at hg; omega
        have C2 := Lib.hid (fun W => (show Calls Tryd.prog 33 #[.int .u8 (d.toNat : Int)] W (fun e w' => e = .returned (.bool false) ∧ W = w') by rw [← hb]; exact inner_rf d W))
        clear hb hg hd
        subst hGk
        by_cases h24 : 24 < G
        · have j1 : (24 : Int) < (G : Int) := by omega
          have HF := Lib.hid (show R.2.2 = 3 by rw [HT.out, if_pos h24]; rfl)
          clear h24
          go_wp2_with (go_at_call 33; refine (C2.out _).mono ?_; rintro e w1 ⟨rfl, rfl⟩)
          exact bodyPost_ret (v := .tuple #[tokV 0 [] 0 0, .int .i64 0, .int .i64 3]) (by simp [results, Tryd.results20, go_sem]) rfl (rf_bad HF.out (by decide) (below_box _ _))
        · have j1 : ¬ (24 : Int) < (G : Int) := by omega
          have HF := Lib.hid (show R = ((1, x, 0), G, 0) by rw [HT.out, if_neg h24])
          clear h24
          go_wp2_with (go_at_call 33; refine (C2.out _).mono ?_; rintro e w1 ⟨rfl, rfl⟩)
          exact bodyPost_ret (v := .tuple #[tokV 1 x 0 (p : Int), .int .i64 (G : Int), .int .i64 0]) (by simp [results, Tryd.results20, go_sem]) rfl (rf_ok HF.out (below_box _ _))
      · have HN := Lib.hid (show G = k + 1 + ((t.drop (p + (k + 1))).takeWhile In).length by rw [tw_yes In hlt (by rw [hd]; exact hb)] at hg; rw [← Nat.add_assoc]; omega)
        have C2 := Lib.hid (fun W => (show Calls Tryd.prog 33 #[.int .u8 (d.toNat : Int)] W (fun e w' => e = .returned (.bool true) ∧ W = w') by rw [← hb]; exact inner_rf d W))
        clear hb hg hd
        go_wp2_with (go_at_call 33; refine (C2.out _).mono ?_; rintro e w1 ⟨rfl, rfl⟩)
        go_roundw
        case rel => exact ⟨k + 1, by omega, by omega, by simp, HN.out, trivial⟩
        case measure => simp [intOf]; omega
    · have hGk : G = k := by rw [tw_end In (by omega)] at hg; omega
      have i2 : ¬ (p : Int) + (k : Int) < (t.length : Int) := by omega
      clear hg
      subst hGk
      by_cases h24 : 24 < G
      · have j1 : (24 : Int) < (G : Int) := by omega
        have HF := Lib.hid (show R.2.2 = 3 by rw [HT.out, if_pos h24]; rfl)
        clear h24
        go_wp2_with fail
        exact bodyPost_ret (v := .tuple #[tokV 0 [] 0 0, .int .i64 0, .int .i64 3]) (by simp [results, Tryd.results20, go_sem]) rfl (rf_bad HF.out (by decide) (below_box _ _))
      · have j1 : ¬ (24 : Int) < (G : Int) := by omega
        have HF := Lib.hid (show R = ((1, x, 0), G, 0) by rw [HT.out, if_neg h24])
        clear h24
        go_wp2_with fail
        exact bodyPost_ret (v := .tuple #[tokV 1 x 0 (p : Int), .int .i64 (G : Int), .int .i64 0]) (by simp [results, Tryd.results20, go_sem]) rfl (rf_ok HF.out (below_box _ _))
set_option maxRecDepth 100000 in
set_option maxHeartbeats 8000000 in
theorem token_number (t : Txt) (p : Nat) (hp : p < t.length) (htl : t.length ≤ 90000) (c : UInt8) (hc : t[p] = c) (hl : Lt c = false) (hd0 : Dg c = true) (w : World) :
    Calls Tryd.prog 20 #[str t, .int .i64 (p : Int)] w (RfPost w (tok (t.drop p)) p) := by
  have hsz := sz t
  obtain ⟨R, hR⟩ : ∃ R, tok (t.drop p) = R := ⟨_, rfl⟩
  have hdr : t.drop p = c :: t.drop (p + 1) := by rw [List.drop_eq_getElem_cons hp, hc]
  have ht : R = if 10 < ((t.drop p).takeWhile Dg).length ∨ (∃ s, ((t.drop p).dropWhile Dg).head? = some s ∧ In s = true) then L7.bad 6 else ((2, (t.drop p).takeWhile Dg, (num ((t.drop p).takeWhile Dg) : Int)), ((t.drop p).takeWhile Dg).length, 0) := by rw [← hR, hdr]; exact L7.tok_num (by simp [hl]) hd0
  have htk := L7.take_tw Dg (t.drop p)
  rw [← L7.drop_tw Dg (t.drop p)] at ht
  obtain ⟨G, hG⟩ : ∃ G, ((t.drop p).takeWhile Dg).length = G := ⟨_, rfl⟩
  have hstart : G = 1 + ((t.drop (p + 1)).takeWhile Dg).length := by rw [← hG]; exact tw_yes Dg hp (by rw [hc]; exact hd0)
  have hGl : p + G ≤ t.length := by
    have := (List.takeWhile_sublist (p := Dg) (l := t.drop p)).length_le
    rw [hG, List.length_drop] at this
    omega
  rw [hG, List.drop_drop] at ht
  rw [hG] at htk
  obtain ⟨x, hx⟩ : ∃ x, (t.drop p).takeWhile Dg = x := ⟨_, rfl⟩
  rw [hx] at ht htk
  have xt := ext_pq t p G
  rw [htk] at xt
  have HT := Lib.hid ht
  have HS := Lib.hid hstart
  have HX := Lib.hid htk
  have HXD := Lib.hid (show ∀ a ∈ (t.drop p).take G, Dg a = true from fun a ha => by rw [htk, ← hx] at ha; exact L7.mem_tw Dg _ a ha)
  have hrng := L7.dg_rng hd0
  have HN1 := Lib.hid (show ((c.toNat : Int) - 48) = (num ((t.drop p).take 1) : Int) by rw [hdr, List.take_succ_cons, List.take_zero]; show _ = ((10 * 0 + (c.toNat - 48) : Nat) : Int); omega)
  have u1 : IntKind.u8.wrap ((c.toNat : Int) - 48) = (c.toNat : Int) - 48 := by simp [IntKind.wrap, IntKind.signed, IntKind.bits]; omega
  have u2 : IntKind.i64.wrap ((c.toNat : Int) - 48) = (c.toNat : Int) - 48 := IntWalk.i64_in _ (by omega)
  have C1 := Lib.hid (fun W => (show Calls Tryd.prog 32 #[.int .u8 (c.toNat : Int)] W (fun e w' => e = .returned (.bool false) ∧ W = w') by rw [← hl]; exact letter_rf c W))
  have C0 := Lib.hid (fun W => (show Calls Tryd.prog 34 #[.int .u8 (c.toNat : Int)] W (fun e w' => e = .returned (.bool true) ∧ W = w') by rw [← hd0]; exact digit_rf c W))
  have ex0 : ∀ h, (⟨t.toArray⟩ : ByteArray)[p]'h = c := fun _ => hc
  have p0 : (0 : Int) ≤ (p : Int) := by omega
  have p1 : (p : Int) < (t.length : Int) := by omega
  rw [hR]
  clear hR ht htk hstart hdr hG hx hl hc hd0
  go_enter Tryd.func20, Tryd.ntmps20
  go_wp2_with (first | (go_at_call 32; refine (C1.out _).mono ?_; rintro e w1 ⟨rfl, rfl⟩) | (go_at_call 34; refine (C0.out _).mono ?_; rintro e w1 ⟨rfl, rfl⟩))
  go_loopw [8, 9] (fun y z wr => ∃ (k : Nat) (v : Int), 1 ≤ k ∧ p + k ≤ t.length ∧ y = .int .i64 (k : Int) ∧ z = .int .i64 v ∧ 0 ≤ v ∧ v < 10000000000 ∧ (k ≤ 10 → v = (num ((t.drop p).take k) : Int)) ∧ G = k + ((t.drop (p + k)).takeWhile Dg).length ∧ wr = w.alloc OB) (fun y _ _ => t.length - (intOf y).toNat)
  case atStart => exact ⟨1, (c.toNat : Int) - 48, by omega, by omega, rfl, by simp, by omega, by omega, fun _ => HN1.out, HS.out, rfl⟩
  case round =>
    obtain ⟨k, v, hk1, hkl, rfl, rfl, hv0, hv1, hv, hg, rfl⟩ := hrel
    have HV := Lib.hid hv
    have i1 : (0 : Int) ≤ (p : Int) + (k : Int) := by omega
    have i3 : IntKind.i64.wrap ((p : Int) + (k : Int)) = (p : Int) + (k : Int) := IntWalk.i64_in _ (by omega)
    have i4 : IntKind.i64.wrap ((k : Int) + 1) = (k : Int) + 1 := IntWalk.i64_in _ (by omega)
    clear hv
    by_cases hlt : p + k < t.length
    · obtain ⟨d, hd⟩ : ∃ d, t[p + k] = d := ⟨_, rfl⟩
      have ex1 : ∀ h, (⟨t.toArray⟩ : ByteArray)[p + k]'h = d := fun _ => hd
      have i2 : (p : Int) + (k : Int) < (t.length : Int) := by omega
      have HD := Lib.hid (show (t.drop (p + k)).head? = some d by rw [List.drop_eq_getElem_cons hlt, hd]; rfl)
      cases hb : Dg d
      · have hGk : G = k := by rw [tw_no Dg hlt (by rw [hd]; exact hb)] at hg; omega
        have C2 := Lib.hid (fun W => (show Calls Tryd.prog 34 #[.int .u8 (d.toNat : Int)] W (fun e w' => e = .returned (.bool false) ∧ W = w') by rw [← hb]; exact digit_rf d W))
        clear hb hg hd
        subst hGk
        by_cases h10 : 10 < G
        · have j1 : (10 : Int) < (G : Int) := by omega
          have HF := Lib.hid (show R.2.2 = 6 by rw [HT.out, if_pos (.inl h10)]; rfl)
          clear h10
          go_wp2_with (go_at_call 34; refine (C2.out _).mono ?_; rintro e w1 ⟨rfl, rfl⟩)
          exact bodyPost_ret (v := .tuple #[tokV 0 [] 0 0, .int .i64 0, .int .i64 6]) (by simp [results, Tryd.results20, go_sem]) rfl (rf_bad HF.out (by decide) (below_box _ _))
        · have j1 : ¬ (10 : Int) < (G : Int) := by omega
          have hval : v = (num x : Int) := by rw [HV.out (by omega), HX.out]
          cases hi : In d
          · have C3 := Lib.hid (fun W => (show Calls Tryd.prog 33 #[.int .u8 (d.toNat : Int)] W (fun e w' => e = .returned (.bool false) ∧ W = w') by rw [← hi]; exact inner_rf d W))
            have HF := Lib.hid (show R = ((2, x, v), G, 0) by rw [HT.out, if_neg (fun q => q.elim h10 (fun ⟨s, q1, q2⟩ => by rw [HD.out] at q1; cases q1; rw [hi] at q2; simp at q2)), hval])
            clear h10 hval
            go_wp2_with (first | (go_at_call 34; refine (C2.out _).mono ?_; rintro e w1 ⟨rfl, rfl⟩) | (go_at_call 33; refine (C3.out _).mono ?_; rintro e w1 ⟨rfl, rfl⟩))
            exact bodyPost_ret (v := .tuple #[tokV 2 x v (p : Int), .int .i64 (G : Int), .int .i64 0]) (by simp [results, Tryd.results20, go_sem]) rfl (rf_ok HF.out (below_box _ _))
          · have C3 := Lib.hid (fun W => (show Calls Tryd.prog 33 #[.int .u8 (d.toNat : Int)] W (fun e w' => e = .returned (.bool true) ∧ W = w') by rw [← hi]; exact inner_rf d W))
            have HF := Lib.hid (show R.2.2 = 6 by rw [HT.out, if_pos (.inr ⟨d, HD.out, hi⟩)]; rfl)
            clear h10 hval
            go_wp2_with (first | (go_at_call 34; refine (C2.out _).mono ?_; rintro e w1 ⟨rfl, rfl⟩) | (go_at_call 33; refine (C3.out _).mono ?_; rintro e w1 ⟨rfl, rfl⟩))
            exact bodyPost_ret (v := .tuple #[tokV 0 [] 0 0, .int .i64 0, .int .i64 6]) (by simp [results, Tryd.results20, go_sem]) rfl (rf_bad HF.out (by decide) (below_box _ _))
      · have HN := Lib.hid (show G = k + 1 + ((t.drop (p + (k + 1))).takeWhile Dg).length by rw [tw_yes Dg hlt (by rw [hd]; exact hb)] at hg; rw [← Nat.add_assoc]; omega)
        have hrd := L7.dg_rng hb
        have HSN := Lib.hid (show (t.drop p).take (k + 1) = (t.drop p).take k ++ [d] by rw [List.take_succ_eq_append_getElem (by rw [List.length_drop]; omega), List.getElem_drop, hd])
        have u3 : IntKind.u8.wrap ((d.toNat : Int) - 48) = (d.toNat : Int) - 48 := by simp [IntKind.wrap, IntKind.signed, IntKind.bits]; omega
        have u4 : IntKind.i64.wrap ((d.toNat : Int) - 48) = (d.toNat : Int) - 48 := IntWalk.i64_in _ (by omega)
        have C2 := Lib.hid (fun W => (show Calls Tryd.prog 34 #[.int .u8 (d.toNat : Int)] W (fun e w' => e = .returned (.bool true) ∧ W = w') by rw [← hb]; exact digit_rf d W))
        clear hb hg hd
        by_cases h10 : k < 10
        · have j1 : (k : Int) < 10 := by omega
          have hv9 := HV.out (by omega)
          have hlt9 : v < 1000000000 := by
            have h1 := (L7.parse_digs ((t.drop p).take k) 0 0 (fun a ha => by
              have h2 : k ≤ G := by rw [HN.out]; omega
              have h3 : (t.drop p).take k = x.take k := by rw [← HX.out, List.take_take, Nat.min_eq_left h2]
              rw [h3, ← HX.out] at ha
              have h4 := List.mem_of_mem_take ha
              exact HXD.out a h4) (by decide) (by simp; omega)).2
            have h2 : 10 ^ (0 + ((t.drop p).take k).length) ≤ 10 ^ 9 := Nat.pow_le_pow_right (by omega) (by simp; omega)
            have h3 : 10 ^ 9 = 1000000000 := by decide
            rw [h3] at h2
            have h4 : num ((t.drop p).take k) < 1000000000 := Nat.lt_of_lt_of_le h1 h2
            omega
          have v1 : IntKind.i64.wrap (10 * v) = 10 * v := IntWalk.i64_in _ (by omega)
          have v2 : IntKind.i64.wrap (10 * v + ((d.toNat : Int) - 48)) = 10 * v + ((d.toNat : Int) - 48) := IntWalk.i64_in _ (by omega)
          have HV2 := Lib.hid (show 10 * v + ((d.toNat : Int) - 48) = (num ((t.drop p).take (k + 1)) : Int) by rw [HSN.out, num_snoc]; omega)
          clear hv9 h10
          go_wp2_with (go_at_call 34; refine (C2.out _).mono ?_; rintro e w1 ⟨rfl, rfl⟩)
          go_roundw
          case rel => exact ⟨k + 1, 10 * v + ((d.toNat : Int) - 48), by omega, by omega, by simp, by simp, by omega, by omega, fun _ => HV2.out, HN.out, trivial⟩
          case measure => simp [intOf]; omega
        · have j1 : ¬ (k : Int) < 10 := by omega
          have HK := Lib.hid h10
          clear h10
          go_wp2_with (go_at_call 34; refine (C2.out _).mono ?_; rintro e w1 ⟨rfl, rfl⟩)
          go_roundw
          case rel => exact ⟨k + 1, v, by omega, by omega, by simp, by simp, by omega, by omega, (fun q => absurd q (by have := HK.out; omega)), HN.out, trivial⟩
          case measure => simp [intOf]; omega
    · have hGk : G = k := by rw [tw_end Dg (by omega)] at hg; omega
      have i2 : ¬ (p : Int) + (k : Int) < (t.length : Int) := by omega
      clear hg
      subst hGk
      by_cases h10 : 10 < G
      · have j1 : (10 : Int) < (G : Int) := by omega
        have HF := Lib.hid (show R.2.2 = 6 by rw [HT.out, if_pos (.inl h10)]; rfl)
        clear h10
        go_wp2_with fail
        exact bodyPost_ret (v := .tuple #[tokV 0 [] 0 0, .int .i64 0, .int .i64 6]) (by simp [results, Tryd.results20, go_sem]) rfl (rf_bad HF.out (by decide) (below_box _ _))
      · have j1 : ¬ (10 : Int) < (G : Int) := by omega
        have hval : v = (num x : Int) := by rw [HV.out (by omega), HX.out]
        have HF := Lib.hid (show R = ((2, x, v), G, 0) by rw [HT.out, if_neg (fun q => q.elim h10 (fun ⟨s, q1, q2⟩ => by rw [List.drop_eq_nil_of_le (by omega)] at q1; simp at q1)), hval])
        clear h10 hval
        go_wp2_with fail
        exact bodyPost_ret (v := .tuple #[tokV 2 x v (p : Int), .int .i64 (G : Int), .int .i64 0]) (by simp [results, Tryd.results20, go_sem]) rfl (rf_ok HF.out (below_box _ _))
theorem tok_ct (r : Txt) : (tok (34 :: r)).2.2 = (ctT r).2.2 ∧ ((ctT r).2.2 = 0 → tok (34 :: r) = ((3, (ctT r).1, 0), (ctT r).2.1, 0)) := by
  rw [L7.tok_text]
  unfold ctT
  by_cases h : (con r).2.2 ≠ 0
  · rw [if_pos h, if_pos h]
    exact ⟨rfl, fun q => absurd q h⟩
  · rw [if_neg h, if_neg h]
    by_cases h2 : 200 < (con r).1.length
    · rw [if_pos h2, if_pos h2]
      exact ⟨rfl, fun q => by simp at q⟩
    · rw [if_neg h2, if_neg h2]
      exact ⟨rfl, fun _ => rfl⟩
set_option maxRecDepth 100000 in
set_option maxHeartbeats 8000000 in
theorem token_text (t : Txt) (p : Nat) (hp : p < t.length) (htl : t.length ≤ 90000) (c : UInt8) (hc : t[p] = c) (h34 : c = 34) (w : World) :
    Calls Tryd.prog 20 #[str t, .int .i64 (p : Int)] w (RfPost w (tok (t.drop p)) p) := by
  have hsz := sz t
  obtain ⟨R, hR⟩ : ∃ R, tok (t.drop p) = R := ⟨_, rfl⟩
  have hdr : t.drop p = c :: t.drop (p + 1) := by rw [List.drop_eq_getElem_cons hp, hc]
  have hct := tok_ct (t.drop (p + 1))
  rw [← h34, ← hdr, hR] at hct
  have C3 := Lib.hid (fun W => content_rf t p hp htl W)
  obtain ⟨⟨x, n, er⟩, hx⟩ : ∃ y, ctT (t.drop (p + 1)) = y := ⟨_, rfl⟩
  rw [hx] at hct C3
  have HT := Lib.hid hct
  have hc34 : t[p] = 34 := hc.trans h34
  have C1 := Lib.hid (fun W => (show Calls Tryd.prog 32 #[.int .u8 34] W (fun e w' => e = .returned (.bool false) ∧ W = w') from letter_rf 34 W))
  have C0 := Lib.hid (fun W => (show Calls Tryd.prog 34 #[.int .u8 34] W (fun e w' => e = .returned (.bool false) ∧ W = w') from digit_rf 34 W))
  have ex0 : ∀ h, (⟨t.toArray⟩ : ByteArray)[p]'h = 34 := fun _ => hc34
  have p0 : (0 : Int) ≤ (p : Int) := by omega
  have p1 : (p : Int) < (t.length : Int) := by omega
  rw [hR]
  clear hR hdr hct hx hc34 h34 hc
  go_enter Tryd.func20, Tryd.ntmps20
  go_wp2_with (first | (go_at_call 32; refine (C1.out _).mono ?_; rintro e w1 ⟨rfl, rfl⟩) | (go_at_call 34; refine (C0.out _).mono ?_; rintro e w1 ⟨rfl, rfl⟩))
  refine (C3.out _).mono ?_
  rintro e w1 ⟨rfl, hb1⟩
  obtain ⟨c0, c1, c2, c3, f0, f1, f2, f3⟩ := (own4_new w (.int .i64 0) (str []) (.int .i64 0) (.int .i64 0) 30).below hb1
  have HB := Lib.hid (below_up (below_box w _) hb1 (by simp))
  clear hb1
  by_cases he : er = 0
  · subst he
    have HF := Lib.hid (HT.out.2 rfl)
    go_wp2_with fail
    exact bodyPost_ret (v := .tuple #[tokV 3 x 0 (p : Int), .int .i64 (n : Int), .int .i64 0]) (by simp [results, Tryd.results20, go_sem, c0, c1, c2, c3]) rfl (rf_ok HF.out ((((HB.out.setCell (Nat.le_refl _) _).setCell (Nat.le_refl _) _).setCell (Nat.le_refl _) _).setCell (Nat.le_refl _) _))
  · have d1 : ((er : Int) != 0) = true := by simpa using he
    have HE := Lib.hid he
    clear he
    go_wp2_with fail
    exact bodyPost_ret (v := .tuple #[tokV 0 [] 0 0, .int .i64 0, .int .i64 er]) (by simp [results, Tryd.results20, go_sem, c0, c1, c2, c3]) rfl (rf_bad HT.out.1 HE.out ((((HB.out.setCell (Nat.le_refl _) _).setCell (Nat.le_refl _) _).setCell (Nat.le_refl _) _).setCell (Nat.le_refl _) _))
set_option maxRecDepth 100000 in
set_option maxHeartbeats 8000000 in
theorem token_symbol (t : Txt) (p : Nat) (hp : p < t.length) (htl : t.length ≤ 90000) (c : UInt8) (hc : t[p] = c) (hl : Lt c = false) (hd0 : Dg c = false) (h34 : c ≠ 34) (w : World) :
    Calls Tryd.prog 20 #[str t, .int .i64 (p : Int)] w (RfPost w (tok (t.drop p)) p) := by
  have hsz := sz t
  obtain ⟨R, hR⟩ : ∃ R, tok (t.drop p) = R := ⟨_, rfl⟩
  have hdr : t.drop p = c :: t.drop (p + 1) := by rw [List.drop_eq_getElem_cons hp, hc]
  have ht : R = if symN (t.drop p) = 0 then L7.bad 5 else ((4, (t.drop p).take (symN (t.drop p)), 0), symN (t.drop p), 0) := by rw [← hR, hdr]; exact L7.tok_sym (by simp [hl]) (by simp [hd0]) h34
  have C3 := Lib.hid (fun W => symbol_rf t p hp (by omega) W)
  have hsl : p + symN (t.drop p) ≤ t.length := by
    have hL : (t.drop p).length = t.length - p := List.length_drop
    rw [hdr] at hL ⊢
    rcases L7.symN_cases c (t.drop (p + 1)) with ⟨e, y, hy, _⟩ | ⟨e, _⟩ | e
    · rw [e]
      rw [hy] at hL
      simp at hL
      omega
    · rw [e]; omega
    · rw [e]; omega
  obtain ⟨n, hn⟩ : ∃ n, symN (t.drop p) = n := ⟨_, rfl⟩
  rw [hn] at C3 hsl ht
  have xt := ext_pq t p n
  obtain ⟨x, hx⟩ : ∃ x, (t.drop p).take n = x := ⟨_, rfl⟩
  rw [hx] at xt ht
  have HT := Lib.hid ht
  have d34 : ((c.toNat : Int) == 34) = false := by rw [beq_eq_false_iff_ne]; exact fun e => h34 (eq_of_int (d := 34) e)
  have C1 := Lib.hid (fun W => (show Calls Tryd.prog 32 #[.int .u8 (c.toNat : Int)] W (fun e w' => e = .returned (.bool false) ∧ W = w') by rw [← hl]; exact letter_rf c W))
  have C0 := Lib.hid (fun W => (show Calls Tryd.prog 34 #[.int .u8 (c.toNat : Int)] W (fun e w' => e = .returned (.bool false) ∧ W = w') by rw [← hd0]; exact digit_rf c W))
  have ex0 : ∀ h, (⟨t.toArray⟩ : ByteArray)[p]'h = c := fun _ => hc
  have p0 : (0 : Int) ≤ (p : Int) := by omega
  have p1 : (p : Int) < (t.length : Int) := by omega
  have i3 : IntKind.i64.wrap ((p : Int) + (n : Int)) = (p : Int) + (n : Int) := IntWalk.i64_in _ (by omega)
  rw [hR]
  clear hR ht hdr hn hx hl hd0 h34 hc
  go_enter Tryd.func20, Tryd.ntmps20
  go_wp2_with (first | (go_at_call 32; refine (C1.out _).mono ?_; rintro e w1 ⟨rfl, rfl⟩) | (go_at_call 34; refine (C0.out _).mono ?_; rintro e w1 ⟨rfl, rfl⟩))
  refine (C3.out _).mono ?_
  rintro e w1 ⟨rfl, hb1⟩
  obtain ⟨c0, c1, c2, c3, f0, f1, f2, f3⟩ := (own4_new w (.int .i64 0) (str []) (.int .i64 0) (.int .i64 0) 30).below hb1
  have HB := Lib.hid (below_up (below_box w _) hb1 (by simp))
  clear hb1
  by_cases he : n = 0
  · have d1 : ((n : Int) == 0) = true := by rw [beq_iff_eq]; omega
    have HF := Lib.hid (show R.2.2 = 5 by rw [HT.out, if_pos he]; rfl)
    clear he
    go_wp2_with fail
    exact bodyPost_ret (v := .tuple #[tokV 0 [] 0 0, .int .i64 0, .int .i64 5]) (by simp [results, Tryd.results20, go_sem, c0, c1, c2, c3]) rfl (rf_bad HF.out (by decide) ((((HB.out.setCell (Nat.le_refl _) _).setCell (Nat.le_refl _) _).setCell (Nat.le_refl _) _).setCell (Nat.le_refl _) _))
  · have d1 : ((n : Int) == 0) = false := by rw [beq_eq_false_iff_ne]; omega
    have HF := Lib.hid (show R = ((4, x, 0), n, 0) by rw [HT.out, if_neg he])
    clear he
    go_wp2_with fail
    exact bodyPost_ret (v := .tuple #[tokV 4 x 0 (p : Int), .int .i64 (n : Int), .int .i64 0]) (by simp [results, Tryd.results20, go_sem, c0, c1, c2, c3]) rfl (rf_ok HF.out ((((HB.out.setCell (Nat.le_refl _) _).setCell (Nat.le_refl _) _).setCell (Nat.le_refl _) _).setCell (Nat.le_refl _) _))
theorem token_rf (t : Txt) (p : Nat) (hp : p < t.length) (htl : t.length ≤ 90000) (w : World) :
    Calls Tryd.prog 20 #[str t, .int .i64 (p : Int)] w (RfPost w (tok (t.drop p)) p) := by
  cases hl : Lt t[p]
  · cases hd : Dg t[p]
    · by_cases h34 : t[p] = 34
      · exact token_text t p hp htl _ rfl h34 w
      · exact token_symbol t p hp htl _ rfl hl hd h34 w
    · exact token_number t p hp htl _ rfl hl hd w
  · exact token_name t p hp htl _ rfl hl w
end Go.Proofs.YtblgfillaenemaaDoor
