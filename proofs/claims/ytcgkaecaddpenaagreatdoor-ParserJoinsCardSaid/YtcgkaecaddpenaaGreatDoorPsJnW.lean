/- ParserJoins, walked. -/
import Derived.Test.YtcgkaecaddpenaaGreatDoorPsJnM
import Derived.Test.YtcgkaecaddpenaaGreatDoorPsSameGb
import Derived.Test.YtcgkaecaddpenaaGreatDoorPsHlp
namespace Go.Proofs.YtcgkaecaddpenaaGreatDoor
open Go.RowKit
open L7 (Tk lexT lx gap)
open L8
set_option linter.unusedSimpArgs false

set_option maxRecDepth 100000 in
set_option maxHeartbeats 8000000 in
theorem join_long (t u : Txt) (h : 2000 < t.length) (w : World) : Calls Tryz.prog 4 #[str t, str u] w (fun e w' => e = .returned (.bool true) ∧ Below w.heap.size w w') := by
  have hsz := sz t
  have hsu := sz u
  have d : (2000 : Int) < (t.length : Int) := by omega
  clear h
  go_enter Tryz.func4, Tryz.ntmps4
  go_wp2_with fail
  refine (head_any _).mono ?_
  rintro e w1 ⟨rfl, hb1⟩
  have HB1 := Lib.hid hb1
  clear hb1
  go_wp2_with fail
  go_ret
  exact ⟨rfl, HB1.out⟩
set_option maxRecDepth 100000 in
set_option maxHeartbeats 8000000 in
theorem join_long2 (t u : Txt) (h : t.length ≤ 2000) (h2 : 2000 < u.length) (w : World) : Calls Tryz.prog 4 #[str t, str u] w (fun e w' => e = .returned (.bool true) ∧ Below w.heap.size w w') := by
  have hsz := sz t
  have hsu := sz u
  have d : ¬ (2000 : Int) < (t.length : Int) := by omega
  have d2 : (2000 : Int) < (u.length : Int) := by omega
  clear h h2
  go_enter Tryz.func4, Tryz.ntmps4
  go_wp2_with fail
  refine (head_any _).mono ?_
  rintro e w1 ⟨rfl, hb1⟩
  have HB1 := Lib.hid hb1
  clear hb1
  go_wp2_with fail
  go_ret
  exact ⟨rfl, HB1.out⟩
set_option maxRecDepth 100000 in
set_option maxHeartbeats 8000000 in
theorem join_err (t u : Txt) (h : t.length ≤ 2000) (h2 : u.length ≤ 2000) {a b : List It} {er er2 x y : Int} (hp : parseT t = (a, er, x)) (hp2 : parseT u = (b, er2, y)) (he : er ≠ 0) (w : World) : Calls Tryz.prog 4 #[str t, str u] w (fun e w' => e = .returned (.bool true) ∧ Below w.heap.size w w') := by
  have hsz := sz t
  have hsu := sz u
  have d : ¬ (2000 : Int) < (t.length : Int) := by omega
  have d2 : ¬ (2000 : Int) < (u.length : Int) := by omega
  have C := Lib.hid (fun W => hps t _ (by omega) hp W)
  have C3 := Lib.hid (fun W => hps u _ (by omega) hp2 W)
  have d4 : (er != 0) = true := by simpa using he
  clear h h2 he hp hp2
  go_enter Tryz.func4, Tryz.ntmps4
  go_wp2_with fail
  refine (head_any _).mono ?_
  rintro e w1 ⟨rfl, hb1⟩
  have HB1 := Lib.hid hb1
  clear hb1
  go_wp2_with fail
  refine (C.out _).mono ?_
  rintro e w2 ⟨v2, rfl, hi2, hb2⟩
  have HB2 := Lib.hid hb2
  clear hb2
  obtain ⟨A2, c2, rfl, hc2⟩ := Slc.form hi2
  clear hi2
  go_wp2_with fail
  refine (C3.out _).mono ?_
  rintro e w3 ⟨v3, rfl, hi3, hb3⟩
  have HB3 := Lib.hid hb3
  clear hb3
  obtain ⟨A3, c3, rfl, hc3⟩ := Slc.form hi3
  clear hi3
  go_wp2_with fail
  go_ret
  exact ⟨rfl, below2 (below2b (below2 HB1.out HB2.out) HB3.out) (below_box _ _)⟩
set_option maxRecDepth 100000 in
set_option maxHeartbeats 8000000 in
theorem join_err2 (t u : Txt) (h : t.length ≤ 2000) (h2 : u.length ≤ 2000) {a b : List It} {er2 x y : Int} (hp : parseT t = (a, 0, x)) (hp2 : parseT u = (b, er2, y)) (he : er2 ≠ 0) (w : World) : Calls Tryz.prog 4 #[str t, str u] w (fun e w' => e = .returned (.bool true) ∧ Below w.heap.size w w') := by
  have hsz := sz t
  have hsu := sz u
  have d : ¬ (2000 : Int) < (t.length : Int) := by omega
  have d2 : ¬ (2000 : Int) < (u.length : Int) := by omega
  have C := Lib.hid (fun W => hps t _ (by omega) hp W)
  have C3 := Lib.hid (fun W => hps u _ (by omega) hp2 W)
  have d4 : (er2 != 0) = true := by simpa using he
  clear h h2 he hp hp2
  go_enter Tryz.func4, Tryz.ntmps4
  go_wp2_with fail
  refine (head_any _).mono ?_
  rintro e w1 ⟨rfl, hb1⟩
  have HB1 := Lib.hid hb1
  clear hb1
  go_wp2_with fail
  refine (C.out _).mono ?_
  rintro e w2 ⟨v2, rfl, hi2, hb2⟩
  have HB2 := Lib.hid hb2
  clear hb2
  obtain ⟨A2, c2, rfl, hc2⟩ := Slc.form hi2
  clear hi2
  go_wp2_with fail
  refine (C3.out _).mono ?_
  rintro e w3 ⟨v3, rfl, hi3, hb3⟩
  have HB3 := Lib.hid hb3
  clear hb3
  obtain ⟨A3, c3, rfl, hc3⟩ := Slc.form hi3
  clear hi3
  go_wp2_with fail
  go_ret
  exact ⟨rfl, below2 (below2b (below2 HB1.out HB2.out) HB3.out) (below_box _ _)⟩
set_option maxRecDepth 100000 in
set_option maxHeartbeats 8000000 in
theorem join_many (t u : Txt) (h : t.length ≤ 2000) (h2 : u.length ≤ 2000) {a b : List It} {x y : Int} (hp : parseT t = (a, 0, x)) (hp2 : parseT u = (b, 0, y)) (hm : 200 < a.length + b.length) (w : World) : Calls Tryz.prog 4 #[str t, str u] w (fun e w' => e = .returned (.bool true) ∧ Below w.heap.size w w') := by
  have hsz := sz t
  have hsu := sz u
  have d : ¬ (2000 : Int) < (t.length : Int) := by omega
  have d2 : ¬ (2000 : Int) < (u.length : Int) := by omega
  have C := Lib.hid (fun W => hps t _ (by omega) hp W)
  have C3 := Lib.hid (fun W => hps u _ (by omega) hp2 W)
  have hal := (show a.length ≤ 200 from by obtain ⟨l, _, _, q, _, q2, _⟩ := parse_ok hp; exact (items_app 200 l a [] q2 q).2.1)
  have hbl := (show b.length ≤ 200 from by obtain ⟨l, _, _, q, _, q2, _⟩ := parse_ok hp2; exact (items_app 200 l b [] q2 q).2.1)
  have d4 : IntKind.i64.wrap ((a.length : Int) + (b.length : Int)) = (a.length : Int) + (b.length : Int) := IntWalk.i64_in _ (by omega)
  have d5 : (200 : Int) < (a.length : Int) + (b.length : Int) := by omega
  clear h h2 hm hp hp2
  go_enter Tryz.func4, Tryz.ntmps4
  go_wp2_with fail
  refine (head_any _).mono ?_
  rintro e w1 ⟨rfl, hb1⟩
  have HB1 := Lib.hid hb1
  clear hb1
  go_wp2_with fail
  refine (C.out _).mono ?_
  rintro e w2 ⟨v2, rfl, hi2, hb2⟩
  have HB2 := Lib.hid hb2
  clear hb2
  obtain ⟨A2, c2, rfl, hc2⟩ := Slc.form hi2
  clear hi2
  go_wp2_with fail
  refine (C3.out _).mono ?_
  rintro e w3 ⟨v3, rfl, hi3, hb3⟩
  have HB3 := Lib.hid hb3
  clear hb3
  obtain ⟨A3, c3, rfl, hc3⟩ := Slc.form hi3
  clear hi3
  have g0 : ((w3.alloc (.cells #[.slice A3 b.length c3] 29))).cell? ⟨w2.heap.size, 0, none⟩ = some (.slice A2 a.length c2) := cellB (below_box _ _) (cellB HB3.out (show (w2.alloc (.cells #[.slice A2 a.length c2] 29)).cell? ⟨w2.heap.size, 0, none⟩ = some (.slice A2 a.length c2) by simp [go_sem]))
  go_wp2_with fail
  go_ret
  exact ⟨rfl, below2 (below2b (below2 HB1.out HB2.out) HB3.out) (below_box _ _)⟩
set_option maxRecDepth 100000 in
set_option maxHeartbeats 8000000 in
theorem join_ok (t u : Txt) (h : t.length ≤ 2000) (h2 : u.length ≤ 2000) {a b : List It} {x y : Int} (hp : parseT t = (a, 0, x)) (hp2 : parseT u = (b, 0, y)) (hm : a.length + b.length ≤ 200) (w : World) : Calls Tryz.prog 4 #[str t, str u] w (fun e w' => e = .returned (.bool true) ∧ Below w.heap.size w w') := by
  have hsz := sz t
  have hsu := sz u
  have d : ¬ (2000 : Int) < (t.length : Int) := by omega
  have d2 : ¬ (2000 : Int) < (u.length : Int) := by omega
  have C := Lib.hid (fun W => hps t _ (by omega) hp W)
  have C3 := Lib.hid (fun W => hps u _ (by omega) hp2 W)
  obtain ⟨l, hl, hle⟩ := joins_math h h2 hp hp2 hm
  have C5 := Lib.hid (fun W => hps (t ++ 10 :: u) _ (by simp; omega) hl W)
  have ZS := Lib.hid (parse_size hl)
  have hll : l.length = (a ++ b).length := by have := congrArg List.length hle; simpa using this
  have HE := Lib.hid (show ∀ i (p : i < l.length) (q : i < (a ++ b).length), EqI false l[i] (a ++ b)[i] from fun i p q => by
    have e : (l.map eraI)[i]'(by simpa using p) = ((a ++ b).map eraI)[i]'(by simpa using q) := by simp only [hle]
    rw [List.getElem_map, List.getElem_map] at e
    exact e)
  have HLL := Lib.hid hll
  have d4 : IntKind.i64.wrap ((a.length : Int) + (b.length : Int)) = (a.length : Int) + (b.length : Int) := IntWalk.i64_in _ (by omega)
  have d5 : ¬ (200 : Int) < (a.length : Int) + (b.length : Int) := by omega
  have HM := Lib.hid hm
  have q1 : (9223372036854775807 < t.length + 1) = False := eq_false (by omega)
  have q2 : (9223372036854775807 < t.length + 1 + u.length) = False := eq_false (by omega)
  clear h h2 hm hp hp2 hl hle hll
  go_enter Tryz.func4, Tryz.ntmps4
  go_wp2_with fail
  refine (head_any _).mono ?_
  rintro e w1 ⟨rfl, hb1⟩
  have HB1 := Lib.hid hb1
  clear hb1
  go_wp2_with fail
  refine (C.out _).mono ?_
  rintro e w2 ⟨v2, rfl, hi2, hb2⟩
  have HB2 := Lib.hid hb2
  clear hb2
  have HI2 := Lib.hid hi2
  obtain ⟨A2, c2, rfl, hc2⟩ := Slc.form hi2
  clear hi2
  go_wp2_with fail
  refine (C3.out _).mono ?_
  rintro e w3 ⟨v3, rfl, hi3, hb3⟩
  have HB3 := Lib.hid hb3
  clear hb3
  have HI3 := Lib.hid hi3
  obtain ⟨A3, c3, rfl, hc3⟩ := Slc.form hi3
  clear hi3
  have g0 : ((w3.alloc (.cells #[.slice A3 b.length c3] 29))).cell? ⟨w2.heap.size, 0, none⟩ = some (.slice A2 a.length c2) := cellB (below_box _ _) (cellB HB3.out (show (w2.alloc (.cells #[.slice A2 a.length c2] 29)).cell? ⟨w2.heap.size, 0, none⟩ = some (.slice A2 a.length c2) by simp [go_sem]))
  have g1 : ((w3.alloc (.cells #[.slice A3 b.length c3] 29))).cell? ⟨w3.heap.size, 0, none⟩ = some (.slice A3 b.length c3) := by simp [go_sem]
  go_wp2_with fail
  refine (calls_str (str_eq (by simp)) (C5.out _)).mono ?_
  rintro e w5 ⟨v5, rfl, hi5, hb5⟩
  have HB5 := Lib.hid hb5
  have HI5 := Lib.hid hi5
  obtain ⟨A5, c5, rfl, hc5⟩ := Slc.form hi5
  have g2 := cellB hb5 g0
  have g3 := cellB hb5 g1
  clear hi5 hb5 g0 g1
  go_wp2_with fail
  obtain ⟨W, hW⟩ : ∃ W, w5.alloc (.cells #[.slice A5 l.length c5] 29) = W := ⟨_, rfl⟩
  have f0 : W.cell? ⟨w5.heap.size, 0, none⟩ = some (.slice A5 l.length c5) := by rw [← hW]; simp [go_sem]
  have f1 : W.cell? ⟨w2.heap.size, 0, none⟩ = some (.slice A2 a.length c2) := by rw [← hW]; exact cellB (below_box _ _) g2
  have f2 : W.cell? ⟨w3.heap.size, 0, none⟩ = some (.slice A3 b.length c3) := by rw [← hW]; exact cellB (below_box _ _) g3
  have HBW := Lib.hid (show Below w5.heap.size w5 W from hW ▸ below_box _ _)
  rw [hW]
  clear hW g2 g3
  have BW3 := Lib.hid (show Below w3.heap.size w3 W from below2 (below_from HB5.out) HBW.out)
  have BW2 := Lib.hid (show Below w2.heap.size w2 W from below2 (below_from HB3.out) BW3.out)
  have BW0 := Lib.hid (show Below w.heap.size w W from below2 (below2 HB1.out HB2.out) BW2.out)
  obtain ⟨A2', c2', za, ea, la, sa, ma⟩ := HI2.out.src
  injection ea with ea1 ea2 ea3
  subst ea1 ea3
  obtain ⟨A3', c3', zb, eb, lb, sb, mb⟩ := HI3.out.src
  injection eb with eb1 eb2 eb3
  subst eb1 eb3
  have SA := Lib.hid sa
  have SB := Lib.hid sb
  have ZA := Lib.hid (show za.length = a.length ∧ ∀ (W2 : World) (v : Value), Below W.heap.size W W2 → (∀ j, v.ownBlock = some j → W.heap.size ≤ j) → ∀ x ∈ a.zip za, ItS w.heap.size W2 v x.1 x.2 from ⟨la, fun W2 v h1 h2 x hx => (ma x hx).its2 HB1.out.size (below2 BW2.out h1) (fun j hj => Nat.le_trans BW2.out.size (h2 j hj))⟩)
  have ZB := Lib.hid (show zb.length = b.length ∧ ∀ (W2 : World) (v : Value), Below W.heap.size W W2 → (∀ j, v.ownBlock = some j → W.heap.size ≤ j) → ∀ x ∈ b.zip zb, ItS w.heap.size W2 v x.1 x.2 from ⟨lb, fun W2 v h1 h2 x hx => (mb x hx).its2 (Nat.le_trans (below2 HB1.out HB2.out).size (by simp)) (below2 BW3.out h1) (fun j hj => Nat.le_trans BW3.out.size (h2 j hj))⟩)
  clear ea2 eb2 la sa ma lb sb mb
  go_region_held3 (fun w' => w'.cell? ⟨w5.heap.size, 0, none⟩ = some (.slice A5 l.length c5) ∧ w'.cell? ⟨w2.heap.size, 0, none⟩ = some (.slice A2 a.length c2) ∧ w'.cell? ⟨w3.heap.size, 0, none⟩ = some (.slice A3 b.length c3)) (go_keep) ((first
    | (refine step_appI elemIt rfl (.tmp 64) (.tmp 66) rfl (base := w.heap.size) (by rfl) (own_below (World.ownsRow_made W #[] 0 BW0.out.size (by decide) rfl) (below_drew _)) (by rfl) (SA.out.below (below2 BW2.out (below2 (below_box W _) (below_drew _)))) (by have := HM.out; omega) (Nat.le_trans BW0.out.size (by simp)) ?_; intro v7 w7 hown hg hat; have ST := OwnIts.step (W := W) (acc := []) (zs := []) (l := a) (ys := za) rfl ZA.out.1 (fun x hx => by cases hx) (ZA.out.2 _ _ (below2 (below_box W _) (below_drew _)) (fun j hj => by simp [Value.ownBlock] at hj; omega)) hown hg hat (below2 (below_box W _) (below_drew _)) (fun j hj => by simp [Value.ownBlock] at hj; omega); obtain ⟨A7, c7, rfl⟩ := own_isSl hown; obtain ⟨ow, be, hv7⟩ := ST; obtain ⟨z7, e7, o7, i7⟩ := ow; have OW7 := Lib.hid o7; have IT7 := Lib.hid (And.intro e7 i7); have BE7 := Lib.hid be; have HV7 := Lib.hid hv7; have f0' := cellB be f0; have f1' := cellB be f1; have f2' := cellB be f2; clear hown hg hat o7 e7 i7 be hv7)
    | (refine step_appI elemIt rfl (.tmp 67) (.tmp 69) rfl (base := w.heap.size) (by rfl) OW7.out (by rfl) (SB.out.below (below2 BW3.out BE7.out)) (by have := HM.out; simp; omega) (Nat.le_trans BW0.out.size BE7.out.size) ?_; intro v8 w8 hown hg hat; have ST := OwnIts.step (W := W) (acc := [] ++ a) (zs := z7) (l := b) (ys := zb) IT7.out.1 ZB.out.1 IT7.out.2 (ZB.out.2 _ _ BE7.out HV7.out) hown hg hat BE7.out HV7.out; obtain ⟨A8, c8, rfl⟩ := own_isSl hown; have OW8 := Lib.hid ST.1; have BE8 := Lib.hid ST.2.1; have f0' := cellB ST.2.1 f0; have f1' := cellB ST.2.1 f1; have f2' := cellB ST.2.1 f2; clear hown hg hat ST)))
  have I8 := Lib.hid (show Its w.heap.size w8 (.slice A8 (a.length + b.length) c8) (a ++ b) from by simpa using OW8.out.its)

  have SI := Lib.hid (fun W2 (hb : Below w8.heap.size w8 W2) => items_same_b l (a ++ b) (.slice A5 l.length c5) (.slice A8 (a.length + b.length) c8) _ _ HLL.out HE.out ZS.out (by have h1 := HLL.out; have h2 := HM.out; rw [List.length_append] at h1; omega) W2 (HI5.out.below (below2 (below2 HBW.out BE8.out) hb)) (I8.out.below hb))
  go_wp2_with fail
  refine (SI.out _ (by first | exact Below.refl _ _ | exact below_drew _ | exact below_drewN _ _ _)).mono ?_
  rintro e w9 ⟨rfl, hb9⟩
  have E9 := Lib.hid hb9
  clear hb9
  go_wp2_with fail
  go_ret
  exact ⟨rfl, below2 (below2 BW0.out BE8.out) E9.out⟩
theorem join_law (t u : Txt) (w : World) : Calls Tryz.prog 4 #[str t, str u] w (fun e w' => e = .returned (.bool true) ∧ Below w.heap.size w w') := by
  by_cases h : 2000 < t.length
  · exact join_long t u h w
  · by_cases h2 : 2000 < u.length
    · exact join_long2 t u (by omega) h2 w
    · obtain ⟨⟨a, er, x⟩, hp⟩ : ∃ z, parseT t = z := ⟨_, rfl⟩
      obtain ⟨⟨b, er2, y⟩, hp2⟩ : ∃ z, parseT u = z := ⟨_, rfl⟩
      by_cases he : er = 0
      · subst he
        by_cases he2 : er2 = 0
        · subst he2
          by_cases hm : 200 < a.length + b.length
          · exact join_many t u (by omega) (by omega) hp hp2 hm w
          · exact join_ok t u (by omega) (by omega) hp hp2 (by omega) w
        · exact join_err2 t u (by omega) (by omega) hp hp2 he2 w
      · exact join_err t u (by omega) (by omega) hp hp2 he w
end Go.Proofs.YtcgkaecaddpenaaGreatDoor
