/- The program's readers of what comes behind the first kid of an operation. -/
import Derived.Test.YtcgkaecaddpenaaGreatDoorPsPgP
namespace Go.Proofs.YtcgkaecaddpenaaGreatDoor
open Go.RowKit
open L7 (Tk)
open L8
set_option linter.unusedSimpArgs false

/-- An expression, as a value. -/
def isEx (D : Nat) (w : World) (v : Value) (e : Ex) : Prop := ∃ ks cs ns, v = .agg (exL (hd e) ks cs ns).toArray ∧ ExC D w e ks cs ns
/-- What may differ: the parser's block, block q, block k. -/
abbrev S2 (g q : Nat) : Nat → Prop := fun b => b = g ∨ b = q
abbrev S3 (g q k : Nat) : Nat → Prop := fun b => b = g ∨ b = q ∨ b = k
abbrev Near2 (g q k : Nat) (w w' : World) : Prop := Tch (S3 g q k) w w'
/-- What a function of the parser leaves that writes into an expression in block q. -/
def PPostX {α : Type} (p : Ps) (S : Nat → Prop) (q : Nat) (lv : Int) (w : World) (V : World → Array Value → α → Prop) (R : Res α) (e : Ending) (w' : World) : Prop :=
  match R with
  | .ok a r => e = .returned (.tuple #[]) ∧ (∃ cs, Blk w' q 49 cs ∧ V w' cs a) ∧ Sta w' p r lv ∧ Tch S w w'
  | .bad b r => e = Pf (errOf b r) (atOf p.n r) ∧ Tch S w w'
theorem px_ok {α : Type} {p : Ps} {S : Nat → Prop} {q : Nat} {lv : Int} {w : World} {V : World → Array Value → α → Prop} {R : Res α} {a : α} {r : List Tk} (h : R = .ok a r) {e : Ending} {w' : World} (hp : PPostX p S q lv w V R e w') :
    e = .returned (.tuple #[]) ∧ (∃ cs, Blk w' q 49 cs ∧ V w' cs a) ∧ Sta w' p r lv ∧ Tch S w w' := by
  subst h
  exact hp
theorem px_bad {α : Type} {p : Ps} {S : Nat → Prop} {q : Nat} {lv : Int} {w : World} {V : World → Array Value → α → Prop} {R : Res α} {b : Bool} {r : List Tk} (h : R = .bad b r) {e : Ending} {w' : World} (hp : PPostX p S q lv w V R e w') :
    e = Pf (errOf b r) (atOf p.n r) ∧ Tch S w w' := by
  subst h
  exact hp
theorem px_of_ok {α : Type} {p : Ps} {S : Nat → Prop} {q : Nat} {lv : Int} {w : World} {V : World → Array Value → α → Prop} {R : Res α} {a : α} {r : List Tk} (h : R = .ok a r) {w' : World} {cs : Array Value} (hB : Blk w' q 49 cs) (hV : V w' cs a) (hs : Sta w' p r lv) (hn : Tch S w w') : PPostX p S q lv w V R (.returned (.tuple #[])) w' := by
  subst h
  exact ⟨rfl, ⟨cs, hB, hV⟩, hs, hn⟩
theorem px_of_bad {α : Type} {p : Ps} {S : Nat → Prop} {q : Nat} {lv : Int} {w : World} {V : World → Array Value → α → Prop} {R : Res α} {b : Bool} {r : List Tk} (h : R = .bad b r) {w' : World} (hn : Tch S w w') : PPostX p S q lv w V R (Pf (errOf b r) (atOf p.n r)) w' := by
  subst h
  exact ⟨rfl, hn⟩
/-- The operation has one kid: its cells. -/
def isOne (D : Nat) (a : Ex) (ks : Value) (w : World) (cells : Array Value) (x : Ex) : Prop := ∃ h cs ns, x = .e1 h a ∧ cells = (exL h ks cs ns).toArray ∧ Lst D 14 cndC w cs h.conds ∧ Lst D 1 txtC w ns h.names
set_option maxRecDepth 100000 in
set_option maxHeartbeats 8000000 in
theorem sel_any {p : Ps} {r : List Tk} {lv : Int} {B kb : Nat} {at0 : Int} (a : Ex) (ex : P Ex) (w : World) (h : Sta w p r lv) (hg : p.g < B) (hb : p.b < B) (hB : Blk w B 49 #[.int .i64 2, str [], .slice (some ⟨kb, 0, none⟩) 1 1, .slice none 0 0, .slice none 0 0, str [], str [], .int .i64 0, .int .i64 at0]) :
    Calls Tryz.prog 92 #[ptr p.g, .pointer (some ⟨B, 0, none⟩)] w (PPostX p (S2 p.g B) B lv w (isOne w.heap.size a (.slice (some ⟨kb, 0, none⟩) 1 1)) (opP 2 at0 a ex r)) := by
  obtain ⟨R, hR⟩ : ∃ R, opP 2 at0 a ex r = R := ⟨_, rfl⟩
  rw [hR]
  unfold opP at hR
  simp only [ if_true, if_false] at hR
  have R0 := Lib.hid hR.symm
  have S0 := Lib.hid h
  have N0 := Lib.hid (Tch.refl (S2 p.g B) w)
  have GB := Lib.hid (show p.g < B ∧ p.b < B ∧ True ∧ True from ⟨hg, hb, trivial, trivial⟩)
  have BB0 := Lib.hid hB
  obtain ⟨A, hA⟩ : ∃ A, w.heap.size = A := ⟨_, rfl⟩
  have HA := Lib.hid hA
  have HB := Lib.hid (show B = B from rfl)
  have G := Lib.hid (show p.g < A ∧ p.b < A ∧ B < A from by have q1 := h.lt; have q2 := h.lt2; have q3 := hB.lt; rw [hA] at q1 q2 q3; exact ⟨q1, q2, q3⟩)
  rw [hA]
  clear hR h hg hb hB
  go_enter Tryz.func92, Tryz.ntmps92
  go_wp2_with fail
  refine (conds_any _ S0.out).mono ?_
  intro e w1 hp
  rcases h1 : condsP r with ⟨a1, r1⟩ | ⟨b1, r1⟩
  · obtain ⟨v1, rfl, hv1, hs, hn⟩ := ppost_ok h1 hp
    have R1 := Lib.hid (R0.out.trans (bnd_ok h1))
    obtain ⟨D1, hD1⟩ : ∃ x, w.heap.size = x := ⟨_, rfl⟩
    have GD1 := Lib.hid (show p.g < D1 ∧ B < D1 ∧ w.heap.size ≤ D1 from by have q0 := (S0.out).lt; have q1 := (BB0.out).lt; have qq := (N0.out).size; have eB := HB.out; omega)
    rw [hD1] at hv1
    obtain ⟨sA1, sn1, sc1, rfl⟩ := hv1.isSl
    have V1 := Lib.hid hv1
    have K1_1 := Lib.hid (Kept.refl D1 w1)
    clear hv1 hD1
    have S1 := Lib.hid hs
    have hB : Blk w1 B 49 #[.int .i64 2, str [], .slice (some ⟨kb, 0, none⟩) 1 1, .slice none 0 0, .slice none 0 0, str [], str [], .int .i64 0, .int .i64 at0] := BB0.out.near hn (Nat.ne_of_gt GB.out.1)
    have BB1 := Lib.hid hB
    have N1 := Lib.hid (N0.out.trans (hn.wider fun _ _ q => Or.inl q))
    have Y1 := Lib.hid h1
    clear hs hn hp hB h1
    have cB1 := fun i => BB1.out.cell i
    have fB1 := fun i => BB1.out.frozen i
    go_wp2_with fail
    exact bodyPost_ret (v := .tuple #[]) (by simp [results, Tryz.results92, go_sem]) rfl (px_of_ok (R1.out.trans rfl) (BB1.out.set_ 3 (.slice sA1 sn1 sc1)) ⟨{ hk 2 at0 with conds := a1 }, .slice sA1 sn1 sc1, .slice none 0 0, rfl, rfl, ((V1.out.stay len_cnd (K1_1.out.set (p := ⟨B, 3, none⟩) GD1.out.2.1 (.slice sA1 sn1 sc1))).lower (by have q := GD1.out; have e := HA.out; omega)), Lst.nil _⟩ (S1.out.cell (a := ⟨B, 3, none⟩) GB.out.1 GB.out.2.1 (.slice sA1 sn1 sc1)) (Tch.set N1.out (p := ⟨B, 3, none⟩) (Or.inr rfl) (.slice sA1 sn1 sc1)))
  · obtain ⟨rfl, hn⟩ := ppost_bad h1 hp
    exact ⟨rfl, px_of_bad (R0.out.trans (bnd_bad h1)) (N0.out.trans (hn.wider fun _ _ q => Or.inl q))⟩
set_option maxRecDepth 100000 in
set_option maxHeartbeats 8000000 in
theorem proj_any {p : Ps} {r : List Tk} {lv : Int} {B kb : Nat} {at0 : Int} (a : Ex) (ex : P Ex) (w : World) (h : Sta w p r lv) (hg : p.g < B) (hb : p.b < B) (hB : Blk w B 49 #[.int .i64 3, str [], .slice (some ⟨kb, 0, none⟩) 1 1, .slice none 0 0, .slice none 0 0, str [], str [], .int .i64 0, .int .i64 at0]) :
    Calls Tryz.prog 93 #[ptr p.g, .pointer (some ⟨B, 0, none⟩)] w (PPostX p (S2 p.g B) B lv w (isOne w.heap.size a (.slice (some ⟨kb, 0, none⟩) 1 1)) (opP 3 at0 a ex r)) := by
  obtain ⟨R, hR⟩ : ∃ R, opP 3 at0 a ex r = R := ⟨_, rfl⟩
  rw [hR]
  unfold opP at hR
  simp only [show ¬ (3 : Int) = 2 by decide,  if_true, if_false] at hR
  have R0 := Lib.hid hR.symm
  have S0 := Lib.hid h
  have N0 := Lib.hid (Tch.refl (S2 p.g B) w)
  have GB := Lib.hid (show p.g < B ∧ p.b < B ∧ True ∧ True from ⟨hg, hb, trivial, trivial⟩)
  have BB0 := Lib.hid hB
  obtain ⟨A, hA⟩ : ∃ A, w.heap.size = A := ⟨_, rfl⟩
  have HA := Lib.hid hA
  have HB := Lib.hid (show B = B from rfl)
  have G := Lib.hid (show p.g < A ∧ p.b < A ∧ B < A from by have q1 := h.lt; have q2 := h.lt2; have q3 := hB.lt; rw [hA] at q1 q2 q3; exact ⟨q1, q2, q3⟩)
  rw [hA]
  clear hR h hg hb hB
  go_enter Tryz.func93, Tryz.ntmps93
  go_wp2_with fail
  refine (namesUp_any [41] _ S0.out).mono ?_
  intro e w1 hp
  rcases h1 : namesUpP [41] r with ⟨a1, r1⟩ | ⟨b1, r1⟩
  · obtain ⟨v1, rfl, hv1, hs, hn⟩ := ppost_ok h1 hp
    have R1 := Lib.hid (R0.out.trans (bnd_ok h1))
    obtain ⟨D1, hD1⟩ : ∃ x, w.heap.size = x := ⟨_, rfl⟩
    have GD1 := Lib.hid (show p.g < D1 ∧ B < D1 ∧ w.heap.size ≤ D1 from by have q0 := (S0.out).lt; have q1 := (BB0.out).lt; have qq := (N0.out).size; have eB := HB.out; omega)
    rw [hD1] at hv1
    obtain ⟨sA1, sn1, sc1, rfl⟩ := hv1.isSl
    have V1 := Lib.hid hv1
    have K1_1 := Lib.hid (Kept.refl D1 w1)
    clear hv1 hD1
    have S1 := Lib.hid hs
    have hB : Blk w1 B 49 #[.int .i64 3, str [], .slice (some ⟨kb, 0, none⟩) 1 1, .slice none 0 0, .slice none 0 0, str [], str [], .int .i64 0, .int .i64 at0] := BB0.out.near hn (Nat.ne_of_gt GB.out.1)
    have BB1 := Lib.hid hB
    have N1 := Lib.hid (N0.out.trans (hn.wider fun _ _ q => Or.inl q))
    have Y1 := Lib.hid h1
    clear hs hn hp hB h1
    have cB1 := fun i => BB1.out.cell i
    have fB1 := fun i => BB1.out.frozen i
    go_wp2_with fail
    exact bodyPost_ret (v := .tuple #[]) (by simp [results, Tryz.results93, go_sem]) rfl (px_of_ok (R1.out.trans rfl) (BB1.out.set_ 4 (.slice sA1 sn1 sc1)) ⟨{ hk 3 at0 with names := a1 }, .slice none 0 0, .slice sA1 sn1 sc1, rfl, rfl, Lst.nil _, ((V1.out.stay len_txt (K1_1.out.set (p := ⟨B, 4, none⟩) GD1.out.2.1 (.slice sA1 sn1 sc1))).lower (by have q := GD1.out; have e := HA.out; omega))⟩ (S1.out.cell (a := ⟨B, 4, none⟩) GB.out.1 GB.out.2.1 (.slice sA1 sn1 sc1)) (Tch.set N1.out (p := ⟨B, 4, none⟩) (Or.inr rfl) (.slice sA1 sn1 sc1)))
  · obtain ⟨rfl, hn⟩ := ppost_bad h1 hp
    exact ⟨rfl, px_of_bad (R0.out.trans (bnd_bad h1)) (N0.out.trans (hn.wider fun _ _ q => Or.inl q))⟩
set_option maxRecDepth 100000 in
set_option maxHeartbeats 8000000 in
theorem ren_any {p : Ps} {r : List Tk} {lv : Int} {B kb : Nat} {at0 : Int} (a : Ex) (ex : P Ex) (w : World) (h : Sta w p r lv) (hg : p.g < B) (hb : p.b < B) (hB : Blk w B 49 #[.int .i64 7, str [], .slice (some ⟨kb, 0, none⟩) 1 1, .slice none 0 0, .slice none 0 0, str [], str [], .int .i64 0, .int .i64 at0]) :
    Calls Tryz.prog 95 #[ptr p.g, .pointer (some ⟨B, 0, none⟩)] w (PPostX p (S2 p.g B) B lv w (isOne w.heap.size a (.slice (some ⟨kb, 0, none⟩) 1 1)) (opP 7 at0 a ex r)) := by
  obtain ⟨R, hR⟩ : ∃ R, opP 7 at0 a ex r = R := ⟨_, rfl⟩
  rw [hR]
  unfold opP at hR
  simp only [show ¬ (7 : Int) = 2 by decide, show ¬ (7 : Int) = 3 by decide,  if_true, if_false] at hR
  have R0 := Lib.hid hR.symm
  have S0 := Lib.hid h
  have N0 := Lib.hid (Tch.refl (S2 p.g B) w)
  have GB := Lib.hid (show p.g < B ∧ p.b < B ∧ True ∧ True from ⟨hg, hb, trivial, trivial⟩)
  have BB0 := Lib.hid hB
  obtain ⟨A, hA⟩ : ∃ A, w.heap.size = A := ⟨_, rfl⟩
  have HA := Lib.hid hA
  have HB := Lib.hid (show B = B from rfl)
  have G := Lib.hid (show p.g < A ∧ p.b < A ∧ B < A from by have q1 := h.lt; have q2 := h.lt2; have q3 := hB.lt; rw [hA] at q1 q2 q3; exact ⟨q1, q2, q3⟩)
  rw [hA]
  clear hR h hg hb hB
  go_enter Tryz.func95, Tryz.ntmps95
  go_wp2_with fail
  refine (expect_one [44] (by decide) _ _ _ (by first | omega | (simp; omega) | simp) S0.out).mono ?_
  intro e w1 hp
  rcases h1 : expP [44] r with ⟨a1, r1⟩ | ⟨b1, r1⟩
  · obtain ⟨v1, rfl, rfl, hs, hn⟩ := ppost_ok h1 hp
    have R1 := Lib.hid (R0.out.trans (bnd_ok h1))
    have S1 := Lib.hid hs
    have hB : Blk w1 B 49 #[.int .i64 7, str [], .slice (some ⟨kb, 0, none⟩) 1 1, .slice none 0 0, .slice none 0 0, str [], str [], .int .i64 0, .int .i64 at0] := BB0.out.near hn (Nat.ne_of_gt GB.out.1)
    have BB1 := Lib.hid hB
    have N1 := Lib.hid (N0.out.trans (hn.wider fun _ _ q => Or.inl q))
    have Y1 := Lib.hid h1
    clear hs hn hp hB h1
    go_wp2_with fail
    refine (name_any _ S1.out).mono ?_
    intro e w2 hp
    rcases h2 : nameP r1 with ⟨a2, r2⟩ | ⟨b2, r2⟩
    · obtain ⟨v2, rfl, rfl, hs, hn⟩ := ppost_ok h2 hp
      have R2 := Lib.hid (R1.out.trans (bnd_ok h2))
      have S2 := Lib.hid hs
      have hB : Blk w2 B 49 #[.int .i64 7, str [], .slice (some ⟨kb, 0, none⟩) 1 1, .slice none 0 0, .slice none 0 0, str [], str [], .int .i64 0, .int .i64 at0] := BB1.out.near hn (Nat.ne_of_gt GB.out.1)
      have BB2 := Lib.hid hB
      have N2 := Lib.hid (N1.out.trans (hn.wider fun _ _ q => Or.inl q))
      have Y2 := Lib.hid h2
      clear hs hn hp hB h2
      have cB2 := fun i => BB2.out.cell i
      have fB2 := fun i => BB2.out.frozen i
      go_wp2_with fail
      refine (expect_one [97, 115] (by decide) _ _ _ (by first | omega | (simp; omega) | simp) (S2.out.cell (a := ⟨B, 5, none⟩) GB.out.1 GB.out.2.1 (str a2))).mono ?_
      intro e w3 hp
      rcases h3 : expP [97, 115] r2 with ⟨a3, r3⟩ | ⟨b3, r3⟩
      · obtain ⟨v3, rfl, rfl, hs, hn⟩ := ppost_ok h3 hp
        have R3 := Lib.hid (R2.out.trans (bnd_ok h3))
        have S3 := Lib.hid hs
        have hB : Blk w3 B 49 #[.int .i64 7, str [], .slice (some ⟨kb, 0, none⟩) 1 1, .slice none 0 0, .slice none 0 0, str a2, str [], .int .i64 0, .int .i64 at0] := (BB2.out.set_ 5 (str a2)).near hn (Nat.ne_of_gt GB.out.1)
        have BB3 := Lib.hid hB
        have N3 := Lib.hid ((Tch.set N2.out (p := ⟨B, 5, none⟩) (Or.inr rfl) (str a2)).trans (hn.wider fun _ _ q => Or.inl q))
        have Y3 := Lib.hid h3
        clear hs hn hp hB h3
        go_wp2_with fail
        refine (name_any _ S3.out).mono ?_
        intro e w4 hp
        rcases h4 : nameP r3 with ⟨a4, r4⟩ | ⟨b4, r4⟩
        · obtain ⟨v4, rfl, rfl, hs, hn⟩ := ppost_ok h4 hp
          have R4 := Lib.hid (R3.out.trans (bnd_ok h4))
          have S4 := Lib.hid hs
          have hB : Blk w4 B 49 #[.int .i64 7, str [], .slice (some ⟨kb, 0, none⟩) 1 1, .slice none 0 0, .slice none 0 0, str a2, str [], .int .i64 0, .int .i64 at0] := BB3.out.near hn (Nat.ne_of_gt GB.out.1)
          have BB4 := Lib.hid hB
          have N4 := Lib.hid (N3.out.trans (hn.wider fun _ _ q => Or.inl q))
          have Y4 := Lib.hid h4
          clear hs hn hp hB h4
          have cB4 := fun i => BB4.out.cell i
          have fB4 := fun i => BB4.out.frozen i
          go_wp2_with fail
          exact bodyPost_ret (v := .tuple #[]) (by simp [results, Tryz.results95, go_sem]) rfl (px_of_ok (R4.out.trans rfl) (BB4.out.set_ 6 (str a4)) ⟨{ hk 7 at0 with attr := a2, as_ := a4 }, .slice none 0 0, .slice none 0 0, rfl, rfl, Lst.nil _, Lst.nil _⟩ (S4.out.cell (a := ⟨B, 6, none⟩) GB.out.1 GB.out.2.1 (str a4)) (Tch.set N4.out (p := ⟨B, 6, none⟩) (Or.inr rfl) (str a4)))
        · obtain ⟨rfl, hn⟩ := ppost_bad h4 hp
          exact ⟨rfl, px_of_bad (R3.out.trans (bnd_bad h4)) (N3.out.trans (hn.wider fun _ _ q => Or.inl q))⟩
      · obtain ⟨rfl, hn⟩ := ppost_bad h3 hp
        exact ⟨rfl, px_of_bad (R2.out.trans (bnd_bad h3)) ((Tch.set N2.out (p := ⟨B, 5, none⟩) (Or.inr rfl) (str a2)).trans (hn.wider fun _ _ q => Or.inl q))⟩
    · obtain ⟨rfl, hn⟩ := ppost_bad h2 hp
      exact ⟨rfl, px_of_bad (R1.out.trans (bnd_bad h2)) (N1.out.trans (hn.wider fun _ _ q => Or.inl q))⟩
  · obtain ⟨rfl, hn⟩ := ppost_bad h1 hp
    exact ⟨rfl, px_of_bad (R0.out.trans (bnd_bad h1)) (N0.out.trans (hn.wider fun _ _ q => Or.inl q))⟩
set_option maxRecDepth 100000 in
set_option maxHeartbeats 8000000 in
theorem grp_any {p : Ps} {r : List Tk} {lv : Int} {B kb : Nat} {at0 : Int} (a : Ex) (ex : P Ex) (w : World) (h : Sta w p r lv) (hg : p.g < B) (hb : p.b < B) (hB : Blk w B 49 #[.int .i64 8, str [], .slice (some ⟨kb, 0, none⟩) 1 1, .slice none 0 0, .slice none 0 0, str [], str [], .int .i64 0, .int .i64 at0]) :
    Calls Tryz.prog 96 #[ptr p.g, .pointer (some ⟨B, 0, none⟩)] w (PPostX p (S2 p.g B) B lv w (isOne w.heap.size a (.slice (some ⟨kb, 0, none⟩) 1 1)) (opP 8 at0 a ex r)) := by
  obtain ⟨R, hR⟩ : ∃ R, opP 8 at0 a ex r = R := ⟨_, rfl⟩
  rw [hR]
  unfold opP at hR
  simp only [show ¬ (8 : Int) = 2 by decide, show ¬ (8 : Int) = 3 by decide, show ¬ (8 : Int) = 7 by decide,  if_true, if_false] at hR
  have R0 := Lib.hid hR.symm
  have S0 := Lib.hid h
  have N0 := Lib.hid (Tch.refl (S2 p.g B) w)
  have GB := Lib.hid (show p.g < B ∧ p.b < B ∧ True ∧ True from ⟨hg, hb, trivial, trivial⟩)
  have BB0 := Lib.hid hB
  obtain ⟨A, hA⟩ : ∃ A, w.heap.size = A := ⟨_, rfl⟩
  have HA := Lib.hid hA
  have HB := Lib.hid (show B = B from rfl)
  have G := Lib.hid (show p.g < A ∧ p.b < A ∧ B < A from by have q1 := h.lt; have q2 := h.lt2; have q3 := hB.lt; rw [hA] at q1 q2 q3; exact ⟨q1, q2, q3⟩)
  rw [hA]
  clear hR h hg hb hB
  go_enter Tryz.func96, Tryz.ntmps96
  go_wp2_with fail
  refine (namesUp_any [119, 105, 116, 104] _ S0.out).mono ?_
  intro e w1 hp
  rcases h1 : namesUpP [119, 105, 116, 104] r with ⟨a1, r1⟩ | ⟨b1, r1⟩
  · obtain ⟨v1, rfl, hv1, hs, hn⟩ := ppost_ok h1 hp
    have R1 := Lib.hid (R0.out.trans (bnd_ok h1))
    obtain ⟨D1, hD1⟩ : ∃ x, w.heap.size = x := ⟨_, rfl⟩
    have GD1 := Lib.hid (show p.g < D1 ∧ B < D1 ∧ w.heap.size ≤ D1 from by have q0 := (S0.out).lt; have q1 := (BB0.out).lt; have qq := (N0.out).size; have eB := HB.out; omega)
    rw [hD1] at hv1
    obtain ⟨sA1, sn1, sc1, rfl⟩ := hv1.isSl
    have V1 := Lib.hid hv1
    have K1_1 := Lib.hid (Kept.refl D1 w1)
    clear hv1 hD1
    have S1 := Lib.hid hs
    have hB : Blk w1 B 49 #[.int .i64 8, str [], .slice (some ⟨kb, 0, none⟩) 1 1, .slice none 0 0, .slice none 0 0, str [], str [], .int .i64 0, .int .i64 at0] := BB0.out.near hn (Nat.ne_of_gt GB.out.1)
    have BB1 := Lib.hid hB
    have N1 := Lib.hid (N0.out.trans (hn.wider fun _ _ q => Or.inl q))
    have Y1 := Lib.hid h1
    clear hs hn hp hB h1
    have cB1 := fun i => BB1.out.cell i
    have fB1 := fun i => BB1.out.frozen i
    go_wp2_with fail
    refine (expect_one [119, 105, 116, 104] (by decide) _ _ _ (by first | omega | (simp; omega) | simp) (S1.out.cell (a := ⟨B, 4, none⟩) GB.out.1 GB.out.2.1 (.slice sA1 sn1 sc1))).mono ?_
    intro e w2 hp
    rcases h2 : expP [119, 105, 116, 104] r1 with ⟨a2, r2⟩ | ⟨b2, r2⟩
    · obtain ⟨v2, rfl, rfl, hs, hn⟩ := ppost_ok h2 hp
      have R2 := Lib.hid (R1.out.trans (bnd_ok h2))
      have S2 := Lib.hid hs
      have hB : Blk w2 B 49 #[.int .i64 8, str [], .slice (some ⟨kb, 0, none⟩) 1 1, .slice none 0 0, .slice sA1 sn1 sc1, str [], str [], .int .i64 0, .int .i64 at0] := (BB1.out.set_ 4 (.slice sA1 sn1 sc1)).near hn (Nat.ne_of_gt GB.out.1)
      have BB2 := Lib.hid hB
      have N2 := Lib.hid ((Tch.set N1.out (p := ⟨B, 4, none⟩) (Or.inr rfl) (.slice sA1 sn1 sc1)).trans (hn.wider fun _ _ q => Or.inl q))
      have K1_2 := Lib.hid ((K1_1.out.set (p := ⟨B, 4, none⟩) GD1.out.2.1 (.slice sA1 sn1 sc1)).near hn GD1.out.1)
      have Y2 := Lib.hid h2
      clear hs hn hp hB h2
      obtain ⟨f, f0, hu, ht, hb⟩ := tab_chain w2 [.int .i64 0, .int .i64 1, .int .i64 2, .int .i64 3, .int .i64 4] (by simp) [[99, 111, 117, 110, 116], [115, 117, 109], [108, 101, 97, 115, 116], [103, 114, 101, 97, 116, 101, 115, 116]] (by decide) (by decide) (by decide) rfl Tryz.underlying119 (e := 3) 4 (by decide)
      have u0 : (Instr.mapUpdate 119 (.map (some w2.heap.size)) (str [99, 111, 117, 110, 116]) (.int .i64 1)).run Tryz.prog (f 0) = .ok () (f 1) := hu 0 _ _ (by decide) rfl rfl
      have u1 : (Instr.mapUpdate 119 (.map (some w2.heap.size)) (str [115, 117, 109]) (.int .i64 2)).run Tryz.prog (f 1) = .ok () (f 2) := hu 1 _ _ (by decide) rfl rfl
      have u2 : (Instr.mapUpdate 119 (.map (some w2.heap.size)) (str [108, 101, 97, 115, 116]) (.int .i64 3)).run Tryz.prog (f 2) = .ok () (f 3) := hu 2 _ _ (by decide) rfl rfl
      have u3 : (Instr.mapUpdate 119 (.map (some w2.heap.size)) (str [103, 114, 101, 97, 116, 101, 115, 116]) (.int .i64 4)).run Tryz.prog (f 3) = .ok () (f 4) := hu 3 _ _ (by decide) rfl rfl
      rw [f0] at u0
      obtain ⟨m1, e1⟩ : ∃ x, f 1 = x := ⟨_, rfl⟩
      rw [e1] at u0 u1
      obtain ⟨m2, e2⟩ : ∃ x, f 2 = x := ⟨_, rfl⟩
      rw [e2] at u1 u2
      obtain ⟨m3, e3⟩ : ∃ x, f 3 = x := ⟨_, rfl⟩
      rw [e3] at u2 u3
      obtain ⟨m4, e4⟩ : ∃ x, f 4 = x := ⟨_, rfl⟩
      rw [e4] at u3 ht hb
      have HM2 := Lib.hid hb
      have hmm := @run_makeMap Tryz.prog
      simp only [List.take_succ_cons, List.take_zero] at ht
      try simp only [World.size_alloc, World.size_setCell, hA, hB] at u0 u1 u2 u3 ht
      have HT2 := Lib.hid ht
      clear f0 hu ht hb e1 e2 e3 e4
      go_wp2_with fail
      refine (chI4_any [[99, 111, 117, 110, 116], [115, 117, 109], [108, 101, 97, 115, 116], [103, 114, 101, 97, 116, 101, 115, 116]] (by decide) rfl _ _ HT2.out (S2.out.keep HM2.out)).mono ?_
      intro e w3 hp
      rcases h3 : oneP [[99, 111, 117, 110, 116], [115, 117, 109], [108, 101, 97, 115, 116], [103, 114, 101, 97, 116, 101, 115, 116]] r2 with ⟨a3, r3⟩ | ⟨b3, r3⟩
      · obtain ⟨v3, rfl, rfl, hs, hn⟩ := ppost_ok h3 hp
        have R3 := Lib.hid (R2.out.trans (bnd_ok h3))
        have S3 := Lib.hid hs
        have hB : Blk w3 B 49 #[.int .i64 8, str [], .slice (some ⟨kb, 0, none⟩) 1 1, .slice none 0 0, .slice sA1 sn1 sc1, str [], str [], .int .i64 0, .int .i64 at0] := (BB2.out.keep HM2.out).near hn (Nat.ne_of_gt GB.out.1)
        have BB3 := Lib.hid hB
        have N3 := Lib.hid ((N2.out.trans (Tch.of_below HM2.out)).trans (hn.wider fun _ _ q => Or.inl q))
        have K1_3 := Lib.hid ((K1_2.out.keep HM2.out).near hn GD1.out.1)
        have Y3 := Lib.hid h3
        clear hs hn hp hB h3
        have cB3 := fun i => BB3.out.cell i
        have fB3 := fun i => BB3.out.frozen i
        by_cases hm : a3 = 1
        · skip
          have d1 : (a3 == 1) = true := by rw [beq_iff_eq]; exact hm
          have d2 : (a3 != 1) = false := by rw [bne, d1]; rfl
          have Rq := R3.out
          rw [if_pos hm, pur_bnd] at Rq
          have R3z := Lib.hid Rq
          clear Rq
          clear hm
          go_wp2_with fail
          refine (expect_one [97, 115] (by decide) _ _ _ (by first | omega | (simp; omega) | simp) (S3.out.cell (a := ⟨B, 7, none⟩) GB.out.1 GB.out.2.1 (.int .i64 a3))).mono ?_
          intro e w4 hp
          rcases h4 : expP [97, 115] r3 with ⟨a4, r4⟩ | ⟨b4, r4⟩
          · obtain ⟨v4, rfl, rfl, hs, hn⟩ := ppost_ok h4 hp
            have R4 := Lib.hid (R3z.out.trans (bnd_ok h4))
            have S4 := Lib.hid hs
            have hB : Blk w4 B 49 #[.int .i64 8, str [], .slice (some ⟨kb, 0, none⟩) 1 1, .slice none 0 0, .slice sA1 sn1 sc1, str [], str [], .int .i64 a3, .int .i64 at0] := (BB3.out.set_ 7 (.int .i64 a3)).near hn (Nat.ne_of_gt GB.out.1)
            have BB4 := Lib.hid hB
            have N4 := Lib.hid ((Tch.set N3.out (p := ⟨B, 7, none⟩) (Or.inr rfl) (.int .i64 a3)).trans (hn.wider fun _ _ q => Or.inl q))
            have K1_4 := Lib.hid ((K1_3.out.set (p := ⟨B, 7, none⟩) GD1.out.2.1 (.int .i64 a3)).near hn GD1.out.1)
            have Y4 := Lib.hid h4
            clear hs hn hp hB h4
            go_wp2_with fail
            refine (name_any _ S4.out).mono ?_
            intro e w5 hp
            rcases h5 : nameP r4 with ⟨a5, r5⟩ | ⟨b5, r5⟩
            · obtain ⟨v5, rfl, rfl, hs, hn⟩ := ppost_ok h5 hp
              have R5 := Lib.hid (R4.out.trans (bnd_ok h5))
              have S5 := Lib.hid hs
              have hB : Blk w5 B 49 #[.int .i64 8, str [], .slice (some ⟨kb, 0, none⟩) 1 1, .slice none 0 0, .slice sA1 sn1 sc1, str [], str [], .int .i64 a3, .int .i64 at0] := BB4.out.near hn (Nat.ne_of_gt GB.out.1)
              have BB5 := Lib.hid hB
              have N5 := Lib.hid (N4.out.trans (hn.wider fun _ _ q => Or.inl q))
              have K1_5 := Lib.hid (K1_4.out.near hn GD1.out.1)
              have Y5 := Lib.hid h5
              clear hs hn hp hB h5
              have cB5 := fun i => BB5.out.cell i
              have fB5 := fun i => BB5.out.frozen i
              go_wp2_with fail
              exact bodyPost_ret (v := .tuple #[]) (by simp [results, Tryz.results96, go_sem]) rfl (px_of_ok (R5.out.trans rfl) (BB5.out.set_ 6 (str a5)) ⟨{ hk 8 at0 with names := a1, attr := [], as_ := a5, agg := a3 }, .slice none 0 0, .slice sA1 sn1 sc1, rfl, rfl, Lst.nil _, ((V1.out.stay len_txt (K1_5.out.set (p := ⟨B, 6, none⟩) GD1.out.2.1 (str a5))).lower (by have q := GD1.out; have e := HA.out; omega))⟩ (S5.out.cell (a := ⟨B, 6, none⟩) GB.out.1 GB.out.2.1 (str a5)) (Tch.set N5.out (p := ⟨B, 6, none⟩) (Or.inr rfl) (str a5)))
            · obtain ⟨rfl, hn⟩ := ppost_bad h5 hp
              exact ⟨rfl, px_of_bad (R4.out.trans (bnd_bad h5)) (N4.out.trans (hn.wider fun _ _ q => Or.inl q))⟩
          · obtain ⟨rfl, hn⟩ := ppost_bad h4 hp
            exact ⟨rfl, px_of_bad (R3z.out.trans (bnd_bad h4)) ((Tch.set N3.out (p := ⟨B, 7, none⟩) (Or.inr rfl) (.int .i64 a3)).trans (hn.wider fun _ _ q => Or.inl q))⟩
        · skip
          have d1 : (a3 == 1) = false := by rw [beq_eq_false_iff_ne]; exact hm
          have d2 : (a3 != 1) = true := by rw [bne, d1]; rfl
          have Rq := R3.out
          rw [if_neg hm] at Rq
          have R3z := Lib.hid Rq
          clear Rq
          clear hm
          go_wp2_with fail
          refine (name_any _ (S3.out.cell (a := ⟨B, 7, none⟩) GB.out.1 GB.out.2.1 (.int .i64 a3))).mono ?_
          intro e w4 hp
          rcases h4 : nameP r3 with ⟨a4, r4⟩ | ⟨b4, r4⟩
          · obtain ⟨v4, rfl, rfl, hs, hn⟩ := ppost_ok h4 hp
            have R4 := Lib.hid (R3z.out.trans (bnd_ok h4))
            have S4 := Lib.hid hs
            have hB : Blk w4 B 49 #[.int .i64 8, str [], .slice (some ⟨kb, 0, none⟩) 1 1, .slice none 0 0, .slice sA1 sn1 sc1, str [], str [], .int .i64 a3, .int .i64 at0] := (BB3.out.set_ 7 (.int .i64 a3)).near hn (Nat.ne_of_gt GB.out.1)
            have BB4 := Lib.hid hB
            have N4 := Lib.hid ((Tch.set N3.out (p := ⟨B, 7, none⟩) (Or.inr rfl) (.int .i64 a3)).trans (hn.wider fun _ _ q => Or.inl q))
            have K1_4 := Lib.hid ((K1_3.out.set (p := ⟨B, 7, none⟩) GD1.out.2.1 (.int .i64 a3)).near hn GD1.out.1)
            have Y4 := Lib.hid h4
            clear hs hn hp hB h4
            have cB4 := fun i => BB4.out.cell i
            have fB4 := fun i => BB4.out.frozen i
            go_wp2_with fail
            refine (expect_one [97, 115] (by decide) _ _ _ (by first | omega | (simp; omega) | simp) (S4.out.cell (a := ⟨B, 5, none⟩) GB.out.1 GB.out.2.1 (str a4))).mono ?_
            intro e w5 hp
            rcases h5 : expP [97, 115] r4 with ⟨a5, r5⟩ | ⟨b5, r5⟩
            · obtain ⟨v5, rfl, rfl, hs, hn⟩ := ppost_ok h5 hp
              have R5 := Lib.hid (R4.out.trans (bnd_ok h5))
              have S5 := Lib.hid hs
              have hB : Blk w5 B 49 #[.int .i64 8, str [], .slice (some ⟨kb, 0, none⟩) 1 1, .slice none 0 0, .slice sA1 sn1 sc1, str a4, str [], .int .i64 a3, .int .i64 at0] := (BB4.out.set_ 5 (str a4)).near hn (Nat.ne_of_gt GB.out.1)
              have BB5 := Lib.hid hB
              have N5 := Lib.hid ((Tch.set N4.out (p := ⟨B, 5, none⟩) (Or.inr rfl) (str a4)).trans (hn.wider fun _ _ q => Or.inl q))
              have K1_5 := Lib.hid ((K1_4.out.set (p := ⟨B, 5, none⟩) GD1.out.2.1 (str a4)).near hn GD1.out.1)
              have Y5 := Lib.hid h5
              clear hs hn hp hB h5
              go_wp2_with fail
              refine (name_any _ S5.out).mono ?_
              intro e w6 hp
              rcases h6 : nameP r5 with ⟨a6, r6⟩ | ⟨b6, r6⟩
              · obtain ⟨v6, rfl, rfl, hs, hn⟩ := ppost_ok h6 hp
                have R6 := Lib.hid (R5.out.trans (bnd_ok h6))
                have S6 := Lib.hid hs
                have hB : Blk w6 B 49 #[.int .i64 8, str [], .slice (some ⟨kb, 0, none⟩) 1 1, .slice none 0 0, .slice sA1 sn1 sc1, str a4, str [], .int .i64 a3, .int .i64 at0] := BB5.out.near hn (Nat.ne_of_gt GB.out.1)
                have BB6 := Lib.hid hB
                have N6 := Lib.hid (N5.out.trans (hn.wider fun _ _ q => Or.inl q))
                have K1_6 := Lib.hid (K1_5.out.near hn GD1.out.1)
                have Y6 := Lib.hid h6
                clear hs hn hp hB h6
                have cB6 := fun i => BB6.out.cell i
                have fB6 := fun i => BB6.out.frozen i
                go_wp2_with fail
                exact bodyPost_ret (v := .tuple #[]) (by simp [results, Tryz.results96, go_sem]) rfl (px_of_ok (R6.out.trans rfl) (BB6.out.set_ 6 (str a6)) ⟨{ hk 8 at0 with names := a1, attr := a4, as_ := a6, agg := a3 }, .slice none 0 0, .slice sA1 sn1 sc1, rfl, rfl, Lst.nil _, ((V1.out.stay len_txt (K1_6.out.set (p := ⟨B, 6, none⟩) GD1.out.2.1 (str a6))).lower (by have q := GD1.out; have e := HA.out; omega))⟩ (S6.out.cell (a := ⟨B, 6, none⟩) GB.out.1 GB.out.2.1 (str a6)) (Tch.set N6.out (p := ⟨B, 6, none⟩) (Or.inr rfl) (str a6)))
              · obtain ⟨rfl, hn⟩ := ppost_bad h6 hp
                exact ⟨rfl, px_of_bad (R5.out.trans (bnd_bad h6)) (N5.out.trans (hn.wider fun _ _ q => Or.inl q))⟩
            · obtain ⟨rfl, hn⟩ := ppost_bad h5 hp
              exact ⟨rfl, px_of_bad (R4.out.trans (bnd_bad h5)) ((Tch.set N4.out (p := ⟨B, 5, none⟩) (Or.inr rfl) (str a4)).trans (hn.wider fun _ _ q => Or.inl q))⟩
          · obtain ⟨rfl, hn⟩ := ppost_bad h4 hp
            exact ⟨rfl, px_of_bad (R3z.out.trans (bnd_bad h4)) ((Tch.set N3.out (p := ⟨B, 7, none⟩) (Or.inr rfl) (.int .i64 a3)).trans (hn.wider fun _ _ q => Or.inl q))⟩
      · obtain ⟨rfl, hn⟩ := ppost_bad h3 hp
        exact ⟨rfl, px_of_bad (R2.out.trans (bnd_bad h3)) ((N2.out.trans (Tch.of_below HM2.out)).trans (hn.wider fun _ _ q => Or.inl q))⟩
    · obtain ⟨rfl, hn⟩ := ppost_bad h2 hp
      exact ⟨rfl, px_of_bad (R1.out.trans (bnd_bad h2)) ((Tch.set N1.out (p := ⟨B, 4, none⟩) (Or.inr rfl) (.slice sA1 sn1 sc1)).trans (hn.wider fun _ _ q => Or.inl q))⟩
  · obtain ⟨rfl, hn⟩ := ppost_bad h1 hp
    exact ⟨rfl, px_of_bad (R0.out.trans (bnd_bad h1)) (N0.out.trans (hn.wider fun _ _ q => Or.inl q))⟩
end Go.Proofs.YtcgkaecaddpenaaGreatDoor
