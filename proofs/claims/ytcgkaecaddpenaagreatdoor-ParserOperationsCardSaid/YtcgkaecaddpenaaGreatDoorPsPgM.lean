/- The program's places, lists of names and of conditions. -/
import Derived.Test.YtcgkaecaddpenaaGreatDoorPsPgL
namespace Go.Proofs.YtcgkaecaddpenaaGreatDoor
open Go.RowKit
open L7 (Tk)
open L8
set_option linter.unusedSimpArgs false

def isPl (_ : World) (v : Value) (a : Txt × Txt) : Prop := v = .tuple #[str a.1, str a.2]
set_option maxRecDepth 100000 in
set_option maxHeartbeats 8000000 in
theorem place_any {p : Ps} {r : List Tk} {lv : Int} (w : World) (h : Sta w p r lv) :
    Calls Tryz.prog 66 #[ptr p.g] w (PPost p lv w isPl (placeP r)) := by
  obtain ⟨R, hR⟩ : ∃ R, placeP r = R := ⟨_, rfl⟩
  rw [hR]
  have R0 := Lib.hid hR.symm
  have G := Lib.hid (And.intro h.lt h.lt2)
  have S0 := Lib.hid h
  have N0 := Lib.hid (Tch.refl (fun b => b = p.g) w)
  obtain ⟨A, hA⟩ : ∃ A, w.heap.size = A := ⟨_, rfl⟩
  have HA := Lib.hid hA
  rw [hA] at G
  clear hR h
  go_enter Tryz.func66, Tryz.ntmps66
  go_wp2_with fail
  refine (name_any _ S0.out).mono ?_
  intro e w1 hp
  rcases h1 : nameP r with ⟨a1, r1⟩ | ⟨b1, r1⟩
  · obtain ⟨v1, rfl, rfl, hs, hn⟩ := ppost_ok h1 hp
    have R1 := Lib.hid (R0.out.trans (bnd_ok h1))
    have S1 := Lib.hid hs
    have N1 := Lib.hid (N0.out.trans hn)
    have Y1 := Lib.hid h1
    clear hs hn hp  h1
    go_wp2_with fail
    refine (expect_one [46] (by decide) _ _ _ (by first | omega | (simp; omega) | simp) S1.out).mono ?_
    intro e w2 hp
    rcases h2 : expP [46] r1 with ⟨a2, r2⟩ | ⟨b2, r2⟩
    · obtain ⟨v2, rfl, rfl, hs, hn⟩ := ppost_ok h2 hp
      have R2 := Lib.hid (R1.out.trans (bnd_ok h2))
      have S2 := Lib.hid hs
      have N2 := Lib.hid (N1.out.trans hn)
      have Y2 := Lib.hid h2
      clear hs hn hp  h2
      go_wp2_with fail
      refine (name_any _ S2.out).mono ?_
      intro e w3 hp
      rcases h3 : nameP r2 with ⟨a3, r3⟩ | ⟨b3, r3⟩
      · obtain ⟨v3, rfl, rfl, hs, hn⟩ := ppost_ok h3 hp
        have R3 := Lib.hid (R2.out.trans (bnd_ok h3))
        have S3 := Lib.hid hs
        have N3 := Lib.hid (N2.out.trans hn)
        have Y3 := Lib.hid h3
        clear hs hn hp  h3
        go_wp2_with fail
        go_ret2
        exact ppost_of_ok R3.out rfl S3.out N3.out
      · obtain ⟨rfl, hn⟩ := ppost_bad h3 hp
        exact ⟨rfl, ppost_of_bad (R2.out.trans (bnd_bad h3)) (N2.out.trans hn)⟩
    · obtain ⟨rfl, hn⟩ := ppost_bad h2 hp
      exact ⟨rfl, ppost_of_bad (R1.out.trans (bnd_bad h2)) (N1.out.trans hn)⟩
  · obtain ⟨rfl, hn⟩ := ppost_bad h1 hp
    exact ⟨rfl, ppost_of_bad (R0.out.trans (bnd_bad h1)) (N0.out.trans hn)⟩
set_option maxRecDepth 100000 in
set_option maxHeartbeats 8000000 in
theorem conds_any {p : Ps} {r : List Tk} {lv : Int} (w : World) (h : Sta w p r lv) :
    Calls Tryz.prog 75 #[ptr p.g] w (PPost p lv w (Lst w.heap.size 14 cndC) (condsP r)) := by
  obtain ⟨R, hR⟩ : ∃ R, condsP r = R := ⟨_, rfl⟩
  rw [hR]
  have R0 := Lib.hid hR.symm
  have G := Lib.hid (And.intro h.lt h.lt2)
  have S0 := Lib.hid h
  have N0 := Lib.hid (Tch.refl (fun b => b = p.g) w)
  obtain ⟨A, hA⟩ : ∃ A, w.heap.size = A := ⟨_, rfl⟩
  have HA := Lib.hid hA
  rw [hA] at G
  rw [hA]
  clear hR h
  go_enter Tryz.func75, Tryz.ntmps75
  go_wp2_with fail
  refine (expect_one [119, 104, 101, 114, 101] (by decide) _ _ _ (by first | omega | (simp; omega) | simp) S0.out).mono ?_
  intro e w1 hp
  rcases h1 : expP [119, 104, 101, 114, 101] r with ⟨a1, r1⟩ | ⟨b1, r1⟩
  · obtain ⟨v1, rfl, rfl, hs, hn⟩ := ppost_ok h1 hp
    have R1 := Lib.hid (R0.out.trans (bnd_ok h1))
    have S1 := Lib.hid hs
    have N1 := Lib.hid (N0.out.trans hn)
    have Y1 := Lib.hid h1
    clear hs hn hp  h1
    go_wp2_with fail
    refine (cnd_list [97, 110, 100] (by decide) _ S1.out).mono ?_
    intro e w2 hp
    rcases h2 : listP [97, 110, 100] condP FU r1 with ⟨a2, r2⟩ | ⟨b2, r2⟩
    · obtain ⟨v2, rfl, hv2, hs, hn⟩ := ppost_ok h2 hp
      have R2 := Lib.hid (R1.out.trans h2)
      obtain ⟨D2, hD2⟩ : ∃ x, w1.heap.size = x := ⟨_, rfl⟩
      have GD2 := Lib.hid (show p.g < D2 ∧ w.heap.size ≤ D2 from by have q0 := (S1.out).lt; have qq := (N1.out).size; omega)
      rw [hD2] at hv2
      obtain ⟨sA2, sn2, sc2, rfl⟩ := hv2.isSl
      have V2 := Lib.hid hv2
      have K2_2 := Lib.hid (Kept.refl D2 w2)
      clear hv2 hD2
      have S2 := Lib.hid hs
      have N2 := Lib.hid (N1.out.trans hn)
      have Y2 := Lib.hid h2
      clear hs hn hp  h2
      go_wp2_with fail
      go_ret
      exact ppost_of_ok (V := Lst A 14 cndC) R2.out ((V2.out.stay len_cnd K2_2.out).lower (by have := GD2.out.2; have := HA.out; omega)) S2.out N2.out
    · obtain ⟨rfl, hn⟩ := ppost_bad h2 hp
      exact ⟨rfl, ppost_of_bad (R1.out.trans h2) (N1.out.trans hn)⟩
  · obtain ⟨rfl, hn⟩ := ppost_bad h1 hp
    exact ⟨rfl, ppost_of_bad (R0.out.trans (bnd_bad h1)) (N0.out.trans hn)⟩
set_option maxRecDepth 100000 in
set_option maxHeartbeats 8000000 in
theorem up_yes {p : Ps} {r : List Tk} {lv : Int} (x : Txt) (hh : ∀ r1, expP [111, 110] r = .ok () r1 → headW r1 = x) (w : World) (h : Sta w p r lv) :
    Calls Tryz.prog 101 #[ptr p.g, str x] w (PPost p lv w (Lst w.heap.size 1 txtC) (namesUpP x r)) := by
  obtain ⟨R, hR⟩ : ∃ R, namesUpP x r = R := ⟨_, rfl⟩
  rw [hR]
  have R0 := Lib.hid hR.symm
  have G := Lib.hid (And.intro h.lt h.lt2)
  have S0 := Lib.hid h
  have N0 := Lib.hid (Tch.refl (fun b => b = p.g) w)
  obtain ⟨A, hA⟩ : ∃ A, w.heap.size = A := ⟨_, rfl⟩
  have HA := Lib.hid hA
  rw [hA] at G
  rw [hA]
  clear hR h
  have HH := Lib.hid hh
  clear hh
  go_enter Tryz.func101, Tryz.ntmps101
  go_wp2_with fail
  refine (expect_one [111, 110] (by decide) _ _ _ (by first | omega | (simp; omega) | simp) S0.out).mono ?_
  intro e w1 hp
  rcases h1 : expP [111, 110] r with ⟨a1, r1⟩ | ⟨b1, r1⟩
  · obtain ⟨v1, rfl, rfl, hs, hn⟩ := ppost_ok h1 hp
    have R1 := Lib.hid (R0.out.trans (bnd_ok h1))
    have S1 := Lib.hid hs
    have N1 := Lib.hid (N0.out.trans hn)
    have Y1 := Lib.hid h1
    clear hs hn hp  h1
    obtain ⟨off, cap, hst⟩ := S1.out
    obtain ⟨k0, k1, k2, k3⟩ := hst.head
    have c0 := hst.c0
    have hcap := hst.hc
    have C := Lib.hid (fun W => word_any (hdT p.n r1) W)
    have Kq := R1.out
    have hw := HH.out _ Y1.out
    rw [headW_hd p.n r1] at hw
    have Kp := bnd_ok (q := fun c => if c = true then pure [] else namesP) (show peekP x r1 = .ok true r1 from congrArg (fun b => Res.ok b r1) (by rw [headW_hd p.n r1]; simp [hw]))
    have Kz := Kq.trans Kp
    simp only [eq_self, if_true, if_false, Bool.false_eq_true] at Kz
    have R1z := Lib.hid Kz
    obtain ⟨y, hy⟩ : ∃ y, wordT (hdT p.n r1) = y := ⟨_, rfl⟩
    rw [hy] at C hw
    obtain ⟨⟨tk, tx, tn, ta⟩, hq⟩ : ∃ x, hdT p.n r1 = x := ⟨_, rfl⟩
    rw [hq] at k0 k1 k2 k3 C
    subst hw
    clear hst Kq Kp Kz hy hq
    go_wp2_with fail
    refine (C.out _).mono ?_
    rintro e w2 ⟨rfl, hb⟩
    have HB2 := Lib.hid hb
    have S2 := Lib.hid (S1.out.keep hb)
    have N2 := Lib.hid (N1.out.trans (Tch.of_below hb))
    have R2 := Lib.hid R1z.out
    clear hb
    go_wp2_with fail
    go_ret
    exact ppost_of_ok R2.out (Lst.nil _) S2.out N2.out
  · obtain ⟨rfl, hn⟩ := ppost_bad h1 hp
    exact ⟨rfl, ppost_of_bad (R0.out.trans (bnd_bad h1)) (N0.out.trans hn)⟩
set_option maxRecDepth 100000 in
set_option maxHeartbeats 8000000 in
theorem up_no {p : Ps} {r : List Tk} {lv : Int} (x : Txt) (hh : ∀ r1, expP [111, 110] r = .ok () r1 → headW r1 ≠ x) (w : World) (h : Sta w p r lv) :
    Calls Tryz.prog 101 #[ptr p.g, str x] w (PPost p lv w (Lst w.heap.size 1 txtC) (namesUpP x r)) := by
  obtain ⟨R, hR⟩ : ∃ R, namesUpP x r = R := ⟨_, rfl⟩
  rw [hR]
  have R0 := Lib.hid hR.symm
  have G := Lib.hid (And.intro h.lt h.lt2)
  have S0 := Lib.hid h
  have N0 := Lib.hid (Tch.refl (fun b => b = p.g) w)
  obtain ⟨A, hA⟩ : ∃ A, w.heap.size = A := ⟨_, rfl⟩
  have HA := Lib.hid hA
  rw [hA] at G
  rw [hA]
  clear hR h
  have HH := Lib.hid hh
  clear hh
  go_enter Tryz.func101, Tryz.ntmps101
  go_wp2_with fail
  refine (expect_one [111, 110] (by decide) _ _ _ (by first | omega | (simp; omega) | simp) S0.out).mono ?_
  intro e w1 hp
  rcases h1 : expP [111, 110] r with ⟨a1, r1⟩ | ⟨b1, r1⟩
  · obtain ⟨v1, rfl, rfl, hs, hn⟩ := ppost_ok h1 hp
    have R1 := Lib.hid (R0.out.trans (bnd_ok h1))
    have S1 := Lib.hid hs
    have N1 := Lib.hid (N0.out.trans hn)
    have Y1 := Lib.hid h1
    clear hs hn hp  h1
    obtain ⟨off, cap, hst⟩ := S1.out
    obtain ⟨k0, k1, k2, k3⟩ := hst.head
    have c0 := hst.c0
    have hcap := hst.hc
    have C := Lib.hid (fun W => word_any (hdT p.n r1) W)
    have Kq := R1.out
    have hw := HH.out _ Y1.out
    rw [headW_hd p.n r1] at hw
    have Kp := bnd_ok (q := fun c => if c = true then pure [] else namesP) (show peekP x r1 = .ok false r1 from congrArg (fun b => Res.ok b r1) (by rw [headW_hd p.n r1]; simp [hw]))
    have Kz := Kq.trans Kp
    simp only [eq_self, if_true, if_false, Bool.false_eq_true] at Kz
    have R1z := Lib.hid Kz
    obtain ⟨y, hy⟩ : ∃ y, wordT (hdT p.n r1) = y := ⟨_, rfl⟩
    rw [hy] at C hw
    obtain ⟨⟨tk, tx, tn, ta⟩, hq⟩ : ∃ x, hdT p.n r1 = x := ⟨_, rfl⟩
    rw [hq] at k0 k1 k2 k3 C
    have hxy : (y == x) = false := by rw [beq_eq_false_iff_ne]; exact hw
    clear hst Kq Kp Kz hy hq hw
    go_wp2_with fail
    refine (C.out _).mono ?_
    rintro e w2 ⟨rfl, hb⟩
    have HB2 := Lib.hid hb
    have S2 := Lib.hid (S1.out.keep hb)
    have N2 := Lib.hid (N1.out.trans (Tch.of_below hb))
    have R2 := Lib.hid R1z.out
    clear hb
    go_wp2_with fail
    refine (txt_list [44] (by decide) _ S2.out).mono ?_
    intro e w3 hp
    rcases h3 : listP [44] nameP FU r1 with ⟨a3, r3⟩ | ⟨b3, r3⟩
    · obtain ⟨v3, rfl, hv3, hs, hn⟩ := ppost_ok h3 hp
      have R3 := Lib.hid (R2.out.trans h3)
      obtain ⟨D3, hD3⟩ : ∃ x, w2.heap.size = x := ⟨_, rfl⟩
      have GD3 := Lib.hid (show p.g < D3 ∧ w.heap.size ≤ D3 from by have q0 := (S2.out).lt; have qq := (N2.out).size; omega)
      rw [hD3] at hv3
      obtain ⟨sA3, sn3, sc3, rfl⟩ := hv3.isSl
      have V3 := Lib.hid hv3
      have K3_3 := Lib.hid (Kept.refl D3 w3)
      clear hv3 hD3
      have S3 := Lib.hid hs
      have N3 := Lib.hid (N2.out.trans hn)
      have Y3 := Lib.hid h3
      clear hs hn hp  h3
      go_wp2_with fail
      go_ret
      exact ppost_of_ok R3.out ((V3.out.stay len_txt K3_3.out).lower (by have := GD3.out.2; have := HA.out; omega)) S3.out N3.out
    · obtain ⟨rfl, hn⟩ := ppost_bad h3 hp
      exact ⟨rfl, ppost_of_bad (R2.out.trans h3) (N2.out.trans hn)⟩
  · obtain ⟨rfl, hn⟩ := ppost_bad h1 hp
    exact ⟨rfl, ppost_of_bad (R0.out.trans (bnd_bad h1)) (N0.out.trans hn)⟩
theorem namesUp_any {p : Ps} {r : List Tk} {lv : Int} (x : Txt) (w : World) (h : Sta w p r lv) :
    Calls Tryz.prog 101 #[ptr p.g, str x] w (PPost p lv w (Lst w.heap.size 1 txtC) (namesUpP x r)) := by
  by_cases hh : ∃ r1, expP [111, 110] r = .ok () r1 ∧ headW r1 = x
  · obtain ⟨r1, h1, h2⟩ := hh
    exact up_yes x (fun r2 h3 => by rw [h1] at h3; cases h3; exact h2) w h
  · exact up_no x (fun r2 h3 h4 => hh ⟨r2, h3, h4⟩) w h
end Go.Proofs.YtcgkaecaddpenaaGreatDoor
