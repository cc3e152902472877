/- The program's match. -/
import Derived.Test.YtcgkaecaddpenaaGreatDoorPsPgU
import Derived.Deep.RegionLaw
import Derived.Deep.LoopGhost
namespace Go.Proofs.YtcgkaecaddpenaaGreatDoor
open Go.RowKit
open L7 (Tk)
open L8
set_option linter.unusedSimpArgs false

theorem name_lt {r r1 : List Tk} {a : Txt} (h : nameP r = .ok a r1) : r1.length < r.length := by
  cases r with
  | nil => cases h
  | cons t r =>
    by_cases hk : t.kind = 1
    · rw [show nameP (t :: r) = .ok t.text r from bnd_ok (if_pos hk)] at h
      cases h
      simp
    · rw [show nameP (t :: r) = .bad false (t :: r) from bnd_bad (if_neg hk)] at h
      cases h
theorem term_lt {r r1 : List Tk} {a : Trm} (h : termP r = .ok a r1) : r1.length < r.length := by
  rcases e : nameP r with ⟨n, r2⟩ | ⟨b, r2⟩
  · have h2 : (do
        let m ← oneP [[101, 113, 117, 97, 108], [101, 100, 105, 116], [106, 97, 99, 99, 97, 114, 100], [106, 97, 114, 111], [110, 101, 97, 114]]
        let tol ← (if m = 5 then numP else pure 0)
        let _ ← expP [108, 101, 97, 115, 116]
        let n1 ← numP
        let c ← accP [47]
        let dn ← (if c = true then numP else pure 1)
        let _ ← expP [103, 105, 118, 101, 115]
        let g ← numP
        let c2 ← accP [116, 97, 107, 101, 115]
        let tk ← (if c2 = true then numP else pure 0)
        let _ ← expP [59]
        pure ⟨n, m, tol, n1, dn, g, tk⟩ : P Trm) r2 = .ok a r1 := (bnd_ok e).symm.trans h
    have hs : Shr (do
        let m ← oneP [[101, 113, 117, 97, 108], [101, 100, 105, 116], [106, 97, 99, 99, 97, 114, 100], [106, 97, 114, 111], [110, 101, 97, 114]]
        let tol ← (if m = 5 then numP else pure 0)
        let _ ← expP [108, 101, 97, 115, 116]
        let n1 ← numP
        let c ← accP [47]
        let dn ← (if c = true then numP else pure 1)
        let _ ← expP [103, 105, 118, 101, 115]
        let g ← numP
        let c2 ← accP [116, 97, 107, 101, 115]
        let tk ← (if c2 = true then numP else pure 0)
        let _ ← expP [59]
        pure ⟨n, m, tol, n1, dn, g, tk⟩ : P Trm) := by
      repeat' first | exact shr_acc _ | exact shr_exp _ | exact shr_one _ | exact Shr.pur _ | exact shr_numP | refine Shr.bnd ?_ (fun _ => ?_) | refine Shr.ite ?_ ?_
    have := hs _ _ _ h2
    have := name_lt e
    omega
  · rw [show termP r = .bad b r2 from bnd_bad e] at h
    cases h
theorem terms_no {β : Type} {q : List Trm → P β} {acc : List Trm} {f : Nat} {r r1 : List Tk} (h : accP [125] r = .ok true r1) : (termsP (f + 1) >>= fun l => q (acc ++ l)) r = q acc r1 := by
  have h1 : termsP (f + 1) r = .ok [] r1 := by
    unfold termsP
    rw [bnd_ok h]
    rfl
  rw [bnd_ok h1, List.append_nil]
theorem terms_bad {β : Type} {q : List Trm → P β} {acc : List Trm} {f : Nat} {r r1 r2 : List Tk} {b : Bool} (h : accP [125] r = .ok false r1) (hp : termP r1 = .bad b r2) : (termsP (f + 1) >>= fun l => q (acc ++ l)) r = .bad b r2 := by
  have h1 : termsP (f + 1) r = .bad b r2 := by
    unfold termsP
    rw [bnd_ok h]
    exact bnd_bad hp
  exact bnd_bad h1
theorem terms_yes {β : Type} {q : List Trm → P β} {acc : List Trm} {f : Nat} {r r1 r2 : List Tk} {t : Trm} (h : accP [125] r = .ok false r1) (hp : termP r1 = .ok t r2) : (termsP (f + 1) >>= fun l => q (acc ++ l)) r = (termsP f >>= fun l => q ((acc ++ [t]) ++ l)) r2 := by
  have h1 : termsP (f + 1) r = (termsP f >>= fun l => pure (t :: l)) r2 := by
    show ((accP [125] >>= fun c => if c = true then pure [] else (termP >>= fun t => termsP f >>= fun l => pure (t :: l))) : P (List Trm)) r = _
    rw [bnd_ok h]
    exact bnd_ok hp
  rcases e : termsP f r2 with ⟨l, r3⟩ | ⟨b, r3⟩
  · rw [bnd_ok e] at h1
    rw [bnd_ok (h1.trans (pur_run _ _)), bnd_ok e, List.append_assoc]
    rfl
  · rw [bnd_bad e] at h1
    rw [bnd_bad h1, bnd_bad e]
theorem acc_same {x : Txt} {r r1 : List Tk} (h : accP x r = .ok false r1) : r1 = r := by
  unfold accP at h
  split at h
  · cases h
  · cases h
    rfl
theorem one_trm (x : Trm) : ∀ u ∈ trmC x, u.oneCell' = true := by
  intro u hu
  simp only [trmC, List.mem_cons, List.not_mem_nil, or_false] at hu
  rcases hu with rfl | rfl | rfl | rfl | rfl | rfl | rfl <;> rfl
theorem elem_trm : Elem 43 64 (.agg #[.string ⟨#[]⟩, .int .i64 0, .int .i64 0, .int .i64 0, .int .i64 0, .int .i64 0, .int .i64 0]) 7 64 := ⟨Tryz.underlying43, by kernel_rfl, rfl, by decide, by decide⟩
theorem Blk.grownB {w w' : World} {b : Nat} {t : TypeId} {cs : Array Value} {row : Option Nat} (h : Blk w b t cs) (hg : w.grownBy w' row) (hr : some b ≠ row) : Blk w' b t cs := (hg.block b h.lt hr).trans h
theorem below_drew (w : World) : Below w.heap.size w w.drew := ⟨rfl, rfl, rfl, Nat.le_refl _, fun _ _ => rfl⟩
theorem Sta.few {w : World} {p : Ps} {r : List Tk} {lv : Int} (h : Sta w p r lv) : r.length ≤ 5000 := by
  obtain ⟨off, cap, h⟩ := h
  exact h.few
set_option maxRecDepth 100000 in
set_option maxHeartbeats 8000000 in
theorem match_any {p : Ps} {r : List Tk} {lv : Int} (w : World) (h : Sta w p r lv) :
    Calls Tryz.prog 47 #[ptr p.g] w (PPost p lv w (isIt w.heap.size) (matchP r)) := by
  obtain ⟨R, hR⟩ : ∃ R, matchP r = R := ⟨_, rfl⟩
  rw [hR]
  have R0 := Lib.hid hR.symm
  have G := Lib.hid (And.intro h.lt h.lt2)
  have S0 := Lib.hid h
  have N0 := Lib.hid (Tch.refl (fun b => b = p.g) w)
  obtain ⟨A, hA⟩ : ∃ A, w.heap.size = A := ⟨_, rfl⟩
  have HA := Lib.hid hA
  rw [hA] at G
  rw [hA]
  clear hR h
  go_enter Tryz.func47, Tryz.ntmps47
  go_wp2_with fail
  refine (name_any _ (S0.out.keep (below_box _ (.cells #[.int .i64 0, str [], .int .i64 0, str [], str [], .slice none 0 0, .slice none 0 0, .int .i64 0, .int .i64 0, .int .i64 0, .slice none 0 0, str [], str [], .slice none 0 0, .slice none 0 0, .slice none 0 0, .int .i64 0, str [], .slice none 0 0, .slice none 0 0, .slice none 0 0, str [], str [], .int .i64 0, .int .i64 0] 51)))).mono ?_
  intro e w1 hp
  rcases h1 : nameP r with ⟨a1, r1⟩ | ⟨b1, r1⟩
  · obtain ⟨v1, rfl, rfl, hs, hn⟩ := ppost_ok h1 hp
    have R1 := Lib.hid (R0.out.trans (bnd_ok h1))
    have S1 := Lib.hid hs
    have hA : Blk w1 A 51 #[.int .i64 0, str [], .int .i64 0, str [], str [], .slice none 0 0, .slice none 0 0, .int .i64 0, .int .i64 0, .int .i64 0, .slice none 0 0, str [], str [], .slice none 0 0, .slice none 0 0, .slice none 0 0, .int .i64 0, str [], .slice none 0 0, .slice none 0 0, .slice none 0 0, str [], str [], .int .i64 0, .int .i64 0] := by
      have q := ((Blk.new w 51 #[.int .i64 0, str [], .int .i64 0, str [], str [], .slice none 0 0, .slice none 0 0, .int .i64 0, .int .i64 0, .int .i64 0, .slice none 0 0, str [], str [], .slice none 0 0, .slice none 0 0, .slice none 0 0, .int .i64 0, str [], .slice none 0 0, .slice none 0 0, .slice none 0 0, str [], str [], .int .i64 0, .int .i64 0]) : Blk _ _ _ _)
      rw [HA.out] at q
      exact q.near hn (Nat.ne_of_gt G.out.1)
    have BA1 := Lib.hid hA
    have N1 := Lib.hid ((N0.out.trans (Tch.of_below (below_box _ (.cells #[.int .i64 0, str [], .int .i64 0, str [], str [], .slice none 0 0, .slice none 0 0, .int .i64 0, .int .i64 0, .int .i64 0, .slice none 0 0, str [], str [], .slice none 0 0, .slice none 0 0, .slice none 0 0, .int .i64 0, str [], .slice none 0 0, .slice none 0 0, .slice none 0 0, str [], str [], .int .i64 0, .int .i64 0] 51)))).trans hn)
    have Y1 := Lib.hid h1
    clear hs hn hp hA h1
    obtain ⟨B, hB⟩ : ∃ x, w1.heap.size = x := ⟨_, rfl⟩
    have HB := Lib.hid hB
    have GB := Lib.hid (show p.g < B ∧ p.b < B ∧ w.heap.size ≤ B ∧ A < B from by have q1 := (S1.out).lt; have q2 := (S1.out).lt2; have q3 := (N1.out).size; rw [hB] at q1 q2 q3; have q4 := (BA1.out).lt; have q5 := HA.out; rw [hB] at q4; exact ⟨q1, q2, q3, by omega⟩)
    go_wp2_with (refine wpList_store_new rfl 51 (.tmp 3) (.tmp 6) rfl B _ #[.int .i64 4, str a1, .int .i64 0, str [], str [], .slice none 0 0, .slice none 0 0, .int .i64 0, .int .i64 0, .int .i64 0, .slice none 0 0, str [], str [], .slice none 0 0, .slice none 0 0, .slice none 0 0, .int .i64 0, str [], .slice none 0 0, .slice none 0 0, .slice none 0 0, str [], str [], .int .i64 0, .int .i64 0] HB.out rfl rfl infoIt rfl (by simp [oc_int, oc_str, oc_slice]) ?_)
    refine (expect_one [111, 110] (by decide) _ _ _ (by first | omega | (simp; omega) | simp) (S1.out.keep (below_box _ (.cells #[.int .i64 4, str a1, .int .i64 0, str [], str [], .slice none 0 0, .slice none 0 0, .int .i64 0, .int .i64 0, .int .i64 0, .slice none 0 0, str [], str [], .slice none 0 0, .slice none 0 0, .slice none 0 0, .int .i64 0, str [], .slice none 0 0, .slice none 0 0, .slice none 0 0, str [], str [], .int .i64 0, .int .i64 0] 51)))).mono ?_
    intro e w2 hp
    rcases h2 : expP [111, 110] r1 with ⟨a2, r2⟩ | ⟨b2, r2⟩
    · obtain ⟨v2, rfl, rfl, hs, hn⟩ := ppost_ok h2 hp
      have R2 := Lib.hid (R1.out.trans (bnd_ok h2))
      have S2 := Lib.hid hs
      have hA : Blk w2 A 51 #[.int .i64 0, str [], .int .i64 0, str [], str [], .slice none 0 0, .slice none 0 0, .int .i64 0, .int .i64 0, .int .i64 0, .slice none 0 0, str [], str [], .slice none 0 0, .slice none 0 0, .slice none 0 0, .int .i64 0, str [], .slice none 0 0, .slice none 0 0, .slice none 0 0, str [], str [], .int .i64 0, .int .i64 0] := (BA1.out.alloc (.cells #[.int .i64 4, str a1, .int .i64 0, str [], str [], .slice none 0 0, .slice none 0 0, .int .i64 0, .int .i64 0, .int .i64 0, .slice none 0 0, str [], str [], .slice none 0 0, .slice none 0 0, .slice none 0 0, .int .i64 0, str [], .slice none 0 0, .slice none 0 0, .slice none 0 0, str [], str [], .int .i64 0, .int .i64 0] 51)).near hn (Nat.ne_of_gt G.out.1)
      have hB : Blk w2 B 51 #[.int .i64 4, str a1, .int .i64 0, str [], str [], .slice none 0 0, .slice none 0 0, .int .i64 0, .int .i64 0, .int .i64 0, .slice none 0 0, str [], str [], .slice none 0 0, .slice none 0 0, .slice none 0 0, .int .i64 0, str [], .slice none 0 0, .slice none 0 0, .slice none 0 0, str [], str [], .int .i64 0, .int .i64 0] := by
        have q := ((Blk.new w1 51 #[.int .i64 4, str a1, .int .i64 0, str [], str [], .slice none 0 0, .slice none 0 0, .int .i64 0, .int .i64 0, .int .i64 0, .slice none 0 0, str [], str [], .slice none 0 0, .slice none 0 0, .slice none 0 0, .int .i64 0, str [], .slice none 0 0, .slice none 0 0, .slice none 0 0, str [], str [], .int .i64 0, .int .i64 0]) : Blk _ _ _ _)
        rw [HB.out] at q
        exact q.near hn (Nat.ne_of_gt GB.out.1)
      have BA2 := Lib.hid hA
      have BB2 := Lib.hid hB
      have N2 := Lib.hid ((N1.out.trans (Tch.of_below (below_box _ (.cells #[.int .i64 4, str a1, .int .i64 0, str [], str [], .slice none 0 0, .slice none 0 0, .int .i64 0, .int .i64 0, .int .i64 0, .slice none 0 0, str [], str [], .slice none 0 0, .slice none 0 0, .slice none 0 0, .int .i64 0, str [], .slice none 0 0, .slice none 0 0, .slice none 0 0, str [], str [], .int .i64 0, .int .i64 0] 51)))).trans hn)
      have Y2 := Lib.hid h2
      clear hs hn hp hA hB h2
      go_wp2_with fail
      refine (name_any _ S2.out).mono ?_
      intro e w3 hp
      rcases h3 : nameP r2 with ⟨a3, r3⟩ | ⟨b3, r3⟩
      · obtain ⟨v3, rfl, rfl, hs, hn⟩ := ppost_ok h3 hp
        have R3 := Lib.hid (R2.out.trans (bnd_ok h3))
        have S3 := Lib.hid hs
        have hA : Blk w3 A 51 #[.int .i64 0, str [], .int .i64 0, str [], str [], .slice none 0 0, .slice none 0 0, .int .i64 0, .int .i64 0, .int .i64 0, .slice none 0 0, str [], str [], .slice none 0 0, .slice none 0 0, .slice none 0 0, .int .i64 0, str [], .slice none 0 0, .slice none 0 0, .slice none 0 0, str [], str [], .int .i64 0, .int .i64 0] := BA2.out.near hn (Nat.ne_of_gt G.out.1)
        have hB : Blk w3 B 51 #[.int .i64 4, str a1, .int .i64 0, str [], str [], .slice none 0 0, .slice none 0 0, .int .i64 0, .int .i64 0, .int .i64 0, .slice none 0 0, str [], str [], .slice none 0 0, .slice none 0 0, .slice none 0 0, .int .i64 0, str [], .slice none 0 0, .slice none 0 0, .slice none 0 0, str [], str [], .int .i64 0, .int .i64 0] := BB2.out.near hn (Nat.ne_of_gt GB.out.1)
        have BA3 := Lib.hid hA
        have BB3 := Lib.hid hB
        have N3 := Lib.hid (N2.out.trans hn)
        have Y3 := Lib.hid h3
        clear hs hn hp hA hB h3
        have cB3 := fun i => BB3.out.cell i
        have fB3 := fun i => BB3.out.frozen i
        go_wp2_with fail
        refine (expect_one [97, 116] (by decide) _ _ _ (by first | omega | (simp; omega) | simp) (S3.out.cell (a := ⟨B, 3, none⟩) GB.out.1 GB.out.2.1 (str a3))).mono ?_
        intro e w4 hp
        rcases h4 : expP [97, 116] r3 with ⟨a4, r4⟩ | ⟨b4, r4⟩
        · obtain ⟨v4, rfl, rfl, hs, hn⟩ := ppost_ok h4 hp
          have R4 := Lib.hid (R3.out.trans (bnd_ok h4))
          have S4 := Lib.hid hs
          have hA : Blk w4 A 51 #[.int .i64 0, str [], .int .i64 0, str [], str [], .slice none 0 0, .slice none 0 0, .int .i64 0, .int .i64 0, .int .i64 0, .slice none 0 0, str [], str [], .slice none 0 0, .slice none 0 0, .slice none 0 0, .int .i64 0, str [], .slice none 0 0, .slice none 0 0, .slice none 0 0, str [], str [], .int .i64 0, .int .i64 0] := (BA3.out.far (p := ⟨B, 3, none⟩) (Nat.ne_of_lt GB.out.2.2.2) (str a3)).near hn (Nat.ne_of_gt G.out.1)
          have hB : Blk w4 B 51 #[.int .i64 4, str a1, .int .i64 0, str a3, str [], .slice none 0 0, .slice none 0 0, .int .i64 0, .int .i64 0, .int .i64 0, .slice none 0 0, str [], str [], .slice none 0 0, .slice none 0 0, .slice none 0 0, .int .i64 0, str [], .slice none 0 0, .slice none 0 0, .slice none 0 0, str [], str [], .int .i64 0, .int .i64 0] := (BB3.out.set_ 3 (str a3)).near hn (Nat.ne_of_gt GB.out.1)
          have BA4 := Lib.hid hA
          have BB4 := Lib.hid hB
          have N4 := Lib.hid ((N3.out.set2 (p := ⟨B, 3, none⟩) GB.out.2.2.1 (str a3)).trans hn)
          have Y4 := Lib.hid h4
          clear hs hn hp hA hB h4
          go_wp2_with fail
          refine (number_any _ S4.out).mono ?_
          intro e w5 hp
          rcases h5 : numP r4 with ⟨a5, r5⟩ | ⟨b5, r5⟩
          · obtain ⟨v5, rfl, rfl, hs, hn⟩ := ppost_ok h5 hp
            have R5 := Lib.hid (R4.out.trans (bnd_ok h5))
            have S5 := Lib.hid hs
            have hA : Blk w5 A 51 #[.int .i64 0, str [], .int .i64 0, str [], str [], .slice none 0 0, .slice none 0 0, .int .i64 0, .int .i64 0, .int .i64 0, .slice none 0 0, str [], str [], .slice none 0 0, .slice none 0 0, .slice none 0 0, .int .i64 0, str [], .slice none 0 0, .slice none 0 0, .slice none 0 0, str [], str [], .int .i64 0, .int .i64 0] := BA4.out.near hn (Nat.ne_of_gt G.out.1)
            have hB : Blk w5 B 51 #[.int .i64 4, str a1, .int .i64 0, str a3, str [], .slice none 0 0, .slice none 0 0, .int .i64 0, .int .i64 0, .int .i64 0, .slice none 0 0, str [], str [], .slice none 0 0, .slice none 0 0, .slice none 0 0, .int .i64 0, str [], .slice none 0 0, .slice none 0 0, .slice none 0 0, str [], str [], .int .i64 0, .int .i64 0] := BB4.out.near hn (Nat.ne_of_gt GB.out.1)
            have BA5 := Lib.hid hA
            have BB5 := Lib.hid hB
            have N5 := Lib.hid (N4.out.trans hn)
            have Y5 := Lib.hid h5
            clear hs hn hp hA hB h5
            have cB5 := fun i => BB5.out.cell i
            have fB5 := fun i => BB5.out.frozen i
            go_wp2_with fail
            refine (expect_one [123] (by decide) _ _ _ (by first | omega | (simp; omega) | simp) (S5.out.cell (a := ⟨B, 8, none⟩) GB.out.1 GB.out.2.1 (.int .i64 a5))).mono ?_
            intro e w6 hp
            rcases h6 : expP [123] r5 with ⟨a6, r6⟩ | ⟨b6, r6⟩
            · obtain ⟨v6, rfl, rfl, hs, hn⟩ := ppost_ok h6 hp
              have R6 := Lib.hid (R5.out.trans (bnd_ok h6))
              have S6 := Lib.hid hs
              have hA : Blk w6 A 51 #[.int .i64 0, str [], .int .i64 0, str [], str [], .slice none 0 0, .slice none 0 0, .int .i64 0, .int .i64 0, .int .i64 0, .slice none 0 0, str [], str [], .slice none 0 0, .slice none 0 0, .slice none 0 0, .int .i64 0, str [], .slice none 0 0, .slice none 0 0, .slice none 0 0, str [], str [], .int .i64 0, .int .i64 0] := (BA5.out.far (p := ⟨B, 8, none⟩) (Nat.ne_of_lt GB.out.2.2.2) (.int .i64 a5)).near hn (Nat.ne_of_gt G.out.1)
              have hB : Blk w6 B 51 #[.int .i64 4, str a1, .int .i64 0, str a3, str [], .slice none 0 0, .slice none 0 0, .int .i64 0, .int .i64 a5, .int .i64 0, .slice none 0 0, str [], str [], .slice none 0 0, .slice none 0 0, .slice none 0 0, .int .i64 0, str [], .slice none 0 0, .slice none 0 0, .slice none 0 0, str [], str [], .int .i64 0, .int .i64 0] := (BB5.out.set_ 8 (.int .i64 a5)).near hn (Nat.ne_of_gt GB.out.1)
              have BA6 := Lib.hid hA
              have BB6 := Lib.hid hB
              have N6 := Lib.hid ((N5.out.set2 (p := ⟨B, 8, none⟩) GB.out.2.2.1 (.int .i64 a5)).trans hn)
              have Y6 := Lib.hid h6
              clear hs hn hp hA hB h6
              obtain ⟨D0, hD0⟩ : ∃ x, w6.heap.size = x := ⟨_, rfl⟩
              have HD0 := Lib.hid hD0
              have GD := Lib.hid (show p.g < D0 ∧ p.b < D0 ∧ A < D0 ∧ B < D0 ∧ w.heap.size ≤ D0 from by have q0 := S6.out.lt; have q5 := S6.out.lt2; have q1 := BA6.out.lt; have q2 := BB6.out.lt; have q3 := N6.out.size; omega)
              have few0 := S6.out.few
              have RQ := Lib.hid (show R = (termsP FU >>= fun l => (fun l => (pure { iz 4 a1 with table := a3, n := a5, terms := l } : P It)) ([] ++ l)) r6 from R6.out)
              clear hD0
              go_wp2_with fail
              go_loopg [] 6000 (fun gh wr => ∃ (acc : List Trm) (rk : List Tk) (o : Value), Blk wr B 51 #[.int .i64 4, str a1, .int .i64 0, str a3, str [], .slice none 0 0, .slice none 0 0, .int .i64 0, .int .i64 a5, .int .i64 0, o, str [], str [], .slice none 0 0, .slice none 0 0, .slice none 0 0, .int .i64 0, str [], .slice none 0 0, .slice none 0 0, .slice none 0 0, str [], str [], .int .i64 0, .int .i64 0] ∧ Blk wr A 51 #[.int .i64 0, str [], .int .i64 0, str [], str [], .slice none 0 0, .slice none 0 0, .int .i64 0, .int .i64 0, .int .i64 0, .slice none 0 0, str [], str [], .slice none 0 0, .slice none 0 0, .slice none 0 0, .int .i64 0, str [], .slice none 0 0, .slice none 0 0, .slice none 0 0, str [], str [], .int .i64 0, .int .i64 0] ∧ wr.ownsRow D0 64 7 o acc.length (acc.flatMap trmC) ∧ rk.length < gh ∧ acc.length + gh ≤ 6000 ∧ D0 ≤ wr.heap.size ∧ R = (termsP gh >>= fun l => (fun l => (pure { iz 4 a1 with table := a3, n := a5, terms := l } : P It)) (acc ++ l)) rk ∧ Sta wr p rk lv ∧ Near p.g w wr)
              case atStart => exact ⟨[], r6, .slice none 0 0, BB6.out, BA6.out, World.ownsRow_nil _ _ _ _, by omega, by simp, Nat.le_of_eq HD0.out.symm, RQ.out, S6.out, N6.out⟩
              case round =>
                obtain ⟨acc, rk, o, hB, hA2, hown, hlt, hfew, hD, hR, hs, hn⟩ := hrel
                obtain ⟨g2, rfl⟩ : ∃ g2, gk = g2 + 1 := ⟨gk - 1, by omega⟩
                obtain ⟨oA, oc, rfl⟩ := own_isSl hown
                have BB := Lib.hid hB
                have BA := Lib.hid hA2
                have OW := Lib.hid hown
                have RK := Lib.hid hR
                have SK := Lib.hid hs
                have NK := Lib.hid hn
                clear hB hA2 hown hR hs hn
                obtain ⟨c2, r2, h2⟩ := acc_ok [125] rk
                have X2 := Lib.hid h2
                clear h2
                go_wp2_with fail
                refine (accept_any [125] (by decide) _ SK.out).mono ?_
                intro e w2 hp
                obtain ⟨v2, rfl, rfl, hs, hn⟩ := ppost_ok X2.out hp
                have hz2 : D0 ≤ w2.heap.size := Nat.le_trans hD hn.size
                have S2 := Lib.hid hs
                have N2 := Lib.hid (NK.out.trans hn)
                have O2 := Lib.hid (own_near OW.out hn GD.out.1)
                have B2 := Lib.hid (BB.out.near hn (Nat.ne_of_gt GB.out.1))
                have A2 := Lib.hid (BA.out.near hn (Nat.ne_of_gt G.out.1))
                clear hs hn hp
                cases c2
                · have hsame := acc_same X2.out
                  subst hsame
                  rcases h3 : termP r2 with ⟨t3, rr3⟩ | ⟨bb3, rr3⟩
                  · have hlt3 := term_lt h3
                    have R3 := Lib.hid (RK.out.trans (terms_yes (q := (fun l => (pure { iz 4 a1 with table := a3, n := a5, terms := l } : P It))) X2.out h3))
                    have C3 := Lib.hid (fun W (q : Sta W p r2 lv) => (term_any W q).mono fun e w' hp => ppost_ok h3 hp)
                    have cB := fun i => B2.out.cell i
                    clear h3
                    go_wp2_with fail
                    go_region_law (first | (refine step_app elem_trm rfl (.tmp 26) (.tmp 29) rfl (base := D0) (by rfl) (O8.out.alloc (.cells (trmC t3).toArray 64)) (by rfl) (src_cells w8 (trmC t3) 64 _ rfl (one_trm t3)) (by omega) (by simp; omega) ?_; intro v4 w4 hown hg hat; obtain ⟨A4, c4, rfl⟩ := own_isSl hown; have O4 := Lib.hid (show w4.ownsRow D0 64 7 _ (acc ++ [t3]).length ((acc ++ [t3]).flatMap trmC) from by rw [List.length_append, List.flatMap_append, List.flatMap_singleton]; exact hown); have hr4 := Lib.hid (fun j hj => (O8.out.lt j hj).1); have hB4 := (B8.out.alloc (.cells (trmC t3).toArray 64)).grownB hg (fun e => by have := hr4.out _ e.symm; have := GD.out.2.2.2.1; omega); have B4 := Lib.hid hB4; have A4' := Lib.hid ((A8.out.alloc (.cells (trmC t3).toArray 64)).grownB hg (fun e => by have := hr4.out _ e.symm; have := GD.out.2.2.1; omega)); have S4 := Lib.hid ((S8.out.keep (below_box _ (.cells (trmC t3).toArray 64))).grown hg hr4.out GD.out.1 GD.out.2.1); have N4 := Lib.hid (near_grown (N8.out.trans (Tch.of_below (below_box _ (.cells (trmC t3).toArray 64)))) hg (fun j hj => by have := hr4.out j hj; have := GD.out.2.2.2.2; omega)); have Z4 := Lib.hid (show D0 ≤ w4.heap.size from by have := hg.size; simp at this; omega); have cB4 := fun i => B4.out.cell i; have fB4 := fun i => B4.out.frozen i; clear hown hg hat hB4) | (go_simp; go_at_call 69; refine (C3.out _ (S2.out.keep (below_drew _))).mono ?_; rintro e w8 ⟨v3, rfl, rfl, hs, hn⟩; have S8 := Lib.hid hs; have O8 := Lib.hid (own_near (own_heap (w' := w2.drew) O2.out (fun _ _ => rfl)) hn GD.out.1); have B8 := Lib.hid ((B2.out.keep (below_drew w2)).near hn (Nat.ne_of_gt GB.out.1)); have A8 := Lib.hid ((A2.out.keep (below_drew w2)).near hn (Nat.ne_of_gt G.out.1)); have N8 := Lib.hid ((N2.out.trans (Tch.of_below (below_drew w2))).trans hn); have hz8 : D0 ≤ w8.heap.size := Nat.le_trans hz2 hn.size; have cB8 := fun i => B8.out.cell i; have cB8a := fun o i => (B8.out.alloc o).cell i; clear hs hn))
                    all_goals
                      go_wp2_with fail
                      go_roundg g2
                      case measure => omega
                      case rel => exact ⟨acc ++ [t3], rr3, _, B4.out.set_ 10 _, A4'.out.far (p := ⟨B, 10, none⟩) (Nat.ne_of_lt GB.out.2.2.2) _, own_heap O4.out (fun j hj => heap_setCell_other _ _ _ _ (fun e => by have := (O4.out.lt j hj).1; have := GD.out.2.2.2.1; have e2 : j = B := e; omega)), by omega, by simp; omega, by simpa using Z4.out, R3.out, S4.out.cell (a := ⟨B, 10, none⟩) GB.out.1 GB.out.2.1 _, N4.out.set2 (p := ⟨B, 10, none⟩) GB.out.2.2.1 _⟩
                  · have R3 := Lib.hid (RK.out.trans (terms_bad (q := (fun l => (pure { iz 4 a1 with table := a3, n := a5, terms := l } : P It))) X2.out h3))
                    have C3 := Lib.hid (fun W (q : Sta W p r2 lv) => (term_any W q).mono fun e w' hp => ppost_bad h3 hp)
                    have cB := fun i => B2.out.cell i
                    clear h3
                    go_wp2_with fail
                    refine wp_region_held_drew (S := fun w9 => w9.cell? ⟨B, 10, none⟩ = some (.slice oA acc.length oc)) (by kernel_rfl) ?_ (fun hHeld => ?_)
                    · try dsimp only
                      go_keep
                    refine wpAnyH_take (i := 0) (v := ?_) (by (simp only [List.getElem?_toArray, List.getElem?_cons_zero]; rfl)) (by kernel_rfl) (by kernel_rfl) (by kernel_rfl) (by intro _ _ _ h; exact h) (Or.inl ⟨by kernel_rfl, ?_⟩) hHeld ?_
                    case refine_2 =>
                      intro w hSw
                      try dsimp only at hSw
                      go_simp
                      try with_reducible rfl
                    try simp only [Act.put, List.setIfInBounds_toArray, List.set_cons_zero, List.set_cons_succ]
                    refine wpAnyH_take (i := 1) (v := ?_) (by (simp only [List.getElem?_toArray, List.getElem?_cons_succ, List.getElem?_cons_zero]; rfl)) (by kernel_rfl) (by kernel_rfl) (by kernel_rfl) (by intro _ _ _ h; exact h) (Or.inl ⟨by kernel_rfl, ?_⟩) hHeld ?_
                    case refine_2 =>
                      intro w hSw
                      try dsimp only at hSw
                      go_simp
                      try with_reducible rfl
                    try simp only [Act.put, List.setIfInBounds_toArray, List.set_cons_zero, List.set_cons_succ]
                    refine wpAnyH_take (i := 2) (v := ?_) (by (simp only [List.getElem?_toArray, List.getElem?_cons_succ, List.getElem?_cons_zero]; rfl)) (by kernel_rfl) (by kernel_rfl) (by kernel_rfl) (by intro _ _ _ h; exact h) (Or.inl ⟨by kernel_rfl, ?_⟩) hHeld ?_
                    case refine_2 =>
                      intro w hSw
                      try dsimp only at hSw
                      go_simp
                      try with_reducible rfl
                    try simp only [Act.put, List.setIfInBounds_toArray, List.set_cons_zero, List.set_cons_succ]
                    refine wpAnyH_ready (rs := [3]) (by kernel_rfl) (by simp) ?_
                    refine AllReadyH.cons (by (simp only [List.getElem?_toArray, List.getElem?_cons_succ, List.getElem?_cons_zero]; rfl)) (fun K hK => ?_) AllReadyH.nil
                    go_simp
                    refine (C3.out _ (S2.out.keep (below_drew _))).mono ?_
                    rintro e w8 ⟨rfl, hn⟩
                    exact ⟨rfl, ppost_of_bad R3.out ((N2.out.trans (Tch.of_below (below_drew w2))).trans hn)⟩
                · have R3 := Lib.hid (RK.out.trans (terms_no (q := (fun l => (pure { iz 4 a1 with table := a3, n := a5, terms := l } : P It))) X2.out))
                  have V3 := Lib.hid (lst_of_own len_trm rfl O2.out)
                  go_wp2_with (first | (refine wpList_load_row rfl 51 (.tmp 3) rfl B rfl _ #[.int .i64 4, str a1, .int .i64 0, str a3, str [], .slice none 0 0, .slice none 0 0, .int .i64 0, .int .i64 a5, .int .i64 0, .slice oA acc.length oc, str [], str [], .slice none 0 0, .slice none 0 0, .slice none 0 0, .int .i64 0, str [], .slice none 0 0, .slice none 0 0, .slice none 0 0, str [], str [], .int .i64 0, .int .i64 0] _ _ B2.out Tryz.underlying51 rfl infoIt ?_) | (refine wpList_store_row rfl 51 (.tmp 2) (.tmp 32) rfl A #[.int .i64 4, str a1, .int .i64 0, str a3, str [], .slice none 0 0, .slice none 0 0, .int .i64 0, .int .i64 a5, .int .i64 0, .slice oA acc.length oc, str [], str [], .slice none 0 0, .slice none 0 0, .slice none 0 0, .int .i64 0, str [], .slice none 0 0, .slice none 0 0, .slice none 0 0, str [], str [], .int .i64 0, .int .i64 0] rfl rfl _ _ A2.out infoIt rfl (by simp [oc_int, oc_str, oc_slice]) ?_))
                  have hres := A2.out.row #[.int .i64 4, str a1, .int .i64 0, str a3, str [], .slice none 0 0, .slice none 0 0, .int .i64 0, .int .i64 a5, .int .i64 0, .slice oA acc.length oc, str [], str [], .slice none 0 0, .slice none 0 0, .slice none 0 0, .int .i64 0, str [], .slice none 0 0, .slice none 0 0, .slice none 0 0, str [], str [], .int .i64 0, .int .i64 0]
                  exact bodyPost_ret (v := .agg #[.int .i64 4, str a1, .int .i64 0, str a3, str [], .slice none 0 0, .slice none 0 0, .int .i64 0, .int .i64 a5, .int .i64 0, .slice oA acc.length oc, str [], str [], .slice none 0 0, .slice none 0 0, .slice none 0 0, .int .i64 0, str [], .slice none 0 0, .slice none 0 0, .slice none 0 0, str [], str [], .int .i64 0, .int .i64 0]) (results_cell_row rfl _ _ A _ _ _ _ rfl hres Tryz.underlying51 rfl infoIt) rfl
                    (ppost_of_ok (V := isIt A) (R3.out.trans rfl) ⟨⟨.slice none 0 0, .slice none 0 0, .slice oA acc.length oc, .slice none 0 0, .slice none 0 0, .slice none 0 0, .slice none 0 0, .slice none 0 0, .slice none 0 0⟩, rfl, { cols := Lst.nil _, names := Lst.nil _, terms := (V3.out.stay len_trm ((Kept.refl D0 w2).row GD.out.2.2.1 _)).lower (Nat.le_of_lt GD.out.2.2.1), fixed := Lst.nil _, vars := Lst.nil _, conds := Lst.nil _, ex := exC_zero _ _ }⟩ (S2.out.row G.out.1 G.out.2 _) (N2.out.row (Nat.le_of_eq HA.out) _))
            · obtain ⟨rfl, hn⟩ := ppost_bad h6 hp
              exact ⟨rfl, ppost_of_bad (R5.out.trans (bnd_bad h6)) ((N5.out.set2 (p := ⟨B, 8, none⟩) GB.out.2.2.1 (.int .i64 a5)).trans hn)⟩
          · obtain ⟨rfl, hn⟩ := ppost_bad h5 hp
            exact ⟨rfl, ppost_of_bad (R4.out.trans (bnd_bad h5)) (N4.out.trans hn)⟩
        · obtain ⟨rfl, hn⟩ := ppost_bad h4 hp
          exact ⟨rfl, ppost_of_bad (R3.out.trans (bnd_bad h4)) ((N3.out.set2 (p := ⟨B, 3, none⟩) GB.out.2.2.1 (str a3)).trans hn)⟩
      · obtain ⟨rfl, hn⟩ := ppost_bad h3 hp
        exact ⟨rfl, ppost_of_bad (R2.out.trans (bnd_bad h3)) (N2.out.trans hn)⟩
    · obtain ⟨rfl, hn⟩ := ppost_bad h2 hp
      exact ⟨rfl, ppost_of_bad (R1.out.trans (bnd_bad h2)) ((N1.out.trans (Tch.of_below (below_box _ (.cells #[.int .i64 4, str a1, .int .i64 0, str [], str [], .slice none 0 0, .slice none 0 0, .int .i64 0, .int .i64 0, .int .i64 0, .slice none 0 0, str [], str [], .slice none 0 0, .slice none 0 0, .slice none 0 0, .int .i64 0, str [], .slice none 0 0, .slice none 0 0, .slice none 0 0, str [], str [], .int .i64 0, .int .i64 0] 51)))).trans hn)⟩
  · obtain ⟨rfl, hn⟩ := ppost_bad h1 hp
    exact ⟨rfl, ppost_of_bad (R0.out.trans (bnd_bad h1)) ((N0.out.trans (Tch.of_below (below_box _ (.cells #[.int .i64 0, str [], .int .i64 0, str [], str [], .slice none 0 0, .slice none 0 0, .int .i64 0, .int .i64 0, .int .i64 0, .slice none 0 0, str [], str [], .slice none 0 0, .slice none 0 0, .slice none 0 0, .int .i64 0, str [], .slice none 0 0, .slice none 0 0, .slice none 0 0, str [], str [], .int .i64 0, .int .i64 0] 51)))).trans hn)⟩
end Go.Proofs.YtcgkaecaddpenaaGreatDoor
