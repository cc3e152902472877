import Derived.Test.YteokcgfbhaeklaaGreatDoorPRefC
import Derived.Test.YteokcgfbhaeklaaGreatDoorPLoc
import Derived.Test.YteokcgfbhaeklaaGreatDoorPRow
/- What the reference's check returns. -/
namespace Go.Proofs.YteokcgfbhaeklaaGreatDoor
open Go.RowKit

def ChkPost (w : World) (s : List TabT) (c : ChgT) (e : Ending) (w' : World) : Prop :=
  (∃ i j : Int, e = .returned (.tuple #[.int .i64 i, .int .i64 j, .int .i64 (locT s c).1]) ∧ ((locT s c).1 = 0 → i = (locT s c).2.1 ∧ j = (locT s c).2.2)) ∧ Below w.heap.size w w'
theorem chk_err {w w' : World} {s : List TabT} {c : ChgT} {er : Int} (h : (locT s c).1 = er) (h0 : er ≠ 0) (hb : Below w.heap.size w w') : ChkPost w s c (.returned (.tuple #[.int .i64 0, .int .i64 0, .int .i64 er])) w' :=
  ⟨⟨0, 0, by rw [h], fun e => absurd (h.symm.trans e) h0⟩, hb⟩
theorem chk_ok {w w' : World} {s : List TabT} {c : ChgT} {i j : Int} (h : locT s c = (0, i, j)) (hb : Below w.heap.size w w') : ChkPost w s c (.returned (.tuple #[.int .i64 i, .int .i64 j, .int .i64 0])) w' :=
  ⟨⟨i, j, by rw [h], fun _ => by rw [h]; exact ⟨rfl, rfl⟩⟩, hb⟩
theorem name_is (t : Txt) (r : Bool) (hr : nameB t = r) (hl : t.length ≤ maxLen) (w : World) : Calls Tryz.prog 59 #[str t] w (BoolPost w r) :=
  (name_ref t hl w).mono fun e w' => by
    rintro ⟨rfl, rfl⟩
    exact ⟨bool_ret hr, Below.refl _ _⟩
theorem kind_is (k : Int) (r : Bool) (hr : decide (1 ≤ k ∧ k ≤ 4) = r) (w : World) : Calls Tryz.prog 60 #[.int .i64 k] w (BoolPost w r) :=
  (kind_ref k w).mono fun e w' => by
    rintro ⟨rfl, rfl⟩
    exact ⟨bool_ret hr, Below.refl _ _⟩
theorem in_is (l : List Int) (v : Value) (n : Int) (r : Bool) (hr : decide (n ∈ l) = r) (hl : l.length ≤ 4000) (w : World) (h : Ints w v l) : Calls Tryz.prog 61 #[v, .int .i64 n] w (BoolPost w r) :=
  (in_rf l v n hl w h).mono fun e w' => by
    rintro ⟨rfl, rfl⟩
    exact ⟨bool_ret hr, Below.refl _ _⟩
theorem loc_col {s : List TabT} {c : ChgT} (h1 : validB s = true) (h2 : formedB c = true) {i : Nat} (hi : i < s.length) (h : findT s c.table = (i : Int)) (hy : ¬ (colT s[i].attrs c.attr < 0 ∧ c.kind ≠ 1)) :
    locT s c = (refT s[i] (colT s[i].attrs c.attr) c, (i : Int), colT s[i].attrs c.attr) := by rw [loc_find h1 h2 hi h, if_neg hy]
theorem loc_colno {s : List TabT} {c : ChgT} (h1 : validB s = true) (h2 : formedB c = true) {i : Nat} (hi : i < s.length) (h : findT s c.table = (i : Int)) (hy : colT s[i].attrs c.attr < 0) (hk : c.kind ≠ 1) : (locT s c).1 = 11 := by rw [loc_find h1 h2 hi h, if_pos ⟨hy, hk⟩]
theorem ref_1 {t : TabT} {col : Int} {c : ChgT} (h : c.kind = 1) : refT t col c = if nameB c.name = false ∨ typedB c.to c.dft = false then 1 else if 0 ≤ colT t.attrs c.name then 9 else if 12 ≤ t.attrs.length then 3 else 0 := if_pos h
theorem ref_2 {t : TabT} {col : Int} {c : ChgT} (h : c.kind = 2) : refT t col c = if col ∈ t.key then 1 else 0 := by unfold refT; rw [if_neg (by omega), if_pos h]
theorem ref_3 {t : TabT} {col : Int} {c : ChgT} (h : c.kind = 3) : refT t col c = if nameB c.name = false then 1 else if 0 ≤ colT t.attrs c.name then 9 else 0 := by unfold refT; rw [if_neg (by omega), if_neg (by omega), if_pos h]
theorem ref_4 {t : TabT} {col : Int} {c : ChgT} (h : c.kind = 4) : refT t col c = if typedB c.to c.dft = false ∨ (t.attrs[col.toNat]?).map AttrT.kind = some c.to then 1 else 0 := by unfold refT; rw [if_neg (by omega), if_neg (by omega), if_neg (by omega)]
theorem valid_len {s : List TabT} (h : validB s = true) {t : TabT} (ht : t ∈ s) : 1 ≤ t.attrs.length ∧ t.attrs.length ≤ 12 := ((validB_iff.1 h).2.1 t ht).len
end Go.Proofs.YteokcgfbhaeklaaGreatDoor

/- The reference's check, at a change of kind other than 1 to 4. -/
namespace Go.Proofs.YteokcgfbhaeklaaGreatDoor
open Go.RowKit

set_option maxRecDepth 100000 in
set_option maxHeartbeats 8000000 in
theorem check0_rf (s : List TabT) (v : Value) (c : ChgT) (hk : c.kind ≠ 1 ∧ c.kind ≠ 2 ∧ c.kind ≠ 3 ∧ c.kind ≠ 4) (hm : Mid s) (hlen : Lens s) (w : World) (h : Tabs w v s) :
    Calls Tryz.prog 33 #[.agg #[v], Cv c] w (ChkPost w s c) := by
  have HK := Lib.hid hk
  obtain ⟨A, cp, rfl, _⟩ := h.form
  have HS := Lib.hid h
  have HM := Lib.hid hm
  have HLN := Lib.hid hlen
  have hsl : s.length ≤ 24 := hm.1
  obtain ⟨rv, hrv⟩ : ∃ r, validB s = r := ⟨_, rfl⟩
  have CV := Lib.hid (fun W (hW : Tabs W (.slice A s.length cp) s) => hrv ▸ valid_rf s _ hm hlen W hW)
  have HV := Lib.hid hrv
  obtain ⟨rf, hrf⟩ : ∃ r, formedB c = r := ⟨_, rfl⟩
  have CFO := Lib.hid (fun W => hrf ▸ formed_rf c W)
  have HFO := Lib.hid hrf
  clear hk h hm hlen hrv hrf
  go_enter Tryz.func33, Tryz.ntmps33
  go_wp2_with fail
  refine (CV.out _ (HS.out.below ((below_box w _).alloc (by simp) _))).mono ?_
  rintro e w1 ⟨rfl, hb⟩
  have hb2 : Below w.heap.size w w1 := below_up ((below_box w _).alloc (by simp) _) hb (by simp; omega)
  replace HS := Lib.hid (HS.out.below hb2)
  have HB := Lib.hid hb2
  have z0 : w1.cell? ⟨w.heap.size, 0, none⟩ = some (.slice A s.length cp) := cellB hb (by simp [go_sem])
  have c0 : w1.cell? ⟨w.heap.size + 1, 0, none⟩ = some (.int .i64 c.kind) := cellB hb (by simp [go_sem])
  have c1 : w1.cell? ⟨w.heap.size + 1, 1, none⟩ = some (str c.table) := cellB hb (by simp [go_sem])
  have c2 : w1.cell? ⟨w.heap.size + 1, 2, none⟩ = some (str c.attr) := cellB hb (by simp [go_sem])
  have c3 : w1.cell? ⟨w.heap.size + 1, 3, none⟩ = some (str c.name) := cellB hb (by simp [go_sem])
  have c4 : w1.cell? ⟨w.heap.size + 1, 4, none⟩ = some (.int .i64 c.to) := cellB hb (by simp [go_sem])
  have c5 : w1.cell? ⟨w.heap.size + 1, 5, none⟩ = some (.int .i64 c.dft.1) := cellB hb (by simp [go_sem])
  have c6 : w1.cell? ⟨w.heap.size + 1, 6, none⟩ = some (.int .i64 c.dft.2.1) := cellB hb (by simp [go_sem])
  have c7 : w1.cell? ⟨w.heap.size + 1, 7, none⟩ = some (str c.dft.2.2) := cellB hb (by simp [go_sem])
  clear hb hb2
  clear CV
  cases rv with
  | false =>
    have HL := Lib.hid (show (locT s c).1 = 1 from by rw [loc_arg (Or.inl HV.out)])
    go_wp2_with fail
    refine bodyPost_ret (v := .tuple #[.int .i64 0, .int .i64 0, .int .i64 1]) (by simp [results, Tryz.results33, go_sem]) rfl ?_
    exact chk_err HL.out (by decide) HB.out
  | true =>
    go_wp2_with fail
    refine (CFO.out _).mono ?_
    rintro e w2 ⟨rfl, hb⟩
    have hb2 : Below w1.heap.size w1 w2 := hb
    replace z0 := cellB hb2 z0
    replace c0 := cellB hb2 c0
    replace c1 := cellB hb2 c1
    replace c2 := cellB hb2 c2
    replace c3 := cellB hb2 c3
    replace c4 := cellB hb2 c4
    replace c5 := cellB hb2 c5
    replace c6 := cellB hb2 c6
    replace c7 := cellB hb2 c7
    replace HS := Lib.hid (HS.out.below hb2)
    replace HB := Lib.hid (below_up HB.out hb2 HB.out.size)
    clear hb hb2
    clear CFO
    cases rf with
    | true => exact absurd HFO.out (by rw [formed_0 HK.out]; simp)
    | false =>
      have HL := Lib.hid (show (locT s c).1 = 1 from by rw [loc_arg (Or.inr HFO.out)])
      go_wp2_with fail
      refine bodyPost_ret (v := .tuple #[.int .i64 0, .int .i64 0, .int .i64 1]) (by simp [results, Tryz.results33, go_sem]) rfl ?_
      exact chk_err HL.out (by decide) HB.out
end Go.Proofs.YteokcgfbhaeklaaGreatDoor

/- The reference's check, at a change of kind 1. -/
namespace Go.Proofs.YteokcgfbhaeklaaGreatDoor
open Go.RowKit

set_option maxRecDepth 100000 in
set_option maxHeartbeats 8000000 in
theorem check1_rf (s : List TabT) (v : Value) (c : ChgT) (hk : c.kind = 1) (hm : Mid s) (hlen : Lens s) (hcn : c.name.length ≤ maxLen) (w : World) (h : Tabs w v s) :
    Calls Tryz.prog 33 #[.agg #[v], Cv c] w (ChkPost w s c) := by
  have HK := Lib.hid hk
  have e1 : (c.kind == 1) = true := by rw [hk]; rfl
  have e2 : (c.kind == 2) = false := by rw [hk]; rfl
  have e3 : (c.kind == 3) = false := by rw [hk]; rfl
  have e4 : (c.kind == 4) = false := by rw [hk]; rfl
  have n1 : (c.kind != 1) = false := by rw [hk]; rfl
  obtain ⟨A, cp, rfl, _⟩ := h.form
  have HS := Lib.hid h
  have HM := Lib.hid hm
  have HLN := Lib.hid hlen
  have hsl : s.length ≤ 24 := hm.1
  obtain ⟨rv, hrv⟩ : ∃ r, validB s = r := ⟨_, rfl⟩
  have CV := Lib.hid (fun W (hW : Tabs W (.slice A s.length cp) s) => hrv ▸ valid_rf s _ hm hlen W hW)
  have HV := Lib.hid hrv
  obtain ⟨rf, hrf⟩ : ∃ r, formedB c = r := ⟨_, rfl⟩
  have CFO := Lib.hid (fun W => hrf ▸ formed_rf c W)
  have HFO := Lib.hid hrf
  obtain ⟨f, hf⟩ : ∃ f, findT s c.table = f := ⟨_, rfl⟩
  have CFI := Lib.hid (fun W (hW : Tabs W (.slice A s.length cp) s) => hf ▸ find_rf s _ c.table (by omega) W hW)
  have HF := Lib.hid hf
  clear hf
  obtain ⟨rn, hrn⟩ : ∃ r, nameB c.name = r := ⟨_, rfl⟩
  have CNA := Lib.hid (fun W => name_is c.name rn hrn hcn W)
  have HNA := Lib.hid hrn
  clear hrn
  obtain ⟨rk, hrk⟩ : ∃ r, decide (1 ≤ c.to ∧ c.to ≤ 4) = r := ⟨_, rfl⟩
  have CKI := Lib.hid (fun W => kind_is c.to rk hrk W)
  have HKI := Lib.hid hrk
  obtain ⟨rt, hrt⟩ : ∃ r, fitB c.dft c.to = r := ⟨_, rfl⟩
  have CTO := Lib.hid (fun W => hrt ▸ fit_ref c.dft c.to W)
  have HTO := Lib.hid hrt
  clear hrk hrt
  clear hk h hm hlen hrv hrf hcn
  go_enter Tryz.func33, Tryz.ntmps33
  go_wp2_with fail
  refine (CV.out _ (HS.out.below ((below_box w _).alloc (by simp) _))).mono ?_
  rintro e w1 ⟨rfl, hb⟩
  have hb2 : Below w.heap.size w w1 := below_up ((below_box w _).alloc (by simp) _) hb (by simp; omega)
  replace HS := Lib.hid (HS.out.below hb2)
  have HB := Lib.hid hb2
  have z0 : w1.cell? ⟨w.heap.size, 0, none⟩ = some (.slice A s.length cp) := cellB hb (by simp [go_sem])
  have c0 : w1.cell? ⟨w.heap.size + 1, 0, none⟩ = some (.int .i64 c.kind) := cellB hb (by simp [go_sem])
  have c1 : w1.cell? ⟨w.heap.size + 1, 1, none⟩ = some (str c.table) := cellB hb (by simp [go_sem])
  have c2 : w1.cell? ⟨w.heap.size + 1, 2, none⟩ = some (str c.attr) := cellB hb (by simp [go_sem])
  have c3 : w1.cell? ⟨w.heap.size + 1, 3, none⟩ = some (str c.name) := cellB hb (by simp [go_sem])
  have c4 : w1.cell? ⟨w.heap.size + 1, 4, none⟩ = some (.int .i64 c.to) := cellB hb (by simp [go_sem])
  have c5 : w1.cell? ⟨w.heap.size + 1, 5, none⟩ = some (.int .i64 c.dft.1) := cellB hb (by simp [go_sem])
  have c6 : w1.cell? ⟨w.heap.size + 1, 6, none⟩ = some (.int .i64 c.dft.2.1) := cellB hb (by simp [go_sem])
  have c7 : w1.cell? ⟨w.heap.size + 1, 7, none⟩ = some (str c.dft.2.2) := cellB hb (by simp [go_sem])
  clear hb hb2
  clear CV
  cases rv with
  | false =>
    have HL := Lib.hid (show (locT s c).1 = 1 from by rw [loc_arg (Or.inl HV.out)])
    go_wp2_with fail
    refine bodyPost_ret (v := .tuple #[.int .i64 0, .int .i64 0, .int .i64 1]) (by simp [results, Tryz.results33, go_sem]) rfl ?_
    exact chk_err HL.out (by decide) HB.out
  | true =>
    go_wp2_with fail
    refine (CFO.out _).mono ?_
    rintro e w2 ⟨rfl, hb⟩
    have hb2 : Below w1.heap.size w1 w2 := hb
    replace z0 := cellB hb2 z0
    replace c0 := cellB hb2 c0
    replace c1 := cellB hb2 c1
    replace c2 := cellB hb2 c2
    replace c3 := cellB hb2 c3
    replace c4 := cellB hb2 c4
    replace c5 := cellB hb2 c5
    replace c6 := cellB hb2 c6
    replace c7 := cellB hb2 c7
    replace HS := Lib.hid (HS.out.below hb2)
    replace HB := Lib.hid (below_up HB.out hb2 HB.out.size)
    clear hb hb2
    clear CFO
    cases rf with
    | false =>
      have HL := Lib.hid (show (locT s c).1 = 1 from by rw [loc_arg (Or.inr HFO.out)])
      go_wp2_with fail
      refine bodyPost_ret (v := .tuple #[.int .i64 0, .int .i64 0, .int .i64 1]) (by simp [results, Tryz.results33, go_sem]) rfl ?_
      exact chk_err HL.out (by decide) HB.out
    | true =>
      go_wp2_with fail
      refine (CFI.out _ HS.out).mono ?_
      rintro e w3 ⟨rfl, hb⟩
      have hb2 : Below w2.heap.size w2 w3 := hb
      replace z0 := cellB hb2 z0
      replace c0 := cellB hb2 c0
      replace c1 := cellB hb2 c1
      replace c2 := cellB hb2 c2
      replace c3 := cellB hb2 c3
      replace c4 := cellB hb2 c4
      replace c5 := cellB hb2 c5
      replace c6 := cellB hb2 c6
      replace c7 := cellB hb2 c7
      replace HS := Lib.hid (HS.out.below hb2)
      replace HB := Lib.hid (below_up HB.out hb2 HB.out.size)
      clear hb hb2
      clear CFI
      by_cases hf0 : f < 0
      · skip
        have HL := Lib.hid (show (locT s c).1 = 11 from by rw [loc_none HV.out HFO.out (by rw [HF.out]; exact hf0)])
        go_wp2_with fail
        refine bodyPost_ret (v := .tuple #[.int .i64 0, .int .i64 0, .int .i64 11]) (by simp [results, Tryz.results33, go_sem]) rfl ?_
        exact chk_err HL.out (by decide) HB.out
      · skip
        obtain ⟨i, hfi⟩ : ∃ i : Nat, f = (i : Int) := ⟨f.toNat, by omega⟩
        subst hfi
        have hi : i < s.length := by
          have := findT_range s c.table
          rw [HF.out] at this
          omega
        obtain ⟨b, o, e, va, vk, hat, hva, hvk⟩ := tab_row HS.out hi
        subst e
        obtain ⟨Aa, na, rfl, _⟩ := hva.form
        obtain ⟨Ak, nk, rfl, _⟩ := hvk.form
        have x0 := hat.c0
        have x1 := hat.c1
        have x2 := hat.c2
        have hmt := HM.out.2 s[i] (List.getElem_mem hi)
        have hvl := valid_len HV.out (List.getElem_mem hi)
        obtain ⟨t, ht⟩ : ∃ t, s[i] = t := ⟨_, rfl⟩
        rw [ht] at x0 x1 x2 hmt hva hvk hvl
        have HT := Lib.hid ht
        have HMT := Lib.hid hmt
        have HVA := Lib.hid hva
        have HVK := Lib.hid hvk
        obtain ⟨y, hy⟩ : ∃ y, colT t.attrs c.attr = y := ⟨_, rfl⟩
        have CC := Lib.hid (fun W (hW : Attrs W (.slice Aa t.attrs.length na) t.attrs) => hy ▸ column_rf t.name t.attrs _ (.slice Ak t.key.length nk) c.attr (by have := hmt.1; omega) (fun a ha => by have := hmt.2.2 a ha; omega) W hW)
        have HY := Lib.hid hy
        have i1 : (0 : Int) ≤ (i : Int) := by omega
        have i2 : (i : Int) < (s.length : Int) := by omega
        clear hat hva hvk hmt hy ht
        go_wp2_with fail
        go_region_held3 (fun w' => w'.cell? ⟨w.heap.size, 0, none⟩ = some (.slice (some ⟨b, o, none⟩) s.length cp) ∧ w'.cell? ⟨w.heap.size + 1, 2, none⟩ = some (str c.attr) ∧ w'.cell? ⟨b, o + i * 3, none⟩ = some (str t.name) ∧ w'.cell? ⟨b, o + i * 3 + 1, none⟩ = some (.slice Aa t.attrs.length na) ∧ w'.cell? ⟨b, o + i * 3 + 2, none⟩ = some (.slice Ak t.key.length nk)) (go_keep)
          (first | (go_at_call 24; refine (CC.out _ (HVA.out.below (below_drewN _ _ 1))).mono ?_; rintro e w4 ⟨rfl, hb⟩; have hb1 := (below_drewN w3.heap.size w3 1).trans hb; have g1 := Lib.hid hb1; have pz0 := cellB hb1 z0; have pc0 := cellB hb1 c0; have pc1 := cellB hb1 c1; have pc2 := cellB hb1 c2; have pc3 := cellB hb1 c3; have pc4 := cellB hb1 c4; have pc5 := cellB hb1 c5; have pc6 := cellB hb1 c6; have pc7 := cellB hb1 c7; have px0 := cellB hb1 x0; have px1 := cellB hb1 x1; have px2 := cellB hb1 x2; clear hb hb1))
        replace z0 := pz0
        replace c0 := pc0
        replace c1 := pc1
        replace c2 := pc2
        replace c3 := pc3
        replace c4 := pc4
        replace c5 := pc5
        replace c6 := pc6
        replace c7 := pc7
        replace x0 := px0
        replace x1 := px1
        replace x2 := px2
        replace HS := Lib.hid (HS.out.below g1.out)
        replace HVA := Lib.hid (HVA.out.below g1.out)
        replace HVK := Lib.hid (HVK.out.below g1.out)
        replace HB := Lib.hid (below_up HB.out g1.out HB.out.size)
        clear g1 pz0 pc0 pc1 pc2 pc3 pc4 pc5 pc6 pc7 px0 px1 px2
        clear CC
        have hyk : ¬ (colT t.attrs c.attr < 0 ∧ c.kind ≠ 1) := fun h => h.2 HK.out
        have HLO := Lib.hid (show locT s c = (refT t y c, (i : Int), y) by have := loc_col HV.out HFO.out hi HF.out (by rw [HT.out]; exact hyk); rw [HT.out, HY.out] at this; exact this)
        clear hyk
        go_wp2_with fail
        refine (CNA.out _).mono ?_
        rintro e w5 ⟨rfl, hb⟩
        have hb2 : Below w4.heap.size w4 w5 := hb
        replace z0 := cellB hb2 z0
        replace c0 := cellB hb2 c0
        replace c1 := cellB hb2 c1
        replace c2 := cellB hb2 c2
        replace c3 := cellB hb2 c3
        replace c4 := cellB hb2 c4
        replace c5 := cellB hb2 c5
        replace c6 := cellB hb2 c6
        replace c7 := cellB hb2 c7
        replace x0 := cellB hb2 x0
        replace x1 := cellB hb2 x1
        replace x2 := cellB hb2 x2
        replace HS := Lib.hid (HS.out.below hb2)
        replace HVA := Lib.hid (HVA.out.below hb2)
        replace HVK := Lib.hid (HVK.out.below hb2)
        replace HB := Lib.hid (below_up HB.out hb2 HB.out.size)
        clear hb hb2
        clear CNA
        cases rn with
        | false =>
          have HL := Lib.hid (show (locT s c).1 = 1 from by rw [HLO.out]; show refT t y c = 1; rw [ref_1 HK.out]; rw [if_pos (Or.inl HNA.out)])
          go_wp2_with fail
          refine bodyPost_ret (v := .tuple #[.int .i64 0, .int .i64 0, .int .i64 1]) (by simp [results, Tryz.results33, go_sem]) rfl ?_
          exact chk_err HL.out (by decide) HB.out
        | true =>
          go_wp2_with fail
          refine (CKI.out _).mono ?_
          rintro e w6 ⟨rfl, hb⟩
          have hb2 : Below w5.heap.size w5 w6 := hb
          replace z0 := cellB hb2 z0
          replace c0 := cellB hb2 c0
          replace c1 := cellB hb2 c1
          replace c2 := cellB hb2 c2
          replace c3 := cellB hb2 c3
          replace c4 := cellB hb2 c4
          replace c5 := cellB hb2 c5
          replace c6 := cellB hb2 c6
          replace c7 := cellB hb2 c7
          replace x0 := cellB hb2 x0
          replace x1 := cellB hb2 x1
          replace x2 := cellB hb2 x2
          replace HS := Lib.hid (HS.out.below hb2)
          replace HVA := Lib.hid (HVA.out.below hb2)
          replace HVK := Lib.hid (HVK.out.below hb2)
          replace HB := Lib.hid (below_up HB.out hb2 HB.out.size)
          clear hb hb2
          clear CKI
          cases rk with
          | false =>
            have HL := Lib.hid (show (locT s c).1 = 1 from by rw [HLO.out]; show refT t y c = 1; rw [ref_1 HK.out]; rw [if_pos (Or.inr (typed_no (of_decide_eq_false HKI.out)))])
            go_wp2_with fail
            refine bodyPost_ret (v := .tuple #[.int .i64 0, .int .i64 0, .int .i64 1]) (by simp [results, Tryz.results33, go_sem]) rfl ?_
            exact chk_err HL.out (by decide) HB.out
          | true =>
            go_wp2_with fail
            refine (CTO.out _).mono ?_
            rintro e w7 ⟨rfl, hb⟩
            have hb2 : Below w6.heap.size w6 w7 := hb
            replace z0 := cellB hb2 z0
            replace c0 := cellB hb2 c0
            replace c1 := cellB hb2 c1
            replace c2 := cellB hb2 c2
            replace c3 := cellB hb2 c3
            replace c4 := cellB hb2 c4
            replace c5 := cellB hb2 c5
            replace c6 := cellB hb2 c6
            replace c7 := cellB hb2 c7
            replace x0 := cellB hb2 x0
            replace x1 := cellB hb2 x1
            replace x2 := cellB hb2 x2
            replace HS := Lib.hid (HS.out.below hb2)
            replace HVA := Lib.hid (HVA.out.below hb2)
            replace HVK := Lib.hid (HVK.out.below hb2)
            replace HB := Lib.hid (below_up HB.out hb2 HB.out.size)
            clear hb hb2
            clear CTO
            cases rt with
            | false =>
              have HL := Lib.hid (show (locT s c).1 = 1 from by rw [HLO.out]; show refT t y c = 1; rw [ref_1 HK.out]; rw [if_pos (Or.inr ((typed_yes (of_decide_eq_true HKI.out)).trans HTO.out))])
              go_wp2_with fail
              refine bodyPost_ret (v := .tuple #[.int .i64 0, .int .i64 0, .int .i64 1]) (by simp [results, Tryz.results33, go_sem]) rfl ?_
              exact chk_err HL.out (by decide) HB.out
            | true =>
              have mz0 := fun m => (show (w7.drewN m).cell? _ = _ from z0)
              have mc0 := fun m => (show (w7.drewN m).cell? _ = _ from c0)
              have mc1 := fun m => (show (w7.drewN m).cell? _ = _ from c1)
              have mc2 := fun m => (show (w7.drewN m).cell? _ = _ from c2)
              have mc3 := fun m => (show (w7.drewN m).cell? _ = _ from c3)
              have mc4 := fun m => (show (w7.drewN m).cell? _ = _ from c4)
              have mc5 := fun m => (show (w7.drewN m).cell? _ = _ from c5)
              have mc6 := fun m => (show (w7.drewN m).cell? _ = _ from c6)
              have mc7 := fun m => (show (w7.drewN m).cell? _ = _ from c7)
              have mx0 := fun m => (show (w7.drewN m).cell? _ = _ from x0)
              have mx1 := fun m => (show (w7.drewN m).cell? _ = _ from x1)
              have mx2 := fun m => (show (w7.drewN m).cell? _ = _ from x2)
              go_wp2_with fail
              go_quiet (fail)
              obtain ⟨w8, hW⟩ : ∃ W, w7.drewN nq = W := ⟨_, rfl⟩
              rw [hW]
              have hb2 : Below w7.heap.size w7 w8 := by rw [← hW]; exact below_drewN _ _ _
              replace z0 := cellB hb2 z0
              replace c0 := cellB hb2 c0
              replace c1 := cellB hb2 c1
              replace c2 := cellB hb2 c2
              replace c3 := cellB hb2 c3
              replace c4 := cellB hb2 c4
              replace c5 := cellB hb2 c5
              replace c6 := cellB hb2 c6
              replace c7 := cellB hb2 c7
              replace x0 := cellB hb2 x0
              replace x1 := cellB hb2 x1
              replace x2 := cellB hb2 x2
              replace HS := Lib.hid (HS.out.below hb2)
              replace HVA := Lib.hid (HVA.out.below hb2)
              replace HVK := Lib.hid (HVK.out.below hb2)
              replace HB := Lib.hid (below_up HB.out hb2 HB.out.size)
              clear hW mz0 mc0 mc1 mc2 mc3 mc4 mc5 mc6 mc7 mx0 mx1 mx2
              clear hb2
              obtain ⟨y2, hy2⟩ : ∃ y, colT t.attrs c.name = y := ⟨_, rfl⟩
              have CC2 := Lib.hid (fun W (hW : Attrs W (.slice Aa t.attrs.length na) t.attrs) => hy2 ▸ column_rf t.name t.attrs _ (.slice Ak t.key.length nk) c.name (by have := HMT.out.1; omega) (fun a ha => by have := HMT.out.2.2 a ha; omega) W hW)
              have HY2 := Lib.hid hy2
              clear hy2
              go_wp2_with fail
              go_region_held3 (fun w' => w'.cell? ⟨w.heap.size, 0, none⟩ = some (.slice (some ⟨b, o, none⟩) s.length cp) ∧ w'.cell? ⟨w.heap.size + 1, 3, none⟩ = some (str c.name) ∧ w'.cell? ⟨b, o + i * 3, none⟩ = some (str t.name) ∧ w'.cell? ⟨b, o + i * 3 + 1, none⟩ = some (.slice Aa t.attrs.length na) ∧ w'.cell? ⟨b, o + i * 3 + 2, none⟩ = some (.slice Ak t.key.length nk)) (go_keep)
                (first | (go_at_call 24; refine (CC2.out _ (HVA.out.below (below_drewN _ _ 1))).mono ?_; rintro e w9 ⟨rfl, hb⟩; have hb1 := (below_drewN w8.heap.size w8 1).trans hb; have g1 := Lib.hid hb1; have pz0 := cellB hb1 z0; have pc0 := cellB hb1 c0; have pc1 := cellB hb1 c1; have pc2 := cellB hb1 c2; have pc3 := cellB hb1 c3; have pc4 := cellB hb1 c4; have pc5 := cellB hb1 c5; have pc6 := cellB hb1 c6; have pc7 := cellB hb1 c7; have px0 := cellB hb1 x0; have px1 := cellB hb1 x1; have px2 := cellB hb1 x2; clear hb hb1))
              replace z0 := pz0
              replace c0 := pc0
              replace c1 := pc1
              replace c2 := pc2
              replace c3 := pc3
              replace c4 := pc4
              replace c5 := pc5
              replace c6 := pc6
              replace c7 := pc7
              replace x0 := px0
              replace x1 := px1
              replace x2 := px2
              replace HS := Lib.hid (HS.out.below g1.out)
              replace HVA := Lib.hid (HVA.out.below g1.out)
              replace HVK := Lib.hid (HVK.out.below g1.out)
              replace HB := Lib.hid (below_up HB.out g1.out HB.out.size)
              clear g1 pz0 pc0 pc1 pc2 pc3 pc4 pc5 pc6 pc7 px0 px1 px2
              clear CC2
              have HNN := Lib.hid (show ¬ (nameB c.name = false ∨ typedB c.to c.dft = false) from fun h => h.elim (fun h => by rw [HNA.out] at h; cases h) (fun h => by rw [(typed_yes (of_decide_eq_true HKI.out)).trans HTO.out] at h; cases h))
              by_cases h9 : 0 ≤ y2
              · skip
                have HL := Lib.hid (show (locT s c).1 = 9 from by rw [HLO.out]; show refT t y c = 9; rw [ref_1 HK.out]; rw [if_neg HNN.out, if_pos (by rw [HY2.out]; exact h9)])
                go_wp2_with fail
                refine bodyPost_ret (v := .tuple #[.int .i64 0, .int .i64 0, .int .i64 9]) (by simp [results, Tryz.results33, go_sem]) rfl ?_
                exact chk_err HL.out (by decide) HB.out
              · skip
                by_cases h12 : t.attrs.length = 12
                · have d1 : ((t.attrs.length : Int) == 12) = true := by rw [h12]; rfl
                  have HL := Lib.hid (show (locT s c).1 = 3 from by rw [HLO.out]; show refT t y c = 3; rw [ref_1 HK.out]; rw [if_neg HNN.out, if_neg (by rw [HY2.out]; exact h9), if_pos (by omega)])
                  go_wp2_with fail
                  refine bodyPost_ret (v := .tuple #[.int .i64 0, .int .i64 0, .int .i64 3]) (by simp [results, Tryz.results33, go_sem]) rfl ?_
                  exact chk_err HL.out (by decide) HB.out
                · have d1 : ((t.attrs.length : Int) == 12) = false := beq_eq_false_iff_ne.2 (by omega)
                  have HL := Lib.hid (show locT s c = (0, (i : Int), y) by rw [HLO.out, show refT t y c = 0 by rw [ref_1 HK.out]; rw [if_neg HNN.out, if_neg (by rw [HY2.out]; exact h9), if_neg (by omega)]])
                  go_wp2_with fail
                  refine bodyPost_ret (v := .tuple #[.int .i64 (i : Int), .int .i64 y, .int .i64 0]) (by simp [results, Tryz.results33, go_sem]) rfl ?_
                  exact chk_ok HL.out HB.out
end Go.Proofs.YteokcgfbhaeklaaGreatDoor

/- The reference's check, at a change of kind 2. -/
namespace Go.Proofs.YteokcgfbhaeklaaGreatDoor
open Go.RowKit

set_option maxRecDepth 100000 in
set_option maxHeartbeats 8000000 in
theorem check2_rf (s : List TabT) (v : Value) (c : ChgT) (hk : c.kind = 2) (hm : Mid s) (hlen : Lens s) (w : World) (h : Tabs w v s) :
    Calls Tryz.prog 33 #[.agg #[v], Cv c] w (ChkPost w s c) := by
  have HK := Lib.hid hk
  have e1 : (c.kind == 1) = false := by rw [hk]; rfl
  have e2 : (c.kind == 2) = true := by rw [hk]; rfl
  have e3 : (c.kind == 3) = false := by rw [hk]; rfl
  have e4 : (c.kind == 4) = false := by rw [hk]; rfl
  have n1 : (c.kind != 1) = true := by rw [hk]; rfl
  obtain ⟨A, cp, rfl, _⟩ := h.form
  have HS := Lib.hid h
  have HM := Lib.hid hm
  have HLN := Lib.hid hlen
  have hsl : s.length ≤ 24 := hm.1
  obtain ⟨rv, hrv⟩ : ∃ r, validB s = r := ⟨_, rfl⟩
  have CV := Lib.hid (fun W (hW : Tabs W (.slice A s.length cp) s) => hrv ▸ valid_rf s _ hm hlen W hW)
  have HV := Lib.hid hrv
  obtain ⟨rf, hrf⟩ : ∃ r, formedB c = r := ⟨_, rfl⟩
  have CFO := Lib.hid (fun W => hrf ▸ formed_rf c W)
  have HFO := Lib.hid hrf
  obtain ⟨f, hf⟩ : ∃ f, findT s c.table = f := ⟨_, rfl⟩
  have CFI := Lib.hid (fun W (hW : Tabs W (.slice A s.length cp) s) => hf ▸ find_rf s _ c.table (by omega) W hW)
  have HF := Lib.hid hf
  clear hf
  clear hk h hm hlen hrv hrf
  go_enter Tryz.func33, Tryz.ntmps33
  go_wp2_with fail
  refine (CV.out _ (HS.out.below ((below_box w _).alloc (by simp) _))).mono ?_
  rintro e w1 ⟨rfl, hb⟩
  have hb2 : Below w.heap.size w w1 := below_up ((below_box w _).alloc (by simp) _) hb (by simp; omega)
  replace HS := Lib.hid (HS.out.below hb2)
  have HB := Lib.hid hb2
  have z0 : w1.cell? ⟨w.heap.size, 0, none⟩ = some (.slice A s.length cp) := cellB hb (by simp [go_sem])
  have c0 : w1.cell? ⟨w.heap.size + 1, 0, none⟩ = some (.int .i64 c.kind) := cellB hb (by simp [go_sem])
  have c1 : w1.cell? ⟨w.heap.size + 1, 1, none⟩ = some (str c.table) := cellB hb (by simp [go_sem])
  have c2 : w1.cell? ⟨w.heap.size + 1, 2, none⟩ = some (str c.attr) := cellB hb (by simp [go_sem])
  have c3 : w1.cell? ⟨w.heap.size + 1, 3, none⟩ = some (str c.name) := cellB hb (by simp [go_sem])
  have c4 : w1.cell? ⟨w.heap.size + 1, 4, none⟩ = some (.int .i64 c.to) := cellB hb (by simp [go_sem])
  have c5 : w1.cell? ⟨w.heap.size + 1, 5, none⟩ = some (.int .i64 c.dft.1) := cellB hb (by simp [go_sem])
  have c6 : w1.cell? ⟨w.heap.size + 1, 6, none⟩ = some (.int .i64 c.dft.2.1) := cellB hb (by simp [go_sem])
  have c7 : w1.cell? ⟨w.heap.size + 1, 7, none⟩ = some (str c.dft.2.2) := cellB hb (by simp [go_sem])
  clear hb hb2
  clear CV
  cases rv with
  | false =>
    have HL := Lib.hid (show (locT s c).1 = 1 from by rw [loc_arg (Or.inl HV.out)])
    go_wp2_with fail
    refine bodyPost_ret (v := .tuple #[.int .i64 0, .int .i64 0, .int .i64 1]) (by simp [results, Tryz.results33, go_sem]) rfl ?_
    exact chk_err HL.out (by decide) HB.out
  | true =>
    go_wp2_with fail
    refine (CFO.out _).mono ?_
    rintro e w2 ⟨rfl, hb⟩
    have hb2 : Below w1.heap.size w1 w2 := hb
    replace z0 := cellB hb2 z0
    replace c0 := cellB hb2 c0
    replace c1 := cellB hb2 c1
    replace c2 := cellB hb2 c2
    replace c3 := cellB hb2 c3
    replace c4 := cellB hb2 c4
    replace c5 := cellB hb2 c5
    replace c6 := cellB hb2 c6
    replace c7 := cellB hb2 c7
    replace HS := Lib.hid (HS.out.below hb2)
    replace HB := Lib.hid (below_up HB.out hb2 HB.out.size)
    clear hb hb2
    clear CFO
    cases rf with
    | false =>
      have HL := Lib.hid (show (locT s c).1 = 1 from by rw [loc_arg (Or.inr HFO.out)])
      go_wp2_with fail
      refine bodyPost_ret (v := .tuple #[.int .i64 0, .int .i64 0, .int .i64 1]) (by simp [results, Tryz.results33, go_sem]) rfl ?_
      exact chk_err HL.out (by decide) HB.out
    | true =>
      go_wp2_with fail
      refine (CFI.out _ HS.out).mono ?_
      rintro e w3 ⟨rfl, hb⟩
      have hb2 : Below w2.heap.size w2 w3 := hb
      replace z0 := cellB hb2 z0
      replace c0 := cellB hb2 c0
      replace c1 := cellB hb2 c1
      replace c2 := cellB hb2 c2
      replace c3 := cellB hb2 c3
      replace c4 := cellB hb2 c4
      replace c5 := cellB hb2 c5
      replace c6 := cellB hb2 c6
      replace c7 := cellB hb2 c7
      replace HS := Lib.hid (HS.out.below hb2)
      replace HB := Lib.hid (below_up HB.out hb2 HB.out.size)
      clear hb hb2
      clear CFI
      by_cases hf0 : f < 0
      · skip
        have HL := Lib.hid (show (locT s c).1 = 11 from by rw [loc_none HV.out HFO.out (by rw [HF.out]; exact hf0)])
        go_wp2_with fail
        refine bodyPost_ret (v := .tuple #[.int .i64 0, .int .i64 0, .int .i64 11]) (by simp [results, Tryz.results33, go_sem]) rfl ?_
        exact chk_err HL.out (by decide) HB.out
      · skip
        obtain ⟨i, hfi⟩ : ∃ i : Nat, f = (i : Int) := ⟨f.toNat, by omega⟩
        subst hfi
        have hi : i < s.length := by
          have := findT_range s c.table
          rw [HF.out] at this
          omega
        obtain ⟨b, o, e, va, vk, hat, hva, hvk⟩ := tab_row HS.out hi
        subst e
        obtain ⟨Aa, na, rfl, _⟩ := hva.form
        obtain ⟨Ak, nk, rfl, _⟩ := hvk.form
        have x0 := hat.c0
        have x1 := hat.c1
        have x2 := hat.c2
        have hmt := HM.out.2 s[i] (List.getElem_mem hi)
        have hvl := valid_len HV.out (List.getElem_mem hi)
        obtain ⟨t, ht⟩ : ∃ t, s[i] = t := ⟨_, rfl⟩
        rw [ht] at x0 x1 x2 hmt hva hvk hvl
        have HT := Lib.hid ht
        have HMT := Lib.hid hmt
        have HVA := Lib.hid hva
        have HVK := Lib.hid hvk
        obtain ⟨y, hy⟩ : ∃ y, colT t.attrs c.attr = y := ⟨_, rfl⟩
        have CC := Lib.hid (fun W (hW : Attrs W (.slice Aa t.attrs.length na) t.attrs) => hy ▸ column_rf t.name t.attrs _ (.slice Ak t.key.length nk) c.attr (by have := hmt.1; omega) (fun a ha => by have := hmt.2.2 a ha; omega) W hW)
        have HY := Lib.hid hy
        have i1 : (0 : Int) ≤ (i : Int) := by omega
        have i2 : (i : Int) < (s.length : Int) := by omega
        clear hat hva hvk hmt hy ht
        go_wp2_with fail
        go_region_held3 (fun w' => w'.cell? ⟨w.heap.size, 0, none⟩ = some (.slice (some ⟨b, o, none⟩) s.length cp) ∧ w'.cell? ⟨w.heap.size + 1, 2, none⟩ = some (str c.attr) ∧ w'.cell? ⟨b, o + i * 3, none⟩ = some (str t.name) ∧ w'.cell? ⟨b, o + i * 3 + 1, none⟩ = some (.slice Aa t.attrs.length na) ∧ w'.cell? ⟨b, o + i * 3 + 2, none⟩ = some (.slice Ak t.key.length nk)) (go_keep)
          (first | (go_at_call 24; refine (CC.out _ (HVA.out.below (below_drewN _ _ 1))).mono ?_; rintro e w4 ⟨rfl, hb⟩; have hb1 := (below_drewN w3.heap.size w3 1).trans hb; have g1 := Lib.hid hb1; have pz0 := cellB hb1 z0; have pc0 := cellB hb1 c0; have pc1 := cellB hb1 c1; have pc2 := cellB hb1 c2; have pc3 := cellB hb1 c3; have pc4 := cellB hb1 c4; have pc5 := cellB hb1 c5; have pc6 := cellB hb1 c6; have pc7 := cellB hb1 c7; have px0 := cellB hb1 x0; have px1 := cellB hb1 x1; have px2 := cellB hb1 x2; clear hb hb1))
        replace z0 := pz0
        replace c0 := pc0
        replace c1 := pc1
        replace c2 := pc2
        replace c3 := pc3
        replace c4 := pc4
        replace c5 := pc5
        replace c6 := pc6
        replace c7 := pc7
        replace x0 := px0
        replace x1 := px1
        replace x2 := px2
        replace HS := Lib.hid (HS.out.below g1.out)
        replace HVA := Lib.hid (HVA.out.below g1.out)
        replace HVK := Lib.hid (HVK.out.below g1.out)
        replace HB := Lib.hid (below_up HB.out g1.out HB.out.size)
        clear g1 pz0 pc0 pc1 pc2 pc3 pc4 pc5 pc6 pc7 px0 px1 px2
        clear CC
        by_cases hy0 : y < 0
        · skip
          have HL := Lib.hid (show (locT s c).1 = 11 from loc_colno HV.out HFO.out hi HF.out (by rw [HT.out, HY.out]; exact hy0) (by rw [HK.out]; decide))
          go_wp2_with fail
          refine bodyPost_ret (v := .tuple #[.int .i64 0, .int .i64 0, .int .i64 11]) (by simp [results, Tryz.results33, go_sem]) rfl ?_
          exact chk_err HL.out (by decide) HB.out
        · skip
          obtain ⟨j, hyj⟩ : ∃ j : Nat, y = (j : Int) := ⟨y.toNat, by omega⟩
          subst hyj
          have hj : j < t.attrs.length := by have := (colT_range t.attrs c.attr).2; rw [HY.out] at this; omega
          have hyk : ¬ (colT t.attrs c.attr < 0 ∧ c.kind ≠ 1) := by rw [HY.out]; intro h; omega
          have HLO := Lib.hid (show locT s c = (refT t (j : Int) c, (i : Int), (j : Int)) by have := loc_col HV.out HFO.out hi HF.out (by rw [HT.out]; exact hyk); rw [HT.out, HY.out] at this; exact this)
          clear hyk
          go_wp2_with fail
          obtain ⟨ri, hri⟩ : ∃ r, decide ((j : Int) ∈ t.key) = r := ⟨_, rfl⟩
          have CI := Lib.hid (fun W (hW : Ints W (.slice Ak t.key.length nk) t.key) => in_is t.key _ (j : Int) ri hri (by have := HMT.out.2.1; omega) W hW)
          have HI := Lib.hid hri
          clear hri
          cases ri with
          | true =>
            refine wp_region_held_drew (S := (fun w' => w'.cell? ⟨w.heap.size + 1, 0, none⟩ = some (.int .i64 c.kind) ∧ w'.cell? ⟨w.heap.size, 0, none⟩ = some (.slice (some ⟨b, o, none⟩) s.length cp) ∧ w'.cell? ⟨b, o + i * 3 + 2, none⟩ = some (.slice Ak t.key.length nk))) (by kernel_rfl) ?_ (fun hHeld => ?_)
            · try dsimp only
              go_keep
            refine wpAnyH_take (i := 0) (v := ?_) (by (simp only [List.getElem?_toArray, List.getElem?_cons_zero]; rfl)) (by kernel_rfl) (by kernel_rfl) (by kernel_rfl) (by intro _ _ _ h; exact h) (Or.inl ⟨by kernel_rfl, ?_⟩) hHeld ?_
            case refine_2 =>
              intro w hSw
              try dsimp only at hSw
              go_simp
              try with_reducible rfl
            try simp only [Act.put, List.setIfInBounds_toArray, List.set_cons_zero, List.set_cons_succ]
            refine wpAnyH_take (i := 1) (v := ?_) (by (simp only [List.getElem?_toArray, List.getElem?_cons_succ, List.getElem?_cons_zero]; rfl)) (by kernel_rfl) (by kernel_rfl) (by kernel_rfl) (by intro _ _ _ h; exact h) (Or.inl ⟨by kernel_rfl, ?_⟩) hHeld ?_
            case refine_2 =>
              intro w hSw
              try dsimp only at hSw
              go_simp
              try with_reducible rfl
            try simp only [Act.put, List.setIfInBounds_toArray, List.set_cons_zero, List.set_cons_succ]
            refine wpAnyH_take (i := 2) (v := ?_) (by (simp only [List.getElem?_toArray, List.getElem?_cons_succ, List.getElem?_cons_zero]; rfl)) (by kernel_rfl) (by kernel_rfl) (by kernel_rfl) (by intro _ _ _ h; exact h) (Or.inl ⟨by kernel_rfl, ?_⟩) hHeld ?_
            case refine_2 =>
              intro w hSw
              try dsimp only at hSw
              go_simp
              try with_reducible rfl
            try simp only [Act.put, List.setIfInBounds_toArray, List.set_cons_zero, List.set_cons_succ]
            refine wpAnyH_take (i := 3) (v := ?_) (by (simp only [List.getElem?_toArray, List.getElem?_cons_succ, List.getElem?_cons_zero]; rfl)) (by kernel_rfl) (by kernel_rfl) (by kernel_rfl) (by intro _ _ _ h; exact h) (Or.inl ⟨by kernel_rfl, ?_⟩) hHeld ?_
            case refine_2 =>
              intro w hSw
              try dsimp only at hSw
              go_simp
              try with_reducible rfl
            try simp only [Act.put, List.setIfInBounds_toArray, List.set_cons_zero, List.set_cons_succ]
            refine wpAnyH_take (i := 4) (v := ?_) (by (simp only [List.getElem?_toArray, List.getElem?_cons_succ, List.getElem?_cons_zero]; rfl)) (by kernel_rfl) (by kernel_rfl) (by kernel_rfl) (by intro _ _ _ h; exact h) (Or.inl ⟨by kernel_rfl, ?_⟩) hHeld ?_
            case refine_2 =>
              intro w hSw
              try dsimp only at hSw
              go_simp
              try with_reducible rfl
            try simp only [Act.put, List.setIfInBounds_toArray, List.set_cons_zero, List.set_cons_succ]
            refine wpAnyH_take (i := 5) (v := ?_) (by (simp only [List.getElem?_toArray, List.getElem?_cons_succ, List.getElem?_cons_zero]; rfl)) (by kernel_rfl) (by kernel_rfl) (by kernel_rfl) (by intro _ _ _ h; exact h) (Or.inl ⟨by kernel_rfl, ?_⟩) hHeld ?_
            case refine_2 =>
              intro w hSw
              try dsimp only at hSw
              go_simp
              try with_reducible rfl
            try simp only [Act.put, List.setIfInBounds_toArray, List.set_cons_zero, List.set_cons_succ]
            refine wpAnyH_take (i := 6) (v := ?_) (by (simp only [List.getElem?_toArray, List.getElem?_cons_succ, List.getElem?_cons_zero]; rfl)) (by kernel_rfl) (by kernel_rfl) (by kernel_rfl) (by intro _ _ _ h; exact h) (Or.inl ⟨by kernel_rfl, ?_⟩) hHeld ?_
            case refine_2 =>
              intro w hSw
              try dsimp only at hSw
              go_simp
              try with_reducible rfl
            try simp only [Act.put, List.setIfInBounds_toArray, List.set_cons_zero, List.set_cons_succ]
            refine wpAnyH_take (i := 7) (v := ?_) (by (simp only [List.getElem?_toArray, List.getElem?_cons_succ, List.getElem?_cons_zero]; rfl)) (by kernel_rfl) (by kernel_rfl) (by kernel_rfl) (by intro _ _ _ h; exact h) (Or.inl ⟨by kernel_rfl, ?_⟩) hHeld ?_
            case refine_2 =>
              intro w hSw
              try dsimp only at hSw
              go_simp
              try with_reducible rfl
            try simp only [Act.put, List.setIfInBounds_toArray, List.set_cons_zero, List.set_cons_succ]
            refine wpAnyH_take (i := 8) (v := ?_) (by (simp only [List.getElem?_toArray, List.getElem?_cons_succ, List.getElem?_cons_zero]; rfl)) (by kernel_rfl) (by kernel_rfl) (by kernel_rfl) (by intro _ _ _ h; exact h) (Or.inl ⟨by kernel_rfl, ?_⟩) hHeld ?_
            case refine_2 =>
              intro w hSw
              try dsimp only at hSw
              go_simp
              try with_reducible rfl
            try simp only [Act.put, List.setIfInBounds_toArray, List.set_cons_zero, List.set_cons_succ]
            refine wpAnyH_take (i := 9) (v := ?_) (by (simp only [List.getElem?_toArray, List.getElem?_cons_succ, List.getElem?_cons_zero]; rfl)) (by kernel_rfl) (by kernel_rfl) (by kernel_rfl) (by intro _ _ _ h; exact h) (Or.inl ⟨by kernel_rfl, ?_⟩) hHeld ?_
            case refine_2 =>
              intro w hSw
              try dsimp only at hSw
              go_simp
              try with_reducible rfl
            try simp only [Act.put, List.setIfInBounds_toArray, List.set_cons_zero, List.set_cons_succ]
            refine wpAnyH_take (i := 10) (v := ?_) (by (simp only [List.getElem?_toArray, List.getElem?_cons_succ, List.getElem?_cons_zero]; rfl)) (by kernel_rfl) (by kernel_rfl) (by kernel_rfl) (by intro _ _ _ h; exact h) (Or.inl ⟨by kernel_rfl, ?_⟩) hHeld ?_
            case refine_2 =>
              intro w hSw
              try dsimp only at hSw
              go_simp
              try with_reducible rfl
            try simp only [Act.put, List.setIfInBounds_toArray, List.set_cons_zero, List.set_cons_succ]
            refine wpAnyH_ready (rs := [11]) (by kernel_rfl) (by simp) ?_
            refine AllReadyH.cons (by (simp only [List.getElem?_toArray, List.getElem?_cons_succ, List.getElem?_cons_zero]; rfl)) (fun K hK => ?_) AllReadyH.nil
            go_simp
            refine (CI.out _ (HVK.out.below (below_drewN _ _ 1))).mono ?_
            rintro e w5 ⟨rfl, hb⟩
            have hb1 : Below w4.heap.size w4 w5 := (below_drewN w4.heap.size w4 1).trans hb
            replace z0 := cellB hb1 z0
            replace c0 := cellB hb1 c0
            replace c1 := cellB hb1 c1
            replace c2 := cellB hb1 c2
            replace c3 := cellB hb1 c3
            replace c4 := cellB hb1 c4
            replace c5 := cellB hb1 c5
            replace c6 := cellB hb1 c6
            replace c7 := cellB hb1 c7
            replace x0 := cellB hb1 x0
            replace x1 := cellB hb1 x1
            replace x2 := cellB hb1 x2
            replace HS := Lib.hid (HS.out.below hb1)
            replace HVA := Lib.hid (HVA.out.below hb1)
            replace HVK := Lib.hid (HVK.out.below hb1)
            replace HB := Lib.hid (below_up HB.out hb1 HB.out.size)
            clear hb hb1
            try go_wp2_with fail
            clear hHeld
            refine hK.out _ _ ?_ (fun hHeld => ?_)
            · try dsimp only
              go_keep
            clear hK K
            try simp only [Act.put, List.setIfInBounds_toArray, List.set_cons_zero, List.set_cons_succ]
            refine wpAnyH_take (i := 12) (v := ?_) (by (simp only [List.getElem?_toArray, List.getElem?_cons_succ, List.getElem?_cons_zero]; rfl)) (by kernel_rfl) (by kernel_rfl) (by kernel_rfl) (by intro _ _ _ h; exact h) (Or.inl ⟨by kernel_rfl, ?_⟩) hHeld ?_
            case refine_2 =>
              intro w hSw
              try dsimp only at hSw
              go_simp
              try with_reducible rfl
            try simp only [Act.put, List.setIfInBounds_toArray, List.set_cons_zero, List.set_cons_succ]
            refine wpAnyH_take (i := 13) (v := ?_) (by (simp only [List.getElem?_toArray, List.getElem?_cons_succ, List.getElem?_cons_zero]; rfl)) (by kernel_rfl) (by kernel_rfl) (by kernel_rfl) (by intro _ _ _ h; exact h) (Or.inl ⟨by kernel_rfl, ?_⟩) hHeld ?_
            case refine_2 =>
              intro w hSw
              try dsimp only at hSw
              go_simp
              try with_reducible rfl
            try simp only [Act.put, List.setIfInBounds_toArray, List.set_cons_zero, List.set_cons_succ]
            refine wpAnyH_take (i := 14) (v := undef) (by (simp only [List.getElem?_toArray, List.getElem?_cons_succ, List.getElem?_cons_zero]; rfl)) (by kernel_rfl) (by kernel_rfl) (by kernel_rfl) (by intro _ _ _ h; exact h) (Or.inr ⟨by kernel_rfl, rfl⟩) hHeld ?_
            try simp only [Act.put, List.setIfInBounds_toArray, List.set_cons_zero, List.set_cons_succ]
            refine wpAnyH_take (i := 15) (v := undef) (by (simp only [List.getElem?_toArray, List.getElem?_cons_succ, List.getElem?_cons_zero]; rfl)) (by kernel_rfl) (by kernel_rfl) (by kernel_rfl) (by intro _ _ _ h; exact h) (Or.inr ⟨by kernel_rfl, rfl⟩) hHeld ?_
            try simp only [Act.put, List.setIfInBounds_toArray, List.set_cons_zero, List.set_cons_succ]
            refine wpAnyH_take (i := 16) (v := undef) (by (simp only [List.getElem?_toArray, List.getElem?_cons_succ, List.getElem?_cons_zero]; rfl)) (by kernel_rfl) (by kernel_rfl) (by kernel_rfl) (by intro _ _ _ h; exact h) (Or.inr ⟨by kernel_rfl, rfl⟩) hHeld ?_
            try simp only [Act.put, List.setIfInBounds_toArray, List.set_cons_zero, List.set_cons_succ]
            refine wpAnyH_take (i := 17) (v := undef) (by (simp only [List.getElem?_toArray, List.getElem?_cons_succ, List.getElem?_cons_zero]; rfl)) (by kernel_rfl) (by kernel_rfl) (by kernel_rfl) (by intro _ _ _ h; exact h) (Or.inr ⟨by kernel_rfl, rfl⟩) hHeld ?_
            try simp only [Act.put, List.setIfInBounds_toArray, List.set_cons_zero, List.set_cons_succ]
            refine wpAnyH_take (i := 18) (v := undef) (by (simp only [List.getElem?_toArray, List.getElem?_cons_succ, List.getElem?_cons_zero]; rfl)) (by kernel_rfl) (by kernel_rfl) (by kernel_rfl) (by intro _ _ _ h; exact h) (Or.inr ⟨by kernel_rfl, rfl⟩) hHeld ?_
            try simp only [Act.put, List.setIfInBounds_toArray, List.set_cons_zero, List.set_cons_succ]
            refine wpAnyH_take (i := 19) (v := undef) (by (simp only [List.getElem?_toArray, List.getElem?_cons_succ, List.getElem?_cons_zero]; rfl)) (by kernel_rfl) (by kernel_rfl) (by kernel_rfl) (by intro _ _ _ h; exact h) (Or.inr ⟨by kernel_rfl, rfl⟩) hHeld ?_
            try simp only [Act.put, List.setIfInBounds_toArray, List.set_cons_zero, List.set_cons_succ]
            refine wpAnyH_take (i := 20) (v := undef) (by (simp only [List.getElem?_toArray, List.getElem?_cons_succ, List.getElem?_cons_zero]; rfl)) (by kernel_rfl) (by kernel_rfl) (by kernel_rfl) (by intro _ _ _ h; exact h) (Or.inr ⟨by kernel_rfl, rfl⟩) hHeld ?_
            try simp only [Act.put, List.setIfInBounds_toArray, List.set_cons_zero, List.set_cons_succ]
            refine wpAnyH_take (i := 21) (v := undef) (by (simp only [List.getElem?_toArray, List.getElem?_cons_succ, List.getElem?_cons_zero]; rfl)) (by kernel_rfl) (by kernel_rfl) (by kernel_rfl) (by intro _ _ _ h; exact h) (Or.inr ⟨by kernel_rfl, rfl⟩) hHeld ?_
            try simp only [Act.put, List.setIfInBounds_toArray, List.set_cons_zero, List.set_cons_succ]
            refine wpAnyH_take (i := 22) (v := undef) (by (simp only [List.getElem?_toArray, List.getElem?_cons_succ, List.getElem?_cons_zero]; rfl)) (by kernel_rfl) (by kernel_rfl) (by kernel_rfl) (by intro _ _ _ h; exact h) (Or.inr ⟨by kernel_rfl, rfl⟩) hHeld ?_
            try simp only [Act.put, List.setIfInBounds_toArray, List.set_cons_zero, List.set_cons_succ]
            refine wpAnyH_take (i := 23) (v := undef) (by (simp only [List.getElem?_toArray, List.getElem?_cons_succ, List.getElem?_cons_zero]; rfl)) (by kernel_rfl) (by kernel_rfl) (by kernel_rfl) (by intro _ _ _ h; exact h) (Or.inr ⟨by kernel_rfl, rfl⟩) hHeld ?_
            try simp only [Act.put, List.setIfInBounds_toArray, List.set_cons_zero, List.set_cons_succ]
            refine wpAnyH_take (i := 24) (v := undef) (by (simp only [List.getElem?_toArray, List.getElem?_cons_succ, List.getElem?_cons_zero]; rfl)) (by kernel_rfl) (by kernel_rfl) (by kernel_rfl) (by intro _ _ _ h; exact h) (Or.inr ⟨by kernel_rfl, rfl⟩) hHeld ?_
            try simp only [Act.put, List.setIfInBounds_toArray, List.set_cons_zero, List.set_cons_succ]
            refine wpAnyH_take (i := 25) (v := undef) (by (simp only [List.getElem?_toArray, List.getElem?_cons_succ, List.getElem?_cons_zero]; rfl)) (by kernel_rfl) (by kernel_rfl) (by kernel_rfl) (by intro _ _ _ h; exact h) (Or.inr ⟨by kernel_rfl, rfl⟩) hHeld ?_
            try simp only [Act.put, List.setIfInBounds_toArray, List.set_cons_zero, List.set_cons_succ]
            refine wpAnyH_take (i := 26) (v := undef) (by (simp only [List.getElem?_toArray, List.getElem?_cons_succ, List.getElem?_cons_zero]; rfl)) (by kernel_rfl) (by kernel_rfl) (by kernel_rfl) (by intro _ _ _ h; exact h) (Or.inr ⟨by kernel_rfl, rfl⟩) hHeld ?_
            try simp only [Act.put, List.setIfInBounds_toArray, List.set_cons_zero, List.set_cons_succ]
            refine wpAnyH_take (i := 27) (v := undef) (by (simp only [List.getElem?_toArray, List.getElem?_cons_succ, List.getElem?_cons_zero]; rfl)) (by kernel_rfl) (by kernel_rfl) (by kernel_rfl) (by intro _ _ _ h; exact h) (Or.inr ⟨by kernel_rfl, rfl⟩) hHeld ?_
            try simp only [Act.put, List.setIfInBounds_toArray, List.set_cons_zero, List.set_cons_succ]
            refine wpAnyH_take (i := 28) (v := undef) (by (simp only [List.getElem?_toArray, List.getElem?_cons_succ, List.getElem?_cons_zero]; rfl)) (by kernel_rfl) (by kernel_rfl) (by kernel_rfl) (by intro _ _ _ h; exact h) (Or.inr ⟨by kernel_rfl, rfl⟩) hHeld ?_
            try simp only [Act.put, List.setIfInBounds_toArray, List.set_cons_zero, List.set_cons_succ]
            refine wpAnyH_take (i := 29) (v := undef) (by (simp only [List.getElem?_toArray, List.getElem?_cons_succ, List.getElem?_cons_zero]; rfl)) (by kernel_rfl) (by kernel_rfl) (by kernel_rfl) (by intro _ _ _ h; exact h) (Or.inr ⟨by kernel_rfl, rfl⟩) hHeld ?_
            try simp only [Act.put, List.setIfInBounds_toArray, List.set_cons_zero, List.set_cons_succ]
            refine wpAnyH_take (i := 30) (v := undef) (by (simp only [List.getElem?_toArray, List.getElem?_cons_succ, List.getElem?_cons_zero]; rfl)) (by kernel_rfl) (by kernel_rfl) (by kernel_rfl) (by intro _ _ _ h; exact h) (Or.inr ⟨by kernel_rfl, rfl⟩) hHeld ?_
            try simp only [Act.put, List.setIfInBounds_toArray, List.set_cons_zero, List.set_cons_succ]
            refine wpAnyH_take (i := 31) (v := undef) (by (simp only [List.getElem?_toArray, List.getElem?_cons_succ, List.getElem?_cons_zero]; rfl)) (by kernel_rfl) (by kernel_rfl) (by kernel_rfl) (by intro _ _ _ h; exact h) (Or.inr ⟨by kernel_rfl, rfl⟩) hHeld ?_
            try simp only [Act.put, List.setIfInBounds_toArray, List.set_cons_zero, List.set_cons_succ]
            refine wpAnyH_take (i := 32) (v := ?_) (by (simp only [List.getElem?_toArray, List.getElem?_cons_succ, List.getElem?_cons_zero]; rfl)) (by kernel_rfl) (by kernel_rfl) (by kernel_rfl) (by intro _ _ _ h; exact h) (Or.inl ⟨by kernel_rfl, ?_⟩) hHeld ?_
            case refine_2 =>
              intro w hSw
              try dsimp only at hSw
              go_simp
              try with_reducible rfl
            try simp only [Act.put, List.setIfInBounds_toArray, List.set_cons_zero, List.set_cons_succ]
            refine wpAnyH_done (by kernel_rfl) ?_ _
            have HL := Lib.hid (show (locT s c).1 = 1 from by rw [HLO.out]; show refT t (j : Int) c = 1; rw [ref_2 HK.out]; rw [if_pos (of_decide_eq_true HI.out)])
            go_wp2_with fail
            refine bodyPost_ret (v := .tuple #[.int .i64 0, .int .i64 0, .int .i64 1]) (by simp [results, Tryz.results33, go_sem]) rfl ?_
            exact chk_err HL.out (by decide) HB.out
          | false =>
            refine wp_region_held_drew (S := (fun w' => w'.cell? ⟨w.heap.size + 1, 0, none⟩ = some (.int .i64 c.kind) ∧ w'.cell? ⟨w.heap.size, 0, none⟩ = some (.slice (some ⟨b, o, none⟩) s.length cp) ∧ w'.cell? ⟨b, o + i * 3 + 2, none⟩ = some (.slice Ak t.key.length nk))) (by kernel_rfl) ?_ (fun hHeld => ?_)
            · try dsimp only
              go_keep
            refine wpAnyH_take (i := 0) (v := ?_) (by (simp only [List.getElem?_toArray, List.getElem?_cons_zero]; rfl)) (by kernel_rfl) (by kernel_rfl) (by kernel_rfl) (by intro _ _ _ h; exact h) (Or.inl ⟨by kernel_rfl, ?_⟩) hHeld ?_
            case refine_2 =>
              intro w hSw
              try dsimp only at hSw
              go_simp
              try with_reducible rfl
            try simp only [Act.put, List.setIfInBounds_toArray, List.set_cons_zero, List.set_cons_succ]
            refine wpAnyH_take (i := 1) (v := ?_) (by (simp only [List.getElem?_toArray, List.getElem?_cons_succ, List.getElem?_cons_zero]; rfl)) (by kernel_rfl) (by kernel_rfl) (by kernel_rfl) (by intro _ _ _ h; exact h) (Or.inl ⟨by kernel_rfl, ?_⟩) hHeld ?_
            case refine_2 =>
              intro w hSw
              try dsimp only at hSw
              go_simp
              try with_reducible rfl
            try simp only [Act.put, List.setIfInBounds_toArray, List.set_cons_zero, List.set_cons_succ]
            refine wpAnyH_take (i := 2) (v := ?_) (by (simp only [List.getElem?_toArray, List.getElem?_cons_succ, List.getElem?_cons_zero]; rfl)) (by kernel_rfl) (by kernel_rfl) (by kernel_rfl) (by intro _ _ _ h; exact h) (Or.inl ⟨by kernel_rfl, ?_⟩) hHeld ?_
            case refine_2 =>
              intro w hSw
              try dsimp only at hSw
              go_simp
              try with_reducible rfl
            try simp only [Act.put, List.setIfInBounds_toArray, List.set_cons_zero, List.set_cons_succ]
            refine wpAnyH_take (i := 3) (v := ?_) (by (simp only [List.getElem?_toArray, List.getElem?_cons_succ, List.getElem?_cons_zero]; rfl)) (by kernel_rfl) (by kernel_rfl) (by kernel_rfl) (by intro _ _ _ h; exact h) (Or.inl ⟨by kernel_rfl, ?_⟩) hHeld ?_
            case refine_2 =>
              intro w hSw
              try dsimp only at hSw
              go_simp
              try with_reducible rfl
            try simp only [Act.put, List.setIfInBounds_toArray, List.set_cons_zero, List.set_cons_succ]
            refine wpAnyH_take (i := 4) (v := ?_) (by (simp only [List.getElem?_toArray, List.getElem?_cons_succ, List.getElem?_cons_zero]; rfl)) (by kernel_rfl) (by kernel_rfl) (by kernel_rfl) (by intro _ _ _ h; exact h) (Or.inl ⟨by kernel_rfl, ?_⟩) hHeld ?_
            case refine_2 =>
              intro w hSw
              try dsimp only at hSw
              go_simp
              try with_reducible rfl
            try simp only [Act.put, List.setIfInBounds_toArray, List.set_cons_zero, List.set_cons_succ]
            refine wpAnyH_take (i := 5) (v := ?_) (by (simp only [List.getElem?_toArray, List.getElem?_cons_succ, List.getElem?_cons_zero]; rfl)) (by kernel_rfl) (by kernel_rfl) (by kernel_rfl) (by intro _ _ _ h; exact h) (Or.inl ⟨by kernel_rfl, ?_⟩) hHeld ?_
            case refine_2 =>
              intro w hSw
              try dsimp only at hSw
              go_simp
              try with_reducible rfl
            try simp only [Act.put, List.setIfInBounds_toArray, List.set_cons_zero, List.set_cons_succ]
            refine wpAnyH_take (i := 6) (v := ?_) (by (simp only [List.getElem?_toArray, List.getElem?_cons_succ, List.getElem?_cons_zero]; rfl)) (by kernel_rfl) (by kernel_rfl) (by kernel_rfl) (by intro _ _ _ h; exact h) (Or.inl ⟨by kernel_rfl, ?_⟩) hHeld ?_
            case refine_2 =>
              intro w hSw
              try dsimp only at hSw
              go_simp
              try with_reducible rfl
            try simp only [Act.put, List.setIfInBounds_toArray, List.set_cons_zero, List.set_cons_succ]
            refine wpAnyH_take (i := 7) (v := ?_) (by (simp only [List.getElem?_toArray, List.getElem?_cons_succ, List.getElem?_cons_zero]; rfl)) (by kernel_rfl) (by kernel_rfl) (by kernel_rfl) (by intro _ _ _ h; exact h) (Or.inl ⟨by kernel_rfl, ?_⟩) hHeld ?_
            case refine_2 =>
              intro w hSw
              try dsimp only at hSw
              go_simp
              try with_reducible rfl
            try simp only [Act.put, List.setIfInBounds_toArray, List.set_cons_zero, List.set_cons_succ]
            refine wpAnyH_take (i := 8) (v := ?_) (by (simp only [List.getElem?_toArray, List.getElem?_cons_succ, List.getElem?_cons_zero]; rfl)) (by kernel_rfl) (by kernel_rfl) (by kernel_rfl) (by intro _ _ _ h; exact h) (Or.inl ⟨by kernel_rfl, ?_⟩) hHeld ?_
            case refine_2 =>
              intro w hSw
              try dsimp only at hSw
              go_simp
              try with_reducible rfl
            try simp only [Act.put, List.setIfInBounds_toArray, List.set_cons_zero, List.set_cons_succ]
            refine wpAnyH_take (i := 9) (v := ?_) (by (simp only [List.getElem?_toArray, List.getElem?_cons_succ, List.getElem?_cons_zero]; rfl)) (by kernel_rfl) (by kernel_rfl) (by kernel_rfl) (by intro _ _ _ h; exact h) (Or.inl ⟨by kernel_rfl, ?_⟩) hHeld ?_
            case refine_2 =>
              intro w hSw
              try dsimp only at hSw
              go_simp
              try with_reducible rfl
            try simp only [Act.put, List.setIfInBounds_toArray, List.set_cons_zero, List.set_cons_succ]
            refine wpAnyH_take (i := 10) (v := ?_) (by (simp only [List.getElem?_toArray, List.getElem?_cons_succ, List.getElem?_cons_zero]; rfl)) (by kernel_rfl) (by kernel_rfl) (by kernel_rfl) (by intro _ _ _ h; exact h) (Or.inl ⟨by kernel_rfl, ?_⟩) hHeld ?_
            case refine_2 =>
              intro w hSw
              try dsimp only at hSw
              go_simp
              try with_reducible rfl
            try simp only [Act.put, List.setIfInBounds_toArray, List.set_cons_zero, List.set_cons_succ]
            refine wpAnyH_ready (rs := [11]) (by kernel_rfl) (by simp) ?_
            refine AllReadyH.cons (by (simp only [List.getElem?_toArray, List.getElem?_cons_succ, List.getElem?_cons_zero]; rfl)) (fun K hK => ?_) AllReadyH.nil
            go_simp
            refine (CI.out _ (HVK.out.below (below_drewN _ _ 1))).mono ?_
            rintro e w5 ⟨rfl, hb⟩
            have hb1 : Below w4.heap.size w4 w5 := (below_drewN w4.heap.size w4 1).trans hb
            replace z0 := cellB hb1 z0
            replace c0 := cellB hb1 c0
            replace c1 := cellB hb1 c1
            replace c2 := cellB hb1 c2
            replace c3 := cellB hb1 c3
            replace c4 := cellB hb1 c4
            replace c5 := cellB hb1 c5
            replace c6 := cellB hb1 c6
            replace c7 := cellB hb1 c7
            replace x0 := cellB hb1 x0
            replace x1 := cellB hb1 x1
            replace x2 := cellB hb1 x2
            replace HS := Lib.hid (HS.out.below hb1)
            replace HVA := Lib.hid (HVA.out.below hb1)
            replace HVK := Lib.hid (HVK.out.below hb1)
            replace HB := Lib.hid (below_up HB.out hb1 HB.out.size)
            clear hb hb1
            try go_wp2_with fail
            clear hHeld
            refine hK.out _ _ ?_ (fun hHeld => ?_)
            · try dsimp only
              go_keep
            clear hK K
            try simp only [Act.put, List.setIfInBounds_toArray, List.set_cons_zero, List.set_cons_succ]
            refine wpAnyH_take (i := 12) (v := ?_) (by (simp only [List.getElem?_toArray, List.getElem?_cons_succ, List.getElem?_cons_zero]; rfl)) (by kernel_rfl) (by kernel_rfl) (by kernel_rfl) (by intro _ _ _ h; exact h) (Or.inl ⟨by kernel_rfl, ?_⟩) hHeld ?_
            case refine_2 =>
              intro w hSw
              try dsimp only at hSw
              go_simp
              try with_reducible rfl
            try simp only [Act.put, List.setIfInBounds_toArray, List.set_cons_zero, List.set_cons_succ]
            refine wpAnyH_take (i := 13) (v := ?_) (by (simp only [List.getElem?_toArray, List.getElem?_cons_succ, List.getElem?_cons_zero]; rfl)) (by kernel_rfl) (by kernel_rfl) (by kernel_rfl) (by intro _ _ _ h; exact h) (Or.inl ⟨by kernel_rfl, ?_⟩) hHeld ?_
            case refine_2 =>
              intro w hSw
              try dsimp only at hSw
              go_simp
              try with_reducible rfl
            try simp only [Act.put, List.setIfInBounds_toArray, List.set_cons_zero, List.set_cons_succ]
            refine wpAnyH_take (i := 14) (v := ?_) (by (simp only [List.getElem?_toArray, List.getElem?_cons_succ, List.getElem?_cons_zero]; rfl)) (by kernel_rfl) (by kernel_rfl) (by kernel_rfl) (by intro _ _ _ h; exact h) (Or.inl ⟨by kernel_rfl, ?_⟩) hHeld ?_
            case refine_2 =>
              intro w hSw
              try dsimp only at hSw
              go_simp
              try with_reducible rfl
            try simp only [Act.put, List.setIfInBounds_toArray, List.set_cons_zero, List.set_cons_succ]
            refine wpAnyH_take (i := 15) (v := ?_) (by (simp only [List.getElem?_toArray, List.getElem?_cons_succ, List.getElem?_cons_zero]; rfl)) (by kernel_rfl) (by kernel_rfl) (by kernel_rfl) (by intro _ _ _ h; exact h) (Or.inl ⟨by kernel_rfl, ?_⟩) hHeld ?_
            case refine_2 =>
              intro w hSw
              try dsimp only at hSw
              go_simp
              try with_reducible rfl
            try simp only [Act.put, List.setIfInBounds_toArray, List.set_cons_zero, List.set_cons_succ]
            refine wpAnyH_take (i := 16) (v := ?_) (by (simp only [List.getElem?_toArray, List.getElem?_cons_succ, List.getElem?_cons_zero]; rfl)) (by kernel_rfl) (by kernel_rfl) (by kernel_rfl) (by intro _ _ _ h; exact h) (Or.inl ⟨by kernel_rfl, ?_⟩) hHeld ?_
            case refine_2 =>
              intro w hSw
              try dsimp only at hSw
              go_simp
              try with_reducible rfl
            try simp only [Act.put, List.setIfInBounds_toArray, List.set_cons_zero, List.set_cons_succ]
            refine wpAnyH_take (i := 17) (v := ?_) (by (simp only [List.getElem?_toArray, List.getElem?_cons_succ, List.getElem?_cons_zero]; rfl)) (by kernel_rfl) (by kernel_rfl) (by kernel_rfl) (by intro _ _ _ h; exact h) (Or.inl ⟨by kernel_rfl, ?_⟩) hHeld ?_
            case refine_2 =>
              intro w hSw
              try dsimp only at hSw
              go_simp
              try with_reducible rfl
            try simp only [Act.put, List.setIfInBounds_toArray, List.set_cons_zero, List.set_cons_succ]
            refine wpAnyH_take (i := 18) (v := undef) (by (simp only [List.getElem?_toArray, List.getElem?_cons_succ, List.getElem?_cons_zero]; rfl)) (by kernel_rfl) (by kernel_rfl) (by kernel_rfl) (by intro _ _ _ h; exact h) (Or.inr ⟨by kernel_rfl, rfl⟩) hHeld ?_
            try simp only [Act.put, List.setIfInBounds_toArray, List.set_cons_zero, List.set_cons_succ]
            refine wpAnyH_take (i := 19) (v := undef) (by (simp only [List.getElem?_toArray, List.getElem?_cons_succ, List.getElem?_cons_zero]; rfl)) (by kernel_rfl) (by kernel_rfl) (by kernel_rfl) (by intro _ _ _ h; exact h) (Or.inr ⟨by kernel_rfl, rfl⟩) hHeld ?_
            try simp only [Act.put, List.setIfInBounds_toArray, List.set_cons_zero, List.set_cons_succ]
            refine wpAnyH_take (i := 20) (v := undef) (by (simp only [List.getElem?_toArray, List.getElem?_cons_succ, List.getElem?_cons_zero]; rfl)) (by kernel_rfl) (by kernel_rfl) (by kernel_rfl) (by intro _ _ _ h; exact h) (Or.inr ⟨by kernel_rfl, rfl⟩) hHeld ?_
            try simp only [Act.put, List.setIfInBounds_toArray, List.set_cons_zero, List.set_cons_succ]
            refine wpAnyH_take (i := 21) (v := undef) (by (simp only [List.getElem?_toArray, List.getElem?_cons_succ, List.getElem?_cons_zero]; rfl)) (by kernel_rfl) (by kernel_rfl) (by kernel_rfl) (by intro _ _ _ h; exact h) (Or.inr ⟨by kernel_rfl, rfl⟩) hHeld ?_
            try simp only [Act.put, List.setIfInBounds_toArray, List.set_cons_zero, List.set_cons_succ]
            refine wpAnyH_take (i := 22) (v := undef) (by (simp only [List.getElem?_toArray, List.getElem?_cons_succ, List.getElem?_cons_zero]; rfl)) (by kernel_rfl) (by kernel_rfl) (by kernel_rfl) (by intro _ _ _ h; exact h) (Or.inr ⟨by kernel_rfl, rfl⟩) hHeld ?_
            try simp only [Act.put, List.setIfInBounds_toArray, List.set_cons_zero, List.set_cons_succ]
            refine wpAnyH_take (i := 23) (v := undef) (by (simp only [List.getElem?_toArray, List.getElem?_cons_succ, List.getElem?_cons_zero]; rfl)) (by kernel_rfl) (by kernel_rfl) (by kernel_rfl) (by intro _ _ _ h; exact h) (Or.inr ⟨by kernel_rfl, rfl⟩) hHeld ?_
            try simp only [Act.put, List.setIfInBounds_toArray, List.set_cons_zero, List.set_cons_succ]
            refine wpAnyH_take (i := 24) (v := undef) (by (simp only [List.getElem?_toArray, List.getElem?_cons_succ, List.getElem?_cons_zero]; rfl)) (by kernel_rfl) (by kernel_rfl) (by kernel_rfl) (by intro _ _ _ h; exact h) (Or.inr ⟨by kernel_rfl, rfl⟩) hHeld ?_
            try simp only [Act.put, List.setIfInBounds_toArray, List.set_cons_zero, List.set_cons_succ]
            refine wpAnyH_take (i := 25) (v := undef) (by (simp only [List.getElem?_toArray, List.getElem?_cons_succ, List.getElem?_cons_zero]; rfl)) (by kernel_rfl) (by kernel_rfl) (by kernel_rfl) (by intro _ _ _ h; exact h) (Or.inr ⟨by kernel_rfl, rfl⟩) hHeld ?_
            try simp only [Act.put, List.setIfInBounds_toArray, List.set_cons_zero, List.set_cons_succ]
            refine wpAnyH_take (i := 26) (v := undef) (by (simp only [List.getElem?_toArray, List.getElem?_cons_succ, List.getElem?_cons_zero]; rfl)) (by kernel_rfl) (by kernel_rfl) (by kernel_rfl) (by intro _ _ _ h; exact h) (Or.inr ⟨by kernel_rfl, rfl⟩) hHeld ?_
            try simp only [Act.put, List.setIfInBounds_toArray, List.set_cons_zero, List.set_cons_succ]
            refine wpAnyH_take (i := 27) (v := undef) (by (simp only [List.getElem?_toArray, List.getElem?_cons_succ, List.getElem?_cons_zero]; rfl)) (by kernel_rfl) (by kernel_rfl) (by kernel_rfl) (by intro _ _ _ h; exact h) (Or.inr ⟨by kernel_rfl, rfl⟩) hHeld ?_
            try simp only [Act.put, List.setIfInBounds_toArray, List.set_cons_zero, List.set_cons_succ]
            refine wpAnyH_take (i := 28) (v := undef) (by (simp only [List.getElem?_toArray, List.getElem?_cons_succ, List.getElem?_cons_zero]; rfl)) (by kernel_rfl) (by kernel_rfl) (by kernel_rfl) (by intro _ _ _ h; exact h) (Or.inr ⟨by kernel_rfl, rfl⟩) hHeld ?_
            try simp only [Act.put, List.setIfInBounds_toArray, List.set_cons_zero, List.set_cons_succ]
            refine wpAnyH_take (i := 29) (v := undef) (by (simp only [List.getElem?_toArray, List.getElem?_cons_succ, List.getElem?_cons_zero]; rfl)) (by kernel_rfl) (by kernel_rfl) (by kernel_rfl) (by intro _ _ _ h; exact h) (Or.inr ⟨by kernel_rfl, rfl⟩) hHeld ?_
            try simp only [Act.put, List.setIfInBounds_toArray, List.set_cons_zero, List.set_cons_succ]
            refine wpAnyH_take (i := 30) (v := undef) (by (simp only [List.getElem?_toArray, List.getElem?_cons_succ, List.getElem?_cons_zero]; rfl)) (by kernel_rfl) (by kernel_rfl) (by kernel_rfl) (by intro _ _ _ h; exact h) (Or.inr ⟨by kernel_rfl, rfl⟩) hHeld ?_
            try simp only [Act.put, List.setIfInBounds_toArray, List.set_cons_zero, List.set_cons_succ]
            refine wpAnyH_take (i := 31) (v := ?_) (by (simp only [List.getElem?_toArray, List.getElem?_cons_succ, List.getElem?_cons_zero]; rfl)) (by kernel_rfl) (by kernel_rfl) (by kernel_rfl) (by intro _ _ _ h; exact h) (Or.inl ⟨by kernel_rfl, ?_⟩) hHeld ?_
            case refine_2 =>
              intro w hSw
              try dsimp only at hSw
              go_simp
              try with_reducible rfl
            try simp only [Act.put, List.setIfInBounds_toArray, List.set_cons_zero, List.set_cons_succ]
            refine wpAnyH_take (i := 32) (v := ?_) (by (simp only [List.getElem?_toArray, List.getElem?_cons_succ, List.getElem?_cons_zero]; rfl)) (by kernel_rfl) (by kernel_rfl) (by kernel_rfl) (by intro _ _ _ h; exact h) (Or.inl ⟨by kernel_rfl, ?_⟩) hHeld ?_
            case refine_2 =>
              intro w hSw
              try dsimp only at hSw
              go_simp
              try with_reducible rfl
            try simp only [Act.put, List.setIfInBounds_toArray, List.set_cons_zero, List.set_cons_succ]
            refine wpAnyH_done (by kernel_rfl) ?_ _
            have mz0 := fun m => (show (w5.drewN m).cell? _ = _ from z0)
            have mc0 := fun m => (show (w5.drewN m).cell? _ = _ from c0)
            have mc1 := fun m => (show (w5.drewN m).cell? _ = _ from c1)
            have mc2 := fun m => (show (w5.drewN m).cell? _ = _ from c2)
            have mc3 := fun m => (show (w5.drewN m).cell? _ = _ from c3)
            have mc4 := fun m => (show (w5.drewN m).cell? _ = _ from c4)
            have mc5 := fun m => (show (w5.drewN m).cell? _ = _ from c5)
            have mc6 := fun m => (show (w5.drewN m).cell? _ = _ from c6)
            have mc7 := fun m => (show (w5.drewN m).cell? _ = _ from c7)
            have mx0 := fun m => (show (w5.drewN m).cell? _ = _ from x0)
            have mx1 := fun m => (show (w5.drewN m).cell? _ = _ from x1)
            have mx2 := fun m => (show (w5.drewN m).cell? _ = _ from x2)
            go_wp2_with fail
            go_quiet (fail)
            obtain ⟨w6, hW⟩ : ∃ W, w5.drewN nq = W := ⟨_, rfl⟩
            rw [hW]
            have hb2 : Below w5.heap.size w5 w6 := by rw [← hW]; exact below_drewN _ _ _
            replace z0 := cellB hb2 z0
            replace c0 := cellB hb2 c0
            replace c1 := cellB hb2 c1
            replace c2 := cellB hb2 c2
            replace c3 := cellB hb2 c3
            replace c4 := cellB hb2 c4
            replace c5 := cellB hb2 c5
            replace c6 := cellB hb2 c6
            replace c7 := cellB hb2 c7
            replace x0 := cellB hb2 x0
            replace x1 := cellB hb2 x1
            replace x2 := cellB hb2 x2
            replace HS := Lib.hid (HS.out.below hb2)
            replace HVA := Lib.hid (HVA.out.below hb2)
            replace HVK := Lib.hid (HVK.out.below hb2)
            replace HB := Lib.hid (below_up HB.out hb2 HB.out.size)
            clear hW mz0 mc0 mc1 mc2 mc3 mc4 mc5 mc6 mc7 mx0 mx1 mx2
            clear hb2
            have HL := Lib.hid (show locT s c = (0, (i : Int), (j : Int)) by rw [HLO.out, show refT t (j : Int) c = 0 by rw [ref_2 HK.out]; rw [if_neg (of_decide_eq_false HI.out)]])
            go_wp2_with fail
            refine bodyPost_ret (v := .tuple #[.int .i64 (i : Int), .int .i64 (j : Int), .int .i64 0]) (by simp [results, Tryz.results33, go_sem]) rfl ?_
            exact chk_ok HL.out HB.out
end Go.Proofs.YteokcgfbhaeklaaGreatDoor

/- The reference's check, at a change of kind 3. -/
namespace Go.Proofs.YteokcgfbhaeklaaGreatDoor
open Go.RowKit

set_option maxRecDepth 100000 in
set_option maxHeartbeats 8000000 in
theorem check3_rf (s : List TabT) (v : Value) (c : ChgT) (hk : c.kind = 3) (hm : Mid s) (hlen : Lens s) (hcn : c.name.length ≤ maxLen) (w : World) (h : Tabs w v s) :
    Calls Tryz.prog 33 #[.agg #[v], Cv c] w (ChkPost w s c) := by
  have HK := Lib.hid hk
  have e1 : (c.kind == 1) = false := by rw [hk]; rfl
  have e2 : (c.kind == 2) = false := by rw [hk]; rfl
  have e3 : (c.kind == 3) = true := by rw [hk]; rfl
  have e4 : (c.kind == 4) = false := by rw [hk]; rfl
  have n1 : (c.kind != 1) = true := by rw [hk]; rfl
  obtain ⟨A, cp, rfl, _⟩ := h.form
  have HS := Lib.hid h
  have HM := Lib.hid hm
  have HLN := Lib.hid hlen
  have hsl : s.length ≤ 24 := hm.1
  obtain ⟨rv, hrv⟩ : ∃ r, validB s = r := ⟨_, rfl⟩
  have CV := Lib.hid (fun W (hW : Tabs W (.slice A s.length cp) s) => hrv ▸ valid_rf s _ hm hlen W hW)
  have HV := Lib.hid hrv
  obtain ⟨rf, hrf⟩ : ∃ r, formedB c = r := ⟨_, rfl⟩
  have CFO := Lib.hid (fun W => hrf ▸ formed_rf c W)
  have HFO := Lib.hid hrf
  obtain ⟨f, hf⟩ : ∃ f, findT s c.table = f := ⟨_, rfl⟩
  have CFI := Lib.hid (fun W (hW : Tabs W (.slice A s.length cp) s) => hf ▸ find_rf s _ c.table (by omega) W hW)
  have HF := Lib.hid hf
  clear hf
  obtain ⟨rn, hrn⟩ : ∃ r, nameB c.name = r := ⟨_, rfl⟩
  have CNA := Lib.hid (fun W => name_is c.name rn hrn hcn W)
  have HNA := Lib.hid hrn
  clear hrn
  clear hk h hm hlen hrv hrf hcn
  go_enter Tryz.func33, Tryz.ntmps33
  go_wp2_with fail
  refine (CV.out _ (HS.out.below ((below_box w _).alloc (by simp) _))).mono ?_
  rintro e w1 ⟨rfl, hb⟩
  have hb2 : Below w.heap.size w w1 := below_up ((below_box w _).alloc (by simp) _) hb (by simp; omega)
  replace HS := Lib.hid (HS.out.below hb2)
  have HB := Lib.hid hb2
  have z0 : w1.cell? ⟨w.heap.size, 0, none⟩ = some (.slice A s.length cp) := cellB hb (by simp [go_sem])
  have c0 : w1.cell? ⟨w.heap.size + 1, 0, none⟩ = some (.int .i64 c.kind) := cellB hb (by simp [go_sem])
  have c1 : w1.cell? ⟨w.heap.size + 1, 1, none⟩ = some (str c.table) := cellB hb (by simp [go_sem])
  have c2 : w1.cell? ⟨w.heap.size + 1, 2, none⟩ = some (str c.attr) := cellB hb (by simp [go_sem])
  have c3 : w1.cell? ⟨w.heap.size + 1, 3, none⟩ = some (str c.name) := cellB hb (by simp [go_sem])
  have c4 : w1.cell? ⟨w.heap.size + 1, 4, none⟩ = some (.int .i64 c.to) := cellB hb (by simp [go_sem])
  have c5 : w1.cell? ⟨w.heap.size + 1, 5, none⟩ = some (.int .i64 c.dft.1) := cellB hb (by simp [go_sem])
  have c6 : w1.cell? ⟨w.heap.size + 1, 6, none⟩ = some (.int .i64 c.dft.2.1) := cellB hb (by simp [go_sem])
  have c7 : w1.cell? ⟨w.heap.size + 1, 7, none⟩ = some (str c.dft.2.2) := cellB hb (by simp [go_sem])
  clear hb hb2
  clear CV
  cases rv with
  | false =>
    have HL := Lib.hid (show (locT s c).1 = 1 from by rw [loc_arg (Or.inl HV.out)])
    go_wp2_with fail
    refine bodyPost_ret (v := .tuple #[.int .i64 0, .int .i64 0, .int .i64 1]) (by simp [results, Tryz.results33, go_sem]) rfl ?_
    exact chk_err HL.out (by decide) HB.out
  | true =>
    go_wp2_with fail
    refine (CFO.out _).mono ?_
    rintro e w2 ⟨rfl, hb⟩
    have hb2 : Below w1.heap.size w1 w2 := hb
    replace z0 := cellB hb2 z0
    replace c0 := cellB hb2 c0
    replace c1 := cellB hb2 c1
    replace c2 := cellB hb2 c2
    replace c3 := cellB hb2 c3
    replace c4 := cellB hb2 c4
    replace c5 := cellB hb2 c5
    replace c6 := cellB hb2 c6
    replace c7 := cellB hb2 c7
    replace HS := Lib.hid (HS.out.below hb2)
    replace HB := Lib.hid (below_up HB.out hb2 HB.out.size)
    clear hb hb2
    clear CFO
    cases rf with
    | false =>
      have HL := Lib.hid (show (locT s c).1 = 1 from by rw [loc_arg (Or.inr HFO.out)])
      go_wp2_with fail
      refine bodyPost_ret (v := .tuple #[.int .i64 0, .int .i64 0, .int .i64 1]) (by simp [results, Tryz.results33, go_sem]) rfl ?_
      exact chk_err HL.out (by decide) HB.out
    | true =>
      go_wp2_with fail
      refine (CFI.out _ HS.out).mono ?_
      rintro e w3 ⟨rfl, hb⟩
      have hb2 : Below w2.heap.size w2 w3 := hb
      replace z0 := cellB hb2 z0
      replace c0 := cellB hb2 c0
      replace c1 := cellB hb2 c1
      replace c2 := cellB hb2 c2
      replace c3 := cellB hb2 c3
      replace c4 := cellB hb2 c4
      replace c5 := cellB hb2 c5
      replace c6 := cellB hb2 c6
      replace c7 := cellB hb2 c7
      replace HS := Lib.hid (HS.out.below hb2)
      replace HB := Lib.hid (below_up HB.out hb2 HB.out.size)
      clear hb hb2
      clear CFI
      by_cases hf0 : f < 0
      · skip
        have HL := Lib.hid (show (locT s c).1 = 11 from by rw [loc_none HV.out HFO.out (by rw [HF.out]; exact hf0)])
        go_wp2_with fail
        refine bodyPost_ret (v := .tuple #[.int .i64 0, .int .i64 0, .int .i64 11]) (by simp [results, Tryz.results33, go_sem]) rfl ?_
        exact chk_err HL.out (by decide) HB.out
      · skip
        obtain ⟨i, hfi⟩ : ∃ i : Nat, f = (i : Int) := ⟨f.toNat, by omega⟩
        subst hfi
        have hi : i < s.length := by
          have := findT_range s c.table
          rw [HF.out] at this
          omega
        obtain ⟨b, o, e, va, vk, hat, hva, hvk⟩ := tab_row HS.out hi
        subst e
        obtain ⟨Aa, na, rfl, _⟩ := hva.form
        obtain ⟨Ak, nk, rfl, _⟩ := hvk.form
        have x0 := hat.c0
        have x1 := hat.c1
        have x2 := hat.c2
        have hmt := HM.out.2 s[i] (List.getElem_mem hi)
        have hvl := valid_len HV.out (List.getElem_mem hi)
        obtain ⟨t, ht⟩ : ∃ t, s[i] = t := ⟨_, rfl⟩
        rw [ht] at x0 x1 x2 hmt hva hvk hvl
        have HT := Lib.hid ht
        have HMT := Lib.hid hmt
        have HVA := Lib.hid hva
        have HVK := Lib.hid hvk
        obtain ⟨y, hy⟩ : ∃ y, colT t.attrs c.attr = y := ⟨_, rfl⟩
        have CC := Lib.hid (fun W (hW : Attrs W (.slice Aa t.attrs.length na) t.attrs) => hy ▸ column_rf t.name t.attrs _ (.slice Ak t.key.length nk) c.attr (by have := hmt.1; omega) (fun a ha => by have := hmt.2.2 a ha; omega) W hW)
        have HY := Lib.hid hy
        have i1 : (0 : Int) ≤ (i : Int) := by omega
        have i2 : (i : Int) < (s.length : Int) := by omega
        clear hat hva hvk hmt hy ht
        go_wp2_with fail
        go_region_held3 (fun w' => w'.cell? ⟨w.heap.size, 0, none⟩ = some (.slice (some ⟨b, o, none⟩) s.length cp) ∧ w'.cell? ⟨w.heap.size + 1, 2, none⟩ = some (str c.attr) ∧ w'.cell? ⟨b, o + i * 3, none⟩ = some (str t.name) ∧ w'.cell? ⟨b, o + i * 3 + 1, none⟩ = some (.slice Aa t.attrs.length na) ∧ w'.cell? ⟨b, o + i * 3 + 2, none⟩ = some (.slice Ak t.key.length nk)) (go_keep)
          (first | (go_at_call 24; refine (CC.out _ (HVA.out.below (below_drewN _ _ 1))).mono ?_; rintro e w4 ⟨rfl, hb⟩; have hb1 := (below_drewN w3.heap.size w3 1).trans hb; have g1 := Lib.hid hb1; have pz0 := cellB hb1 z0; have pc0 := cellB hb1 c0; have pc1 := cellB hb1 c1; have pc2 := cellB hb1 c2; have pc3 := cellB hb1 c3; have pc4 := cellB hb1 c4; have pc5 := cellB hb1 c5; have pc6 := cellB hb1 c6; have pc7 := cellB hb1 c7; have px0 := cellB hb1 x0; have px1 := cellB hb1 x1; have px2 := cellB hb1 x2; clear hb hb1))
        replace z0 := pz0
        replace c0 := pc0
        replace c1 := pc1
        replace c2 := pc2
        replace c3 := pc3
        replace c4 := pc4
        replace c5 := pc5
        replace c6 := pc6
        replace c7 := pc7
        replace x0 := px0
        replace x1 := px1
        replace x2 := px2
        replace HS := Lib.hid (HS.out.below g1.out)
        replace HVA := Lib.hid (HVA.out.below g1.out)
        replace HVK := Lib.hid (HVK.out.below g1.out)
        replace HB := Lib.hid (below_up HB.out g1.out HB.out.size)
        clear g1 pz0 pc0 pc1 pc2 pc3 pc4 pc5 pc6 pc7 px0 px1 px2
        clear CC
        by_cases hy0 : y < 0
        · skip
          have HL := Lib.hid (show (locT s c).1 = 11 from loc_colno HV.out HFO.out hi HF.out (by rw [HT.out, HY.out]; exact hy0) (by rw [HK.out]; decide))
          go_wp2_with fail
          refine bodyPost_ret (v := .tuple #[.int .i64 0, .int .i64 0, .int .i64 11]) (by simp [results, Tryz.results33, go_sem]) rfl ?_
          exact chk_err HL.out (by decide) HB.out
        · skip
          obtain ⟨j, hyj⟩ : ∃ j : Nat, y = (j : Int) := ⟨y.toNat, by omega⟩
          subst hyj
          have hj : j < t.attrs.length := by have := (colT_range t.attrs c.attr).2; rw [HY.out] at this; omega
          have hyk : ¬ (colT t.attrs c.attr < 0 ∧ c.kind ≠ 1) := by rw [HY.out]; intro h; omega
          have HLO := Lib.hid (show locT s c = (refT t (j : Int) c, (i : Int), (j : Int)) by have := loc_col HV.out HFO.out hi HF.out (by rw [HT.out]; exact hyk); rw [HT.out, HY.out] at this; exact this)
          clear hyk
          go_wp2_with fail
          refine (CNA.out _).mono ?_
          rintro e w5 ⟨rfl, hb⟩
          have hb2 : Below w4.heap.size w4 w5 := hb
          replace z0 := cellB hb2 z0
          replace c0 := cellB hb2 c0
          replace c1 := cellB hb2 c1
          replace c2 := cellB hb2 c2
          replace c3 := cellB hb2 c3
          replace c4 := cellB hb2 c4
          replace c5 := cellB hb2 c5
          replace c6 := cellB hb2 c6
          replace c7 := cellB hb2 c7
          replace x0 := cellB hb2 x0
          replace x1 := cellB hb2 x1
          replace x2 := cellB hb2 x2
          replace HS := Lib.hid (HS.out.below hb2)
          replace HVA := Lib.hid (HVA.out.below hb2)
          replace HVK := Lib.hid (HVK.out.below hb2)
          replace HB := Lib.hid (below_up HB.out hb2 HB.out.size)
          clear hb hb2
          clear CNA
          cases rn with
          | false =>
            have HL := Lib.hid (show (locT s c).1 = 1 from by rw [HLO.out]; show refT t (j : Int) c = 1; rw [ref_3 HK.out]; rw [if_pos (HNA.out)])
            go_wp2_with fail
            refine bodyPost_ret (v := .tuple #[.int .i64 0, .int .i64 0, .int .i64 1]) (by simp [results, Tryz.results33, go_sem]) rfl ?_
            exact chk_err HL.out (by decide) HB.out
          | true =>
            go_wp2_with fail
            have mz0 := fun m => (show (w5.drewN m).cell? _ = _ from z0)
            have mc0 := fun m => (show (w5.drewN m).cell? _ = _ from c0)
            have mc1 := fun m => (show (w5.drewN m).cell? _ = _ from c1)
            have mc2 := fun m => (show (w5.drewN m).cell? _ = _ from c2)
            have mc3 := fun m => (show (w5.drewN m).cell? _ = _ from c3)
            have mc4 := fun m => (show (w5.drewN m).cell? _ = _ from c4)
            have mc5 := fun m => (show (w5.drewN m).cell? _ = _ from c5)
            have mc6 := fun m => (show (w5.drewN m).cell? _ = _ from c6)
            have mc7 := fun m => (show (w5.drewN m).cell? _ = _ from c7)
            have mx0 := fun m => (show (w5.drewN m).cell? _ = _ from x0)
            have mx1 := fun m => (show (w5.drewN m).cell? _ = _ from x1)
            have mx2 := fun m => (show (w5.drewN m).cell? _ = _ from x2)
            go_wp2_with fail
            go_quiet (fail)
            obtain ⟨w6, hW⟩ : ∃ W, w5.drewN nq = W := ⟨_, rfl⟩
            rw [hW]
            have hb2 : Below w5.heap.size w5 w6 := by rw [← hW]; exact below_drewN _ _ _
            replace z0 := cellB hb2 z0
            replace c0 := cellB hb2 c0
            replace c1 := cellB hb2 c1
            replace c2 := cellB hb2 c2
            replace c3 := cellB hb2 c3
            replace c4 := cellB hb2 c4
            replace c5 := cellB hb2 c5
            replace c6 := cellB hb2 c6
            replace c7 := cellB hb2 c7
            replace x0 := cellB hb2 x0
            replace x1 := cellB hb2 x1
            replace x2 := cellB hb2 x2
            replace HS := Lib.hid (HS.out.below hb2)
            replace HVA := Lib.hid (HVA.out.below hb2)
            replace HVK := Lib.hid (HVK.out.below hb2)
            replace HB := Lib.hid (below_up HB.out hb2 HB.out.size)
            clear hW mz0 mc0 mc1 mc2 mc3 mc4 mc5 mc6 mc7 mx0 mx1 mx2
            clear hb2
            obtain ⟨y2, hy2⟩ : ∃ y, colT t.attrs c.name = y := ⟨_, rfl⟩
            have CC2 := Lib.hid (fun W (hW : Attrs W (.slice Aa t.attrs.length na) t.attrs) => hy2 ▸ column_rf t.name t.attrs _ (.slice Ak t.key.length nk) c.name (by have := HMT.out.1; omega) (fun a ha => by have := HMT.out.2.2 a ha; omega) W hW)
            have HY2 := Lib.hid hy2
            clear hy2
            go_wp2_with fail
            go_region_held3 (fun w' => w'.cell? ⟨w.heap.size, 0, none⟩ = some (.slice (some ⟨b, o, none⟩) s.length cp) ∧ w'.cell? ⟨w.heap.size + 1, 3, none⟩ = some (str c.name) ∧ w'.cell? ⟨b, o + i * 3, none⟩ = some (str t.name) ∧ w'.cell? ⟨b, o + i * 3 + 1, none⟩ = some (.slice Aa t.attrs.length na) ∧ w'.cell? ⟨b, o + i * 3 + 2, none⟩ = some (.slice Ak t.key.length nk)) (go_keep)
              (first | (go_at_call 24; refine (CC2.out _ (HVA.out.below (below_drewN _ _ 1))).mono ?_; rintro e w7 ⟨rfl, hb⟩; have hb1 := (below_drewN w6.heap.size w6 1).trans hb; have g1 := Lib.hid hb1; have pz0 := cellB hb1 z0; have pc0 := cellB hb1 c0; have pc1 := cellB hb1 c1; have pc2 := cellB hb1 c2; have pc3 := cellB hb1 c3; have pc4 := cellB hb1 c4; have pc5 := cellB hb1 c5; have pc6 := cellB hb1 c6; have pc7 := cellB hb1 c7; have px0 := cellB hb1 x0; have px1 := cellB hb1 x1; have px2 := cellB hb1 x2; clear hb hb1))
            replace z0 := pz0
            replace c0 := pc0
            replace c1 := pc1
            replace c2 := pc2
            replace c3 := pc3
            replace c4 := pc4
            replace c5 := pc5
            replace c6 := pc6
            replace c7 := pc7
            replace x0 := px0
            replace x1 := px1
            replace x2 := px2
            replace HS := Lib.hid (HS.out.below g1.out)
            replace HVA := Lib.hid (HVA.out.below g1.out)
            replace HVK := Lib.hid (HVK.out.below g1.out)
            replace HB := Lib.hid (below_up HB.out g1.out HB.out.size)
            clear g1 pz0 pc0 pc1 pc2 pc3 pc4 pc5 pc6 pc7 px0 px1 px2
            clear CC2
            have HNN := Lib.hid (show ¬ (nameB c.name = false) from fun h => by rw [HNA.out] at h; cases h)
            by_cases h9 : 0 ≤ y2
            · skip
              have HL := Lib.hid (show (locT s c).1 = 9 from by rw [HLO.out]; show refT t (j : Int) c = 9; rw [ref_3 HK.out]; rw [if_neg HNN.out, if_pos (by rw [HY2.out]; exact h9)])
              go_wp2_with fail
              refine bodyPost_ret (v := .tuple #[.int .i64 0, .int .i64 0, .int .i64 9]) (by simp [results, Tryz.results33, go_sem]) rfl ?_
              exact chk_err HL.out (by decide) HB.out
            · skip
              have HL := Lib.hid (show locT s c = (0, (i : Int), (j : Int)) by rw [HLO.out, show refT t (j : Int) c = 0 by rw [ref_3 HK.out]; rw [if_neg HNN.out, if_neg (by rw [HY2.out]; exact h9)]])
              go_wp2_with fail
              refine bodyPost_ret (v := .tuple #[.int .i64 (i : Int), .int .i64 (j : Int), .int .i64 0]) (by simp [results, Tryz.results33, go_sem]) rfl ?_
              exact chk_ok HL.out HB.out
end Go.Proofs.YteokcgfbhaeklaaGreatDoor

/- The reference's check, at a change of kind 4. -/
namespace Go.Proofs.YteokcgfbhaeklaaGreatDoor
open Go.RowKit

set_option maxRecDepth 100000 in
set_option maxHeartbeats 8000000 in
theorem check4_rf (s : List TabT) (v : Value) (c : ChgT) (hk : c.kind = 4) (hm : Mid s) (hlen : Lens s) (w : World) (h : Tabs w v s) :
    Calls Tryz.prog 33 #[.agg #[v], Cv c] w (ChkPost w s c) := by
  have HK := Lib.hid hk
  have e1 : (c.kind == 1) = false := by rw [hk]; rfl
  have e2 : (c.kind == 2) = false := by rw [hk]; rfl
  have e3 : (c.kind == 3) = false := by rw [hk]; rfl
  have e4 : (c.kind == 4) = true := by rw [hk]; rfl
  have n1 : (c.kind != 1) = true := by rw [hk]; rfl
  obtain ⟨A, cp, rfl, _⟩ := h.form
  have HS := Lib.hid h
  have HM := Lib.hid hm
  have HLN := Lib.hid hlen
  have hsl : s.length ≤ 24 := hm.1
  obtain ⟨rv, hrv⟩ : ∃ r, validB s = r := ⟨_, rfl⟩
  have CV := Lib.hid (fun W (hW : Tabs W (.slice A s.length cp) s) => hrv ▸ valid_rf s _ hm hlen W hW)
  have HV := Lib.hid hrv
  obtain ⟨rf, hrf⟩ : ∃ r, formedB c = r := ⟨_, rfl⟩
  have CFO := Lib.hid (fun W => hrf ▸ formed_rf c W)
  have HFO := Lib.hid hrf
  obtain ⟨f, hf⟩ : ∃ f, findT s c.table = f := ⟨_, rfl⟩
  have CFI := Lib.hid (fun W (hW : Tabs W (.slice A s.length cp) s) => hf ▸ find_rf s _ c.table (by omega) W hW)
  have HF := Lib.hid hf
  clear hf
  obtain ⟨rk, hrk⟩ : ∃ r, decide (1 ≤ c.to ∧ c.to ≤ 4) = r := ⟨_, rfl⟩
  have CKI := Lib.hid (fun W => kind_is c.to rk hrk W)
  have HKI := Lib.hid hrk
  obtain ⟨rt, hrt⟩ : ∃ r, fitB c.dft c.to = r := ⟨_, rfl⟩
  have CTO := Lib.hid (fun W => hrt ▸ fit_ref c.dft c.to W)
  have HTO := Lib.hid hrt
  clear hrk hrt
  clear hk h hm hlen hrv hrf
  go_enter Tryz.func33, Tryz.ntmps33
  go_wp2_with fail
  refine (CV.out _ (HS.out.below ((below_box w _).alloc (by simp) _))).mono ?_
  rintro e w1 ⟨rfl, hb⟩
  have hb2 : Below w.heap.size w w1 := below_up ((below_box w _).alloc (by simp) _) hb (by simp; omega)
  replace HS := Lib.hid (HS.out.below hb2)
  have HB := Lib.hid hb2
  have z0 : w1.cell? ⟨w.heap.size, 0, none⟩ = some (.slice A s.length cp) := cellB hb (by simp [go_sem])
  have c0 : w1.cell? ⟨w.heap.size + 1, 0, none⟩ = some (.int .i64 c.kind) := cellB hb (by simp [go_sem])
  have c1 : w1.cell? ⟨w.heap.size + 1, 1, none⟩ = some (str c.table) := cellB hb (by simp [go_sem])
  have c2 : w1.cell? ⟨w.heap.size + 1, 2, none⟩ = some (str c.attr) := cellB hb (by simp [go_sem])
  have c3 : w1.cell? ⟨w.heap.size + 1, 3, none⟩ = some (str c.name) := cellB hb (by simp [go_sem])
  have c4 : w1.cell? ⟨w.heap.size + 1, 4, none⟩ = some (.int .i64 c.to) := cellB hb (by simp [go_sem])
  have c5 : w1.cell? ⟨w.heap.size + 1, 5, none⟩ = some (.int .i64 c.dft.1) := cellB hb (by simp [go_sem])
  have c6 : w1.cell? ⟨w.heap.size + 1, 6, none⟩ = some (.int .i64 c.dft.2.1) := cellB hb (by simp [go_sem])
  have c7 : w1.cell? ⟨w.heap.size + 1, 7, none⟩ = some (str c.dft.2.2) := cellB hb (by simp [go_sem])
  clear hb hb2
  clear CV
  cases rv with
  | false =>
    have HL := Lib.hid (show (locT s c).1 = 1 from by rw [loc_arg (Or.inl HV.out)])
    go_wp2_with fail
    refine bodyPost_ret (v := .tuple #[.int .i64 0, .int .i64 0, .int .i64 1]) (by simp [results, Tryz.results33, go_sem]) rfl ?_
    exact chk_err HL.out (by decide) HB.out
  | true =>
    go_wp2_with fail
    refine (CFO.out _).mono ?_
    rintro e w2 ⟨rfl, hb⟩
    have hb2 : Below w1.heap.size w1 w2 := hb
    replace z0 := cellB hb2 z0
    replace c0 := cellB hb2 c0
    replace c1 := cellB hb2 c1
    replace c2 := cellB hb2 c2
    replace c3 := cellB hb2 c3
    replace c4 := cellB hb2 c4
    replace c5 := cellB hb2 c5
    replace c6 := cellB hb2 c6
    replace c7 := cellB hb2 c7
    replace HS := Lib.hid (HS.out.below hb2)
    replace HB := Lib.hid (below_up HB.out hb2 HB.out.size)
    clear hb hb2
    clear CFO
    cases rf with
    | false =>
      have HL := Lib.hid (show (locT s c).1 = 1 from by rw [loc_arg (Or.inr HFO.out)])
      go_wp2_with fail
      refine bodyPost_ret (v := .tuple #[.int .i64 0, .int .i64 0, .int .i64 1]) (by simp [results, Tryz.results33, go_sem]) rfl ?_
      exact chk_err HL.out (by decide) HB.out
    | true =>
      go_wp2_with fail
      refine (CFI.out _ HS.out).mono ?_
      rintro e w3 ⟨rfl, hb⟩
      have hb2 : Below w2.heap.size w2 w3 := hb
      replace z0 := cellB hb2 z0
      replace c0 := cellB hb2 c0
      replace c1 := cellB hb2 c1
      replace c2 := cellB hb2 c2
      replace c3 := cellB hb2 c3
      replace c4 := cellB hb2 c4
      replace c5 := cellB hb2 c5
      replace c6 := cellB hb2 c6
      replace c7 := cellB hb2 c7
      replace HS := Lib.hid (HS.out.below hb2)
      replace HB := Lib.hid (below_up HB.out hb2 HB.out.size)
      clear hb hb2
      clear CFI
      by_cases hf0 : f < 0
      · skip
        have HL := Lib.hid (show (locT s c).1 = 11 from by rw [loc_none HV.out HFO.out (by rw [HF.out]; exact hf0)])
        go_wp2_with fail
        refine bodyPost_ret (v := .tuple #[.int .i64 0, .int .i64 0, .int .i64 11]) (by simp [results, Tryz.results33, go_sem]) rfl ?_
        exact chk_err HL.out (by decide) HB.out
      · skip
        obtain ⟨i, hfi⟩ : ∃ i : Nat, f = (i : Int) := ⟨f.toNat, by omega⟩
        subst hfi
        have hi : i < s.length := by
          have := findT_range s c.table
          rw [HF.out] at this
          omega
        obtain ⟨b, o, e, va, vk, hat, hva, hvk⟩ := tab_row HS.out hi
        subst e
        obtain ⟨Aa, na, rfl, _⟩ := hva.form
        obtain ⟨Ak, nk, rfl, _⟩ := hvk.form
        have x0 := hat.c0
        have x1 := hat.c1
        have x2 := hat.c2
        have hmt := HM.out.2 s[i] (List.getElem_mem hi)
        have hvl := valid_len HV.out (List.getElem_mem hi)
        obtain ⟨t, ht⟩ : ∃ t, s[i] = t := ⟨_, rfl⟩
        rw [ht] at x0 x1 x2 hmt hva hvk hvl
        have HT := Lib.hid ht
        have HMT := Lib.hid hmt
        have HVA := Lib.hid hva
        have HVK := Lib.hid hvk
        obtain ⟨y, hy⟩ : ∃ y, colT t.attrs c.attr = y := ⟨_, rfl⟩
        have CC := Lib.hid (fun W (hW : Attrs W (.slice Aa t.attrs.length na) t.attrs) => hy ▸ column_rf t.name t.attrs _ (.slice Ak t.key.length nk) c.attr (by have := hmt.1; omega) (fun a ha => by have := hmt.2.2 a ha; omega) W hW)
        have HY := Lib.hid hy
        have i1 : (0 : Int) ≤ (i : Int) := by omega
        have i2 : (i : Int) < (s.length : Int) := by omega
        clear hat hva hvk hmt hy ht
        go_wp2_with fail
        go_region_held3 (fun w' => w'.cell? ⟨w.heap.size, 0, none⟩ = some (.slice (some ⟨b, o, none⟩) s.length cp) ∧ w'.cell? ⟨w.heap.size + 1, 2, none⟩ = some (str c.attr) ∧ w'.cell? ⟨b, o + i * 3, none⟩ = some (str t.name) ∧ w'.cell? ⟨b, o + i * 3 + 1, none⟩ = some (.slice Aa t.attrs.length na) ∧ w'.cell? ⟨b, o + i * 3 + 2, none⟩ = some (.slice Ak t.key.length nk)) (go_keep)
          (first | (go_at_call 24; refine (CC.out _ (HVA.out.below (below_drewN _ _ 1))).mono ?_; rintro e w4 ⟨rfl, hb⟩; have hb1 := (below_drewN w3.heap.size w3 1).trans hb; have g1 := Lib.hid hb1; have pz0 := cellB hb1 z0; have pc0 := cellB hb1 c0; have pc1 := cellB hb1 c1; have pc2 := cellB hb1 c2; have pc3 := cellB hb1 c3; have pc4 := cellB hb1 c4; have pc5 := cellB hb1 c5; have pc6 := cellB hb1 c6; have pc7 := cellB hb1 c7; have px0 := cellB hb1 x0; have px1 := cellB hb1 x1; have px2 := cellB hb1 x2; clear hb hb1))
        replace z0 := pz0
        replace c0 := pc0
        replace c1 := pc1
        replace c2 := pc2
        replace c3 := pc3
        replace c4 := pc4
        replace c5 := pc5
        replace c6 := pc6
        replace c7 := pc7
        replace x0 := px0
        replace x1 := px1
        replace x2 := px2
        replace HS := Lib.hid (HS.out.below g1.out)
        replace HVA := Lib.hid (HVA.out.below g1.out)
        replace HVK := Lib.hid (HVK.out.below g1.out)
        replace HB := Lib.hid (below_up HB.out g1.out HB.out.size)
        clear g1 pz0 pc0 pc1 pc2 pc3 pc4 pc5 pc6 pc7 px0 px1 px2
        clear CC
        by_cases hy0 : y < 0
        · skip
          have HL := Lib.hid (show (locT s c).1 = 11 from loc_colno HV.out HFO.out hi HF.out (by rw [HT.out, HY.out]; exact hy0) (by rw [HK.out]; decide))
          go_wp2_with fail
          refine bodyPost_ret (v := .tuple #[.int .i64 0, .int .i64 0, .int .i64 11]) (by simp [results, Tryz.results33, go_sem]) rfl ?_
          exact chk_err HL.out (by decide) HB.out
        · skip
          obtain ⟨j, hyj⟩ : ∃ j : Nat, y = (j : Int) := ⟨y.toNat, by omega⟩
          subst hyj
          have hj : j < t.attrs.length := by have := (colT_range t.attrs c.attr).2; rw [HY.out] at this; omega
          have hyk : ¬ (colT t.attrs c.attr < 0 ∧ c.kind ≠ 1) := by rw [HY.out]; intro h; omega
          have HLO := Lib.hid (show locT s c = (refT t (j : Int) c, (i : Int), (j : Int)) by have := loc_col HV.out HFO.out hi HF.out (by rw [HT.out]; exact hyk); rw [HT.out, HY.out] at this; exact this)
          clear hyk
          go_wp2_with fail
          refine (CKI.out _).mono ?_
          rintro e w5 ⟨rfl, hb⟩
          have hb2 : Below w4.heap.size w4 w5 := hb
          replace z0 := cellB hb2 z0
          replace c0 := cellB hb2 c0
          replace c1 := cellB hb2 c1
          replace c2 := cellB hb2 c2
          replace c3 := cellB hb2 c3
          replace c4 := cellB hb2 c4
          replace c5 := cellB hb2 c5
          replace c6 := cellB hb2 c6
          replace c7 := cellB hb2 c7
          replace x0 := cellB hb2 x0
          replace x1 := cellB hb2 x1
          replace x2 := cellB hb2 x2
          replace HS := Lib.hid (HS.out.below hb2)
          replace HVA := Lib.hid (HVA.out.below hb2)
          replace HVK := Lib.hid (HVK.out.below hb2)
          replace HB := Lib.hid (below_up HB.out hb2 HB.out.size)
          clear hb hb2
          clear CKI
          cases rk with
          | false =>
            have HL := Lib.hid (show (locT s c).1 = 1 from by rw [HLO.out]; show refT t (j : Int) c = 1; rw [ref_4 HK.out]; rw [if_pos (Or.inl (typed_no (of_decide_eq_false HKI.out)))])
            go_wp2_with fail
            refine bodyPost_ret (v := .tuple #[.int .i64 0, .int .i64 0, .int .i64 1]) (by simp [results, Tryz.results33, go_sem]) rfl ?_
            exact chk_err HL.out (by decide) HB.out
          | true =>
            go_wp2_with fail
            refine (CTO.out _).mono ?_
            rintro e w6 ⟨rfl, hb⟩
            have hb2 : Below w5.heap.size w5 w6 := hb
            replace z0 := cellB hb2 z0
            replace c0 := cellB hb2 c0
            replace c1 := cellB hb2 c1
            replace c2 := cellB hb2 c2
            replace c3 := cellB hb2 c3
            replace c4 := cellB hb2 c4
            replace c5 := cellB hb2 c5
            replace c6 := cellB hb2 c6
            replace c7 := cellB hb2 c7
            replace x0 := cellB hb2 x0
            replace x1 := cellB hb2 x1
            replace x2 := cellB hb2 x2
            replace HS := Lib.hid (HS.out.below hb2)
            replace HVA := Lib.hid (HVA.out.below hb2)
            replace HVK := Lib.hid (HVK.out.below hb2)
            replace HB := Lib.hid (below_up HB.out hb2 HB.out.size)
            clear hb hb2
            clear CTO
            cases rt with
            | false =>
              have HL := Lib.hid (show (locT s c).1 = 1 from by rw [HLO.out]; show refT t (j : Int) c = 1; rw [ref_4 HK.out]; rw [if_pos (Or.inl ((typed_yes (of_decide_eq_true HKI.out)).trans HTO.out))])
              go_wp2_with fail
              refine bodyPost_ret (v := .tuple #[.int .i64 0, .int .i64 0, .int .i64 1]) (by simp [results, Tryz.results33, go_sem]) rfl ?_
              exact chk_err HL.out (by decide) HB.out
            | true =>
              obtain ⟨ba, oa, e, wv, haa, _⟩ := attr_row HVA.out hj
              subst e
              have j1 : (0 : Int) ≤ (j : Int) := by omega
              have j2 : (j : Int) < (t.attrs.length : Int) := by omega
              obtain ⟨a, ha⟩ : ∃ a, t.attrs[j] = a := ⟨_, rfl⟩
              rw [ha] at haa
              have a1 := haa.c1
              have HAK := Lib.hid (show (t.attrs[((j : Int)).toNat]?).map AttrT.kind = some a.kind by rw [Int.toNat_natCast, List.getElem?_eq_getElem hj, ha]; rfl)
              have HTY := Lib.hid ((typed_yes (of_decide_eq_true HKI.out)).trans HTO.out)
              clear haa ha
              by_cases hka : a.kind = c.to
              · have d1 : (a.kind == c.to) = true := by simpa using hka
                have mz0 := fun m => (show (w6.drewN m).cell? _ = _ from z0)
                have mc0 := fun m => (show (w6.drewN m).cell? _ = _ from c0)
                have mc1 := fun m => (show (w6.drewN m).cell? _ = _ from c1)
                have mc2 := fun m => (show (w6.drewN m).cell? _ = _ from c2)
                have mc3 := fun m => (show (w6.drewN m).cell? _ = _ from c3)
                have mc4 := fun m => (show (w6.drewN m).cell? _ = _ from c4)
                have mc5 := fun m => (show (w6.drewN m).cell? _ = _ from c5)
                have mc6 := fun m => (show (w6.drewN m).cell? _ = _ from c6)
                have mc7 := fun m => (show (w6.drewN m).cell? _ = _ from c7)
                have mx0 := fun m => (show (w6.drewN m).cell? _ = _ from x0)
                have mx1 := fun m => (show (w6.drewN m).cell? _ = _ from x1)
                have mx2 := fun m => (show (w6.drewN m).cell? _ = _ from x2)
                have ma1 := fun m => (show (w6.drewN m).cell? _ = _ from a1)
                go_wp2_with fail
                go_quiet (fail)
                obtain ⟨w7, hW⟩ : ∃ W, w6.drewN nq = W := ⟨_, rfl⟩
                rw [hW]
                have hb2 : Below w6.heap.size w6 w7 := by rw [← hW]; exact below_drewN _ _ _
                replace z0 := cellB hb2 z0
                replace c0 := cellB hb2 c0
                replace c1 := cellB hb2 c1
                replace c2 := cellB hb2 c2
                replace c3 := cellB hb2 c3
                replace c4 := cellB hb2 c4
                replace c5 := cellB hb2 c5
                replace c6 := cellB hb2 c6
                replace c7 := cellB hb2 c7
                replace x0 := cellB hb2 x0
                replace x1 := cellB hb2 x1
                replace x2 := cellB hb2 x2
                replace a1 := cellB hb2 a1
                replace HS := Lib.hid (HS.out.below hb2)
                replace HVA := Lib.hid (HVA.out.below hb2)
                replace HVK := Lib.hid (HVK.out.below hb2)
                replace HB := Lib.hid (below_up HB.out hb2 HB.out.size)
                clear hW mz0 mc0 mc1 mc2 mc3 mc4 mc5 mc6 mc7 mx0 mx1 mx2 ma1
                clear hb2
                have HL := Lib.hid (show (locT s c).1 = 1 from by rw [HLO.out]; show refT t (j : Int) c = 1; rw [ref_4 HK.out]; rw [if_pos (Or.inr (by rw [HAK.out, hka]))])
                go_wp2_with fail
                refine bodyPost_ret (v := .tuple #[.int .i64 0, .int .i64 0, .int .i64 1]) (by simp [results, Tryz.results33, go_sem]) rfl ?_
                exact chk_err HL.out (by decide) HB.out
              · have d1 : (a.kind == c.to) = false := by simpa using hka
                have mz0 := fun m => (show (w6.drewN m).cell? _ = _ from z0)
                have mc0 := fun m => (show (w6.drewN m).cell? _ = _ from c0)
                have mc1 := fun m => (show (w6.drewN m).cell? _ = _ from c1)
                have mc2 := fun m => (show (w6.drewN m).cell? _ = _ from c2)
                have mc3 := fun m => (show (w6.drewN m).cell? _ = _ from c3)
                have mc4 := fun m => (show (w6.drewN m).cell? _ = _ from c4)
                have mc5 := fun m => (show (w6.drewN m).cell? _ = _ from c5)
                have mc6 := fun m => (show (w6.drewN m).cell? _ = _ from c6)
                have mc7 := fun m => (show (w6.drewN m).cell? _ = _ from c7)
                have mx0 := fun m => (show (w6.drewN m).cell? _ = _ from x0)
                have mx1 := fun m => (show (w6.drewN m).cell? _ = _ from x1)
                have mx2 := fun m => (show (w6.drewN m).cell? _ = _ from x2)
                have ma1 := fun m => (show (w6.drewN m).cell? _ = _ from a1)
                go_wp2_with fail
                go_quiet (fail)
                obtain ⟨w7, hW⟩ : ∃ W, w6.drewN nq = W := ⟨_, rfl⟩
                rw [hW]
                have hb2 : Below w6.heap.size w6 w7 := by rw [← hW]; exact below_drewN _ _ _
                replace z0 := cellB hb2 z0
                replace c0 := cellB hb2 c0
                replace c1 := cellB hb2 c1
                replace c2 := cellB hb2 c2
                replace c3 := cellB hb2 c3
                replace c4 := cellB hb2 c4
                replace c5 := cellB hb2 c5
                replace c6 := cellB hb2 c6
                replace c7 := cellB hb2 c7
                replace x0 := cellB hb2 x0
                replace x1 := cellB hb2 x1
                replace x2 := cellB hb2 x2
                replace a1 := cellB hb2 a1
                replace HS := Lib.hid (HS.out.below hb2)
                replace HVA := Lib.hid (HVA.out.below hb2)
                replace HVK := Lib.hid (HVK.out.below hb2)
                replace HB := Lib.hid (below_up HB.out hb2 HB.out.size)
                clear hW mz0 mc0 mc1 mc2 mc3 mc4 mc5 mc6 mc7 mx0 mx1 mx2 ma1
                clear hb2
                have mz0 := fun m => (show (w7.drewN m).cell? _ = _ from z0)
                have mc0 := fun m => (show (w7.drewN m).cell? _ = _ from c0)
                have mc1 := fun m => (show (w7.drewN m).cell? _ = _ from c1)
                have mc2 := fun m => (show (w7.drewN m).cell? _ = _ from c2)
                have mc3 := fun m => (show (w7.drewN m).cell? _ = _ from c3)
                have mc4 := fun m => (show (w7.drewN m).cell? _ = _ from c4)
                have mc5 := fun m => (show (w7.drewN m).cell? _ = _ from c5)
                have mc6 := fun m => (show (w7.drewN m).cell? _ = _ from c6)
                have mc7 := fun m => (show (w7.drewN m).cell? _ = _ from c7)
                have mx0 := fun m => (show (w7.drewN m).cell? _ = _ from x0)
                have mx1 := fun m => (show (w7.drewN m).cell? _ = _ from x1)
                have mx2 := fun m => (show (w7.drewN m).cell? _ = _ from x2)
                have ma1 := fun m => (show (w7.drewN m).cell? _ = _ from a1)
                go_wp2_with fail
                go_quiet (fail)
                obtain ⟨w8, hW⟩ : ∃ W, w7.drewN nq = W := ⟨_, rfl⟩
                rw [hW]
                have hb2 : Below w7.heap.size w7 w8 := by rw [← hW]; exact below_drewN _ _ _
                replace z0 := cellB hb2 z0
                replace c0 := cellB hb2 c0
                replace c1 := cellB hb2 c1
                replace c2 := cellB hb2 c2
                replace c3 := cellB hb2 c3
                replace c4 := cellB hb2 c4
                replace c5 := cellB hb2 c5
                replace c6 := cellB hb2 c6
                replace c7 := cellB hb2 c7
                replace x0 := cellB hb2 x0
                replace x1 := cellB hb2 x1
                replace x2 := cellB hb2 x2
                replace a1 := cellB hb2 a1
                replace HS := Lib.hid (HS.out.below hb2)
                replace HVA := Lib.hid (HVA.out.below hb2)
                replace HVK := Lib.hid (HVK.out.below hb2)
                replace HB := Lib.hid (below_up HB.out hb2 HB.out.size)
                clear hW mz0 mc0 mc1 mc2 mc3 mc4 mc5 mc6 mc7 mx0 mx1 mx2 ma1
                clear hb2
                have HL := Lib.hid (show locT s c = (0, (i : Int), (j : Int)) by rw [HLO.out, show refT t (j : Int) c = 0 by rw [ref_4 HK.out]; rw [if_neg (fun h => h.elim (fun h => by rw [HTY.out] at h; cases h) (fun h => by rw [HAK.out] at h; exact hka (Option.some.inj h)))]])
                go_wp2_with fail
                refine bodyPost_ret (v := .tuple #[.int .i64 (i : Int), .int .i64 (j : Int), .int .i64 0]) (by simp [results, Tryz.results33, go_sem]) rfl ?_
                exact chk_ok HL.out HB.out
end Go.Proofs.YteokcgfbhaeklaaGreatDoor

/- The reference's check, for every change; a row without one of its elements. -/
namespace Go.Proofs.YteokcgfbhaeklaaGreatDoor
open Go.RowKit

theorem check_rf (s : List TabT) (v : Value) (c : ChgT) (hm : Mid s) (hlen : Lens s) (hcn : c.name.length ≤ maxLen) (w : World) (h : Tabs w v s) :
    Calls Tryz.prog 33 #[.agg #[v], Cv c] w (ChkPost w s c) := by
  have kc : c.kind = 1 ∨ c.kind = 2 ∨ c.kind = 3 ∨ c.kind = 4 ∨ (c.kind ≠ 1 ∧ c.kind ≠ 2 ∧ c.kind ≠ 3 ∧ c.kind ≠ 4) := by omega
  rcases kc with k | k | k | k | k
  · exact check1_rf s v c k hm hlen hcn w h
  · exact check2_rf s v c k hm hlen w h
  · exact check3_rf s v c k hm hlen hcn w h
  · exact check4_rf s v c k hm hlen w h
  · exact check0_rf s v c k hm hlen w h
set_option maxRecDepth 100000 in
/-- A row without its i-th element: what append of its two parts is told, and what it leaves. -/
theorem eraseA {α : Type} {f : α → List Value} (hf : ∀ x, (f x).length = 6) (ps : List α) (base g cap i j0 : Nat) (hj0 : j0 = i + 1) (hi : i < ps.length) (w : World) (h : w.ownsRow base 53 6 (.slice (some ⟨g, 0, none⟩) ps.length cap) ps.length (ps.flatMap f))
    (h1 : ∀ p ∈ ps, ∀ u ∈ f p, u.oneCell' = true) : ∃ (A : Addr) (news : List Value), (if cap = j0 then some (⟨g, 0, none⟩ : Addr) else some ⟨g, j0 * 6, none⟩) = some A ∧ news.length = (ps.length - j0) * 6 ∧ (∀ t u, news[t]? = some u → w.cell? (A.add t) = some u) ∧ (∀ u ∈ news, u.oneCell' = true) ∧
      (∀ t, t < news.length → (w.cell? ⟨g, 0 + i * 6 + t, none⟩).isSome = true ∧ w.frozen? ⟨g, 0 + i * 6 + t, none⟩ = false) ∧ base ≤ g ∧ ps.length ≤ cap ∧ cap ≤ maxLen ∧
      (w.setCells g (0 + i * 6) news).ownsRow base 53 6 (.slice (some ⟨g, 0, none⟩) (ps.length - 1) cap) (ps.length - 1) ((ps.eraseIdx i).flatMap f) ∧ w.grownBy (w.setCells g (0 + i * 6) news) (some g) := by
  obtain ⟨cur, hbase, hcur, hle, hcm, hcs, htk⟩ : ∃ cur, base ≤ g ∧ w.heap[g]? = some (.cells cur 53 (0, 0)) ∧ ps.length ≤ cap ∧ cap ≤ maxLen ∧ cur.size = cap * 6 ∧ cur.toList.take (ps.length * 6) = ps.flatMap f := by
    rcases h.2 with ⟨e, _⟩ | ⟨g', cap', cur, e, r⟩
    · cases e
    · cases e; exact ⟨cur, r⟩
  obtain ⟨n, hn⟩ : ∃ n, ps.length = n := ⟨_, rfl⟩
  have hcell : ∀ j, j < n * 6 → w.cell? ⟨g, j, none⟩ = (ps.flatMap f)[j]? := fun j hj => h.cellAt j (by rw [hn]; exact hj)
  have hall : ∀ j, j < n * 6 → (w.cell? ⟨g, j, none⟩).isSome = true := fun j hj => by
    rw [hcell j hj, List.getElem?_eq_getElem (by rw [flat_len hf, hn]; exact hj)]; rfl
  have hfz : ∀ j, w.frozen? ⟨g, j, none⟩ = false := fun j => h.frozenAt j
  obtain ⟨news, hnews⟩ : ∃ news, news = (ps.drop j0).flatMap f := ⟨_, rfl⟩
  have hlen : news.length = (n - j0) * 6 := by rw [hnews, flat_len hf, List.length_drop, hn]
  have hget : ∀ t, t < (n - j0) * 6 → news[t]? = (ps.flatMap f)[j0 * 6 + t]? := fun t ht => by
    rw [hnews]
    have e : ps.flatMap f = (ps.take j0).flatMap f ++ (ps.drop j0).flatMap f := by rw [← List.flatMap_append, List.take_append_drop]
    rw [e, List.getElem?_append_right (by rw [flat_len hf, List.length_take]; omega), flat_len hf, List.length_take]
    congr 1
    omega
  obtain ⟨A, hA, hsrc⟩ : ∃ A : Addr, (if cap = j0 then some (⟨g, 0, none⟩ : Addr) else some ⟨g, j0 * 6, none⟩) = some A ∧ Hid (∀ t u, news[t]? = some u → w.cell? (A.add t) = some u) := by
    by_cases hc : cap = j0
    · refine ⟨⟨g, 0, none⟩, by simp [hc], Lib.hid (fun t u hu => ?_)⟩
      have h0 : news.length = 0 := by rw [hlen]; omega
      rw [List.length_eq_zero_iff.1 h0] at hu
      simp at hu
    · refine ⟨⟨g, j0 * 6, none⟩, by simp [hc], Lib.hid (fun t u hu => ?_)⟩
      have ht : t < (n - j0) * 6 := by
        have := (List.getElem?_eq_some_iff.1 hu).1
        rwa [hlen] at this
      rw [hget t ht] at hu
      rw [add_none]
      exact (hcell _ (by omega)).trans hu
  have s2 : Hid (∀ u ∈ news, u.oneCell' = true) := Lib.hid (fun u hu => by
    rw [hnews] at hu
    obtain ⟨x, hx, hu⟩ := List.mem_flatMap.1 hu
    exact h1 x (List.mem_of_mem_drop hx) u hu)
  have s3 : Hid (∀ t, t < news.length → (w.cell? ⟨g, 0 + i * 6 + t, none⟩).isSome = true ∧ w.frozen? ⟨g, 0 + i * 6 + t, none⟩ = false) := Lib.hid (fun t ht => by
    rw [hlen] at ht
    exact ⟨hall _ (by omega), hfz _⟩)
  obtain ⟨W1, hW1⟩ : ∃ W1, W1 = w.setCells g (0 + i * 6) news := ⟨_, rfl⟩
  have k1 : ∀ j, j < n * 6 → (W1.cell? ⟨g, j, none⟩).isSome = true := fun j hj => by
    rw [hW1]
    by_cases q : 0 + i * 6 ≤ j ∧ j < 0 + i * 6 + news.length
    · have := World.cell?_setCells_in g news (0 + i * 6) w (fun t ht => (s3.out t ht).1) (j - (0 + i * 6)) (by omega)
      rw [show 0 + i * 6 + (j - (0 + i * 6)) = j by omega] at this
      rw [this]; rfl
    · rw [World.cell?_setCells_out g news (0 + i * 6) w ⟨g, j, none⟩ (fun _ _ => by show j < _ ∨ _ ≤ j; omega)]
      exact hall j hj
  have k2 : ∀ j, W1.frozen? ⟨g, j, none⟩ = false := fun j => by rw [hW1, World.frozen?_setCells]; exact hfz j
  have k3 : ∀ j, j < (n - 1) * 6 → W1.cell? ⟨g, j, none⟩ = ((ps.eraseIdx i).flatMap f)[j]? := fun j hj => by
    have e : (ps.eraseIdx i).flatMap f = (ps.take i).flatMap f ++ news := by rw [hnews, List.eraseIdx_eq_take_drop_succ, List.flatMap_append, hj0]
    have et : ((ps.take i).flatMap f).length = i * 6 := by rw [flat_len hf, List.length_take, Nat.min_eq_left (by omega)]
    rw [hW1, e]
    by_cases q : j < i * 6
    · rw [World.cell?_setCells_out g news (0 + i * 6) w ⟨g, j, none⟩ (fun _ _ => by show j < _ ∨ _ ≤ j; omega), List.getElem?_append_left (by omega)]
      refine (hcell j (by omega)).trans ?_
      have e2 : ps.flatMap f = (ps.take i).flatMap f ++ (ps.drop i).flatMap f := by rw [← List.flatMap_append, List.take_append_drop]
      rw [e2, List.getElem?_append_left (by omega)]
    · have := World.cell?_setCells_in g news (0 + i * 6) w (fun t ht => (s3.out t ht).1) (j - i * 6) (by omega)
      rw [show 0 + i * 6 + (j - i * 6) = j by omega] at this
      rw [this, List.getElem?_append_right (by omega), et, List.getElem?_eq_getElem]
  obtain ⟨cur1, hc1, hc2⟩ := own_setCells (base := base) news (0 + i * 6) w cur hcur
  rw [← hW1] at hc1
  refine ⟨A, news, hA, by rw [hlen, hn], hsrc.out, s2.out, s3.out, hbase, hle, hcm, ?_, ?_⟩
  · rw [hn, ← hW1]
    exact own_of_cells hc1 (by rw [hc2, hcs]) hbase (by omega) hcm (by rw [flat_len hf, List.length_eraseIdx]; rw [if_pos hi, hn]) (fun j hj => k3 j hj)
  · exact setCells_tch g _ _ _
set_option maxRecDepth 100000 in
/-- A row without its i-th element: what append of its two parts is told, and what it leaves. -/
theorem eraseV {α : Type} {f : α → List Value} (hf : ∀ x, (f x).length = 3) (ps : List α) (base g cap i j0 : Nat) (hj0 : j0 = i + 1) (hi : i < ps.length) (w : World) (h : w.ownsRow base 26 3 (.slice (some ⟨g, 0, none⟩) ps.length cap) ps.length (ps.flatMap f))
    (h1 : ∀ p ∈ ps, ∀ u ∈ f p, u.oneCell' = true) : ∃ (A : Addr) (news : List Value), (if cap = j0 then some (⟨g, 0, none⟩ : Addr) else some ⟨g, j0 * 3, none⟩) = some A ∧ news.length = (ps.length - j0) * 3 ∧ (∀ t u, news[t]? = some u → w.cell? (A.add t) = some u) ∧ (∀ u ∈ news, u.oneCell' = true) ∧
      (∀ t, t < news.length → (w.cell? ⟨g, 0 + i * 3 + t, none⟩).isSome = true ∧ w.frozen? ⟨g, 0 + i * 3 + t, none⟩ = false) ∧ base ≤ g ∧ ps.length ≤ cap ∧ cap ≤ maxLen ∧
      (w.setCells g (0 + i * 3) news).ownsRow base 26 3 (.slice (some ⟨g, 0, none⟩) (ps.length - 1) cap) (ps.length - 1) ((ps.eraseIdx i).flatMap f) ∧ w.grownBy (w.setCells g (0 + i * 3) news) (some g) := by
  obtain ⟨cur, hbase, hcur, hle, hcm, hcs, htk⟩ : ∃ cur, base ≤ g ∧ w.heap[g]? = some (.cells cur 26 (0, 0)) ∧ ps.length ≤ cap ∧ cap ≤ maxLen ∧ cur.size = cap * 3 ∧ cur.toList.take (ps.length * 3) = ps.flatMap f := by
    rcases h.2 with ⟨e, _⟩ | ⟨g', cap', cur, e, r⟩
    · cases e
    · cases e; exact ⟨cur, r⟩
  obtain ⟨n, hn⟩ : ∃ n, ps.length = n := ⟨_, rfl⟩
  have hcell : ∀ j, j < n * 3 → w.cell? ⟨g, j, none⟩ = (ps.flatMap f)[j]? := fun j hj => h.cellAt j (by rw [hn]; exact hj)
  have hall : ∀ j, j < n * 3 → (w.cell? ⟨g, j, none⟩).isSome = true := fun j hj => by
    rw [hcell j hj, List.getElem?_eq_getElem (by rw [flat_len hf, hn]; exact hj)]; rfl
  have hfz : ∀ j, w.frozen? ⟨g, j, none⟩ = false := fun j => h.frozenAt j
  obtain ⟨news, hnews⟩ : ∃ news, news = (ps.drop j0).flatMap f := ⟨_, rfl⟩
  have hlen : news.length = (n - j0) * 3 := by rw [hnews, flat_len hf, List.length_drop, hn]
  have hget : ∀ t, t < (n - j0) * 3 → news[t]? = (ps.flatMap f)[j0 * 3 + t]? := fun t ht => by
    rw [hnews]
    have e : ps.flatMap f = (ps.take j0).flatMap f ++ (ps.drop j0).flatMap f := by rw [← List.flatMap_append, List.take_append_drop]
    rw [e, List.getElem?_append_right (by rw [flat_len hf, List.length_take]; omega), flat_len hf, List.length_take]
    congr 1
    omega
  obtain ⟨A, hA, hsrc⟩ : ∃ A : Addr, (if cap = j0 then some (⟨g, 0, none⟩ : Addr) else some ⟨g, j0 * 3, none⟩) = some A ∧ Hid (∀ t u, news[t]? = some u → w.cell? (A.add t) = some u) := by
    by_cases hc : cap = j0
    · refine ⟨⟨g, 0, none⟩, by simp [hc], Lib.hid (fun t u hu => ?_)⟩
      have h0 : news.length = 0 := by rw [hlen]; omega
      rw [List.length_eq_zero_iff.1 h0] at hu
      simp at hu
    · refine ⟨⟨g, j0 * 3, none⟩, by simp [hc], Lib.hid (fun t u hu => ?_)⟩
      have ht : t < (n - j0) * 3 := by
        have := (List.getElem?_eq_some_iff.1 hu).1
        rwa [hlen] at this
      rw [hget t ht] at hu
      rw [add_none]
      exact (hcell _ (by omega)).trans hu
  have s2 : Hid (∀ u ∈ news, u.oneCell' = true) := Lib.hid (fun u hu => by
    rw [hnews] at hu
    obtain ⟨x, hx, hu⟩ := List.mem_flatMap.1 hu
    exact h1 x (List.mem_of_mem_drop hx) u hu)
  have s3 : Hid (∀ t, t < news.length → (w.cell? ⟨g, 0 + i * 3 + t, none⟩).isSome = true ∧ w.frozen? ⟨g, 0 + i * 3 + t, none⟩ = false) := Lib.hid (fun t ht => by
    rw [hlen] at ht
    exact ⟨hall _ (by omega), hfz _⟩)
  obtain ⟨W1, hW1⟩ : ∃ W1, W1 = w.setCells g (0 + i * 3) news := ⟨_, rfl⟩
  have k1 : ∀ j, j < n * 3 → (W1.cell? ⟨g, j, none⟩).isSome = true := fun j hj => by
    rw [hW1]
    by_cases q : 0 + i * 3 ≤ j ∧ j < 0 + i * 3 + news.length
    · have := World.cell?_setCells_in g news (0 + i * 3) w (fun t ht => (s3.out t ht).1) (j - (0 + i * 3)) (by omega)
      rw [show 0 + i * 3 + (j - (0 + i * 3)) = j by omega] at this
      rw [this]; rfl
    · rw [World.cell?_setCells_out g news (0 + i * 3) w ⟨g, j, none⟩ (fun _ _ => by show j < _ ∨ _ ≤ j; omega)]
      exact hall j hj
  have k2 : ∀ j, W1.frozen? ⟨g, j, none⟩ = false := fun j => by rw [hW1, World.frozen?_setCells]; exact hfz j
  have k3 : ∀ j, j < (n - 1) * 3 → W1.cell? ⟨g, j, none⟩ = ((ps.eraseIdx i).flatMap f)[j]? := fun j hj => by
    have e : (ps.eraseIdx i).flatMap f = (ps.take i).flatMap f ++ news := by rw [hnews, List.eraseIdx_eq_take_drop_succ, List.flatMap_append, hj0]
    have et : ((ps.take i).flatMap f).length = i * 3 := by rw [flat_len hf, List.length_take, Nat.min_eq_left (by omega)]
    rw [hW1, e]
    by_cases q : j < i * 3
    · rw [World.cell?_setCells_out g news (0 + i * 3) w ⟨g, j, none⟩ (fun _ _ => by show j < _ ∨ _ ≤ j; omega), List.getElem?_append_left (by omega)]
      refine (hcell j (by omega)).trans ?_
      have e2 : ps.flatMap f = (ps.take i).flatMap f ++ (ps.drop i).flatMap f := by rw [← List.flatMap_append, List.take_append_drop]
      rw [e2, List.getElem?_append_left (by omega)]
    · have := World.cell?_setCells_in g news (0 + i * 3) w (fun t ht => (s3.out t ht).1) (j - i * 3) (by omega)
      rw [show 0 + i * 3 + (j - i * 3) = j by omega] at this
      rw [this, List.getElem?_append_right (by omega), et, List.getElem?_eq_getElem]
  obtain ⟨cur1, hc1, hc2⟩ := own_setCells (base := base) news (0 + i * 3) w cur hcur
  rw [← hW1] at hc1
  refine ⟨A, news, hA, by rw [hlen, hn], hsrc.out, s2.out, s3.out, hbase, hle, hcm, ?_, ?_⟩
  · rw [hn, ← hW1]
    exact own_of_cells hc1 (by rw [hc2, hcs]) hbase (by omega) hcm (by rw [flat_len hf, List.length_eraseIdx]; rw [if_pos hi, hn]) (fun j hj => k3 j hj)
  · exact setCells_tch g _ _ _
end Go.Proofs.YteokcgfbhaeklaaGreatDoor

