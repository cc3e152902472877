/- The reference's Convert. -/
import Derived.Test.YteokcgfbhaeklaaGreatDoorPRefK
import Derived.Test.YteokcgfbhaeklaaGreatDoorPRow
import Derived.Test.YteokcgfbhaeklaaGreatDoorPRefB
namespace Go.Proofs.YteokcgfbhaeklaaGreatDoor
open Go.RowKit

set_option maxRecDepth 100000 in
set_option maxHeartbeats 16000000 in
theorem convert_rf (s : List TabT) (v rv : Value) (c : ChgT) (n : Int) (row : List T3) (hm : Mid s) (hlen : Lens s) (hcn : c.name.length ≤ maxLen) (hrl : row.length ≤ 4000) (w : World) (h : Tabs w v s) (hr : Vals w rv row) :
    Calls Tryz.prog 14 #[.agg #[v], Cv c, .int .i64 n, rv] w (RowPost w.heap.size w (convT s c n row)) := by
  obtain ⟨A, cp, rfl, _⟩ := h.form
  obtain ⟨Ar, cr, rfl, _⟩ := hr.form
  have HS := Lib.hid h
  have HR := Lib.hid hr
  have HM := Lib.hid hm
  have hsl : s.length ≤ 24 := hm.1
  have CK := Lib.hid (fun W (hW : Tabs W (.slice A s.length cp) s) => check_rf s _ c hm hlen hcn W hW)
  clear h hr hm hlen hcn
  go_enter Tryz.func14, Tryz.ntmps14
  go_wp2_with fail
  refine (CK.out _ (HS.out.below ((below_box w _).alloc (by simp) _))).mono ?_
  rintro e w1 ⟨⟨ci, cj, rfl, hij⟩, hb⟩
  have hb2 : Below w.heap.size w w1 := below_up ((below_box w _).alloc (by simp) _) hb (by simp; omega)
  replace HS := Lib.hid (HS.out.below hb2)
  replace HR := Lib.hid (HR.out.below hb2)
  have HB := Lib.hid hb2
  have z0 : w1.cell? ⟨w.heap.size, 0, none⟩ = some (.slice A s.length cp) := cellB hb (by simp [go_sem])
  have c0 : w1.cell? ⟨w.heap.size + 1, 0, none⟩ = some (.int .i64 c.kind) := cellB hb (by simp [go_sem])
  have c1 : w1.cell? ⟨w.heap.size + 1, 1, none⟩ = some (str c.table) := cellB hb (by simp [go_sem])
  have c2 : w1.cell? ⟨w.heap.size + 1, 2, none⟩ = some (str c.attr) := cellB hb (by simp [go_sem])
  have c3 : w1.cell? ⟨w.heap.size + 1, 3, none⟩ = some (str c.name) := cellB hb (by simp [go_sem])
  have c4 : w1.cell? ⟨w.heap.size + 1, 4, none⟩ = some (.int .i64 c.to) := cellB hb (by simp [go_sem])
  have c5 : w1.cell? ⟨w.heap.size + 1, 5, none⟩ = some (.int .i64 c.dft.1) := cellB hb (by simp [go_sem])
  have c6 : w1.cell? ⟨w.heap.size + 1, 6, none⟩ = some (.int .i64 c.dft.2.1) := cellB hb (by simp [go_sem])
  have c7 : w1.cell? ⟨w.heap.size + 1, 7, none⟩ = some (str c.dft.2.2) := cellB hb (by simp [go_sem])
  clear hb hb2
  clear CK
  obtain ⟨er, her⟩ : ∃ er, (locT s c).1 = er := ⟨_, rfl⟩
  rw [her] at hij
  rw [her]
  by_cases he0 : er = 0
  · subst he0
    obtain ⟨k, t, hloc⟩ := loc_ok her
    obtain ⟨e1_, e2_⟩ := hij rfl
    rw [hloc.loc] at e1_ e2_
    simp only at e1_ e2_
    subst e1_ e2_
    have HLO := Lib.hid hloc
    have HER := Lib.hid her
    obtain ⟨y, hy⟩ : ∃ y, colT t.attrs c.attr = y := ⟨_, rfl⟩
    have HL := Lib.hid (show locT s c = (0, (k : Int), y) from hy ▸ hloc.loc)
    have HY := Lib.hid hy
    rw [hy]
    clear hij her hloc hy
    by_cases hn0 : n < 0
    · skip
      have HF := Lib.hid (show convT s c n row = ([], 1) from conv_out HER.out n row (Or.inl hn0))
      go_wp2_with fail
      go_ret2
      exact ⟨.slice none 0 0, by rw [HF.out]; rfl, by rw [HF.out]; exact Slc.nil _, HB.out⟩
    · by_cases hn1 : (s.length : Int) ≤ n
      · skip
        have HF := Lib.hid (show convT s c n row = ([], 1) from conv_out HER.out n row (Or.inr hn1))
        go_wp2_with fail
        go_ret2
        exact ⟨.slice none 0 0, by rw [HF.out]; rfl, by rw [HF.out]; exact Slc.nil _, HB.out⟩
      · obtain ⟨m, hmn⟩ : ∃ m : Nat, n = (m : Int) := ⟨n.toNat, by omega⟩
        subst hmn
        have hml : m < s.length := by omega
        obtain ⟨b, o, e, va, vk, hat, hva, hvk⟩ := tab_row HS.out hml
        subst e
        obtain ⟨Aa, na, rfl, _⟩ := hva.form
        obtain ⟨Ak, nk, rfl, _⟩ := hvk.form
        have x0 := hat.c0
        have x1 := hat.c1
        have x2 := hat.c2
        have hmt := HM.out.2 s[m] (List.getElem_mem hml)
        obtain ⟨r, hr⟩ : ∃ r, fitsB s[m].attrs row = r := ⟨_, rfl⟩
        have CF := Lib.hid (fun W (hW : Below w1.heap.size w1 W) => hr ▸ fits_rf s[m].name s[m].attrs row _ (.slice Ak s[m].key.length nk) _ (by have := hmt.1; omega) hrl W (hva.below hW) (HR.out.below hW))
        have HFI := Lib.hid hr
        obtain ⟨tm, htm⟩ : ∃ t, s[m] = t := ⟨_, rfl⟩
        rw [htm] at x0 x1 x2 CF
        have j1 : (0 : Int) ≤ (m : Int) := by omega
        have j2 : (m : Int) < (s.length : Int) := by omega
        clear hat hva hvk hmt hr htm hn0 hn1
        go_wp2_with fail
        refine (CF.out _ (Below.refl _ _)).mono ?_
        rintro e w2 ⟨rfl, hb⟩
        have hb2 : Below w1.heap.size w1 w2 := hb
        replace z0 := cellB hb2 z0
        replace c0 := cellB hb2 c0
        replace c1 := cellB hb2 c1
        replace c2 := cellB hb2 c2
        replace c3 := cellB hb2 c3
        replace c4 := cellB hb2 c4
        replace c5 := cellB hb2 c5
        replace c6 := cellB hb2 c6
        replace c7 := cellB hb2 c7
        replace x0 := cellB hb2 x0
        replace x1 := cellB hb2 x1
        replace x2 := cellB hb2 x2
        replace HS := Lib.hid (HS.out.below hb2)
        replace HR := Lib.hid (HR.out.below hb2)
        replace HB := Lib.hid (below_up HB.out hb2 HB.out.size)
        clear hb hb2
        clear CF
        cases r with
        | false =>
          have HF := Lib.hid (show convT s c (m : Int) row = ([], 1) from conv_fit HER.out m hml row HFI.out)
          go_wp2_with fail
          go_ret2
          exact ⟨.slice none 0 0, by rw [HF.out]; rfl, by rw [HF.out]; exact Slc.nil _, HB.out⟩
        | true =>
          have HCY := Lib.hid (conv_yes HL.out m hml row HFI.out)
          have hsr := src_vals (HR.out.below (below_box w2 (.cells #[] 26)))
          have HSR := Lib.hid hsr.2
          clear hsr
          have HBG := Lib.hid (fun W1 (g : (w2.alloc (.cells #[] 26)).grownBy W1 (some w2.heap.size)) => (show Below w2.heap.size w2 W1 from (below_box w2 _).grown g (by simp) (by intro k hk; cases hk; exact Nat.le_refl _)))
          by_cases hmk : m = k
          · subst hmk
            have d0 : ((m : Int) != (m : Int)) = false := by simp
            have HRT := Lib.hid (show convT s c (m : Int) row = rowT row y.toNat c by rw [HCY.out, if_neg (by omega)])
            rcases formed_kind HLO.out.formed with hk | hk | hk | hk
            · skip
              have e1 : (c.kind == 1) = true := by rw [hk]; rfl
              have e2 : (c.kind == 2) = false := by rw [hk]; rfl
              have e4 : (c.kind == 4) = false := by rw [hk]; rfl
              rw [rowT_1 hk] at HRT
              clear hk
              go_wp2_with (first | (at_builtin; refine wpList_app elemVal rfl (.tmp 45) (.tmp 46) rfl (base := w2.heap.size) (by rfl) (World.ownsRow_made w2 #[] 0 (Nat.le_refl _) (Nat.zero_le _) rfl) (by rfl) HSR.out (by omega) (by simp) ?_; intro v1 W1 hown1 hg1 hat1; have hB1 := HBG.out W1 hg1; have b1 := Lib.hid hB1; have o1 : Hid (OwnV W1 w2.heap.size v1 row) := Lib.hid (by unfold OwnV; simpa using hown1); have yc0 := cellB hB1 c0; have yc1 := cellB hB1 c1; have yc2 := cellB hB1 c2; have yc3 := cellB hB1 c3; have yc4 := cellB hB1 c4; have yc5 := cellB hB1 c5; have yc6 := cellB hB1 c6; have yc7 := cellB hB1 c7; clear hown1 hg1 hat1 hB1) | (at_builtin; refine wpList_app elemVal rfl (.tmp 56) (.tmp 59) rfl (base := w2.heap.size) (by rfl) (World.ownsRow.alloc o1.out _) (by rfl) (src_val W1 26 c.dft W1.heap.size rfl) (by omega) (by have := b1.out.size; simp; omega) ?_; intro v2 W2 hown2 hg2 hat2))
              have HB1 := Lib.hid (HB.out.trans (b1.out.mono HB.out.size))
              have o2 := Lib.hid (show OwnV W2 w2.heap.size v2 (row ++ [c.dft]) by unfold OwnV; rw [List.length_append, List.flatMap_append]; simpa using hown2)
              have HB2 := Lib.hid (show Below w.heap.size w W2 from (HB1.out.alloc HB1.out.size _).grown hg2 (by have := HB1.out.size; simp; omega) (fun k hk => by have := (o1.out.lt k hk).1; have := HB.out.size; omega))
              clear hown2 hg2 hat2
              go_ret2
              exact ⟨v2, by rw [HRT.out] <;> rfl, by rw [HRT.out]; exact vals_of_own rfl o2.out, HB2.out⟩
            · skip
              have e1 : (c.kind == 1) = false := by rw [hk]; rfl
              have e2 : (c.kind == 2) = true := by rw [hk]; rfl
              have e4 : (c.kind == 4) = false := by rw [hk]; rfl
              rw [rowT_2 hk] at HRT
              obtain ⟨p, hyp⟩ : ∃ p : Nat, y = (p : Int) := ⟨y.toNat, by have := HLO.out.col.resolve_right (by omega); rw [HY.out] at this; omega⟩
              subst hyp
              rw [Int.toNat_natCast] at HRT
              have hpl : p < row.length := by
                have h1 := (colT_range t.attrs c.attr).2
                have h2 := fits_len HFI.out
                rw [HLO.out.get] at h2
                rw [HY.out] at h1
                omega
              clear hk
              go_wp2_with (at_builtin; refine wpList_app elemVal rfl (.tmp 45) (.tmp 46) rfl (base := w2.heap.size) (by rfl) (World.ownsRow_made w2 #[] 0 (Nat.le_refl _) (Nat.zero_le _) rfl) (by rfl) HSR.out (by omega) (by simp) ?_; intro v1 W1 hown1 hg1 hat1; have hB1 := HBG.out W1 hg1; have b1 := Lib.hid hB1; have o1 : Hid (OwnV W1 w2.heap.size v1 row) := Lib.hid (by unfold OwnV; simpa using hown1); have yc0 := cellB hB1 c0; have yc1 := cellB hB1 c1; have yc2 := cellB hB1 c2; have yc3 := cellB hB1 c3; have yc4 := cellB hB1 c4; have yc5 := cellB hB1 c5; have yc6 := cellB hB1 c6; have yc7 := cellB hB1 c7; clear hown1 hg1 hat1 hB1)
              have HB1 := Lib.hid (HB.out.trans (b1.out.mono HB.out.size))
              have hof := own_form o1.out (by omega)
              obtain ⟨g, cap, rfl, hcap, hg0, hg1⟩ := hof
              obtain ⟨q, hq⟩ : ∃ q, q = p + 1 := ⟨_, rfl⟩
              obtain ⟨E, news, hE, hnl, hsrc, hone, hroom, hbg, hle, hcm, hown, hgr⟩ := eraseV valC_len row w2.heap.size g cap p q hq hpl W1.drew o1.out (fun p _ u hu => by
                simp only [valC, List.mem_cons, List.not_mem_nil, or_false] at hu
                rcases hu with rfl | rfl | rfl <;> rfl)
              obtain ⟨i0, hi0, hz0, hz1, hz2⟩ := info_parts elemVal.hi
              have HOW := Lib.hid hown
              have HGR := Lib.hid (show Below w.heap.size w (W1.drew.setCells g (0 + p * 3) news) from (HB1.out.trans (below_drewN _ W1 1)).grown hgr (by have := HB1.out.size; exact this) (fun k hk => by cases hk; have := HB.out.size; omega))
              have HSRC := Lib.hid hsrc
              have HONE := Lib.hid hone
              have HROOM := Lib.hid hroom
              have HNL := Lib.hid hnl
              obtain ⟨W3, hW3⟩ : ∃ W3, W3 = W1.drew.setCells g (0 + p * 3) news := ⟨_, rfl⟩
              have HW3 := Lib.hid hW3
              have h1 : p ≤ cap := by omega
              have h2 : q ≤ cap := by omega
              have h3 : q ≤ row.length := by omega
              have h6 : IntKind.i64.wrap ((p : Int) + 1) = (q : Int) := (IntWalk.i64_in _ (by omega)).trans (by omega)
              have h7 : p ≤ row.length := by omega
              have h4 : cap ≤ 9223372036854775807 := by unfold maxLen at hcm; omega
              have h5 : ¬ cap = p + (row.length - q) := by omega
              have HQ := Lib.hid hq
              have h9 : p + (row.length - q) ≤ cap := by omega
              clear hown hgr hsrc hone hroom hnl hW3 hg0 hg1 hcap hbg hcm hq
              go_region_law (refine step_append_room rfl (.tmp 65) (.tmp 69) 29 rfl 26 i0 3 elemVal.ht hi0 hz1 g 0 p cap (by simp [Act.eval, Act.put]) E (row.length - q) (cap - q) news (by simp [Act.eval, Act.put]) HNL.out HSRC.out HONE.out (by omega) HROOM.out ?_; rw [← HW3.out])
              go_wp2
              go_ret2
              have e9 : p + (row.length - q) = row.length - 1 := by have := HQ.out; omega
              refine ⟨.slice (some ⟨g, 0, none⟩) (row.length - 1) cap, by rw [HRT.out, e9] <;> rfl, ?_, by rw [HW3.out]; exact HGR.out⟩
              rw [HRT.out, HW3.out]
              refine vals_of_own (n := row.length - 1) (by rw [List.length_eraseIdx, if_pos hpl]) HOW.out
            · skip
              have e1 : (c.kind == 1) = false := by rw [hk]; rfl
              have e2 : (c.kind == 2) = false := by rw [hk]; rfl
              have e4 : (c.kind == 4) = false := by rw [hk]; rfl
              rw [rowT_3 hk] at HRT
              obtain ⟨p, hyp⟩ : ∃ p : Nat, y = (p : Int) := ⟨y.toNat, by have := HLO.out.col.resolve_right (by omega); rw [HY.out] at this; omega⟩
              subst hyp
              skip
              have hpl : p < row.length := by
                have h1 := (colT_range t.attrs c.attr).2
                have h2 := fits_len HFI.out
                rw [HLO.out.get] at h2
                rw [HY.out] at h1
                omega
              clear hk
              go_wp2_with (at_builtin; refine wpList_app elemVal rfl (.tmp 45) (.tmp 46) rfl (base := w2.heap.size) (by rfl) (World.ownsRow_made w2 #[] 0 (Nat.le_refl _) (Nat.zero_le _) rfl) (by rfl) HSR.out (by omega) (by simp) ?_; intro v1 W1 hown1 hg1 hat1; have hB1 := HBG.out W1 hg1; have b1 := Lib.hid hB1; have o1 : Hid (OwnV W1 w2.heap.size v1 row) := Lib.hid (by unfold OwnV; simpa using hown1); have yc0 := cellB hB1 c0; have yc1 := cellB hB1 c1; have yc2 := cellB hB1 c2; have yc3 := cellB hB1 c3; have yc4 := cellB hB1 c4; have yc5 := cellB hB1 c5; have yc6 := cellB hB1 c6; have yc7 := cellB hB1 c7; clear hown1 hg1 hat1 hB1)
              have HB1 := Lib.hid (HB.out.trans (b1.out.mono HB.out.size))
              go_ret2
              exact ⟨v1, by rw [HRT.out] <;> rfl, by rw [HRT.out]; exact vals_of_own rfl o1.out, HB1.out⟩
            · skip
              have e1 : (c.kind == 1) = false := by rw [hk]; rfl
              have e2 : (c.kind == 2) = false := by rw [hk]; rfl
              have e4 : (c.kind == 4) = true := by rw [hk]; rfl
              rw [rowT_4 hk] at HRT
              obtain ⟨p, hyp⟩ : ∃ p : Nat, y = (p : Int) := ⟨y.toNat, by have := HLO.out.col.resolve_right (by omega); rw [HY.out] at this; omega⟩
              subst hyp
              rw [Int.toNat_natCast] at HRT
              have hpl : p < row.length := by
                have h1 := (colT_range t.attrs c.attr).2
                have h2 := fits_len HFI.out
                rw [HLO.out.get] at h2
                rw [HY.out] at h1
                omega
              clear hk
              go_wp2_with (at_builtin; refine wpList_app elemVal rfl (.tmp 45) (.tmp 46) rfl (base := w2.heap.size) (by rfl) (World.ownsRow_made w2 #[] 0 (Nat.le_refl _) (Nat.zero_le _) rfl) (by rfl) HSR.out (by omega) (by simp) ?_; intro v1 W1 hown1 hg1 hat1; have hB1 := HBG.out W1 hg1; have b1 := Lib.hid hB1; have o1 : Hid (OwnV W1 w2.heap.size v1 row) := Lib.hid (by unfold OwnV; simpa using hown1); have yc0 := cellB hB1 c0; have yc1 := cellB hB1 c1; have yc2 := cellB hB1 c2; have yc3 := cellB hB1 c3; have yc4 := cellB hB1 c4; have yc5 := cellB hB1 c5; have yc6 := cellB hB1 c6; have yc7 := cellB hB1 c7; clear hown1 hg1 hat1 hB1)
              have HB1 := Lib.hid (HB.out.trans (b1.out.mono HB.out.size))
              obtain ⟨g, cap, rfl, hcap, hg0, hg1⟩ := own_form o1.out (by omega)
              obtain ⟨bv, ov, e, hcell⟩ := (show ∃ bv ov, Ar = some ⟨bv, ov, none⟩ ∧ ValAt W1 bv (ov + p * 3) row[p] from by obtain ⟨_, _, b, o, e, f⟩ := Slc.spot (HR.out.below b1.out) (by omega); exact ⟨b, o, e, f p hpl⟩)
              subst e
              have v0 := hcell.c0
              have v1 := hcell.c1
              have v2 := hcell.c2
              obtain ⟨yv, hyv⟩ : ∃ y, row[p] = y := ⟨_, rfl⟩
              rw [hyv] at v0 v1 v2
              obtain ⟨⟨⟨a, q, tx⟩, er2⟩, hres⟩ : ∃ r, castV yv c.to = r := ⟨_, rfl⟩
              have CK := Lib.hid (fun W => by
                have h := L2.refcast_any yv.1 yv.2.1 yv.2.2 c.to W
                have e1 : L2.cast yv.1 yv.2.1 yv.2.2 c.to = (a, q, tx, er2) := by
                  have h0 := hres
                  unfold castV at h0
                  simp only [Prod.mk.injEq] at h0
                  obtain ⟨⟨h1, h2, h3⟩, h4⟩ := h0
                  exact Prod.ext h1 (Prod.ext h2 (Prod.ext h3 h4))
                rw [e1] at h
                exact h)
              have HRE : Hid (convT s c (m : Int) row = if er2 ≠ 0 then ([], 15) else (row.set p (a, q, tx), 0)) := Lib.hid (by
                have hrt := HRT.out
                rw [show row.getD p z3 = yv from by rw [← hyv]; simp [List.getD, hpl], hres] at hrt
                exact hrt)
              have HYV := Lib.hid hyv
              have HWB := Lib.hid HB1.out.size
              have HGB : Hid (w.heap.size ≤ g) := Lib.hid (by have := HB.out.size; omega)
              have hlt0 := cellLt v0
              have hlt4 := cellLt yc4
              have xa0 := Cell.alloc v0 (.cells #[.int .i64 0, .int .i64 0, .string ⟨#[]⟩] 26)
              have xa1 := Cell.alloc v1 (.cells #[.int .i64 0, .int .i64 0, .string ⟨#[]⟩] 26)
              have xa2 := Cell.alloc v2 (.cells #[.int .i64 0, .int .i64 0, .string ⟨#[]⟩] 26)
              have xa4 := Cell.alloc yc4 (.cells #[.int .i64 0, .int .i64 0, .string ⟨#[]⟩] 26)
              have nq1 : ¬ bv = W1.heap.size := by omega
              have nq2 : ¬ W1.heap.size = bv := by omega
              have nq3 : ¬ w.heap.size + 1 = W1.heap.size := by omega
              have nq4 : ¬ W1.heap.size = w.heap.size + 1 := by omega
              have i1 : (0 : Int) ≤ (p : Int) := by omega
              have i2 : (p : Int) < (row.length : Int) := by omega
              clear hcell hyv hres
              go_region_held3 (fun w' => w'.cell? ⟨bv, ov + p * 3, none⟩ = some (.int .i64 yv.1) ∧ w'.cell? ⟨bv, ov + p * 3 + 1, none⟩ = some (.int .i64 yv.2.1) ∧ w'.cell? ⟨bv, ov + p * 3 + 2, none⟩ = some (str yv.2.2) ∧ w'.cell? ⟨w.heap.size + 1, 4, none⟩ = some (.int .i64 c.to)) (go_keep)
                (first | (go_at_call 35; refine (CK.out _).mono ?_; rintro e wk ⟨rfl, hb⟩; (first | (have hb1 : Below W1.heap.size W1 wk := (below_drewN W1.heap.size W1 1).trans hb; have g1 := Lib.hid hb1; have p0 := cellB hb1 v0; have p1 := cellB hb1 v1; have p2 := cellB hb1 v2; have p3 := cellB hb1 yc4; have pa0 := Cell.alloc p0 (.cells #[.int .i64 a, .int .i64 q, str tx] 26); have pa1 := Cell.alloc p1 (.cells #[.int .i64 a, .int .i64 q, str tx] 26); have pa2 := Cell.alloc p2 (.cells #[.int .i64 a, .int .i64 q, str tx] 26); have pa3 := Cell.alloc p3 (.cells #[.int .i64 a, .int .i64 q, str tx] 26); clear hb hb1) | (have hb1 := ((below_box W1 (.cells #[.int .i64 0, .int .i64 0, .string ⟨#[]⟩] 26)).trans (below_drewN _ _ 1)).trans (hb.mono (by simp)); have g1 := Lib.hid hb1; have p0 := cellB hb1 v0; have p1 := cellB hb1 v1; have p2 := cellB hb1 v2; have p3 := cellB hb1 yc4; have zc0 : wk.cell? ⟨W1.heap.size, 0, none⟩ = some (.int .i64 0) := cellB hb (by simp [go_sem]); have zc1 : wk.cell? ⟨W1.heap.size, 1, none⟩ = some (.int .i64 0) := cellB hb (by simp [go_sem]); have zc2 : wk.cell? ⟨W1.heap.size, 2, none⟩ = some (.string ⟨#[]⟩) := cellB hb (by simp [go_sem]); have zf0 := frozenB (v := .int .i64 0) (o := 0) (b := W1.heap.size) hb (by simp [go_sem]) (by simp [go_sem]); have zf1 := frozenB (v := .int .i64 0) (o := 1) (b := W1.heap.size) hb (by simp [go_sem]) (by simp [go_sem]); have zf2 := frozenB (v := .string ⟨#[]⟩) (o := 2) (b := W1.heap.size) hb (by simp [go_sem]) (by simp [go_sem]); clear hb hb1))))
              · have HBF0 := Lib.hid ((HB1.out.trans (g1.out.mono HB1.out.size)).alloc (by have := g1.out.size; have := HB1.out.size; omega) (.cells #[.int .i64 a, .int .i64 q, str tx] 26))
                have HRW0 := Lib.hid (own_below (own_below o1.out g1.out) (below_box wk (.cells #[.int .i64 a, .int .i64 q, str tx] 26)))
                have u0 : (wk.alloc (.cells #[.int .i64 a, .int .i64 q, str tx] 26)).cell? ⟨wk.heap.size, 0, none⟩ = some (.int .i64 a) := by simp [go_sem]
                have u1 : (wk.alloc (.cells #[.int .i64 a, .int .i64 q, str tx] 26)).cell? ⟨wk.heap.size, 1, none⟩ = some (.int .i64 q) := by simp [go_sem]
                have u2 : (wk.alloc (.cells #[.int .i64 a, .int .i64 q, str tx] 26)).cell? ⟨wk.heap.size, 2, none⟩ = some (str tx) := by simp [go_sem]
                obtain ⟨WF, hWF⟩ : ∃ WF, wk.alloc (.cells #[.int .i64 a, .int .i64 q, str tx] 26) = WF := ⟨_, rfl⟩
                rw [hWF] at HBF0 HRW0 u0 u1 u2
                rw [hWF]
                have HBF := HBF0
                have HRW := HRW0
                clear hWF p0 p1 p2 p3 pa0 pa1 pa2 pa3 xa0 xa1 xa2 xa4
                have q0 : WF.cell? ⟨g, p * 3, none⟩ = some (.int .i64 yv.1) := by
                  have h := HRW.out.cellAt (p * 3 + 0) (by omega)
                  rw [flat_get valC_len row p 0 hpl (by decide), HYV.out] at h
                  exact h
                have q1 : WF.cell? ⟨g, p * 3 + 1, none⟩ = some (.int .i64 yv.2.1) := by
                  have h := HRW.out.cellAt (p * 3 + 1) (by omega)
                  rw [flat_get valC_len row p 1 hpl (by decide), HYV.out] at h
                  exact h
                have q2 : WF.cell? ⟨g, p * 3 + 2, none⟩ = some (str yv.2.2) := by
                  have h := HRW.out.cellAt (p * 3 + 2) (by omega)
                  rw [flat_get valC_len row p 2 hpl (by decide), HYV.out] at h
                  exact h
                by_cases her2 : er2 = 0
                · have HF := Lib.hid (show convT s c (m : Int) row = (row.set p (a, q, tx), 0) by rw [HRE.out, if_neg (by simpa using her2)])
                  subst her2
                  have f0 := HRW.out.frozenAt (p * 3)
                  have f1 := HRW.out.frozenAt (p * 3 + 1)
                  have f2 := HRW.out.frozenAt (p * 3 + 2)
                  go_wp2_with fail
                  go_ret2
                  have s1 := (HRW.out.stored (p * 3 + 0) (.int .i64 a)).1
                  rw [flat_set valC_len row p 0 hpl _ (a, yv.2.1, yv.2.2) (by decide) (by rw [HYV.out]; rfl)] at s1
                  have s2 := (s1.stored (p * 3 + 1) (.int .i64 q)).1
                  rw [flat_set valC_len _ p 1 (by simpa using hpl) _ (a, q, yv.2.2) (by decide) (by rw [List.getElem_set_self]; rfl), List.set_set] at s2
                  have s3 := (s2.stored (p * 3 + 2) (str tx)).1
                  rw [flat_set valC_len _ p 2 (by simpa using hpl) _ (a, q, tx) (by decide) (by rw [List.getElem_set_self]; rfl), List.set_set] at s3
                  exact ⟨.slice (some ⟨g, 0, none⟩) row.length cap, by rw [HF.out] <;> rfl, by rw [HF.out]; exact vals_of_own (by simp) s3, ((HBF.out.setCell (p := ⟨g, p * 3, none⟩) HGB.out _).setCell (p := ⟨g, p * 3 + 1, none⟩) HGB.out _).setCell (p := ⟨g, p * 3 + 2, none⟩) HGB.out _⟩
                · have HF := Lib.hid (show convT s c (m : Int) row = ([], 15) by rw [HRE.out, if_pos (by simpa using her2)])
                  have q9 : (er2 != 0) = true := by simpa using her2
                  clear her2
                  go_wp2_with fail
                  go_ret2
                  exact ⟨.slice none 0 0, by rw [HF.out] <;> rfl, by rw [HF.out]; exact Slc.nil _, HBF.out⟩
              · have HBF0 := Lib.hid ((((HB1.out.trans (g1.out.mono HB1.out.size)).setCell (p := ⟨W1.heap.size, 0, none⟩) HWB.out (.int .i64 a)).setCell (p := ⟨W1.heap.size, 1, none⟩) HWB.out (.int .i64 q)).setCell (p := ⟨W1.heap.size, 2, none⟩) HWB.out (str tx))
                have HRW0 := Lib.hid (own_heap (w' := ((wk.setCell ⟨W1.heap.size, 0, none⟩ (.int .i64 a)).setCell ⟨W1.heap.size, 1, none⟩ (.int .i64 q)).setCell ⟨W1.heap.size, 2, none⟩ (str tx)) (own_below o1.out g1.out) (fun k e => by
                  cases e
                  rw [Below.heap_setCell _ _ _ _ (by show g ≠ W1.heap.size; omega), Below.heap_setCell _ _ _ _ (by show g ≠ W1.heap.size; omega), Below.heap_setCell _ _ _ _ (by show g ≠ W1.heap.size; omega)]))
                have u0 : (((wk.setCell ⟨W1.heap.size, 0, none⟩ (.int .i64 a)).setCell ⟨W1.heap.size, 1, none⟩ (.int .i64 q)).setCell ⟨W1.heap.size, 2, none⟩ (str tx)).cell? ⟨W1.heap.size, 0, none⟩ = some (.int .i64 a) := by
                  rw [World.cell?_setCell_other _ _ _ _ (by simp), World.cell?_setCell_other _ _ _ _ (by simp)]
                  exact World.cell?_setCell_same _ _ _ zc0
                have u1 : (((wk.setCell ⟨W1.heap.size, 0, none⟩ (.int .i64 a)).setCell ⟨W1.heap.size, 1, none⟩ (.int .i64 q)).setCell ⟨W1.heap.size, 2, none⟩ (str tx)).cell? ⟨W1.heap.size, 1, none⟩ = some (.int .i64 q) := by
                  rw [World.cell?_setCell_other _ _ _ _ (by simp)]
                  have zz : (wk.setCell ⟨W1.heap.size, 0, none⟩ (.int .i64 a)).cell? ⟨W1.heap.size, 1, none⟩ = some (.int .i64 0) := by rw [World.cell?_setCell_other _ _ _ _ (by simp)]; exact zc1
                  exact World.cell?_setCell_same _ _ _ zz
                have u2 : (((wk.setCell ⟨W1.heap.size, 0, none⟩ (.int .i64 a)).setCell ⟨W1.heap.size, 1, none⟩ (.int .i64 q)).setCell ⟨W1.heap.size, 2, none⟩ (str tx)).cell? ⟨W1.heap.size, 2, none⟩ = some (str tx) := by
                  have zz : ((wk.setCell ⟨W1.heap.size, 0, none⟩ (.int .i64 a)).setCell ⟨W1.heap.size, 1, none⟩ (.int .i64 q)).cell? ⟨W1.heap.size, 2, none⟩ = some (.string ⟨#[]⟩) := by rw [World.cell?_setCell_other _ _ _ _ (by simp), World.cell?_setCell_other _ _ _ _ (by simp)]; exact zc2
                  exact World.cell?_setCell_same _ _ _ zz
                obtain ⟨WF, hWF⟩ : ∃ WF, ((wk.setCell ⟨W1.heap.size, 0, none⟩ (.int .i64 a)).setCell ⟨W1.heap.size, 1, none⟩ (.int .i64 q)).setCell ⟨W1.heap.size, 2, none⟩ (str tx) = WF := ⟨_, rfl⟩
                rw [hWF] at HBF0 HRW0 u0 u1 u2
                rw [hWF]
                have HBF := HBF0
                have HRW := HRW0
                clear hWF p0 p1 p2 p3 zc0 zc1 zc2 zf0 zf1 zf2 xa0 xa1 xa2 xa4
                have q0 : WF.cell? ⟨g, p * 3, none⟩ = some (.int .i64 yv.1) := by
                  have h := HRW.out.cellAt (p * 3 + 0) (by omega)
                  rw [flat_get valC_len row p 0 hpl (by decide), HYV.out] at h
                  exact h
                have q1 : WF.cell? ⟨g, p * 3 + 1, none⟩ = some (.int .i64 yv.2.1) := by
                  have h := HRW.out.cellAt (p * 3 + 1) (by omega)
                  rw [flat_get valC_len row p 1 hpl (by decide), HYV.out] at h
                  exact h
                have q2 : WF.cell? ⟨g, p * 3 + 2, none⟩ = some (str yv.2.2) := by
                  have h := HRW.out.cellAt (p * 3 + 2) (by omega)
                  rw [flat_get valC_len row p 2 hpl (by decide), HYV.out] at h
                  exact h
                by_cases her2 : er2 = 0
                · have HF := Lib.hid (show convT s c (m : Int) row = (row.set p (a, q, tx), 0) by rw [HRE.out, if_neg (by simpa using her2)])
                  subst her2
                  have f0 := HRW.out.frozenAt (p * 3)
                  have f1 := HRW.out.frozenAt (p * 3 + 1)
                  have f2 := HRW.out.frozenAt (p * 3 + 2)
                  go_wp2_with fail
                  go_ret2
                  have s1 := (HRW.out.stored (p * 3 + 0) (.int .i64 a)).1
                  rw [flat_set valC_len row p 0 hpl _ (a, yv.2.1, yv.2.2) (by decide) (by rw [HYV.out]; rfl)] at s1
                  have s2 := (s1.stored (p * 3 + 1) (.int .i64 q)).1
                  rw [flat_set valC_len _ p 1 (by simpa using hpl) _ (a, q, yv.2.2) (by decide) (by rw [List.getElem_set_self]; rfl), List.set_set] at s2
                  have s3 := (s2.stored (p * 3 + 2) (str tx)).1
                  rw [flat_set valC_len _ p 2 (by simpa using hpl) _ (a, q, tx) (by decide) (by rw [List.getElem_set_self]; rfl), List.set_set] at s3
                  exact ⟨.slice (some ⟨g, 0, none⟩) row.length cap, by rw [HF.out] <;> rfl, by rw [HF.out]; exact vals_of_own (by simp) s3, ((HBF.out.setCell (p := ⟨g, p * 3, none⟩) HGB.out _).setCell (p := ⟨g, p * 3 + 1, none⟩) HGB.out _).setCell (p := ⟨g, p * 3 + 2, none⟩) HGB.out _⟩
                · have HF := Lib.hid (show convT s c (m : Int) row = ([], 15) by rw [HRE.out, if_pos (by simpa using her2)])
                  have q9 : (er2 != 0) = true := by simpa using her2
                  clear her2
                  go_wp2_with fail
                  go_ret2
                  exact ⟨.slice none 0 0, by rw [HF.out] <;> rfl, by rw [HF.out]; exact Slc.nil _, HBF.out⟩
          · have d0 : ((m : Int) != (k : Int)) = true := by simp; omega
            have HRT := Lib.hid (show convT s c (m : Int) row = (row, 0) by rw [HCY.out, if_pos hmk])
            go_wp2_with (at_builtin; refine wpList_app elemVal rfl (.tmp 45) (.tmp 46) rfl (base := w2.heap.size) (by rfl) (World.ownsRow_made w2 #[] 0 (Nat.le_refl _) (Nat.zero_le _) rfl) (by rfl) HSR.out (by omega) (by simp) ?_; intro v1 W1 hown1 hg1 hat1; have hB1 := HBG.out W1 hg1; have b1 := Lib.hid hB1; have o1 : Hid (OwnV W1 w2.heap.size v1 row) := Lib.hid (by unfold OwnV; simpa using hown1); have yc0 := cellB hB1 c0; have yc1 := cellB hB1 c1; have yc2 := cellB hB1 c2; have yc3 := cellB hB1 c3; have yc4 := cellB hB1 c4; have yc5 := cellB hB1 c5; have yc6 := cellB hB1 c6; have yc7 := cellB hB1 c7; clear hown1 hg1 hat1 hB1)
            have HB1 := Lib.hid (HB.out.trans (b1.out.mono HB.out.size))
            go_ret2
            exact ⟨v1, by rw [HRT.out] <;> rfl, by rw [HRT.out]; exact vals_of_own rfl o1.out, HB1.out⟩
  · have q : (er != 0) = true := by simpa using he0
    have HF := Lib.hid (show convT s c n row = ([], er) from conv_err her he0 n row)
    go_wp2_with fail
    go_ret2
    exact ⟨.slice none 0 0, by rw [HF.out]; rfl, by rw [HF.out]; exact Slc.nil _, HB.out⟩
end Go.Proofs.YteokcgfbhaeklaaGreatDoor
