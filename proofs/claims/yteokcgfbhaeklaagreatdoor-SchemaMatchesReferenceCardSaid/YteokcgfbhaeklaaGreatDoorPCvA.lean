/- The contract of Convert at a change of kind 1. -/
import Derived.Test.YteokcgfbhaeklaaGreatDoorPRow
import Derived.Test.YteokcgfbhaeklaaGreatDoorScLoc1
import Derived.Test.YteokcgfbhaeklaaGreatDoorScLoc2
namespace Go.Proofs.YteokcgfbhaeklaaGreatDoor
open Go.RowKit

set_option maxRecDepth 100000 in
set_option maxHeartbeats 8000000 in
theorem convert1_any (s : List TabT) (v rv : Value) (c : ChgT) (n : Int) (row : List T3) (hk : c.kind = 1) (hm : Mid s) (hrl : row.length ≤ 4000) (w : World) (h : Tabs w v s) (hr : Vals w rv row) :
    Calls Tryz.prog 13 #[.agg #[v], Cv c, .int .i64 n, rv] w (RowPost w.heap.size w (convT s c n row)) := by
  have HK := Lib.hid hk
  have HS := Lib.hid h
  have HM := Lib.hid hm
  have HRV := Lib.hid hr
  have hl24 : s.length ≤ 24 := hm.1
  obtain ⟨A, cap, rfl, hcap⟩ := h.form
  obtain ⟨Ar, capr, rfl, hcapr⟩ := hr.form
  have CL := Lib.hid (fun W (hW : Below w.heap.size w W) => locate1_any s (.slice A s.length cap) c hk hm W (h.below hW))
  clear hm h hk hr
  go_enter Tryz.func13, Tryz.ntmps13
  go_wp2_with fail
  refine (CL.out _ ((below_box w _).alloc (by simp) _)).mono ?_
  clear CL
  rintro e w1 ⟨hl, hb⟩
  have HB1 := Lib.hid (show Below w.heap.size w w1 from below_up ((below_box w _).alloc (by simp) _) hb (by simp; omega))
  have b0 : w1.cell? ⟨w.heap.size, 0, none⟩ = some (.slice A s.length cap) := cellB hb (by simp [go_sem])
  have B1 : ChgAt w1 (w.heap.size + 1) c := ⟨cellB hb (by simp [go_sem]), cellB hb (by simp [go_sem]), cellB hb (by simp [go_sem]), cellB hb (by simp [go_sem]), cellB hb (by simp [go_sem]), cellB hb (by simp [go_sem]), cellB hb (by simp [go_sem]), cellB hb (by simp [go_sem])⟩
  clear hb
  rcases hl with ⟨rfl, hne⟩ | ⟨z, i, y, t, hi, rfl, hti, hloc, hy, hy0, hvs, hfind⟩
  · obtain ⟨er, her⟩ : ∃ er, (locT s c).1 = er := ⟨_, rfl⟩
    rw [her] at hne
    rw [her]
    have HF := Lib.hid (conv_err her hne n row)
    have q1 : (er != 0) = true := by simpa using hne
    clear her hne
    go_wp2_with fail
    go_ret2
    exact ⟨.slice none 0 0, by rw [HF.out]; rfl, by rw [HF.out]; exact Slc.nil _, HB1.out.trans ((below_box w1 _).mono HB1.out.size)⟩
  · obtain ⟨er, her⟩ : ∃ er, refT t y c = er := ⟨_, rfl⟩
    rw [her] at hloc
    rw [hloc]
    have HL := Lib.hid hloc
    have HTI := Lib.hid hti
    have HY := Lib.hid hy
    have HY0 := Lib.hid hy0
    clear hloc hti hy hy0 hvs hfind her
    by_cases he : er = 0
    · subst he
      have pb := below_box w1 (.cells #[.func (Fn.func 77) #[] #[], .func (Fn.func 78) #[] #[], .func (Fn.func 79) #[] #[], .func (Fn.func 80) #[] #[], .int .i64 (i : Int), .int .i64 y] 67)
      have b0' := cellB pb b0
      have hq3 : (w1.alloc (.cells #[.func (Fn.func 77) #[] #[], .func (Fn.func 78) #[] #[], .func (Fn.func 79) #[] #[], .func (Fn.func 80) #[] #[], .int .i64 (i : Int), .int .i64 y] 67)).cell? ⟨w1.heap.size, 3, none⟩ = some (.func (Fn.func 80) #[] #[]) := cell_new w1 _ _ 3
      have hq4 : (w1.alloc (.cells #[.func (Fn.func 77) #[] #[], .func (Fn.func 78) #[] #[], .func (Fn.func 79) #[] #[], .func (Fn.func 80) #[] #[], .int .i64 (i : Int), .int .i64 y] 67)).cell? ⟨w1.heap.size, 4, none⟩ = some (.int .i64 (i : Int)) := cell_new w1 _ _ 4
      have hq5 : (w1.alloc (.cells #[.func (Fn.func 77) #[] #[], .func (Fn.func 78) #[] #[], .func (Fn.func 79) #[] #[], .func (Fn.func 80) #[] #[], .int .i64 (i : Int), .int .i64 y] 67)).cell? ⟨w1.heap.size, 5, none⟩ = some (.int .i64 y) := cell_new w1 _ _ 5
      have HBp := Lib.hid (HB1.out.trans (pb.mono HB1.out.size))
      have B1' := B1.below pb
      have HB1' := Lib.hid B1'
      clear B1' B1 b0 pb
      by_cases hn : n < 0
      · have HF := Lib.hid (conv_out (s := s) (c := c) (by rw [HL.out]) n row (Or.inl hn))
        go_wp2_with fail
        go_ret2
        exact ⟨.slice none 0 0, by rw [HF.out]; rfl, by rw [HF.out]; exact Slc.nil _, HBp.out⟩
      · by_cases hn2 : (s.length : Int) ≤ n
        · have HF := Lib.hid (conv_out (s := s) (c := c) (by rw [HL.out]) n row (Or.inr hn2))
          go_wp2_with fail
          go_ret2
          exact ⟨.slice none 0 0, by rw [HF.out]; rfl, by rw [HF.out]; exact Slc.nil _, HBp.out⟩
        · obtain ⟨m, rfl⟩ : ∃ m : Nat, n = (m : Int) := ⟨n.toNat, by omega⟩
          have hms : m < s.length := by omega
          obtain ⟨_, _, b, off, rfl, hcell⟩ := Slc.spot HS.out (by omega)
          obtain ⟨va, vk, hat, hva, hvk⟩ := hcell m hms
          have a4 := hat.below HBp.out
          have a0 := a4.c0; have a1 := a4.c1; have a2 := a4.c2
          obtain ⟨Aa, na, rfl, _⟩ := hva.form
          obtain ⟨Ak, nk, rfl, _⟩ := hvk.form
          obtain ⟨fb, hfb⟩ : ∃ r, fitsB s[m].attrs row = r := ⟨_, rfl⟩
          have HVA := Lib.hid hva
          have HMA := Lib.hid (HM.out.2 s[m] (List.getElem_mem hms))
          have CF := Lib.hid (fun W (hW : Below w.heap.size w W) => by
            have := fits2_any s[m].name s[m].attrs row (.slice Aa s[m].attrs.length na) (.slice Ak s[m].key.length nk) (.slice Ar row.length capr) (by have := HMA.out.1; omega) hrl W (HVA.out.below hW) (HRV.out.below hW)
            rw [hfb] at this
            exact this)
          have HFB := Lib.hid hfb
          have i1 : (0 : Int) ≤ (m : Int) := by omega
          have i2 : (m : Int) < (s.length : Int) := by omega
          clear hfb hva hvk hat hcell a4
          cases fb
          · have HF := Lib.hid (conv_fit (s := s) (c := c) (by rw [HL.out]) m hms row HFB.out)
            go_wp2_with fail
            refine (CF.out _ HBp.out).mono ?_
            rintro e w2 ⟨rfl, hb2⟩
            have HB2 := Lib.hid (HBp.out.trans (hb2.mono (by have := HB1.out.size; simp; omega)))
            clear hb2
            go_wp2_with fail
            go_ret2
            exact ⟨.slice none 0 0, by rw [HF.out]; rfl, by rw [HF.out]; exact Slc.nil _, HB2.out⟩
          · have HF := Lib.hid (conv_yes HL.out m hms row HFB.out)
            go_wp2_with fail
            refine (CF.out _ HBp.out).mono ?_
            clear CF
            rintro e w2 ⟨rfl, hb2⟩
            have HB2 := Lib.hid (HBp.out.trans (hb2.mono (by have := HB1.out.size; simp; omega)))
            have r3 := cellB hb2 hq3
            have r4 := cellB hb2 hq4
            have r5 := cellB hb2 hq5
            have B2 := Lib.hid (HB1'.out.below hb2)
            clear hb2 hq3 hq4 hq5 b0' a0 a1 a2
            go_wp2_with fail
            refine (cloneRow_any row Ar capr hrl _ (HRV.out.below HB2.out)).mono ?_
            rintro e w4 ⟨v1, rfl, hov, hb4⟩
            obtain ⟨Av, cv, rfl⟩ := own_isSl hov
            have HOV := Lib.hid hov
            have HB4 := Lib.hid (HB2.out.trans (hb4.mono HB2.out.size))
            have p3 := cellB hb4 r3
            have p4 := cellB hb4 r4
            have p5 := cellB hb4 r5
            have HOVS := Lib.hid hb4.size
            have B4 := B2.out.below hb4
            have k0 := B4.c0; have k1 := B4.c1; have k2 := B4.c2; have k3 := B4.c3; have k4 := B4.c4; have k5 := B4.c5; have k6 := B4.c6; have k7 := B4.c7
            clear hov hb4 r3 r4 r5 B4
            by_cases hmi : m = i
            · have HF2 := Lib.hid (show convT s c (m : Int) row = rowT row y.toNat c by rw [HF.out, if_neg (by simpa using hmi)] <;> simp)
              subst hmi
              have CR := Lib.hid (fun W (hW : Below w4.heap.size w4 W) => extend_any row (.slice Av row.length cv) y c w2.heap.size HK.out hrl W (by have := HOVS.out; have := hW.size; omega) (own_below HOV.out hW))
              go_wp2_with fail
              refine (CR.out _ (Below.refl _ _)).mono ?_
              clear CR
              rintro e w5 ⟨v5, rfl, hv5, hb5⟩
              have HV5 := Lib.hid hv5
              have HB5 := Lib.hid (HB4.out.trans (hb5.mono HB2.out.size))
              clear hv5 hb5
              go_wp2_with fail
              go_ret2
              exact ⟨v5, by rw [HF2.out]; rfl, by rw [HF2.out]; exact HV5.out, HB5.out⟩
            · have HF2 := Lib.hid (show convT s c (m : Int) row = (row, 0) by rw [HF.out, if_pos hmi])
              have q1 : ((m : Int) != (i : Int)) = true := by simp; omega
              clear hmi
              go_wp2_with fail
              go_ret2
              exact ⟨.slice Av row.length cv, by rw [HF2.out]; rfl, by rw [HF2.out]; exact vals_of_own rfl HOV.out, HB4.out⟩
    · have q1 : (er != 0) = true := by simpa using he
      have HF := Lib.hid (conv_err (s := s) (c := c) (by rw [HL.out]) he n row)
      clear he
      go_wp2_with fail
      go_ret2
      exact ⟨.slice none 0 0, by rw [HF.out]; rfl, by rw [HF.out]; exact Slc.nil _, HB1.out.trans ((below_box w1 _).mono HB1.out.size)⟩
end Go.Proofs.YteokcgfbhaeklaaGreatDoor

/- The contract of Convert at a change of kind 2. -/
namespace Go.Proofs.YteokcgfbhaeklaaGreatDoor
open Go.RowKit

set_option maxRecDepth 100000 in
set_option maxHeartbeats 8000000 in
theorem convert2_any (s : List TabT) (v rv : Value) (c : ChgT) (n : Int) (row : List T3) (hk : c.kind = 2) (hm : Mid s) (hrl : row.length ≤ 4000) (w : World) (h : Tabs w v s) (hr : Vals w rv row) :
    Calls Tryz.prog 13 #[.agg #[v], Cv c, .int .i64 n, rv] w (RowPost w.heap.size w (convT s c n row)) := by
  have HK := Lib.hid hk
  have HS := Lib.hid h
  have HM := Lib.hid hm
  have HRV := Lib.hid hr
  have hl24 : s.length ≤ 24 := hm.1
  obtain ⟨A, cap, rfl, hcap⟩ := h.form
  obtain ⟨Ar, capr, rfl, hcapr⟩ := hr.form
  have CL := Lib.hid (fun W (hW : Below w.heap.size w W) => locate2_any s (.slice A s.length cap) c hk hm W (h.below hW))
  clear hm h hk hr
  go_enter Tryz.func13, Tryz.ntmps13
  go_wp2_with fail
  refine (CL.out _ ((below_box w _).alloc (by simp) _)).mono ?_
  clear CL
  rintro e w1 ⟨hl, hb⟩
  have HB1 := Lib.hid (show Below w.heap.size w w1 from below_up ((below_box w _).alloc (by simp) _) hb (by simp; omega))
  have b0 : w1.cell? ⟨w.heap.size, 0, none⟩ = some (.slice A s.length cap) := cellB hb (by simp [go_sem])
  have B1 : ChgAt w1 (w.heap.size + 1) c := ⟨cellB hb (by simp [go_sem]), cellB hb (by simp [go_sem]), cellB hb (by simp [go_sem]), cellB hb (by simp [go_sem]), cellB hb (by simp [go_sem]), cellB hb (by simp [go_sem]), cellB hb (by simp [go_sem]), cellB hb (by simp [go_sem])⟩
  clear hb
  rcases hl with ⟨rfl, hne⟩ | ⟨z, i, y, t, hi, rfl, hti, hloc, hy, hy0, hvs, hfind⟩
  · obtain ⟨er, her⟩ : ∃ er, (locT s c).1 = er := ⟨_, rfl⟩
    rw [her] at hne
    rw [her]
    have HF := Lib.hid (conv_err her hne n row)
    have q1 : (er != 0) = true := by simpa using hne
    clear her hne
    go_wp2_with fail
    go_ret2
    exact ⟨.slice none 0 0, by rw [HF.out]; rfl, by rw [HF.out]; exact Slc.nil _, HB1.out.trans ((below_box w1 _).mono HB1.out.size)⟩
  · obtain ⟨er, her⟩ : ∃ er, refT t y c = er := ⟨_, rfl⟩
    rw [her] at hloc
    rw [hloc]
    have HL := Lib.hid hloc
    have HTI := Lib.hid hti
    have HY := Lib.hid hy
    have HY0 := Lib.hid hy0
    clear hloc hti hy hy0 hvs hfind her
    by_cases he : er = 0
    · subst he
      obtain ⟨j, rfl⟩ : ∃ j : Nat, y = (j : Int) := ⟨y.toNat, by have := HY0.out (by rw [HK.out]; decide); omega⟩
      have hjl : j < s[i].attrs.length := by have := colT_range t.attrs c.attr; rw [← HY.out, ← HTI.out] at this; omega
      have HJL := Lib.hid hjl
      clear hjl
      have pb := below_box w1 (.cells #[.func (Fn.func 81) #[] #[.pointer (some ⟨z, 0, none⟩)], .func (Fn.func 82) #[] #[], .func (Fn.func 83) #[] #[], .func (Fn.func 84) #[] #[], .int .i64 (i : Int), .int .i64 (j : Int)] 67)
      have b0' := cellB pb b0
      have hq3 : (w1.alloc (.cells #[.func (Fn.func 81) #[] #[.pointer (some ⟨z, 0, none⟩)], .func (Fn.func 82) #[] #[], .func (Fn.func 83) #[] #[], .func (Fn.func 84) #[] #[], .int .i64 (i : Int), .int .i64 (j : Int)] 67)).cell? ⟨w1.heap.size, 3, none⟩ = some (.func (Fn.func 84) #[] #[]) := cell_new w1 _ _ 3
      have hq4 : (w1.alloc (.cells #[.func (Fn.func 81) #[] #[.pointer (some ⟨z, 0, none⟩)], .func (Fn.func 82) #[] #[], .func (Fn.func 83) #[] #[], .func (Fn.func 84) #[] #[], .int .i64 (i : Int), .int .i64 (j : Int)] 67)).cell? ⟨w1.heap.size, 4, none⟩ = some (.int .i64 (i : Int)) := cell_new w1 _ _ 4
      have hq5 : (w1.alloc (.cells #[.func (Fn.func 81) #[] #[.pointer (some ⟨z, 0, none⟩)], .func (Fn.func 82) #[] #[], .func (Fn.func 83) #[] #[], .func (Fn.func 84) #[] #[], .int .i64 (i : Int), .int .i64 (j : Int)] 67)).cell? ⟨w1.heap.size, 5, none⟩ = some (.int .i64 (j : Int)) := cell_new w1 _ _ 5
      have HBp := Lib.hid (HB1.out.trans (pb.mono HB1.out.size))
      have B1' := B1.below pb
      have HB1' := Lib.hid B1'
      clear B1' B1 b0 pb
      by_cases hn : n < 0
      · have HF := Lib.hid (conv_out (s := s) (c := c) (by rw [HL.out]) n row (Or.inl hn))
        go_wp2_with fail
        go_ret2
        exact ⟨.slice none 0 0, by rw [HF.out]; rfl, by rw [HF.out]; exact Slc.nil _, HBp.out⟩
      · by_cases hn2 : (s.length : Int) ≤ n
        · have HF := Lib.hid (conv_out (s := s) (c := c) (by rw [HL.out]) n row (Or.inr hn2))
          go_wp2_with fail
          go_ret2
          exact ⟨.slice none 0 0, by rw [HF.out]; rfl, by rw [HF.out]; exact Slc.nil _, HBp.out⟩
        · obtain ⟨m, rfl⟩ : ∃ m : Nat, n = (m : Int) := ⟨n.toNat, by omega⟩
          have hms : m < s.length := by omega
          obtain ⟨_, _, b, off, rfl, hcell⟩ := Slc.spot HS.out (by omega)
          obtain ⟨va, vk, hat, hva, hvk⟩ := hcell m hms
          have a4 := hat.below HBp.out
          have a0 := a4.c0; have a1 := a4.c1; have a2 := a4.c2
          obtain ⟨Aa, na, rfl, _⟩ := hva.form
          obtain ⟨Ak, nk, rfl, _⟩ := hvk.form
          obtain ⟨fb, hfb⟩ : ∃ r, fitsB s[m].attrs row = r := ⟨_, rfl⟩
          have HVA := Lib.hid hva
          have HMA := Lib.hid (HM.out.2 s[m] (List.getElem_mem hms))
          have CF := Lib.hid (fun W (hW : Below w.heap.size w W) => by
            have := fits2_any s[m].name s[m].attrs row (.slice Aa s[m].attrs.length na) (.slice Ak s[m].key.length nk) (.slice Ar row.length capr) (by have := HMA.out.1; omega) hrl W (HVA.out.below hW) (HRV.out.below hW)
            rw [hfb] at this
            exact this)
          have HFB := Lib.hid hfb
          have i1 : (0 : Int) ≤ (m : Int) := by omega
          have i2 : (m : Int) < (s.length : Int) := by omega
          clear hfb hva hvk hat hcell a4
          cases fb
          · have HF := Lib.hid (conv_fit (s := s) (c := c) (by rw [HL.out]) m hms row HFB.out)
            go_wp2_with fail
            refine (CF.out _ HBp.out).mono ?_
            rintro e w2 ⟨rfl, hb2⟩
            have HB2 := Lib.hid (HBp.out.trans (hb2.mono (by have := HB1.out.size; simp; omega)))
            clear hb2
            go_wp2_with fail
            go_ret2
            exact ⟨.slice none 0 0, by rw [HF.out]; rfl, by rw [HF.out]; exact Slc.nil _, HB2.out⟩
          · have HF := Lib.hid (conv_yes HL.out m hms row HFB.out)
            go_wp2_with fail
            refine (CF.out _ HBp.out).mono ?_
            clear CF
            rintro e w2 ⟨rfl, hb2⟩
            have HB2 := Lib.hid (HBp.out.trans (hb2.mono (by have := HB1.out.size; simp; omega)))
            have r3 := cellB hb2 hq3
            have r4 := cellB hb2 hq4
            have r5 := cellB hb2 hq5
            have B2 := Lib.hid (HB1'.out.below hb2)
            clear hb2 hq3 hq4 hq5 b0' a0 a1 a2
            go_wp2_with fail
            refine (cloneRow_any row Ar capr hrl _ (HRV.out.below HB2.out)).mono ?_
            rintro e w4 ⟨v1, rfl, hov, hb4⟩
            obtain ⟨Av, cv, rfl⟩ := own_isSl hov
            have HOV := Lib.hid hov
            have HB4 := Lib.hid (HB2.out.trans (hb4.mono HB2.out.size))
            have p3 := cellB hb4 r3
            have p4 := cellB hb4 r4
            have p5 := cellB hb4 r5
            have HOVS := Lib.hid hb4.size
            have B4 := B2.out.below hb4
            have k0 := B4.c0; have k1 := B4.c1; have k2 := B4.c2; have k3 := B4.c3; have k4 := B4.c4; have k5 := B4.c5; have k6 := B4.c6; have k7 := B4.c7
            clear hov hb4 r3 r4 r5 B4
            by_cases hmi : m = i
            · have HF2 := Lib.hid (show convT s c (m : Int) row = rowT row j c by rw [HF.out, if_neg (by simpa using hmi)] <;> simp)
              subst hmi
              have HJ : Hid (j < row.length) := Lib.hid (by have := fits_len HFB.out; have := HJL.out; omega)
              have CR := Lib.hid (fun W (hW : Below w4.heap.size w4 W) => shorten_any row (.slice Av row.length cv) j c w2.heap.size HK.out HJ.out hrl W (by have := HOVS.out; have := hW.size; omega) (own_below HOV.out hW))
              go_wp2_with fail
              refine (CR.out _ (Below.refl _ _)).mono ?_
              clear CR
              rintro e w5 ⟨v5, rfl, hv5, hb5⟩
              have HV5 := Lib.hid hv5
              have HB5 := Lib.hid (HB4.out.trans (hb5.mono HB2.out.size))
              clear hv5 hb5
              go_wp2_with fail
              go_ret2
              exact ⟨v5, by rw [HF2.out]; rfl, by rw [HF2.out]; exact HV5.out, HB5.out⟩
            · have HF2 := Lib.hid (show convT s c (m : Int) row = (row, 0) by rw [HF.out, if_pos hmi])
              have q1 : ((m : Int) != (i : Int)) = true := by simp; omega
              clear hmi
              go_wp2_with fail
              go_ret2
              exact ⟨.slice Av row.length cv, by rw [HF2.out]; rfl, by rw [HF2.out]; exact vals_of_own rfl HOV.out, HB4.out⟩
    · have q1 : (er != 0) = true := by simpa using he
      have HF := Lib.hid (conv_err (s := s) (c := c) (by rw [HL.out]) he n row)
      clear he
      go_wp2_with fail
      go_ret2
      exact ⟨.slice none 0 0, by rw [HF.out]; rfl, by rw [HF.out]; exact Slc.nil _, HB1.out.trans ((below_box w1 _).mono HB1.out.size)⟩
end Go.Proofs.YteokcgfbhaeklaaGreatDoor

