/- The contract of locate at a change of kind 2. -/
import Derived.Test.YteokcgfbhaeklaaGreatDoorPLoc
namespace Go.Proofs.YteokcgfbhaeklaaGreatDoor
open Go.RowKit

/-- What stands through locate: the boxes of the arguments, of the result, and of the work. -/
structure LocW2 (w w1 : World) (s : List TabT) (v : Value) (c : ChgT) (z q : Nat) : Prop where
  low : Below w.heap.size w w1
  b0 : w1.cell? ⟨w.heap.size, 0, none⟩ = some v
  b1 : ChgAt w1 (w.heap.size + 1) c
  r : ∀ j, j < 6 → w1.cell? ⟨w.heap.size + 1 + 1, j, none⟩ = (#[.nilFunc, .nilFunc, .nilFunc, .nilFunc, .int .i64 0, .int .i64 0] : Array Value)[j]?
  rf : ∀ j, w1.frozen? ⟨w.heap.size + 1 + 1, j, none⟩ = false
  z0 : w1.cell? ⟨z, 0, none⟩ = some (.func (Fn.func 76) #[] #[])
  q0 : ∀ j, j < 4 → w1.cell? ⟨q, j, none⟩ = (#[.func (Fn.func 81) #[] #[.pointer (some ⟨z, 0, none⟩)], .func (Fn.func 82) #[] #[], .func (Fn.func 83) #[] #[], .func (Fn.func 84) #[] #[]] : Array Value)[j]?
  rlt : w.heap.size + 1 + 1 < w1.heap.size
theorem LocW2.keep {w w1 w2 : World} {s : List TabT} {v : Value} {c : ChgT} {z q : Nat} (h : LocW2 w w1 s v c z q) (hb : Below w1.heap.size w1 w2) : LocW2 w w2 s v c z q where
  low := h.low.trans (hb.mono h.low.size)
  b0 := cellB hb h.b0
  b1 := h.b1.below hb
  r := fun j hj => (hb.cell (p := ⟨w.heap.size + 1 + 1, j, none⟩) h.rlt).trans (h.r j hj)
  rf := fun j => (hb.frozen (p := ⟨w.heap.size + 1 + 1, j, none⟩) h.rlt).trans (h.rf j)
  z0 := cellB hb h.z0
  q0 := fun j hj => by
    refine (hb.cell (p := ⟨q, j, none⟩) ?_).trans (h.q0 j hj)
    have := h.q0 0 (by decide)
    exact cellLt this
  rlt := Nat.lt_of_lt_of_le h.rlt hb.size

set_option maxRecDepth 100000 in
set_option maxHeartbeats 8000000 in
theorem locate2_any (s : List TabT) (v : Value) (c : ChgT) (hk : c.kind = 2) (hm : Mid s) (w : World) (h : Tabs w v s) :
    Calls Tryz.prog 31 #[.agg #[v], Cv c] w (LocPost w s c place2) := by
  have HK := Lib.hid hk
  have HS := Lib.hid h
  have HM := Lib.hid hm
  have hl24 : s.length ≤ 24 := hm.1
  obtain ⟨A, cap, rfl, hcap⟩ := h.form
  obtain ⟨V, hV⟩ : ∃ r, validB s = r := ⟨_, rfl⟩
  obtain ⟨G, hG⟩ : ∃ r, formedB c = r := ⟨_, rfl⟩
  obtain ⟨x, hx⟩ : ∃ r, findT s c.table = r := ⟨_, rfl⟩
  have CV := Lib.hid (fun W (hW : Below w.heap.size w W) => by have := valid_any s (.slice A s.length cap) hm W (h.below hW); rw [hV] at this; exact this)
  have CF := Lib.hid (fun W (hW : Below w.heap.size w W) => by have := find_any s (.slice A s.length cap) c.table (by omega) W (h.below hW); rw [hx] at this; exact this)
  have HV := Lib.hid hV
  have HG := Lib.hid hG
  have HX := Lib.hid hx
  have hk1 : (c.kind != 1) = true := by rw [hk]; decide
  have CG : Hid (∀ W : World, W.cell? ⟨w.heap.size + 4, 0, none⟩ = some (.func (Fn.func 76) #[] #[]) → Calls Tryz.prog 81 #[Cv c, .pointer (some ⟨w.heap.size + 4, 0, none⟩)] W (BoolPost W G)) := Lib.hid (fun (W : World) (hz : W.cell? ⟨w.heap.size + 4, 0, none⟩ = some (Value.func (Fn.func 76) #[] #[])) => by have := formed2_any c _ W hz; rw [← formed_2 hk, hG] at this; exact this)
  have W0 := Lib.hid (fun W z hz => by have := workOf2_any W z hz; rw [← hk] at this; exact this)
  clear hm h hV hG hx hk
  go_enter Tryz.func31, Tryz.ntmps31
  go_wp2_with fail
  refine (W0.out _ (w.heap.size + 4) (by simp)).mono ?_
  rintro e w1 ⟨rfl, hz, hb⟩
  have hlo : Below w.heap.size w w1 := below_up (((below_box w _).alloc (by simp) _).alloc (by simp; omega) _) hb (by simp; omega)
  have L0 : ∀ j, j < 6 → w1.cell? ⟨w.heap.size + 1 + 1, j, none⟩ = (#[.nilFunc, .nilFunc, .nilFunc, .nilFunc, .int .i64 0, .int .i64 0] : Array Value)[j]? := fun j hj => by
    refine (hb.cell (p := ⟨w.heap.size + 1 + 1, j, none⟩) (by simp)).trans ?_
    rw [show w.heap.size + 1 + 1 = ((w.alloc (.cells #[.slice A s.length cap] 24)).alloc (.cells #[.int .i64 c.kind, str c.table, str c.attr, str c.name, .int .i64 c.to, .int .i64 c.dft.1, .int .i64 c.dft.2.1, str c.dft.2.2] 28)).heap.size by simp]
    exact cell_new _ _ _ _
  have L1 : ∀ j, w1.frozen? ⟨w.heap.size + 1 + 1, j, none⟩ = false := fun j => by
    refine (hb.frozen (p := ⟨w.heap.size + 1 + 1, j, none⟩) (by simp)).trans ?_
    rw [show w.heap.size + 1 + 1 = ((w.alloc (.cells #[.slice A s.length cap] 24)).alloc (.cells #[.int .i64 c.kind, str c.table, str c.attr, str c.name, .int .i64 c.to, .int .i64 c.dft.1, .int .i64 c.dft.2.1, str c.dft.2.2] 28)).heap.size by simp]
    exact frozen_new _ _ _ _
  have L2' : w1.cell? ⟨w.heap.size, 0, none⟩ = some (.slice A s.length cap) := cellB hb (by simp [go_sem])
  have L3 : ChgAt w1 (w.heap.size + 1) c := ⟨cellB hb (by simp [go_sem]), cellB hb (by simp [go_sem]), cellB hb (by simp [go_sem]), cellB hb (by simp [go_sem]), cellB hb (by simp [go_sem]), cellB hb (by simp [go_sem]), cellB hb (by simp [go_sem]), cellB hb (by simp [go_sem])⟩
  have hlt1 : w.heap.size + 1 + 1 < w1.heap.size := by have := hb.size; simp at this; omega
  have HL : Hid (LocW2 w (w1.alloc (.cells #[.func (Fn.func 81) #[] #[.pointer (some ⟨w.heap.size + 4, 0, none⟩)], .func (Fn.func 82) #[] #[], .func (Fn.func 83) #[] #[], .func (Fn.func 84) #[] #[]] 65)) s (.slice A s.length cap) c (w.heap.size + 4) w1.heap.size) := Lib.hid (by
    have bb := below_box w1 (.cells #[.func (Fn.func 81) #[] #[.pointer (some ⟨w.heap.size + 4, 0, none⟩)], .func (Fn.func 82) #[] #[], .func (Fn.func 83) #[] #[], .func (Fn.func 84) #[] #[]] 65)
    refine ⟨hlo.trans (bb.mono hlo.size), cellB bb L2', L3.below bb, fun j hj => (bb.cell (p := ⟨w.heap.size + 1 + 1, j, none⟩) hlt1).trans (L0 j hj), fun j => (bb.frozen (p := ⟨w.heap.size + 1 + 1, j, none⟩) hlt1).trans (L1 j), cellB bb hz, fun j hj => ?_, by simp; omega⟩
    exact (cell_new w1 _ _ j))
  clear hlo L0 L1 hz hb W0
  have t0 := HL.out.b0
  go_wp2_with fail
  refine (CV.out _ HL.out.low).mono ?_
  clear t0
  rintro e w2 ⟨rfl, hb2⟩
  have H2 := Lib.hid (HL.out.keep hb2)
  clear hb2 HL CV
  cases V
  · have HF := Lib.hid (loc_arg (c := c) (Or.inl HV.out))
    have r0 : w2.cell? ⟨w.heap.size + 1 + 1, 0, none⟩ = some (.nilFunc) := H2.out.r 0 (by decide)
    have rf0 := H2.out.rf 0
    have r1 : w2.cell? ⟨w.heap.size + 1 + 1, 1, none⟩ = some (.nilFunc) := H2.out.r 1 (by decide)
    have rf1 := H2.out.rf 1
    have r2 : w2.cell? ⟨w.heap.size + 1 + 1, 2, none⟩ = some (.nilFunc) := H2.out.r 2 (by decide)
    have rf2 := H2.out.rf 2
    have r3 : w2.cell? ⟨w.heap.size + 1 + 1, 3, none⟩ = some (.nilFunc) := H2.out.r 3 (by decide)
    have rf3 := H2.out.rf 3
    have r4 : w2.cell? ⟨w.heap.size + 1 + 1, 4, none⟩ = some (.int .i64 0) := H2.out.r 4 (by decide)
    have rf4 := H2.out.rf 4
    have r5 : w2.cell? ⟨w.heap.size + 1 + 1, 5, none⟩ = some (.int .i64 0) := H2.out.r 5 (by decide)
    have rf5 := H2.out.rf 5
    go_wp2_with fail
    refine bodyPost_ret (v := .tuple #[zeroP, .int .i64 1]) (by simp [results, Tryz.results31, go_sem, r0, r1, r2, r3, r4, r5]) rfl ?_
    refine ⟨Or.inl ⟨by rw [HF.out], by rw [HF.out]; decide⟩, ?_⟩
    exact set6 H2.out.low (by omega) _ _ _ _ _ _
  · have q0 := H2.out.q0 0 (by decide)
    have k0 := H2.out.b1.c0
    have k1 := H2.out.b1.c1
    have k2 := H2.out.b1.c2
    have k3 := H2.out.b1.c3
    have k4 := H2.out.b1.c4
    have k5 := H2.out.b1.c5
    have k6 := H2.out.b1.c6
    have k7 := H2.out.b1.c7
    go_wp2_with fail
    refine (CG.out _ H2.out.z0).mono ?_
    clear q0 k0 k1 k2 k3 k4 k5 k6 k7
    rintro e w3 ⟨rfl, hb3⟩
    have H3 := Lib.hid (H2.out.keep hb3)
    clear hb3 H2 CG
    cases G
    · have HF := Lib.hid (loc_arg (s := s) (Or.inr HG.out))
      have r0 : w3.cell? ⟨w.heap.size + 1 + 1, 0, none⟩ = some (.nilFunc) := H3.out.r 0 (by decide)
      have rf0 := H3.out.rf 0
      have r1 : w3.cell? ⟨w.heap.size + 1 + 1, 1, none⟩ = some (.nilFunc) := H3.out.r 1 (by decide)
      have rf1 := H3.out.rf 1
      have r2 : w3.cell? ⟨w.heap.size + 1 + 1, 2, none⟩ = some (.nilFunc) := H3.out.r 2 (by decide)
      have rf2 := H3.out.rf 2
      have r3 : w3.cell? ⟨w.heap.size + 1 + 1, 3, none⟩ = some (.nilFunc) := H3.out.r 3 (by decide)
      have rf3 := H3.out.rf 3
      have r4 : w3.cell? ⟨w.heap.size + 1 + 1, 4, none⟩ = some (.int .i64 0) := H3.out.r 4 (by decide)
      have rf4 := H3.out.rf 4
      have r5 : w3.cell? ⟨w.heap.size + 1 + 1, 5, none⟩ = some (.int .i64 0) := H3.out.r 5 (by decide)
      have rf5 := H3.out.rf 5
      go_wp2_with fail
      refine bodyPost_ret (v := .tuple #[zeroP, .int .i64 1]) (by simp [results, Tryz.results31, go_sem, r0, r1, r2, r3, r4, r5]) rfl ?_
      refine ⟨Or.inl ⟨by rw [HF.out], by rw [HF.out]; decide⟩, ?_⟩
      exact set6 H3.out.low (by omega) _ _ _ _ _ _
    · have b0 := H3.out.b0
      have k1 := H3.out.b1.c1
      go_wp2_with fail
      refine (CF.out _ H3.out.low).mono ?_
      clear b0 k1
      rintro e w4 ⟨rfl, hb4⟩
      have H4 := Lib.hid (H3.out.keep hb4)
      clear hb4 H3 CF
      by_cases hneg : x < 0
      · have HF := Lib.hid (loc_none HV.out HG.out (by rw [HX.out]; exact hneg))
        have r0 : w4.cell? ⟨w.heap.size + 1 + 1, 0, none⟩ = some (.nilFunc) := H4.out.r 0 (by decide)
        have rf0 := H4.out.rf 0
        have r1 : w4.cell? ⟨w.heap.size + 1 + 1, 1, none⟩ = some (.nilFunc) := H4.out.r 1 (by decide)
        have rf1 := H4.out.rf 1
        have r2 : w4.cell? ⟨w.heap.size + 1 + 1, 2, none⟩ = some (.nilFunc) := H4.out.r 2 (by decide)
        have rf2 := H4.out.rf 2
        have r3 : w4.cell? ⟨w.heap.size + 1 + 1, 3, none⟩ = some (.nilFunc) := H4.out.r 3 (by decide)
        have rf3 := H4.out.rf 3
        have r4 : w4.cell? ⟨w.heap.size + 1 + 1, 4, none⟩ = some (.int .i64 0) := H4.out.r 4 (by decide)
        have rf4 := H4.out.rf 4
        have r5 : w4.cell? ⟨w.heap.size + 1 + 1, 5, none⟩ = some (.int .i64 0) := H4.out.r 5 (by decide)
        have rf5 := H4.out.rf 5
        go_wp2_with fail
        refine bodyPost_ret (v := .tuple #[zeroP, .int .i64 11]) (by simp [results, Tryz.results31, go_sem, r0, r1, r2, r3, r4, r5]) rfl ?_
        refine ⟨Or.inl ⟨by rw [HF.out], by rw [HF.out]; decide⟩, ?_⟩
        exact set6 H4.out.low (by omega) _ _ _ _ _ _
      · have hxr := findT_range s c.table
        rw [HX.out] at hxr
        obtain ⟨i, rfl⟩ : ∃ i : Nat, x = (i : Int) := ⟨x.toNat, by omega⟩
        have hi : i < s.length := by omega
        obtain ⟨_, _, b, off, rfl, hcell⟩ := Slc.spot HS.out (by omega)
        obtain ⟨t, ht⟩ : ∃ t, s[i] = t := ⟨_, rfl⟩
        have hk1' := hcell i hi
        rw [ht] at hk1'
        obtain ⟨va, vk, hat, hva, hvk⟩ := hk1'
        obtain ⟨Aa, na, rfl, _⟩ := hva.form
        obtain ⟨Ak, nk, rfl, _⟩ := hvk.form
        have HVA := Lib.hid hva
        have HVK := Lib.hid hvk
        have HAT := Lib.hid hat
        have HT := Lib.hid ht
        have HMT := Lib.hid (HM.out.2 t (by rw [← ht]; exact List.getElem_mem hi))
        obtain ⟨y, hy⟩ : ∃ y, colT t.attrs c.attr = y := ⟨_, rfl⟩
        have HY := Lib.hid hy
        have CC := Lib.hid (fun W (hW : Below w.heap.size w W) => by
          have := column_any t.name t.attrs (.slice Aa t.attrs.length na) (.slice Ak t.key.length nk) c.attr (by have := HMT.out.1; omega) (fun a ha => by have := HMT.out.2.2 a ha; omega) W (HVA.out.below hW)
          rw [hy] at this
          exact this)
        have i1 : (0 : Int) ≤ (i : Int) := by omega
        have i2 : (i : Int) < (s.length : Int) := by omega
        have hxn : ¬ (i : Int) < 0 := hneg
        clear hcell hva hvk hat ht hy hxr hneg
        have b0 := H4.out.b0
        have k2 := H4.out.b1.c2
        have a4 := HAT.out.below H4.out.low
        have a0 := a4.c0; have a1 := a4.c1; have a2 := a4.c2
        clear a4
        go_wp2_with fail
        go_region_held3 (fun w' => w'.cell? ⟨w.heap.size, 0, none⟩ = some (.slice (some ⟨b, off, none⟩) s.length cap) ∧ w'.cell? ⟨w.heap.size + 1, 2, none⟩ = some (str c.attr) ∧ w'.cell? ⟨b, off + i * 3, none⟩ = some (str t.name) ∧ w'.cell? ⟨b, off + i * 3 + 1, none⟩ = some (.slice Aa t.attrs.length na) ∧ w'.cell? ⟨b, off + i * 3 + 2, none⟩ = some (.slice Ak t.key.length nk)) (go_keep)
          (first | (go_at_call 23; refine (CC.out _ (H4.out.low.trans (below_drewN _ _ 1))).mono ?_; rintro e w5 ⟨rfl, hb⟩; have hb1 := (below_drewN w4.heap.size w4 1).trans hb; have g1 := Lib.hid hb1; have p0 := cellB hb1 b0; have p1 := cellB hb1 k2; have p2 := cellB hb1 a0; have p3 := cellB hb1 a1; have p4 := cellB hb1 a2; clear hb hb1))
        have H5 := Lib.hid (H4.out.keep g1.out)
        clear g1 p0 p1 p2 p3 p4 b0 k2 a0 a1 a2 CC H4
        have HLF := Lib.hid (loc_find HV.out HG.out hi HX.out)
        clear L2' L3
        by_cases hy0 : y < 0
        · have HF := Lib.hid (show locT s c = (11, 0, 0) by rw [HLF.out, if_pos ⟨by rw [HT.out, HY.out]; exact hy0, by rw [HK.out]; decide⟩])
          have k0 := H5.out.b1.c0
          have r0 : w5.cell? ⟨w.heap.size + 1 + 1, 0, none⟩ = some (.nilFunc) := H5.out.r 0 (by decide)
          have rf0 := H5.out.rf 0
          have r1 : w5.cell? ⟨w.heap.size + 1 + 1, 1, none⟩ = some (.nilFunc) := H5.out.r 1 (by decide)
          have rf1 := H5.out.rf 1
          have r2 : w5.cell? ⟨w.heap.size + 1 + 1, 2, none⟩ = some (.nilFunc) := H5.out.r 2 (by decide)
          have rf2 := H5.out.rf 2
          have r3 : w5.cell? ⟨w.heap.size + 1 + 1, 3, none⟩ = some (.nilFunc) := H5.out.r 3 (by decide)
          have rf3 := H5.out.rf 3
          have r4 : w5.cell? ⟨w.heap.size + 1 + 1, 4, none⟩ = some (.int .i64 0) := H5.out.r 4 (by decide)
          have rf4 := H5.out.rf 4
          have r5 : w5.cell? ⟨w.heap.size + 1 + 1, 5, none⟩ = some (.int .i64 0) := H5.out.r 5 (by decide)
          have rf5 := H5.out.rf 5
          go_wp2_with fail
          refine bodyPost_ret (v := .tuple #[zeroP, .int .i64 11]) (by simp [results, Tryz.results31, go_sem, r0, r1, r2, r3, r4, r5]) rfl ?_
          refine ⟨Or.inl ⟨by rw [HF.out], by rw [HF.out]; decide⟩, ?_⟩
          exact set6 H5.out.low (by omega) _ _ _ _ _ _
        · have hgo : ¬ (y < 0 ∧ c.kind ≠ 1) := fun h => hy0 h.1
          have hyk : Hid (c.kind ≠ 1 → 0 ≤ y) := Lib.hid (fun _ => by omega)
          have HE := Lib.hid (show locT s c = (refT t y c, (i : Int), y) by rw [HLF.out, if_neg (by rw [HT.out, HY.out]; exact hgo), HT.out, HY.out])
          have CR := Lib.hid (fun W (hW : Below w.heap.size w W) => refuseDrop_any t y c (.slice Aa t.attrs.length na) (.slice Ak t.key.length nk) HK.out (by have := HMT.out.2.1; omega) W (HVK.out.below hW))
          obtain ⟨er, her⟩ : ∃ er, refT t y c = er := ⟨_, rfl⟩
          rw [her] at CR
          have HER := Lib.hid her
          clear her hgo
          have s0 := H5.out.b0
          have s1 := H5.out.b1.c0
          have s2 := H5.out.b1.c1
          have s3 := H5.out.b1.c2
          have s4 := H5.out.b1.c3
          have s5 := H5.out.b1.c4
          have s6 := H5.out.b1.c5
          have s7 := H5.out.b1.c6
          have s8 := H5.out.b1.c7
          have a5 := HAT.out.below H5.out.low
          have s9 := a5.c0
          have s10 := a5.c1
          have s11 := a5.c2
          clear a5
          have s12 : w5.cell? ⟨w1.heap.size, 0, none⟩ = some (.func (Fn.func 81) #[] #[.pointer (some ⟨w.heap.size + 4, 0, none⟩)]) := H5.out.q0 0 (by decide)
          have s13 : w5.cell? ⟨w1.heap.size, 1, none⟩ = some (.func (Fn.func 82) #[] #[]) := H5.out.q0 1 (by decide)
          have s14 : w5.cell? ⟨w1.heap.size, 2, none⟩ = some (.func (Fn.func 83) #[] #[]) := H5.out.q0 2 (by decide)
          have s15 : w5.cell? ⟨w1.heap.size, 3, none⟩ = some (.func (Fn.func 84) #[] #[]) := H5.out.q0 3 (by decide)
          have r0 : w5.cell? ⟨w.heap.size + 1 + 1, 0, none⟩ = some (.nilFunc) := H5.out.r 0 (by decide)
          have rf0 := H5.out.rf 0
          have r1 : w5.cell? ⟨w.heap.size + 1 + 1, 1, none⟩ = some (.nilFunc) := H5.out.r 1 (by decide)
          have rf1 := H5.out.rf 1
          have r2 : w5.cell? ⟨w.heap.size + 1 + 1, 2, none⟩ = some (.nilFunc) := H5.out.r 2 (by decide)
          have rf2 := H5.out.rf 2
          have r3 : w5.cell? ⟨w.heap.size + 1 + 1, 3, none⟩ = some (.nilFunc) := H5.out.r 3 (by decide)
          have rf3 := H5.out.rf 3
          have r4 : w5.cell? ⟨w.heap.size + 1 + 1, 4, none⟩ = some (.int .i64 0) := H5.out.r 4 (by decide)
          have rf4 := H5.out.rf 4
          have r5 : w5.cell? ⟨w.heap.size + 1 + 1, 5, none⟩ = some (.int .i64 0) := H5.out.r 5 (by decide)
          have rf5 := H5.out.rf 5
          have hbl := cellLt HAT.out.c0
          have m1 : ¬ w.heap.size = w.heap.size + 1 + 1 := by omega
          have m2 : ¬ w.heap.size + 1 + 1 = w.heap.size := by omega
          have m3 : ¬ b = w.heap.size + 1 + 1 := by omega
          have m4 : ¬ w.heap.size + 1 + 1 = b := by omega
          have m5 : ¬ w1.heap.size = w.heap.size + 1 + 1 := by omega
          have m6 : ¬ w.heap.size + 1 + 1 = w1.heap.size := by omega
          go_wp2_with fail
          go_region_held3 (fun w' => w'.cell? ⟨w.heap.size, 0, none⟩ = some (.slice (some ⟨b, off, none⟩) s.length cap) ∧ w'.cell? ⟨w.heap.size + 1, 0, none⟩ = some (.int .i64 c.kind) ∧ w'.cell? ⟨w.heap.size + 1, 1, none⟩ = some (str c.table) ∧ w'.cell? ⟨w.heap.size + 1, 2, none⟩ = some (str c.attr) ∧ w'.cell? ⟨w.heap.size + 1, 3, none⟩ = some (str c.name) ∧ w'.cell? ⟨w.heap.size + 1, 4, none⟩ = some (.int .i64 c.to) ∧ w'.cell? ⟨w.heap.size + 1, 5, none⟩ = some (.int .i64 c.dft.1) ∧ w'.cell? ⟨w.heap.size + 1, 6, none⟩ = some (.int .i64 c.dft.2.1) ∧ w'.cell? ⟨w.heap.size + 1, 7, none⟩ = some (str c.dft.2.2) ∧ w'.cell? ⟨b, off + i * 3, none⟩ = some (str t.name) ∧ w'.cell? ⟨b, off + i * 3 + 1, none⟩ = some (.slice Aa t.attrs.length na) ∧ w'.cell? ⟨b, off + i * 3 + 2, none⟩ = some (.slice Ak t.key.length nk) ∧ w'.cell? ⟨w1.heap.size, 0, none⟩ = some (.func (Fn.func 81) #[] #[.pointer (some ⟨w.heap.size + 4, 0, none⟩)]) ∧ w'.cell? ⟨w1.heap.size, 1, none⟩ = some (.func (Fn.func 82) #[] #[]) ∧ w'.cell? ⟨w1.heap.size, 2, none⟩ = some (.func (Fn.func 83) #[] #[]) ∧ w'.cell? ⟨w1.heap.size, 3, none⟩ = some (.func (Fn.func 84) #[] #[])) (go_keep)
            (first | (go_at_call 82; refine (CR.out _ (H5.out.low.trans (below_drewN _ _ 1))).mono ?_; rintro e w6 ⟨rfl, hb⟩; have hb1 := (below_drewN w5.heap.size w5 1).trans hb; have g1 := Lib.hid hb1; have p0 := cellB hb1 s0; have p1 := cellB hb1 s1; have p2 := cellB hb1 s2; have p3 := cellB hb1 s3; have p4 := cellB hb1 s4; have p5 := cellB hb1 s5; have p6 := cellB hb1 s6; have p7 := cellB hb1 s7; have p8 := cellB hb1 s8; have p9 := cellB hb1 s9; have p10 := cellB hb1 s10; have p11 := cellB hb1 s11; have p12 := cellB hb1 s12; have p13 := cellB hb1 s13; have p14 := cellB hb1 s14; have p15 := cellB hb1 s15; have v0 := cellB hb1 r0; have vf0 := frozenB hb1 r0 rf0; have v1 := cellB hb1 r1; have vf1 := frozenB hb1 r1 rf1; have v2 := cellB hb1 r2; have vf2 := frozenB hb1 r2 rf2; have v3 := cellB hb1 r3; have vf3 := frozenB hb1 r3 rf3; have v4 := cellB hb1 r4; have vf4 := frozenB hb1 r4 rf4; have v5 := cellB hb1 r5; have vf5 := frozenB hb1 r5 rf5; clear hb hb1))
          have H6 := Lib.hid (H5.out.low.trans (g1.out.mono H5.out.low.size))
          clear p0 p1 p2 p3 p4 p5 p6 p7 p8 p9 p10 p11 p12 p13 p14 p15 s0 s1 s2 s3 s4 s5 s6 s7 s8 s9 s10 s11 s12 s13 s14 s15 r0 rf0 r1 rf1 r2 rf2 r3 rf3 r4 rf4 r5 rf5
          go_wp2_with fail
          refine bodyPost_ret (v := .tuple #[place2 (w.heap.size + 4) (i : Int) y, .int .i64 er]) (by simp [results, Tryz.results31, go_sem, v0, v1, v2, v3, v4, v5]) rfl ?_
          refine ⟨Or.inr ⟨w.heap.size + 4, i, y, t, hi, by rw [HE.out, HER.out], HT.out, HE.out, HY.out.symm, hyk.out, HV.out, HX.out⟩, ?_⟩
          exact set6 H6.out (by omega) _ _ _ _ _ _
end Go.Proofs.YteokcgfbhaeklaaGreatDoor
