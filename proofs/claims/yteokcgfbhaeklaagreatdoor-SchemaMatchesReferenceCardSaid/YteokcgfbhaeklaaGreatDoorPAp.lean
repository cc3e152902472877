/- The contract of Apply at a change of kind 2. -/
import Derived.Test.YteokcgfbhaeklaaGreatDoorScLoc2
import Derived.Test.YteokcgfbhaeklaaGreatDoorScApB
import Derived.Test.YteokcgfbhaeklaaGreatDoorScAltD
import Derived.Test.YteokcgfbhaeklaaGreatDoorScLoc3
import Derived.Test.YteokcgfbhaeklaaGreatDoorScAltR
import Derived.Test.YteokcgfbhaeklaaGreatDoorScLoc4
import Derived.Test.YteokcgfbhaeklaaGreatDoorScAltK
namespace Go.Proofs.YteokcgfbhaeklaaGreatDoor
open Go.RowKit

set_option maxRecDepth 100000 in
set_option maxHeartbeats 8000000 in
theorem apply2_any (s : List TabT) (v : Value) (c : ChgT) (hk : c.kind = 2) (hm : Mid s) (w : World) (h : Tabs w v s) :
    Calls Tryz.prog 11 #[.agg #[v], Cv c] w (ApplyPost w (applyT s c)) := by
  have HK := Lib.hid hk
  have HS := Lib.hid h
  have HM := Lib.hid hm
  obtain ⟨A, cap, rfl, hcap⟩ := h.form
  have CL := Lib.hid (fun W (hW : Below w.heap.size w W) => locate2_any s (.slice A s.length cap) c hk hm W (h.below hW))
  clear hm h hk
  go_enter Tryz.func11, Tryz.ntmps11
  go_wp2_with fail
  refine (CL.out _ (((below_box w _).alloc (by simp) _).alloc (by simp; omega) _)).mono ?_
  clear CL
  rintro e w1 ⟨hl, hb⟩
  have HB1 := Lib.hid (show Below w.heap.size w w1 from below_up (((below_box w _).alloc (by simp) _).alloc (by simp; omega) _) hb (by simp; omega))
  have b0 : w1.cell? ⟨w.heap.size, 0, none⟩ = some (.slice A s.length cap) := cellB hb (by simp [go_sem])
  have B1 : ChgAt w1 (w.heap.size + 1) c := ⟨cellB hb (by simp [go_sem]), cellB hb (by simp [go_sem]), cellB hb (by simp [go_sem]), cellB hb (by simp [go_sem]), cellB hb (by simp [go_sem]), cellB hb (by simp [go_sem]), cellB hb (by simp [go_sem]), cellB hb (by simp [go_sem])⟩
  have r0 : w1.cell? ⟨w.heap.size + 1 + 1, 0, none⟩ = some (.slice none 0 0) := cellB hb (by simp [go_sem])
  have rf : w1.frozen? ⟨w.heap.size + 1 + 1, 0, none⟩ = false := frozenB (v := .slice none 0 0) hb (by simp [go_sem]) (by simp [go_sem])
  clear hb
  have hlt1 : w.heap.size + 1 + 1 < w1.heap.size := cellLt r0
  rcases hl with ⟨rfl, hne⟩ | ⟨z, i, y, t, hi, rfl, hti, hloc, hy, hy0, hvs, hfind⟩
  · obtain ⟨er, her⟩ : ∃ er, (locT s c).1 = er := ⟨_, rfl⟩
    rw [her] at hne
    rw [her]
    have HF := Lib.hid (apply_err her hne)
    have q1 : (er != 0) = true := by simpa using hne
    clear her hne
    have r0' := Cell.alloc r0 (.cells #[.nilFunc, .nilFunc, .nilFunc, .nilFunc, .int .i64 0, .int .i64 0] 67)
    have rf' := frozenB (below_box w1 (.cells #[.nilFunc, .nilFunc, .nilFunc, .nilFunc, .int .i64 0, .int .i64 0] 67)) r0 rf
    have rr := Cell.alloc (World.cell?_setCell_same w1 ⟨w.heap.size + 1 + 1, 0, none⟩ (.slice none 0 0) r0) (.cells #[.nilFunc, .nilFunc, .nilFunc, .nilFunc, .int .i64 0, .int .i64 0] 67)
    go_wp2_with fail
    refine bodyPost_ret (v := .tuple #[.agg #[.slice none 0 0], .int .i64 er]) (by simp [results, Tryz.results11, go_sem, rr]) rfl ?_
    exact ⟨.slice none 0 0, by rw [HF.out], by rw [HF.out]; exact Slc.nil _, (HB1.out.setCell (p := ⟨w.heap.size + 1 + 1, 0, none⟩) (by show w.heap.size ≤ w.heap.size + 1 + 1; omega) _).alloc (by simp; omega) _⟩
  · obtain ⟨er, her⟩ : ∃ er, refT t y c = er := ⟨_, rfl⟩
    rw [her] at hloc
    rw [hloc]
    have HL := Lib.hid hloc
    have HTI := Lib.hid hti
    have HY := Lib.hid hy
    have HY0 := Lib.hid hy0
    have HVS := Lib.hid hvs
    have HER := Lib.hid her
    clear hloc hti hy hy0 hvs hfind her
    have pb := below_box w1 (.cells #[.func (Fn.func 81) #[] #[.pointer (some ⟨z, 0, none⟩)], .func (Fn.func 82) #[] #[], .func (Fn.func 83) #[] #[], .func (Fn.func 84) #[] #[], .int .i64 (i : Int), .int .i64 y] 67)
    have r0' := cellB pb r0
    have rf' := frozenB pb r0 rf
    by_cases he : er = 0
    · subst he
      have HF := Lib.hid (apply_ok HL.out hi)
      obtain ⟨j, rfl⟩ : ∃ j : Nat, y = (j : Int) := ⟨y.toNat, by have := HY0.out (by rw [HK.out]; decide); omega⟩
      have hjl : j < s[i].attrs.length := by have := colT_range t.attrs c.attr; rw [← HY.out, ← HTI.out] at this; omega
      have HNE := Lib.hid (valid_ne HVS.out s[i] (List.getElem_mem hi))
      have HMT := Lib.hid (HM.out.2 s[i] (List.getElem_mem hi))
      have HKR := Lib.hid (valid_keys HVS.out (List.getElem_mem hi))
      have CC := Lib.hid (fun W (hW : Below w.heap.size w W) => clone_any s (.slice A s.length cap) HM.out (by omega) (valid_ne HVS.out) W (HS.out.below hW))
      have HBp := Lib.hid (HB1.out.trans (pb.mono HB1.out.size))
      have b0' := cellB pb b0
      have B1' := B1.below pb
      have hq2 : (w1.alloc (.cells #[.func (Fn.func 81) #[] #[.pointer (some ⟨z, 0, none⟩)], .func (Fn.func 82) #[] #[], .func (Fn.func 83) #[] #[], .func (Fn.func 84) #[] #[], .int .i64 (i : Int), .int .i64 (j : Int)] 67)).cell? ⟨w1.heap.size, 2, none⟩ = some (.func (Fn.func 83) #[] #[]) := cell_new w1 _ _ 2
      have hq4 : (w1.alloc (.cells #[.func (Fn.func 81) #[] #[.pointer (some ⟨z, 0, none⟩)], .func (Fn.func 82) #[] #[], .func (Fn.func 83) #[] #[], .func (Fn.func 84) #[] #[], .int .i64 (i : Int), .int .i64 (j : Int)] 67)).cell? ⟨w1.heap.size, 4, none⟩ = some (.int .i64 (i : Int)) := cell_new w1 _ _ 4
      have hq5 : (w1.alloc (.cells #[.func (Fn.func 81) #[] #[.pointer (some ⟨z, 0, none⟩)], .func (Fn.func 82) #[] #[], .func (Fn.func 83) #[] #[], .func (Fn.func 84) #[] #[], .int .i64 (i : Int), .int .i64 (j : Int)] 67)).cell? ⟨w1.heap.size, 5, none⟩ = some (.int .i64 (j : Int)) := cell_new w1 _ _ 5
      clear pb b0 B1 r0 rf
      go_wp2_with fail
      refine (CC.out _ HBp.out).mono ?_
      clear CC
      rintro e w2 ⟨g, cap2, ps, cc, rfl, hos, hb2⟩
      have gr := hos.row.lt g rfl
      have HCC := Lib.hid (hos.at_ hi |>.choose_spec.choose_spec.choose_spec.2.2.2)
      have HCI := Lib.hid (hos.at_ hi |>.choose_spec.choose_spec.choose_spec.2.2.1)
      have hgw : w1.heap.size + 1 ≤ g := by have := gr.1; simpa using this
      have HB2 := Lib.hid (HBp.out.trans (hb2.mono (by have := HB1.out.size; simp; omega)))
      have hb3 := hb2.trans ((below_box w2 (.cells #[.slice (some ⟨g, 0, none⟩) s.length cap2] 24)).mono hb2.size)
      have HOS := Lib.hid (hos.below (below_box w2 (.cells #[.slice (some ⟨g, 0, none⟩) s.length cap2] 24)))
      have B2 := B1'.below hb3
      have s0 := B2.c0
      have s1 := B2.c1
      have s2 := B2.c2
      have s3 := B2.c3
      have s4 := B2.c4
      have s5 := B2.c5
      have s6 := B2.c6
      have s7 := B2.c7
      have s8 := cellB hb3 hq2
      have s9 := cellB hb3 hq4
      have s10 := cellB hb3 hq5
      have s11 : (w2.alloc (.cells #[.slice (some ⟨g, 0, none⟩) s.length cap2] 24)).cell? ⟨w2.heap.size, 0, none⟩ = some (.slice (some ⟨g, 0, none⟩) s.length cap2) := cell_new w2 _ _ 0
      have rr2 := cellB hb3 r0'
      have rrf2 := frozenB hb3 r0' rf'
      have HB3 := Lib.hid (HB2.out.trans ((below_box w2 (.cells #[.slice (some ⟨g, 0, none⟩) s.length cap2] 24)).mono HB2.out.size))
      have hw2s : w1.heap.size < w2.heap.size := by have := hb2.size; simp at this; omega
      clear hos hb2 hb3 B1' hq2 hq4 hq5 r0' rf' b0' B2
      have i1 : (0 : Int) ≤ (i : Int) := by omega
      have i2 : (i : Int) < (s.length : Int) := by omega
      have HALT : Hid (∀ W, Below (w2.alloc (.cells #[.slice (some ⟨g, 0, none⟩) s.length cap2] 24)).heap.size (w2.alloc (.cells #[.slice (some ⟨g, 0, none⟩) s.length cap2] 24)) W → Calls Tryz.prog 83 #[.pointer (some ⟨g, i * 3, none⟩), .int .i64 (j : Int), Cv c] W (AltPost W (cc i) (cc (i + 1)) g (i * 3) (altT s[i] j c))) := Lib.hid (fun W hW => by
        obtain ⟨va, vk, qs, h1, h2, hgc, _⟩ := (HOS.out.below hW).at_ hi
        exact alterDrop_any (cc i) (cc (i + 1)) g (i * 3) s[i] va vk qs j c HK.out hjl (by have := HMT.out.1; omega) HNE.out.2 (by have := HMT.out.2.1; omega) HKR.out hgc W h1 h2)
      have hcc : cc (i + 1) ≤ w2.heap.size := HCC.out
      have hci : g < cc i := HCI.out
      have HNS : Hid (∀ b, b < g ∨ b = w2.heap.size → ¬ (b = g ∨ (cc i ≤ b ∧ b < cc (i + 1)))) := Lib.hid (fun b h => by omega)
      go_wp2_with fail
      go_region_held3 (fun w' => w'.cell? ⟨w.heap.size + 1, 0, none⟩ = some (.int .i64 c.kind) ∧ w'.cell? ⟨w.heap.size + 1, 1, none⟩ = some (str c.table) ∧ w'.cell? ⟨w.heap.size + 1, 2, none⟩ = some (str c.attr) ∧ w'.cell? ⟨w.heap.size + 1, 3, none⟩ = some (str c.name) ∧ w'.cell? ⟨w.heap.size + 1, 4, none⟩ = some (.int .i64 c.to) ∧ w'.cell? ⟨w.heap.size + 1, 5, none⟩ = some (.int .i64 c.dft.1) ∧ w'.cell? ⟨w.heap.size + 1, 6, none⟩ = some (.int .i64 c.dft.2.1) ∧ w'.cell? ⟨w.heap.size + 1, 7, none⟩ = some (str c.dft.2.2) ∧ w'.cell? ⟨w1.heap.size, 2, none⟩ = some (.func (Fn.func 83) #[] #[]) ∧ w'.cell? ⟨w1.heap.size, 4, none⟩ = some (.int .i64 (i : Int)) ∧ w'.cell? ⟨w1.heap.size, 5, none⟩ = some (.int .i64 (j : Int)) ∧ w'.cell? ⟨w2.heap.size, 0, none⟩ = some (.slice (some ⟨g, 0, none⟩) s.length cap2)) (go_keep)
        (first | (go_at_call 83; refine (HALT.out _ (below_drewN _ _ 1)).mono ?_; rintro e w3 hap; have HTB := Lib.hid ((HOS.out.below (below_drewN _ _ 1)).done hap); obtain ⟨rfl, _, _, ht3⟩ := hap; have HT3 := Lib.hid ((Tch.drewN (fun b => b = g ∨ (cc i ≤ b ∧ b < cc (i + 1))) (w2.alloc (.cells #[.slice (some ⟨g, 0, none⟩) s.length cap2] 24)) 1).trans ht3); clear ht3; have p0 := HT3.out.cell s0 (HNS.out _ (Or.inl (by omega))); have p1 := HT3.out.cell s1 (HNS.out _ (Or.inl (by omega))); have p2 := HT3.out.cell s2 (HNS.out _ (Or.inl (by omega))); have p3 := HT3.out.cell s3 (HNS.out _ (Or.inl (by omega))); have p4 := HT3.out.cell s4 (HNS.out _ (Or.inl (by omega))); have p5 := HT3.out.cell s5 (HNS.out _ (Or.inl (by omega))); have p6 := HT3.out.cell s6 (HNS.out _ (Or.inl (by omega))); have p7 := HT3.out.cell s7 (HNS.out _ (Or.inl (by omega))); have p8 := HT3.out.cell s8 (HNS.out _ (Or.inl (by omega))); have p9 := HT3.out.cell s9 (HNS.out _ (Or.inl (by omega))); have p10 := HT3.out.cell s10 (HNS.out _ (Or.inl (by omega))); have p11 := HT3.out.cell s11 (HNS.out _ (Or.inr rfl)); have rr3 := HT3.out.cell rr2 (HNS.out _ (Or.inl (by omega))); have rrf3 := HT3.out.frozen rr2 rrf2 (HNS.out _ (Or.inl (by omega)))))
      have HLB := Lib.hid (HB3.out.trans (HT3.out.below (B := w.heap.size) (by have := HB3.out.size; omega) (fun b hb => by omega)))
      clear p0 s0 p1 s1 p2 s2 p3 s3 p4 s4 p5 s5 p6 s6 p7 s7 p8 s8 p9 s9 p10 s10 s11
      have rz := World.cell?_setCell_same w3 ⟨w.heap.size + 1 + 1, 0, none⟩ (.slice (some ⟨g, 0, none⟩) s.length cap2) rr3
      go_wp2_with fail
      refine bodyPost_ret (v := .tuple #[.agg #[.slice (some ⟨g, 0, none⟩) s.length cap2], .int .i64 0]) (by simp [results, Tryz.results11, go_sem, rr3]) rfl ?_
      refine ⟨_, by rw [HF.out], ?_, HLB.out.setCell (p := ⟨w.heap.size + 1 + 1, 0, none⟩) (by show w.heap.size ≤ w.heap.size + 1 + 1; omega) _⟩
      rw [HF.out]
      exact HTB.out _ (fun b b1 _ => Below.heap_setCell _ _ _ _ (by show b ≠ w.heap.size + 1 + 1; omega))

    · have q1 : (er != 0) = true := by simpa using he
      have HF := Lib.hid (apply_err (s := s) (c := c) (by rw [HL.out]) he)
      clear he
      have rr := Cell.alloc (World.cell?_setCell_same w1 ⟨w.heap.size + 1 + 1, 0, none⟩ (.slice none 0 0) r0) (.cells #[.func (Fn.func 81) #[] #[.pointer (some ⟨z, 0, none⟩)], .func (Fn.func 82) #[] #[], .func (Fn.func 83) #[] #[], .func (Fn.func 84) #[] #[], .int .i64 (i : Int), .int .i64 y] 67)
      go_wp2_with fail
      refine bodyPost_ret (v := .tuple #[.agg #[.slice none 0 0], .int .i64 er]) (by simp [results, Tryz.results11, go_sem, rr]) rfl ?_
      exact ⟨.slice none 0 0, by rw [HF.out], by rw [HF.out]; exact Slc.nil _, (HB1.out.setCell (p := ⟨w.heap.size + 1 + 1, 0, none⟩) (by show w.heap.size ≤ w.heap.size + 1 + 1; omega) _).alloc (by simp; omega) _⟩
end Go.Proofs.YteokcgfbhaeklaaGreatDoor

/- The contract of Apply at a change of kind 3. -/
namespace Go.Proofs.YteokcgfbhaeklaaGreatDoor
open Go.RowKit

set_option maxRecDepth 100000 in
set_option maxHeartbeats 8000000 in
theorem apply3_any (s : List TabT) (v : Value) (c : ChgT) (hk : c.kind = 3) (hm : Mid s) (w : World) (h : Tabs w v s) :
    Calls Tryz.prog 11 #[.agg #[v], Cv c] w (ApplyPost w (applyT s c)) := by
  have HK := Lib.hid hk
  have HS := Lib.hid h
  have HM := Lib.hid hm
  obtain ⟨A, cap, rfl, hcap⟩ := h.form
  have CL := Lib.hid (fun W (hW : Below w.heap.size w W) => locate3_any s (.slice A s.length cap) c hk hm W (h.below hW))
  clear hm h hk
  go_enter Tryz.func11, Tryz.ntmps11
  go_wp2_with fail
  refine (CL.out _ (((below_box w _).alloc (by simp) _).alloc (by simp; omega) _)).mono ?_
  clear CL
  rintro e w1 ⟨hl, hb⟩
  have HB1 := Lib.hid (show Below w.heap.size w w1 from below_up (((below_box w _).alloc (by simp) _).alloc (by simp; omega) _) hb (by simp; omega))
  have b0 : w1.cell? ⟨w.heap.size, 0, none⟩ = some (.slice A s.length cap) := cellB hb (by simp [go_sem])
  have B1 : ChgAt w1 (w.heap.size + 1) c := ⟨cellB hb (by simp [go_sem]), cellB hb (by simp [go_sem]), cellB hb (by simp [go_sem]), cellB hb (by simp [go_sem]), cellB hb (by simp [go_sem]), cellB hb (by simp [go_sem]), cellB hb (by simp [go_sem]), cellB hb (by simp [go_sem])⟩
  have r0 : w1.cell? ⟨w.heap.size + 1 + 1, 0, none⟩ = some (.slice none 0 0) := cellB hb (by simp [go_sem])
  have rf : w1.frozen? ⟨w.heap.size + 1 + 1, 0, none⟩ = false := frozenB (v := .slice none 0 0) hb (by simp [go_sem]) (by simp [go_sem])
  clear hb
  have hlt1 : w.heap.size + 1 + 1 < w1.heap.size := cellLt r0
  rcases hl with ⟨rfl, hne⟩ | ⟨z, i, y, t, hi, rfl, hti, hloc, hy, hy0, hvs, hfind⟩
  · obtain ⟨er, her⟩ : ∃ er, (locT s c).1 = er := ⟨_, rfl⟩
    rw [her] at hne
    rw [her]
    have HF := Lib.hid (apply_err her hne)
    have q1 : (er != 0) = true := by simpa using hne
    clear her hne
    have r0' := Cell.alloc r0 (.cells #[.nilFunc, .nilFunc, .nilFunc, .nilFunc, .int .i64 0, .int .i64 0] 67)
    have rf' := frozenB (below_box w1 (.cells #[.nilFunc, .nilFunc, .nilFunc, .nilFunc, .int .i64 0, .int .i64 0] 67)) r0 rf
    have rr := Cell.alloc (World.cell?_setCell_same w1 ⟨w.heap.size + 1 + 1, 0, none⟩ (.slice none 0 0) r0) (.cells #[.nilFunc, .nilFunc, .nilFunc, .nilFunc, .int .i64 0, .int .i64 0] 67)
    go_wp2_with fail
    refine bodyPost_ret (v := .tuple #[.agg #[.slice none 0 0], .int .i64 er]) (by simp [results, Tryz.results11, go_sem, rr]) rfl ?_
    exact ⟨.slice none 0 0, by rw [HF.out], by rw [HF.out]; exact Slc.nil _, (HB1.out.setCell (p := ⟨w.heap.size + 1 + 1, 0, none⟩) (by show w.heap.size ≤ w.heap.size + 1 + 1; omega) _).alloc (by simp; omega) _⟩
  · obtain ⟨er, her⟩ : ∃ er, refT t y c = er := ⟨_, rfl⟩
    rw [her] at hloc
    rw [hloc]
    have HL := Lib.hid hloc
    have HTI := Lib.hid hti
    have HY := Lib.hid hy
    have HY0 := Lib.hid hy0
    have HVS := Lib.hid hvs
    have HER := Lib.hid her
    clear hloc hti hy hy0 hvs hfind her
    have pb := below_box w1 (.cells #[.func (Fn.func 85) #[] #[.pointer (some ⟨z, 0, none⟩)], .func (Fn.func 86) #[] #[], .func (Fn.func 87) #[] #[], .func (Fn.func 88) #[] #[], .int .i64 (i : Int), .int .i64 y] 67)
    have r0' := cellB pb r0
    have rf' := frozenB pb r0 rf
    by_cases he : er = 0
    · subst he
      have HF := Lib.hid (apply_ok HL.out hi)
      obtain ⟨j, rfl⟩ : ∃ j : Nat, y = (j : Int) := ⟨y.toNat, by have := HY0.out (by rw [HK.out]; decide); omega⟩
      have hjl : j < s[i].attrs.length := by have := colT_range t.attrs c.attr; rw [← HY.out, ← HTI.out] at this; omega
      have HNE := Lib.hid (valid_ne HVS.out s[i] (List.getElem_mem hi))
      have HMT := Lib.hid (HM.out.2 s[i] (List.getElem_mem hi))
      have HKR := Lib.hid (valid_keys HVS.out (List.getElem_mem hi))
      have CC := Lib.hid (fun W (hW : Below w.heap.size w W) => clone_any s (.slice A s.length cap) HM.out (by omega) (valid_ne HVS.out) W (HS.out.below hW))
      have HBp := Lib.hid (HB1.out.trans (pb.mono HB1.out.size))
      have b0' := cellB pb b0
      have B1' := B1.below pb
      have hq2 : (w1.alloc (.cells #[.func (Fn.func 85) #[] #[.pointer (some ⟨z, 0, none⟩)], .func (Fn.func 86) #[] #[], .func (Fn.func 87) #[] #[], .func (Fn.func 88) #[] #[], .int .i64 (i : Int), .int .i64 (j : Int)] 67)).cell? ⟨w1.heap.size, 2, none⟩ = some (.func (Fn.func 87) #[] #[]) := cell_new w1 _ _ 2
      have hq4 : (w1.alloc (.cells #[.func (Fn.func 85) #[] #[.pointer (some ⟨z, 0, none⟩)], .func (Fn.func 86) #[] #[], .func (Fn.func 87) #[] #[], .func (Fn.func 88) #[] #[], .int .i64 (i : Int), .int .i64 (j : Int)] 67)).cell? ⟨w1.heap.size, 4, none⟩ = some (.int .i64 (i : Int)) := cell_new w1 _ _ 4
      have hq5 : (w1.alloc (.cells #[.func (Fn.func 85) #[] #[.pointer (some ⟨z, 0, none⟩)], .func (Fn.func 86) #[] #[], .func (Fn.func 87) #[] #[], .func (Fn.func 88) #[] #[], .int .i64 (i : Int), .int .i64 (j : Int)] 67)).cell? ⟨w1.heap.size, 5, none⟩ = some (.int .i64 (j : Int)) := cell_new w1 _ _ 5
      clear pb b0 B1 r0 rf
      go_wp2_with fail
      refine (CC.out _ HBp.out).mono ?_
      clear CC
      rintro e w2 ⟨g, cap2, ps, cc, rfl, hos, hb2⟩
      have gr := hos.row.lt g rfl
      have HCC := Lib.hid (hos.at_ hi |>.choose_spec.choose_spec.choose_spec.2.2.2)
      have HCI := Lib.hid (hos.at_ hi |>.choose_spec.choose_spec.choose_spec.2.2.1)
      have hgw : w1.heap.size + 1 ≤ g := by have := gr.1; simpa using this
      have HB2 := Lib.hid (HBp.out.trans (hb2.mono (by have := HB1.out.size; simp; omega)))
      have hb3 := hb2.trans ((below_box w2 (.cells #[.slice (some ⟨g, 0, none⟩) s.length cap2] 24)).mono hb2.size)
      have HOS := Lib.hid (hos.below (below_box w2 (.cells #[.slice (some ⟨g, 0, none⟩) s.length cap2] 24)))
      have B2 := B1'.below hb3
      have s0 := B2.c0
      have s1 := B2.c1
      have s2 := B2.c2
      have s3 := B2.c3
      have s4 := B2.c4
      have s5 := B2.c5
      have s6 := B2.c6
      have s7 := B2.c7
      have s8 := cellB hb3 hq2
      have s9 := cellB hb3 hq4
      have s10 := cellB hb3 hq5
      have s11 : (w2.alloc (.cells #[.slice (some ⟨g, 0, none⟩) s.length cap2] 24)).cell? ⟨w2.heap.size, 0, none⟩ = some (.slice (some ⟨g, 0, none⟩) s.length cap2) := cell_new w2 _ _ 0
      have rr2 := cellB hb3 r0'
      have rrf2 := frozenB hb3 r0' rf'
      have HB3 := Lib.hid (HB2.out.trans ((below_box w2 (.cells #[.slice (some ⟨g, 0, none⟩) s.length cap2] 24)).mono HB2.out.size))
      have hw2s : w1.heap.size < w2.heap.size := by have := hb2.size; simp at this; omega
      clear hos hb2 hb3 B1' hq2 hq4 hq5 r0' rf' b0' B2
      have i1 : (0 : Int) ≤ (i : Int) := by omega
      have i2 : (i : Int) < (s.length : Int) := by omega
      have HALT : Hid (∀ W, Below (w2.alloc (.cells #[.slice (some ⟨g, 0, none⟩) s.length cap2] 24)).heap.size (w2.alloc (.cells #[.slice (some ⟨g, 0, none⟩) s.length cap2] 24)) W → Calls Tryz.prog 87 #[.pointer (some ⟨g, i * 3, none⟩), .int .i64 (j : Int), Cv c] W (AltPost W (cc i) (cc (i + 1)) g (i * 3) (altT s[i] j c))) := Lib.hid (fun W hW => by
        obtain ⟨va, vk, qs, h1, h2, hgc, _⟩ := (HOS.out.below hW).at_ hi
        exact alterRename_any (cc i) (cc (i + 1)) g (i * 3) s[i] va vk qs j c HK.out hjl (by have := HMT.out.1; omega) (fun a ha => by have := HMT.out.2.2 a ha; omega) hgc W h1 h2)
      have hcc : cc (i + 1) ≤ w2.heap.size := HCC.out
      have hci : g < cc i := HCI.out
      have HNS : Hid (∀ b, b < g ∨ b = w2.heap.size → ¬ (b = g ∨ (cc i ≤ b ∧ b < cc (i + 1)))) := Lib.hid (fun b h => by omega)
      go_wp2_with fail
      go_region_held3 (fun w' => w'.cell? ⟨w.heap.size + 1, 0, none⟩ = some (.int .i64 c.kind) ∧ w'.cell? ⟨w.heap.size + 1, 1, none⟩ = some (str c.table) ∧ w'.cell? ⟨w.heap.size + 1, 2, none⟩ = some (str c.attr) ∧ w'.cell? ⟨w.heap.size + 1, 3, none⟩ = some (str c.name) ∧ w'.cell? ⟨w.heap.size + 1, 4, none⟩ = some (.int .i64 c.to) ∧ w'.cell? ⟨w.heap.size + 1, 5, none⟩ = some (.int .i64 c.dft.1) ∧ w'.cell? ⟨w.heap.size + 1, 6, none⟩ = some (.int .i64 c.dft.2.1) ∧ w'.cell? ⟨w.heap.size + 1, 7, none⟩ = some (str c.dft.2.2) ∧ w'.cell? ⟨w1.heap.size, 2, none⟩ = some (.func (Fn.func 87) #[] #[]) ∧ w'.cell? ⟨w1.heap.size, 4, none⟩ = some (.int .i64 (i : Int)) ∧ w'.cell? ⟨w1.heap.size, 5, none⟩ = some (.int .i64 (j : Int)) ∧ w'.cell? ⟨w2.heap.size, 0, none⟩ = some (.slice (some ⟨g, 0, none⟩) s.length cap2)) (go_keep)
        (first | (go_at_call 87; refine (HALT.out _ (below_drewN _ _ 1)).mono ?_; rintro e w3 hap; have HTB := Lib.hid ((HOS.out.below (below_drewN _ _ 1)).done hap); obtain ⟨rfl, _, _, ht3⟩ := hap; have HT3 := Lib.hid ((Tch.drewN (fun b => b = g ∨ (cc i ≤ b ∧ b < cc (i + 1))) (w2.alloc (.cells #[.slice (some ⟨g, 0, none⟩) s.length cap2] 24)) 1).trans ht3); clear ht3; have p0 := HT3.out.cell s0 (HNS.out _ (Or.inl (by omega))); have p1 := HT3.out.cell s1 (HNS.out _ (Or.inl (by omega))); have p2 := HT3.out.cell s2 (HNS.out _ (Or.inl (by omega))); have p3 := HT3.out.cell s3 (HNS.out _ (Or.inl (by omega))); have p4 := HT3.out.cell s4 (HNS.out _ (Or.inl (by omega))); have p5 := HT3.out.cell s5 (HNS.out _ (Or.inl (by omega))); have p6 := HT3.out.cell s6 (HNS.out _ (Or.inl (by omega))); have p7 := HT3.out.cell s7 (HNS.out _ (Or.inl (by omega))); have p8 := HT3.out.cell s8 (HNS.out _ (Or.inl (by omega))); have p9 := HT3.out.cell s9 (HNS.out _ (Or.inl (by omega))); have p10 := HT3.out.cell s10 (HNS.out _ (Or.inl (by omega))); have p11 := HT3.out.cell s11 (HNS.out _ (Or.inr rfl)); have rr3 := HT3.out.cell rr2 (HNS.out _ (Or.inl (by omega))); have rrf3 := HT3.out.frozen rr2 rrf2 (HNS.out _ (Or.inl (by omega)))))
      have HLB := Lib.hid (HB3.out.trans (HT3.out.below (B := w.heap.size) (by have := HB3.out.size; omega) (fun b hb => by omega)))
      clear p0 s0 p1 s1 p2 s2 p3 s3 p4 s4 p5 s5 p6 s6 p7 s7 p8 s8 p9 s9 p10 s10 s11
      have rz := World.cell?_setCell_same w3 ⟨w.heap.size + 1 + 1, 0, none⟩ (.slice (some ⟨g, 0, none⟩) s.length cap2) rr3
      go_wp2_with fail
      refine bodyPost_ret (v := .tuple #[.agg #[.slice (some ⟨g, 0, none⟩) s.length cap2], .int .i64 0]) (by simp [results, Tryz.results11, go_sem, rr3]) rfl ?_
      refine ⟨_, by rw [HF.out], ?_, HLB.out.setCell (p := ⟨w.heap.size + 1 + 1, 0, none⟩) (by show w.heap.size ≤ w.heap.size + 1 + 1; omega) _⟩
      rw [HF.out]
      exact HTB.out _ (fun b b1 _ => Below.heap_setCell _ _ _ _ (by show b ≠ w.heap.size + 1 + 1; omega))

    · have q1 : (er != 0) = true := by simpa using he
      have HF := Lib.hid (apply_err (s := s) (c := c) (by rw [HL.out]) he)
      clear he
      have rr := Cell.alloc (World.cell?_setCell_same w1 ⟨w.heap.size + 1 + 1, 0, none⟩ (.slice none 0 0) r0) (.cells #[.func (Fn.func 85) #[] #[.pointer (some ⟨z, 0, none⟩)], .func (Fn.func 86) #[] #[], .func (Fn.func 87) #[] #[], .func (Fn.func 88) #[] #[], .int .i64 (i : Int), .int .i64 y] 67)
      go_wp2_with fail
      refine bodyPost_ret (v := .tuple #[.agg #[.slice none 0 0], .int .i64 er]) (by simp [results, Tryz.results11, go_sem, rr]) rfl ?_
      exact ⟨.slice none 0 0, by rw [HF.out], by rw [HF.out]; exact Slc.nil _, (HB1.out.setCell (p := ⟨w.heap.size + 1 + 1, 0, none⟩) (by show w.heap.size ≤ w.heap.size + 1 + 1; omega) _).alloc (by simp; omega) _⟩
end Go.Proofs.YteokcgfbhaeklaaGreatDoor

/- The contract of Apply at a change of kind 4. -/
namespace Go.Proofs.YteokcgfbhaeklaaGreatDoor
open Go.RowKit

set_option maxRecDepth 100000 in
set_option maxHeartbeats 8000000 in
theorem apply4_any (s : List TabT) (v : Value) (c : ChgT) (hk : c.kind = 4) (hm : Mid s) (w : World) (h : Tabs w v s) :
    Calls Tryz.prog 11 #[.agg #[v], Cv c] w (ApplyPost w (applyT s c)) := by
  have HK := Lib.hid hk
  have HS := Lib.hid h
  have HM := Lib.hid hm
  obtain ⟨A, cap, rfl, hcap⟩ := h.form
  have CL := Lib.hid (fun W (hW : Below w.heap.size w W) => locate4_any s (.slice A s.length cap) c hk hm W (h.below hW))
  clear hm h hk
  go_enter Tryz.func11, Tryz.ntmps11
  go_wp2_with fail
  refine (CL.out _ (((below_box w _).alloc (by simp) _).alloc (by simp; omega) _)).mono ?_
  clear CL
  rintro e w1 ⟨hl, hb⟩
  have HB1 := Lib.hid (show Below w.heap.size w w1 from below_up (((below_box w _).alloc (by simp) _).alloc (by simp; omega) _) hb (by simp; omega))
  have b0 : w1.cell? ⟨w.heap.size, 0, none⟩ = some (.slice A s.length cap) := cellB hb (by simp [go_sem])
  have B1 : ChgAt w1 (w.heap.size + 1) c := ⟨cellB hb (by simp [go_sem]), cellB hb (by simp [go_sem]), cellB hb (by simp [go_sem]), cellB hb (by simp [go_sem]), cellB hb (by simp [go_sem]), cellB hb (by simp [go_sem]), cellB hb (by simp [go_sem]), cellB hb (by simp [go_sem])⟩
  have r0 : w1.cell? ⟨w.heap.size + 1 + 1, 0, none⟩ = some (.slice none 0 0) := cellB hb (by simp [go_sem])
  have rf : w1.frozen? ⟨w.heap.size + 1 + 1, 0, none⟩ = false := frozenB (v := .slice none 0 0) hb (by simp [go_sem]) (by simp [go_sem])
  clear hb
  have hlt1 : w.heap.size + 1 + 1 < w1.heap.size := cellLt r0
  rcases hl with ⟨rfl, hne⟩ | ⟨z, i, y, t, hi, rfl, hti, hloc, hy, hy0, hvs, hfind⟩
  · obtain ⟨er, her⟩ : ∃ er, (locT s c).1 = er := ⟨_, rfl⟩
    rw [her] at hne
    rw [her]
    have HF := Lib.hid (apply_err her hne)
    have q1 : (er != 0) = true := by simpa using hne
    clear her hne
    have r0' := Cell.alloc r0 (.cells #[.nilFunc, .nilFunc, .nilFunc, .nilFunc, .int .i64 0, .int .i64 0] 67)
    have rf' := frozenB (below_box w1 (.cells #[.nilFunc, .nilFunc, .nilFunc, .nilFunc, .int .i64 0, .int .i64 0] 67)) r0 rf
    have rr := Cell.alloc (World.cell?_setCell_same w1 ⟨w.heap.size + 1 + 1, 0, none⟩ (.slice none 0 0) r0) (.cells #[.nilFunc, .nilFunc, .nilFunc, .nilFunc, .int .i64 0, .int .i64 0] 67)
    go_wp2_with fail
    refine bodyPost_ret (v := .tuple #[.agg #[.slice none 0 0], .int .i64 er]) (by simp [results, Tryz.results11, go_sem, rr]) rfl ?_
    exact ⟨.slice none 0 0, by rw [HF.out], by rw [HF.out]; exact Slc.nil _, (HB1.out.setCell (p := ⟨w.heap.size + 1 + 1, 0, none⟩) (by show w.heap.size ≤ w.heap.size + 1 + 1; omega) _).alloc (by simp; omega) _⟩
  · obtain ⟨er, her⟩ : ∃ er, refT t y c = er := ⟨_, rfl⟩
    rw [her] at hloc
    rw [hloc]
    have HL := Lib.hid hloc
    have HTI := Lib.hid hti
    have HY := Lib.hid hy
    have HY0 := Lib.hid hy0
    have HVS := Lib.hid hvs
    have HER := Lib.hid her
    clear hloc hti hy hy0 hvs hfind her
    have pb := below_box w1 (.cells #[.func (Fn.func 89) #[] #[], .func (Fn.func 90) #[] #[], .func (Fn.func 91) #[] #[], .func (Fn.func 92) #[] #[], .int .i64 (i : Int), .int .i64 y] 67)
    have r0' := cellB pb r0
    have rf' := frozenB pb r0 rf
    by_cases he : er = 0
    · subst he
      have HF := Lib.hid (apply_ok HL.out hi)
      obtain ⟨j, rfl⟩ : ∃ j : Nat, y = (j : Int) := ⟨y.toNat, by have := HY0.out (by rw [HK.out]; decide); omega⟩
      have hjl : j < s[i].attrs.length := by have := colT_range t.attrs c.attr; rw [← HY.out, ← HTI.out] at this; omega
      have HNE := Lib.hid (valid_ne HVS.out s[i] (List.getElem_mem hi))
      have HMT := Lib.hid (HM.out.2 s[i] (List.getElem_mem hi))
      have HKR := Lib.hid (valid_keys HVS.out (List.getElem_mem hi))
      have CC := Lib.hid (fun W (hW : Below w.heap.size w W) => clone_any s (.slice A s.length cap) HM.out (by omega) (valid_ne HVS.out) W (HS.out.below hW))
      have HBp := Lib.hid (HB1.out.trans (pb.mono HB1.out.size))
      have b0' := cellB pb b0
      have B1' := B1.below pb
      have hq2 : (w1.alloc (.cells #[.func (Fn.func 89) #[] #[], .func (Fn.func 90) #[] #[], .func (Fn.func 91) #[] #[], .func (Fn.func 92) #[] #[], .int .i64 (i : Int), .int .i64 (j : Int)] 67)).cell? ⟨w1.heap.size, 2, none⟩ = some (.func (Fn.func 91) #[] #[]) := cell_new w1 _ _ 2
      have hq4 : (w1.alloc (.cells #[.func (Fn.func 89) #[] #[], .func (Fn.func 90) #[] #[], .func (Fn.func 91) #[] #[], .func (Fn.func 92) #[] #[], .int .i64 (i : Int), .int .i64 (j : Int)] 67)).cell? ⟨w1.heap.size, 4, none⟩ = some (.int .i64 (i : Int)) := cell_new w1 _ _ 4
      have hq5 : (w1.alloc (.cells #[.func (Fn.func 89) #[] #[], .func (Fn.func 90) #[] #[], .func (Fn.func 91) #[] #[], .func (Fn.func 92) #[] #[], .int .i64 (i : Int), .int .i64 (j : Int)] 67)).cell? ⟨w1.heap.size, 5, none⟩ = some (.int .i64 (j : Int)) := cell_new w1 _ _ 5
      clear pb b0 B1 r0 rf
      go_wp2_with fail
      refine (CC.out _ HBp.out).mono ?_
      clear CC
      rintro e w2 ⟨g, cap2, ps, cc, rfl, hos, hb2⟩
      have gr := hos.row.lt g rfl
      have HCC := Lib.hid (hos.at_ hi |>.choose_spec.choose_spec.choose_spec.2.2.2)
      have HCI := Lib.hid (hos.at_ hi |>.choose_spec.choose_spec.choose_spec.2.2.1)
      have hgw : w1.heap.size + 1 ≤ g := by have := gr.1; simpa using this
      have HB2 := Lib.hid (HBp.out.trans (hb2.mono (by have := HB1.out.size; simp; omega)))
      have hb3 := hb2.trans ((below_box w2 (.cells #[.slice (some ⟨g, 0, none⟩) s.length cap2] 24)).mono hb2.size)
      have HOS := Lib.hid (hos.below (below_box w2 (.cells #[.slice (some ⟨g, 0, none⟩) s.length cap2] 24)))
      have B2 := B1'.below hb3
      have s0 := B2.c0
      have s1 := B2.c1
      have s2 := B2.c2
      have s3 := B2.c3
      have s4 := B2.c4
      have s5 := B2.c5
      have s6 := B2.c6
      have s7 := B2.c7
      have s8 := cellB hb3 hq2
      have s9 := cellB hb3 hq4
      have s10 := cellB hb3 hq5
      have s11 : (w2.alloc (.cells #[.slice (some ⟨g, 0, none⟩) s.length cap2] 24)).cell? ⟨w2.heap.size, 0, none⟩ = some (.slice (some ⟨g, 0, none⟩) s.length cap2) := cell_new w2 _ _ 0
      have rr2 := cellB hb3 r0'
      have rrf2 := frozenB hb3 r0' rf'
      have HB3 := Lib.hid (HB2.out.trans ((below_box w2 (.cells #[.slice (some ⟨g, 0, none⟩) s.length cap2] 24)).mono HB2.out.size))
      have hw2s : w1.heap.size < w2.heap.size := by have := hb2.size; simp at this; omega
      clear hos hb2 hb3 B1' hq2 hq4 hq5 r0' rf' b0' B2
      have i1 : (0 : Int) ≤ (i : Int) := by omega
      have i2 : (i : Int) < (s.length : Int) := by omega
      have HALT : Hid (∀ W, Below (w2.alloc (.cells #[.slice (some ⟨g, 0, none⟩) s.length cap2] 24)).heap.size (w2.alloc (.cells #[.slice (some ⟨g, 0, none⟩) s.length cap2] 24)) W → Calls Tryz.prog 91 #[.pointer (some ⟨g, i * 3, none⟩), .int .i64 (j : Int), Cv c] W (AltPost W (cc i) (cc (i + 1)) g (i * 3) (altT s[i] j c))) := Lib.hid (fun W hW => by
        obtain ⟨va, vk, qs, h1, h2, hgc, _⟩ := (HOS.out.below hW).at_ hi
        exact alterCast_any (cc i) (cc (i + 1)) g (i * 3) s[i] va vk qs j c HK.out hjl (by have := HMT.out.1; omega) hgc W h1 h2)
      have hcc : cc (i + 1) ≤ w2.heap.size := HCC.out
      have hci : g < cc i := HCI.out
      have HNS : Hid (∀ b, b < g ∨ b = w2.heap.size → ¬ (b = g ∨ (cc i ≤ b ∧ b < cc (i + 1)))) := Lib.hid (fun b h => by omega)
      go_wp2_with fail
      go_region_held3 (fun w' => w'.cell? ⟨w.heap.size + 1, 0, none⟩ = some (.int .i64 c.kind) ∧ w'.cell? ⟨w.heap.size + 1, 1, none⟩ = some (str c.table) ∧ w'.cell? ⟨w.heap.size + 1, 2, none⟩ = some (str c.attr) ∧ w'.cell? ⟨w.heap.size + 1, 3, none⟩ = some (str c.name) ∧ w'.cell? ⟨w.heap.size + 1, 4, none⟩ = some (.int .i64 c.to) ∧ w'.cell? ⟨w.heap.size + 1, 5, none⟩ = some (.int .i64 c.dft.1) ∧ w'.cell? ⟨w.heap.size + 1, 6, none⟩ = some (.int .i64 c.dft.2.1) ∧ w'.cell? ⟨w.heap.size + 1, 7, none⟩ = some (str c.dft.2.2) ∧ w'.cell? ⟨w1.heap.size, 2, none⟩ = some (.func (Fn.func 91) #[] #[]) ∧ w'.cell? ⟨w1.heap.size, 4, none⟩ = some (.int .i64 (i : Int)) ∧ w'.cell? ⟨w1.heap.size, 5, none⟩ = some (.int .i64 (j : Int)) ∧ w'.cell? ⟨w2.heap.size, 0, none⟩ = some (.slice (some ⟨g, 0, none⟩) s.length cap2)) (go_keep)
        (first | (go_at_call 91; refine (HALT.out _ (below_drewN _ _ 1)).mono ?_; rintro e w3 hap; have HTB := Lib.hid ((HOS.out.below (below_drewN _ _ 1)).done hap); obtain ⟨rfl, _, _, ht3⟩ := hap; have HT3 := Lib.hid ((Tch.drewN (fun b => b = g ∨ (cc i ≤ b ∧ b < cc (i + 1))) (w2.alloc (.cells #[.slice (some ⟨g, 0, none⟩) s.length cap2] 24)) 1).trans ht3); clear ht3; have p0 := HT3.out.cell s0 (HNS.out _ (Or.inl (by omega))); have p1 := HT3.out.cell s1 (HNS.out _ (Or.inl (by omega))); have p2 := HT3.out.cell s2 (HNS.out _ (Or.inl (by omega))); have p3 := HT3.out.cell s3 (HNS.out _ (Or.inl (by omega))); have p4 := HT3.out.cell s4 (HNS.out _ (Or.inl (by omega))); have p5 := HT3.out.cell s5 (HNS.out _ (Or.inl (by omega))); have p6 := HT3.out.cell s6 (HNS.out _ (Or.inl (by omega))); have p7 := HT3.out.cell s7 (HNS.out _ (Or.inl (by omega))); have p8 := HT3.out.cell s8 (HNS.out _ (Or.inl (by omega))); have p9 := HT3.out.cell s9 (HNS.out _ (Or.inl (by omega))); have p10 := HT3.out.cell s10 (HNS.out _ (Or.inl (by omega))); have p11 := HT3.out.cell s11 (HNS.out _ (Or.inr rfl)); have rr3 := HT3.out.cell rr2 (HNS.out _ (Or.inl (by omega))); have rrf3 := HT3.out.frozen rr2 rrf2 (HNS.out _ (Or.inl (by omega)))))
      have HLB := Lib.hid (HB3.out.trans (HT3.out.below (B := w.heap.size) (by have := HB3.out.size; omega) (fun b hb => by omega)))
      clear p0 s0 p1 s1 p2 s2 p3 s3 p4 s4 p5 s5 p6 s6 p7 s7 p8 s8 p9 s9 p10 s10 s11
      have rz := World.cell?_setCell_same w3 ⟨w.heap.size + 1 + 1, 0, none⟩ (.slice (some ⟨g, 0, none⟩) s.length cap2) rr3
      go_wp2_with fail
      refine bodyPost_ret (v := .tuple #[.agg #[.slice (some ⟨g, 0, none⟩) s.length cap2], .int .i64 0]) (by simp [results, Tryz.results11, go_sem, rr3]) rfl ?_
      refine ⟨_, by rw [HF.out], ?_, HLB.out.setCell (p := ⟨w.heap.size + 1 + 1, 0, none⟩) (by show w.heap.size ≤ w.heap.size + 1 + 1; omega) _⟩
      rw [HF.out]
      exact HTB.out _ (fun b b1 _ => Below.heap_setCell _ _ _ _ (by show b ≠ w.heap.size + 1 + 1; omega))

    · have q1 : (er != 0) = true := by simpa using he
      have HF := Lib.hid (apply_err (s := s) (c := c) (by rw [HL.out]) he)
      clear he
      have rr := Cell.alloc (World.cell?_setCell_same w1 ⟨w.heap.size + 1 + 1, 0, none⟩ (.slice none 0 0) r0) (.cells #[.func (Fn.func 89) #[] #[], .func (Fn.func 90) #[] #[], .func (Fn.func 91) #[] #[], .func (Fn.func 92) #[] #[], .int .i64 (i : Int), .int .i64 y] 67)
      go_wp2_with fail
      refine bodyPost_ret (v := .tuple #[.agg #[.slice none 0 0], .int .i64 er]) (by simp [results, Tryz.results11, go_sem, rr]) rfl ?_
      exact ⟨.slice none 0 0, by rw [HF.out], by rw [HF.out]; exact Slc.nil _, (HB1.out.setCell (p := ⟨w.heap.size + 1 + 1, 0, none⟩) (by show w.heap.size ≤ w.heap.size + 1 + 1; omega) _).alloc (by simp; omega) _⟩
end Go.Proofs.YteokcgfbhaeklaaGreatDoor

