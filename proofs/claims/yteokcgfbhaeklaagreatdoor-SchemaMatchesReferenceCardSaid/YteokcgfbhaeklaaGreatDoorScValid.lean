/- The contracts of Valid and Fits. -/
import Derived.Test.YteokcgfbhaeklaaGreatDoorScTab
namespace Go.Proofs.YteokcgfbhaeklaaGreatDoor
open Go.RowKit

theorem validB_len {s : List TabT} (h : 20 < s.length) : validB s = false := by unfold validB; rw [decide_eq_false (by omega)]; rfl
theorem validB_tab {s : List TabT} {k : Nat} (hk : k < s.length) (h : tabB s[k] = false) : validB s = false := by
  have : s.all tabB = false := by
    rw [List.all_eq_false]
    exact ⟨_, List.getElem_mem hk, by simpa using h⟩
  unfold validB
  rw [this]
  simp
def TabsOk (s : List TabT) (k : Nat) : Prop := ∀ j (_ : j < k) (hl : j < s.length), tabB s[j] = true
theorem tabsOk_succ {s : List TabT} {k : Nat} (h : TabsOk s k) (hk : k < s.length) (h1 : tabB s[k] = true) : TabsOk s (k + 1) := fun j hj hl => by
  by_cases e : j = k
  · subst e; exact h1
  · exact h j (by omega) hl
theorem validB_rest {s : List TabT} (h1 : s.length ≤ 20) (h2 : TabsOk s s.length) : validB s = namesB (s.map TabT.name) := by
  have : s.all tabB = true := by
    rw [List.all_eq_true]
    intro x hx
    obtain ⟨k, hk, rfl⟩ := List.getElem_of_mem hx
    exact h2 k hk hk
  unfold validB
  rw [decide_eq_true h1, this]
  rfl
/-- The names of the first k tables, and empty texts behind them. -/
def nameRow (s : List TabT) (k : Nat) : List Txt := (s.take k).map TabT.name ++ List.replicate (s.length - k) []
theorem nameRow_len (s : List TabT) (k : Nat) (h : k ≤ s.length) : (nameRow s k).length = s.length := by
  unfold nameRow
  simp
  omega
theorem nameRow_succ (s : List TabT) (k : Nat) (h : k < s.length) : (nameRow s k).set k s[k].name = nameRow s (k + 1) := by
  unfold nameRow
  rw [List.take_succ_eq_append_getElem h, List.map_append, List.set_append_right _ _ (by simp; omega)]
  have e : s.length - k = (s.length - (k + 1)) + 1 := by omega
  rw [e, List.replicate_succ, show k - ((s.take k).map TabT.name).length = 0 by simp; omega]
  simp
theorem nameRow_all (s : List TabT) : nameRow s s.length = s.map TabT.name := by
  unfold nameRow
  simp
set_option maxRecDepth 100000 in
set_option maxHeartbeats 4000000 in
theorem valid_any (s : List TabT) (v : Value) (hm : Mid s) (w : World) (h : Tabs w v s) :
    Calls Tryz.prog 17 #[.agg #[v]] w (BoolPost w (validB s)) := by
  obtain ⟨A, cap, rfl, hcap⟩ := h.form
  have HS := Lib.hid h
  have HM := Lib.hid hm
  have hl24 : s.length ≤ 24 := hm.1
  clear h hm
  by_cases h1 : 20 < s.length
  · have HF := Lib.hid (validB_len h1)
    go_enter Tryz.func17, Tryz.ntmps17
    go_wp2_with fail
    go_ret
    exact ⟨bool_ret HF.out.symm, below_box w _⟩
  · obtain ⟨i0, hi, hz0, hz1, hz2⟩ := info_parts (P := Tryz.prog) elemStr.hi
    go_enter Tryz.func17, Tryz.ntmps17
    go_wp2_with (at_make; refine wpList_make_full _ rfl _ _ 51 rfl (w.heap.size + 1) 9 i0 (.string ⟨#[]⟩) 1 Tryz.underlying51 hi hz0 hz1 .i64 .i64 _ _ s.length rfl rfl rfl rfl (by rw [hz2]; omega) (by unfold maxLen; omega) (by simp) ?_)
    intro w1 hown hg1
    have HO : Hid (w1.ownsRow (w.heap.size + 1) 9 1 (.slice (some ⟨w.heap.size + 1, 0, none⟩) s.length s.length) s.length ((nameRow s 0).map str)) := Lib.hid (by
      have e : ((nameRow s 0).map str) = (madeCells #[Value.string ⟨#[]⟩] s.length).toList := by
        rw [toList_madeCells_one]
        unfold nameRow
        simp
      rw [e]
      simpa using hown)
    have HC := Lib.hid ((Below.refl (w.heap.size + 1) (w.alloc (.cells #[.slice A s.length cap] 24))).grown hg1 (by simp) (fun k e => by cases e))
    clear hown hg1 hi hz0 hz1 hz2
    have e0 : w1.cell? ⟨w.heap.size, 0, none⟩ = some (.slice A s.length cap) := (HC.out.cell (p := ⟨w.heap.size, 0, none⟩) (by simp)).trans (by simp [go_sem])
    go_wp2_with fail
    clear e0
    go_loopw [16] (fun i wr => ∃ k : Nat, k ≤ s.length ∧ i = .int .i64 (k : Int) ∧ wr.ownsRow (w.heap.size + 1) 9 1 (.slice (some ⟨w.heap.size + 1, 0, none⟩) s.length s.length) s.length ((nameRow s k).map str) ∧ TabsOk s k ∧ Below (w.heap.size + 1) (w.alloc (.cells #[.slice A s.length cap] 24)) wr) (fun i _ => s.length - (intOf i).toNat)
    case atStart => exact ⟨0, by omega, by simp, by simpa using HO.out, fun j hj => by omega, HC.out⟩
    case round =>
      clear HO HC
      obtain ⟨k, hk, rfl, hown, hty, hb⟩ := hrel
      have HO := Lib.hid hown
      have HT := Lib.hid hty
      have HB := Lib.hid hb
      have hsz : w.heap.size + 1 ≤ wr.heap.size := by have := hb.size; simpa using this
      have e0 : wr.cell? ⟨w.heap.size, 0, none⟩ = some (.slice A s.length cap) := (hb.cell (p := ⟨w.heap.size, 0, none⟩) (by simp)).trans (by simp [go_sem])
      have HB2 := Lib.hid (show Below w.heap.size w wr from below_up (below_box w _) hb (by simp))
      clear hown hty hb
      by_cases hlt : k < s.length
      · obtain ⟨_, _, b, off, rfl, hcell⟩ := Slc.spot HS.out (by omega)
        obtain ⟨a, hx⟩ : ∃ a, s[k] = a := ⟨_, rfl⟩
        have hk1 := hcell k hlt
        rw [hx] at hk1
        obtain ⟨va, vk, hat, hva, hvk⟩ := hk1
        have HVA := Lib.hid hva
        have HVK := Lib.hid hvk
        have HAT := Lib.hid hat
        have hat2 := hat.below HB2.out
        have c0 := hat2.c0; have c1 := hat2.c1; have c2 := hat2.c2
        have HX := Lib.hid hx
        have HMA := Lib.hid (HM.out.2 a (by rw [← hx]; exact List.getElem_mem hlt))
        have i1 : (0 : Int) ≤ (k : Int) := by omega
        have i2 : (k : Int) < (s.length : Int) := by omega
        clear hx hcell hat hat2 hva hvk
        obtain ⟨r, hr⟩ : ∃ r, tabB a = r := ⟨_, rfl⟩
        have C := fun W (hW : Below w.heap.size w W) => isTable_any a va vk HMA.out.2.2 HMA.out.2.1 W (HVA.out.below hW) (HVK.out.below hW)
        rw [hr] at C
        replace C := Lib.hid C
        have HR := Lib.hid hr
        clear hr
        go_wp2_with fail
        refine (C.out _ HB2.out).mono ?_
        rintro e w2 ⟨rfl, hb1⟩
        have HB3 := Lib.hid (HB2.out.trans (hb1.mono HB2.out.size))
        have d0 : w2.cell? ⟨w.heap.size, 0, none⟩ = some (.slice (some ⟨b, off, none⟩) s.length cap) := cellB hb1 e0
        have f0 := cellB hb1 c0
        have HO1 := Lib.hid (HO.out.kept (grown_of_below hb1 none) (Or.inr (by simp [Value.ownBlock])))
        have HBT := Lib.hid (HB.out.trans (hb1.mono hsz))
        have hs2 : w.heap.size + 1 ≤ w2.heap.size := by have := hb1.size; omega
        clear hb1 C c0 c1 c2 e0
        cases r
        · have HF := Lib.hid (validB_tab hlt (by rw [HX.out]; exact HR.out))
          go_wp2_with fail
          go_ret
          exact ⟨bool_ret HF.out.symm, HB3.out⟩
        · have HT2 := Lib.hid (tabsOk_succ HT.out hlt (by rw [HX.out]; exact HR.out))
          have hnl : k < (nameRow s k).length := by rw [nameRow_len s k hk]; exact hlt
          obtain ⟨x0, g0⟩ : ∃ x0, w2.cell? ⟨w.heap.size + 1, k, none⟩ = some (str x0) := ⟨(nameRow s k)[k], by
            rw [HO1.out.cellAt k (by omega), List.getElem?_map, List.getElem?_eq_getElem hnl]
            rfl⟩
          have g1 : w2.frozen? ⟨w.heap.size + 1, k, none⟩ = false := HO1.out.frozenAt k
          have HS2 := Lib.hid (HO1.out.stored k (str a.name))
          have HNR : Hid (((nameRow s k).map str).set k (str a.name) = (nameRow s (k + 1)).map str) := Lib.hid (by rw [← nameRow_succ s k hlt, HX.out, List.map_set])
          clear hnl
          go_wp2_with fail
          go_roundw
          case rel => exact ⟨k + 1, by omega, by simp, by have := HS2.out.1; rwa [HNR.out] at this, HT2.out, HBT.out.grown HS2.out.2 hs2 (fun k e => by cases e; exact Nat.le_refl _)⟩
          case measure => simp [intOf]; omega
      · have HF := Lib.hid (validB_rest (s := s) (by omega) (fun j _ hl => HT.out j (by omega) hl))
        have HN : Hid (OwnS wr (w.heap.size + 1) (.slice (some ⟨w.heap.size + 1, 0, none⟩) s.length s.length) (s.map TabT.name)) := Lib.hid (by
          have e := nameRow_all s
          have := HO.out
          rw [show k = s.length by omega, e] at this
          unfold OwnS
          simpa using this)
        obtain ⟨r, hr⟩ : ∃ r, namesB (s.map TabT.name) = r := ⟨_, rfl⟩
        have C := areNames_any (s.map TabT.name) _ (w.heap.size + 1) (by simp; omega) wr hsz HN.out
        rw [hr] at C
        rw [hr] at HF
        replace C := Lib.hid C
        clear hr
        go_wp2_with fail
        refine C.out.mono ?_
        rintro e w2 ⟨rfl, hb1⟩
        have HB3 := Lib.hid (HB2.out.trans (hb1.mono (by omega)))
        clear hb1
        go_wp2_with fail
        go_ret
        exact ⟨bool_ret HF.out.symm, HB3.out⟩

/-! ### Fits. -/
theorem fitsB_len {l : List AttrT} {row : List T3} (h : ¬ row.length = l.length) : fitsB l row = false := by unfold fitsB; rw [decide_eq_false h]; rfl
theorem fitsB_bad {l : List AttrT} {row : List T3} {k : Nat} (hk : k < row.length) (hl : k < l.length) (h : fitB row[k] l[k].kind = false) : fitsB l row = false := by
  have : ((row.zip l).all fun x => fitB x.1 x.2.kind) = false := by
    rw [List.all_eq_false]
    exact ⟨(row[k], l[k]), by rw [← List.getElem_zip (h := by simp; omega)]; exact List.getElem_mem _, by simpa using h⟩
  unfold fitsB
  rw [this]
  simp
theorem fitsB_good {l : List AttrT} {row : List T3} (h0 : row.length = l.length) (h : ∀ k (hk : k < row.length) (hl : k < l.length), fitB row[k] l[k].kind = true) : fitsB l row = true := by
  have : ((row.zip l).all fun x => fitB x.1 x.2.kind) = true := by
    rw [List.all_eq_true]
    intro x hx
    obtain ⟨k, hk, rfl⟩ := List.getElem_of_mem hx
    rw [List.length_zip] at hk
    simpa using h k (by omega) (by omega)
  unfold fitsB
  rw [this, decide_eq_true h0]
  rfl
def FitTo (l : List AttrT) (row : List T3) (k : Nat) : Prop := ∀ j (_ : j < k) (hk : j < row.length) (hl : j < l.length), fitB row[j] l[j].kind = true
set_option maxRecDepth 100000 in
set_option maxHeartbeats 4000000 in
theorem fits2_any (n : Txt) (l : List AttrT) (row : List T3) (va vk rv : Value) (hl : l.length ≤ 4000) (hr : row.length ≤ 4000) (w : World) (ha : Attrs w va l) (hv : Vals w rv row) :
    Calls Tryz.prog 21 #[.agg #[str n, va, vk], rv] w (BoolPost w (fitsB l row)) := by
  obtain ⟨A, cap, rfl, hcap⟩ := ha.form
  obtain ⟨B, cb, rfl, hcb⟩ := hv.form
  have HA := Lib.hid ha
  have HV := Lib.hid hv
  clear ha hv
  by_cases h0 : row.length = l.length
  · have H0 := Lib.hid h0
    have q0 : ((row.length : Int) != (l.length : Int)) = false := by simp [h0]
    have hle : row.length ≤ l.length := by omega
    clear h0
    go_enter Tryz.func21, Tryz.ntmps21
    go_wp2_with fail
    go_loopw [14] (fun i wr => ∃ k : Nat, k ≤ row.length ∧ i = .int .i64 (k : Int) ∧ FitTo l row k ∧ Below (w.heap.size + 1) (w.alloc (.cells #[str n, .slice A l.length cap, vk] 44)) wr) (fun i _ => row.length - (intOf i).toNat)
    case atStart => exact ⟨0, by omega, by simp, fun j hj => by omega, Below.refl _ _⟩
    case round =>
      obtain ⟨k, hk, rfl, hty, hb⟩ := hrel
      have HT := Lib.hid hty
      have HB := Lib.hid hb
      have hsz : w.heap.size + 1 ≤ wr.heap.size := by have := hb.size; simpa using this
      have e1 : ∀ m, (wr.drewN m).cell? ⟨w.heap.size, 1, none⟩ = some (.slice A l.length cap) := fun m => (hb.cell (p := ⟨w.heap.size, 1, none⟩) (by simp)).trans (by simp [go_sem])
      have HB2 := Lib.hid (show Below w.heap.size w wr from below_up (below_box w _) hb (by simp))
      clear hty hb
      by_cases hlt : k < row.length
      · obtain ⟨_, _, b, off, rfl, hcell⟩ := Slc.spot HA.out (by omega)
        obtain ⟨_, _, b2, off2, rfl, hcell2⟩ := Slc.spot HV.out (by omega)
        obtain ⟨a, hx⟩ : ∃ a, l[k] = a := ⟨_, rfl⟩
        obtain ⟨y, hy⟩ : ∃ y, row[k] = y := ⟨_, rfl⟩
        have hk1 := hcell k (by omega)
        rw [hx] at hk1
        obtain ⟨wv, hat, _⟩ := hk1
        have hk2 := hcell2 k hlt
        rw [hy] at hk2
        have c1 : wr.cell? ⟨b, off + k * 6 + 1, none⟩ = some (.int .i64 a.kind) := (hat.below HB2.out).c1
        have y0 : wr.cell? ⟨b2, off2 + k * 3, none⟩ = some (.int .i64 y.1) := (hk2.below HB2.out).c0
        have y1 : wr.cell? ⟨b2, off2 + k * 3 + 1, none⟩ = some (.int .i64 y.2.1) := (hk2.below HB2.out).c1
        have y2 : wr.cell? ⟨b2, off2 + k * 3 + 2, none⟩ = some (str y.2.2) := (hk2.below HB2.out).c2
        have e1' : wr.cell? ⟨w.heap.size, 1, none⟩ = some (.slice (some ⟨b, off, none⟩) l.length cap) := e1 0
        have HX := Lib.hid hx
        have HY := Lib.hid hy
        have i1 : (0 : Int) ≤ (k : Int) := by omega
        have i2 : (k : Int) < (l.length : Int) := by omega
        have i3 : (k : Int) < (row.length : Int) := by omega
        clear hx hy hcell hcell2 hat hk2 e1
        obtain ⟨r, hr⟩ : ∃ r, fitB y a.kind = r := ⟨_, rfl⟩
        have C := fun W => fits_any y a.kind W
        rw [hr] at C
        replace C := Lib.hid C
        have HR := Lib.hid hr
        clear hr
        go_wp2_with fail
        go_region_held3 (fun w' => w'.cell? ⟨b, off + k * 6 + 1, none⟩ = some (.int .i64 a.kind) ∧ w'.cell? ⟨b2, off2 + k * 3, none⟩ = some (.int .i64 y.1) ∧ w'.cell? ⟨b2, off2 + k * 3 + 1, none⟩ = some (.int .i64 y.2.1) ∧ w'.cell? ⟨b2, off2 + k * 3 + 2, none⟩ = some (str y.2.2) ∧ w'.cell? ⟨w.heap.size, 1, none⟩ = some (.slice (some ⟨b, off, none⟩) l.length cap)) (go_keep)
          (first | (go_at_call 41; refine (C.out _).mono ?_; rintro e v1 ⟨rfl, hv1⟩; have g1 := Lib.hid ((below_drewN _ wr 1).trans hv1); clear hv1; have p0 := cellB g1.out c1; have p1 := cellB g1.out y0; have p2 := cellB g1.out y1; have q0 := cellB g1.out y2; have q1 := cellB g1.out e1'))
        have HB3 := Lib.hid (HB.out.trans (g1.out.mono hsz))
        have HB4 := Lib.hid (HB2.out.trans (g1.out.mono HB2.out.size))
        clear g1 p0 p1 p2 q0 q1 c1 y0 y1 y2 e1' C
        cases r
        · have HF := Lib.hid (fitsB_bad (l := l) (row := row) hlt (by omega) (by rw [HX.out, HY.out]; exact HR.out))
          go_wp2_with fail
          go_ret
          exact ⟨bool_ret HF.out.symm, HB4.out⟩
        · have HT2 : Hid (FitTo l row (k + 1)) := Lib.hid (fun j hj hk' hl' => by
            by_cases e : j = k
            · subst e; rw [HX.out, HY.out]; exact HR.out
            · exact HT.out j (by omega) hk' hl')
          go_wp2_with fail
          go_roundw
          case rel => exact ⟨k + 1, by omega, by simp, HT2.out, HB3.out⟩
          case measure => simp [intOf]; omega
      · have HF := Lib.hid (fitsB_good (l := l) (row := row) H0.out (fun j hj hl' => HT.out j (by omega) hj hl'))
        go_wp2_with fail
        go_ret
        exact ⟨bool_ret HF.out.symm, HB2.out⟩
  · have HF := Lib.hid (fitsB_len (l := l) (row := row) h0)
    have q0 : ((row.length : Int) != (l.length : Int)) = true := by simp; omega
    go_enter Tryz.func21, Tryz.ntmps21
    go_wp2_with fail
    go_ret
    exact ⟨bool_ret HF.out.symm, below_box w _⟩
end Go.Proofs.YteokcgfbhaeklaaGreatDoor
