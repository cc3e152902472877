/- The contracts of extendRow, shortenRow, keepRow and castRow, on a row of the call's own. -/
import Derived.Test.YteokcgfbhaeklaaGreatDoorScDel
import Derived.Test.YteokcgfbhaeklaaGreatDoorPVB
import Derived.Test.YteokcgfbhaeklaaGreatDoorScApB
namespace Go.Proofs.YteokcgfbhaeklaaGreatDoor
open Go.RowKit

abbrev OwnV (w : World) (base : Nat) (v : Value) (l : List T3) : Prop := w.ownsRow base 26 3 v l.length (l.flatMap valC)
/-- What a function returns that has a row and an error. -/
def RowPost (base : Nat) (w : World) (r : List T3 × Int) (e : Ending) (w' : World) : Prop := ∃ v, e = .returned (.tuple #[v, .int .i64 r.2]) ∧ Vals w' v r.1 ∧ Below base w w'
theorem rowT_1 {row : List T3} {col : Nat} {c : ChgT} (h : c.kind = 1) : rowT row col c = (row ++ [c.dft], 0) := if_pos h
theorem rowT_2 {row : List T3} {col : Nat} {c : ChgT} (h : c.kind = 2) : rowT row col c = (row.eraseIdx col, 0) := by unfold rowT; rw [if_neg (by omega), if_pos h]
theorem rowT_3 {row : List T3} {col : Nat} {c : ChgT} (h : c.kind = 3) : rowT row col c = (row, 0) := by unfold rowT; rw [if_neg (by omega), if_neg (by omega), if_pos h]
theorem rowT_4 {row : List T3} {col : Nat} {c : ChgT} (h : c.kind = 4) : rowT row col c = if (castV (row.getD col z3) c.to).2 ≠ 0 then ([], 15) else (row.set col (castV (row.getD col z3) c.to).1, 0) := by unfold rowT; rw [if_neg (by omega), if_neg (by omega), if_neg (by omega)]
theorem src_val (w : World) (t : TypeId) (v : T3) (n : Nat) (hn : w.heap.size = n) : Src (w.alloc (.cells (valC v).toArray t)) (some ⟨n, 0, none⟩) 1 1 3 (valC v) := by
  subst hn
  exact ⟨rfl, Nat.le_refl _, (fun e => by cases e), fun ad e j u hj => by
    cases e
    exact World.news_of_block (heap_alloc_new w _) j u (by simpa using hj), fun u hu => by
    simp only [valC, List.mem_cons, List.not_mem_nil, or_false] at hu
    rcases hu with rfl | rfl | rfl <;> rfl⟩
theorem own_below {w w' : World} {base : Nat} {e : TypeId} {size n : Nat} {v : Value} {xs : List Value} (h : w.ownsRow base e size v n xs) (hb : Below w.heap.size w w') : w'.ownsRow base e size v n xs := own_heap h (fun g e => hb.block g (h.lt g e).2)

set_option maxRecDepth 100000 in
set_option maxHeartbeats 1000000 in
theorem extend_any (row : List T3) (v : Value) (col : Int) (c : ChgT) (base : Nat) (hk : c.kind = 1) (hl : row.length ≤ 4000) (w : World) (hbase : base ≤ w.heap.size) (h : OwnV w base v row) :
    Calls Tryz.prog 80 #[v, .int .i64 col, Cv c] w (RowPost base w (rowT row col.toNat c)) := by
  rw [rowT_1 hk]
  obtain ⟨Av, cv, rfl⟩ := own_isSl h
  have H := Lib.hid h
  clear h hk
  go_enter Tryz.func80, Tryz.ntmps80
  go_wp2_with (at_builtin; go_must (refine wpList_app elemVal rfl (.tmp 8) (.tmp 11) rfl (base := base) (by rfl) ((H.out.alloc _).alloc _) (by rfl) (src_val (w.alloc _) 26 c.dft (w.heap.size + 1) (by simp)) (by omega) (by simp; omega) ?_); intro v' w1 hown hg hat)
  have HO := Lib.hid (show OwnV w1 base v' (row ++ [c.dft]) by unfold OwnV; rw [List.length_append, List.flatMap_append]; simpa using hown)
  have HB := Lib.hid (show Below base w w1 from (((Below.refl _ w).alloc hbase _).alloc (by simp; omega) _).grown hg (by simp; omega) (fun k hk => (H.out.lt k hk).1))
  clear hown hg hat
  go_ret2
  exact ⟨v', rfl, vals_of_own rfl HO.out, HB.out⟩
theorem shorten_any (row : List T3) (v : Value) (col : Nat) (c : ChgT) (base : Nat) (hk : c.kind = 2) (hc : col < row.length) (hl : row.length ≤ 4000) (w : World) (hbase : base ≤ w.heap.size) (h : OwnV w base v row) :
    Calls Tryz.prog 84 #[v, .int .i64 (col : Int), Cv c] w (RowPost base w (rowT row col c)) := by
  rw [rowT_2 hk]
  obtain ⟨g, cp, rfl, hcp, hg1, hg2⟩ := own_form h (by omega)
  have HD := Lib.hid (fun W (hW : Below w.heap.size w W) => by
    have := delV_any valC_len row base g cp col (col + 1) rfl hc hl W (own_below h hW) (fun p _ u hu => by
      simp only [valC, List.mem_cons, List.not_mem_nil, or_false] at hu
      rcases hu with rfl | rfl | rfl <;> rfl)
    rw [show ((col + 1 : Nat) : Int) = (col : Int) + 1 from by simp] at this
    exact this)
  have hcol : (col : Int) ≤ 4000 := by omega
  have HC := Lib.hid hc
  clear h hk hc
  go_enter Tryz.func84, Tryz.ntmps84
  go_wp2_with fail
  refine (HD.out _ (below_box w _)).mono ?_
  rintro e w1 ⟨rfl, hown, hg⟩
  have HLE := Lib.hid (show (row.eraseIdx col).length = row.length - 1 by rw [List.length_eraseIdx, if_pos HC.out])
  have HO := Lib.hid (show OwnV w1 base (.slice (some ⟨g, 0, none⟩) (row.length - 1) cp) (row.eraseIdx col) by
    unfold OwnV
    rw [List.length_eraseIdx, if_pos HC.out]
    exact hown)
  have HB := Lib.hid (show Below base w w1 from ((Below.refl _ w).alloc hbase _).grown hg (by simp; omega) (fun k hk => by cases hk; exact hg1))
  clear hown hg
  go_wp2_with fail
  go_ret2
  exact ⟨_, rfl, vals_of_own rfl HO.out, HB.out⟩
theorem keep_any (row : List T3) (v : Value) (col : Int) (c : ChgT) (base : Nat) (hk : c.kind = 3) (w : World) (hbase : base ≤ w.heap.size) (h : OwnV w base v row) :
    Calls Tryz.prog 88 #[v, .int .i64 col, Cv c] w (RowPost base w (rowT row col.toNat c)) := by
  rw [rowT_3 hk]
  have H := Lib.hid h
  clear h hk
  go_enter Tryz.func88, Tryz.ntmps88
  go_wp2_with fail
  go_ret2
  exact ⟨v, rfl, (vals_of_own rfl H.out).below (below_box w _), (Below.refl _ w).alloc hbase _⟩
theorem castV_eq (v : T3) (k : Int) : castV v k = (((L2.cast v.1 v.2.1 v.2.2 k).1, (L2.cast v.1 v.2.1 v.2.2 k).2.1, (L2.cast v.1 v.2.1 v.2.2 k).2.2.1), (L2.cast v.1 v.2.1 v.2.2 k).2.2.2) := rfl
set_option maxRecDepth 100000 in
set_option maxHeartbeats 4000000 in
theorem castRow_any (row : List T3) (v : Value) (col : Nat) (c : ChgT) (base : Nat) (hk : c.kind = 4) (hc : col < row.length) (hl : row.length ≤ 4000) (w : World) (hbase : base ≤ w.heap.size) (he : L2.Env w) (h : OwnV w base v row) :
    Calls Tryz.prog 92 #[v, .int .i64 (col : Int), Cv c] w (RowPost base w (rowT row col c)) := by
  rw [rowT_4 hk]
  obtain ⟨g, cp, rfl, hcp, hg1, hg2⟩ := own_form h (by omega)
  obtain ⟨x, hx⟩ : ∃ x, row[col] = x := ⟨_, rfl⟩
  have egd : row.getD col z3 = x := by rw [← hx]; simp [List.getD, hc]
  rw [egd]
  have hcells : ∀ j, j < 3 → w.cell? ⟨g, col * 3 + j, none⟩ = (valC x)[j]? := fun j hj => by
    rw [h.cellAt _ (by omega), flat_get valC_len row col j hc hj, hx]
  obtain ⟨⟨⟨a, n, t⟩, er⟩, hcv⟩ : ∃ r, castV x c.to = r := ⟨_, rfl⟩
  rw [hcv]
  obtain ⟨res, hres⟩ : ∃ r : List T3 × Int, (if ((a, n, t), er).2 ≠ 0 then ([], 15) else (row.set col ((a, n, t), er).1, 0)) = r := ⟨_, rfl⟩
  rw [hres]
  have HRES := Lib.hid hres
  clear hres
  have CC := Lib.hid (fun W (hW : Below w.heap.size w W) => by
    have := L2.cast_any x.1 x.2.1 x.2.2 c.to W (he.below hW)
    rw [show L2.cast x.1 x.2.1 x.2.2 c.to = (a, n, t, er) by rw [castV_eq] at hcv; injection hcv with h1 h2; injection h1 with h1 h3; injection h3 with h3 h4; exact Prod.ext h1 (Prod.ext h3 (Prod.ext h4 h2))] at this
    exact this)
  obtain ⟨W, hW⟩ : ∃ W, w.alloc (.cells #[.int .i64 c.kind, str c.table, str c.attr, str c.name, .int .i64 c.to, .int .i64 c.dft.1, .int .i64 c.dft.2.1, str c.dft.2.2] 28) = W := ⟨_, rfl⟩
  have HW := Lib.hid hW
  have B : Below w.heap.size w W := by rw [← hW]; exact below_box w _
  have x0 := cellB B (hcells 0 (by decide))
  have x1 : W.cell? ⟨g, col * 3 + 1, none⟩ = some (.int .i64 x.2.1) := cellB B (hcells 1 (by decide))
  have x2 : W.cell? ⟨g, col * 3 + 2, none⟩ = some (str x.2.2) := cellB B (hcells 2 (by decide))
  replace x0 : W.cell? ⟨g, col * 3, none⟩ = some (.int .i64 x.1) := x0
  have k4 : W.cell? ⟨w.heap.size, 4, none⟩ = some (.int .i64 c.to) := by rw [← hW]; simp [go_sem]
  have HR := Lib.hid (own_below h B)
  have HB := Lib.hid B
  have hsz : w.heap.size < W.heap.size := by rw [← hW]; simp
  have xa0 := Cell.alloc x0 (.cells #[.int .i64 0, .int .i64 0, .string ⟨#[]⟩] 26)
  have xa1 := Cell.alloc x1 (.cells #[.int .i64 0, .int .i64 0, .string ⟨#[]⟩] 26)
  have xa2 := Cell.alloc x2 (.cells #[.int .i64 0, .int .i64 0, .string ⟨#[]⟩] 26)
  have xa4 := Cell.alloc k4 (.cells #[.int .i64 0, .int .i64 0, .string ⟨#[]⟩] 26)
  have nq1 : ¬ g = W.heap.size := by omega
  have nq2 : ¬ W.heap.size = g := by omega
  have nq3 : ¬ w.heap.size = W.heap.size := by omega
  have nq4 : ¬ W.heap.size = w.heap.size := by omega
  have i1 : (0 : Int) ≤ (col : Int) := by omega
  have i2 : (col : Int) < (row.length : Int) := by omega
  have HXR := Lib.hid hx
  have HCO := Lib.hid hc
  clear hcells hx egd hcv hW B he h hk
  go_enter Tryz.func92, Tryz.ntmps92
  go_wp2_with fail
  rw [HW.out]
  go_region_held3 (fun w' => w'.cell? ⟨g, col * 3, none⟩ = some (.int .i64 x.1) ∧ w'.cell? ⟨g, col * 3 + 1, none⟩ = some (.int .i64 x.2.1) ∧ w'.cell? ⟨g, col * 3 + 2, none⟩ = some (str x.2.2) ∧ w'.cell? ⟨w.heap.size, 4, none⟩ = some (.int .i64 c.to)) (go_keep)
    (first | (go_at_call 27; refine (CC.out _ (HB.out.trans (below_drewN _ _ 1))).mono ?_; rintro e w2 ⟨rfl, hb⟩; have hb1 := (below_drewN W.heap.size W 1).trans hb; have g1 := Lib.hid hb1; have p0 := cellB hb1 x0; have p1 := cellB hb1 x1; have p2 := cellB hb1 x2; have p4 := cellB hb1 k4; have pa0 := Cell.alloc p0 (.cells #[.int .i64 a, .int .i64 n, str t] 26); have pa1 := Cell.alloc p1 (.cells #[.int .i64 a, .int .i64 n, str t] 26); have pa2 := Cell.alloc p2 (.cells #[.int .i64 a, .int .i64 n, str t] 26); have pa4 := Cell.alloc p4 (.cells #[.int .i64 a, .int .i64 n, str t] 26); clear hb hb1) | (go_at_call 27; refine (CC.out _ (HB.out.trans (((below_box W _).trans (below_drewN _ _ 1)).mono HB.out.size))).mono ?_; rintro e w2 ⟨rfl, hb⟩; have hb0 := Lib.hid hb; have hb1 := ((below_box W (.cells #[.int .i64 0, .int .i64 0, .string ⟨#[]⟩] 26)).trans (below_drewN _ _ 1)).trans (hb.mono (by simp)); have g1 := Lib.hid hb1; have p0 := cellB hb1 x0; have p1 := cellB hb1 x1; have p2 := cellB hb1 x2; have p4 := cellB hb1 k4; have z0 : w2.cell? ⟨W.heap.size, 0, none⟩ = some (.int .i64 0) := cellB hb (by simp [go_sem]); have z1 : w2.cell? ⟨W.heap.size, 1, none⟩ = some (.int .i64 0) := cellB hb (by simp [go_sem]); have z2 : w2.cell? ⟨W.heap.size, 2, none⟩ = some (.string ⟨#[]⟩) := cellB hb (by simp [go_sem]); have y0 := frozenB (v := .int .i64 0) (o := 0) (b := W.heap.size) hb (by simp [go_sem]) (by simp [go_sem]); have y1 := frozenB (v := .int .i64 0) (o := 1) (b := W.heap.size) hb (by simp [go_sem]) (by simp [go_sem]); have y2 := frozenB (v := .string ⟨#[]⟩) (o := 2) (b := W.heap.size) hb (by simp [go_sem]) (by simp [go_sem]); clear hb hb1))
  · have HBF0 := Lib.hid ((HB.out.trans (g1.out.mono HB.out.size)).trans ((below_box w2 (.cells #[.int .i64 a, .int .i64 n, str t] 26)).mono (by have := g1.out.size; have := HB.out.size; omega)))
    have HRW0 := Lib.hid (own_below (own_below HR.out g1.out) (below_box w2 (.cells #[.int .i64 a, .int .i64 n, str t] 26)))
    have v0 : (w2.alloc (.cells #[.int .i64 a, .int .i64 n, str t] 26)).cell? ⟨w2.heap.size, 0, none⟩ = some (.int .i64 a) := by simp [go_sem]
    have v1 : (w2.alloc (.cells #[.int .i64 a, .int .i64 n, str t] 26)).cell? ⟨w2.heap.size, 1, none⟩ = some (.int .i64 n) := by simp [go_sem]
    have v2 : (w2.alloc (.cells #[.int .i64 a, .int .i64 n, str t] 26)).cell? ⟨w2.heap.size, 2, none⟩ = some (str t) := by simp [go_sem]
    obtain ⟨WF, hWF⟩ : ∃ WF, w2.alloc (.cells #[.int .i64 a, .int .i64 n, str t] 26) = WF := ⟨_, rfl⟩
    rw [hWF] at HBF0 HRW0 v0 v1 v2 pa0 pa1 pa2
    rw [hWF]
    have HBF := HBF0
    have HRW := HRW0
    clear hWF p0 p1 p2 p4 x0 x1 x2 k4 xa0 xa1 xa2 xa4 pa4
    by_cases her : er = 0
    · have HF := Lib.hid (show res = (row.set col (a, n, t), 0) by rw [← HRES.out, if_neg (by simpa using her)])
      subst her
      have f0 := HRW.out.frozenAt (col * 3)
      have f1 := HRW.out.frozenAt (col * 3 + 1)
      have f2 := HRW.out.frozenAt (col * 3 + 2)
      go_wp2_with fail
      go_ret2
      have s1 := (HRW.out.stored (col * 3 + 0) (.int .i64 a)).1
      rw [flat_set valC_len row col 0 HCO.out _ (a, x.2.1, x.2.2) (by decide) (by rw [HXR.out]; rfl)] at s1
      have s2 := (s1.stored (col * 3 + 1) (.int .i64 n)).1
      rw [flat_set valC_len _ col 1 (by simpa using HCO.out) _ (a, n, x.2.2) (by decide) (by rw [List.getElem_set_self]; rfl), List.set_set] at s2
      have s3 := (s2.stored (col * 3 + 2) (str t)).1
      rw [flat_set valC_len _ col 2 (by simpa using HCO.out) _ (a, n, t) (by decide) (by rw [List.getElem_set_self]; rfl), List.set_set] at s3
      exact ⟨.slice (some ⟨g, 0, none⟩) row.length cp, by rw [HF.out]; rfl, by rw [HF.out]; exact vals_of_own (by simp) s3, (((HBF.out.mono hbase).setCell (p := ⟨g, col * 3, none⟩) hg1 _).setCell (p := ⟨g, col * 3 + 1, none⟩) hg1 _).setCell (p := ⟨g, col * 3 + 2, none⟩) hg1 _⟩
    · have HF := Lib.hid (show res = ([], 15) by rw [← HRES.out, if_pos (by simpa using her)])
      have q1 : (er != 0) = true := by simpa using her
      clear her
      go_wp2_with fail
      go_ret2
      exact ⟨.slice none 0 0, by rw [HF.out]; rfl, by rw [HF.out]; exact Slc.nil _, HBF.out.mono hbase⟩
  · have hzz := cellLt z0
    have HBF0 := Lib.hid ((((HB.out.trans (g1.out.mono HB.out.size)).setCell (p := ⟨W.heap.size, 0, none⟩) (by show w.heap.size ≤ W.heap.size; omega) (.int .i64 a)).setCell (p := ⟨W.heap.size, 1, none⟩) (by show w.heap.size ≤ W.heap.size; omega) (.int .i64 n)).setCell (p := ⟨W.heap.size, 2, none⟩) (by show w.heap.size ≤ W.heap.size; omega) (str t))
    have HRW0 := Lib.hid (own_heap (w' := ((w2.setCell ⟨W.heap.size, 0, none⟩ (.int .i64 a)).setCell ⟨W.heap.size, 1, none⟩ (.int .i64 n)).setCell ⟨W.heap.size, 2, none⟩ (str t)) (own_below HR.out g1.out) (fun k e => by
      cases e
      rw [Below.heap_setCell _ _ _ _ (by show g ≠ W.heap.size; omega), Below.heap_setCell _ _ _ _ (by show g ≠ W.heap.size; omega), Below.heap_setCell _ _ _ _ (by show g ≠ W.heap.size; omega)]))
    have v0 : (((w2.setCell ⟨W.heap.size, 0, none⟩ (.int .i64 a)).setCell ⟨W.heap.size, 1, none⟩ (.int .i64 n)).setCell ⟨W.heap.size, 2, none⟩ (str t)).cell? ⟨W.heap.size, 0, none⟩ = some (.int .i64 a) := by
      rw [World.cell?_setCell_other _ _ _ _ (by simp), World.cell?_setCell_other _ _ _ _ (by simp)]
      exact World.cell?_setCell_same _ _ _ z0
    have v1 : (((w2.setCell ⟨W.heap.size, 0, none⟩ (.int .i64 a)).setCell ⟨W.heap.size, 1, none⟩ (.int .i64 n)).setCell ⟨W.heap.size, 2, none⟩ (str t)).cell? ⟨W.heap.size, 1, none⟩ = some (.int .i64 n) := by
      rw [World.cell?_setCell_other _ _ _ _ (by simp)]
      have zz : (w2.setCell ⟨W.heap.size, 0, none⟩ (.int .i64 a)).cell? ⟨W.heap.size, 1, none⟩ = some (.int .i64 0) := by rw [World.cell?_setCell_other _ _ _ _ (by simp)]; exact z1
      exact World.cell?_setCell_same _ _ _ zz
    have v2 : (((w2.setCell ⟨W.heap.size, 0, none⟩ (.int .i64 a)).setCell ⟨W.heap.size, 1, none⟩ (.int .i64 n)).setCell ⟨W.heap.size, 2, none⟩ (str t)).cell? ⟨W.heap.size, 2, none⟩ = some (str t) := by
      have zz : ((w2.setCell ⟨W.heap.size, 0, none⟩ (.int .i64 a)).setCell ⟨W.heap.size, 1, none⟩ (.int .i64 n)).cell? ⟨W.heap.size, 2, none⟩ = some (.string ⟨#[]⟩) := by rw [World.cell?_setCell_other _ _ _ _ (by simp), World.cell?_setCell_other _ _ _ _ (by simp)]; exact z2
      exact World.cell?_setCell_same _ _ _ zz
    have keep : ∀ {o : Nat} {v : Value}, w2.cell? ⟨g, o, none⟩ = some v → (((w2.setCell ⟨W.heap.size, 0, none⟩ (.int .i64 a)).setCell ⟨W.heap.size, 1, none⟩ (.int .i64 n)).setCell ⟨W.heap.size, 2, none⟩ (str t)).cell? ⟨g, o, none⟩ = some v := fun {o v} h => by
      rw [World.cell?_setCell_other _ _ _ _ (by simp <;> omega), World.cell?_setCell_other _ _ _ _ (by simp <;> omega), World.cell?_setCell_other _ _ _ _ (by simp <;> omega)]
      exact h
    have pa0 := keep p0
    have pa1 := keep p1
    have pa2 := keep p2
    clear keep
    obtain ⟨WF, hWF⟩ : ∃ WF, ((w2.setCell ⟨W.heap.size, 0, none⟩ (.int .i64 a)).setCell ⟨W.heap.size, 1, none⟩ (.int .i64 n)).setCell ⟨W.heap.size, 2, none⟩ (str t) = WF := ⟨_, rfl⟩
    rw [hWF] at HBF0 HRW0 v0 v1 v2 pa0 pa1 pa2
    rw [hWF]
    have HBF := HBF0
    have HRW := HRW0
    clear hWF p0 p1 p2 p4 x0 x1 x2 k4 xa0 xa1 xa2 xa4 z0 z1 z2 y0 y1 y2
    by_cases her : er = 0
    · have HF := Lib.hid (show res = (row.set col (a, n, t), 0) by rw [← HRES.out, if_neg (by simpa using her)])
      subst her
      have f0 := HRW.out.frozenAt (col * 3)
      have f1 := HRW.out.frozenAt (col * 3 + 1)
      have f2 := HRW.out.frozenAt (col * 3 + 2)
      go_wp2_with fail
      go_ret2
      have s1 := (HRW.out.stored (col * 3 + 0) (.int .i64 a)).1
      rw [flat_set valC_len row col 0 HCO.out _ (a, x.2.1, x.2.2) (by decide) (by rw [HXR.out]; rfl)] at s1
      have s2 := (s1.stored (col * 3 + 1) (.int .i64 n)).1
      rw [flat_set valC_len _ col 1 (by simpa using HCO.out) _ (a, n, x.2.2) (by decide) (by rw [List.getElem_set_self]; rfl), List.set_set] at s2
      have s3 := (s2.stored (col * 3 + 2) (str t)).1
      rw [flat_set valC_len _ col 2 (by simpa using HCO.out) _ (a, n, t) (by decide) (by rw [List.getElem_set_self]; rfl), List.set_set] at s3
      exact ⟨.slice (some ⟨g, 0, none⟩) row.length cp, by rw [HF.out]; rfl, by rw [HF.out]; exact vals_of_own (by simp) s3, (((HBF.out.mono hbase).setCell (p := ⟨g, col * 3, none⟩) hg1 _).setCell (p := ⟨g, col * 3 + 1, none⟩) hg1 _).setCell (p := ⟨g, col * 3 + 2, none⟩) hg1 _⟩
    · have HF := Lib.hid (show res = ([], 15) by rw [← HRES.out, if_pos (by simpa using her)])
      have q1 : (er != 0) = true := by simpa using her
      clear her
      go_wp2_with fail
      go_ret2
      exact ⟨.slice none 0 0, by rw [HF.out]; rfl, by rw [HF.out]; exact Slc.nil _, HBF.out.mono hbase⟩
end Go.Proofs.YteokcgfbhaeklaaGreatDoor

/- What Convert returns. -/
namespace Go.Proofs.YteokcgfbhaeklaaGreatDoor
open Go.RowKit

theorem conv_err {s : List TabT} {c : ChgT} {er : Int} (h : (locT s c).1 = er) (h0 : er ≠ 0) (n : Int) (row : List T3) : convT s c n row = ([], er) := by unfold convT; rw [h, if_pos h0]
theorem conv_out {s : List TabT} {c : ChgT} (h : (locT s c).1 = 0) (n : Int) (row : List T3) (hn : n < 0 ∨ (s.length : Int) ≤ n) : convT s c n row = ([], 1) := by
  unfold convT
  rw [h, if_neg (by simp)]
  rcases hn with hn | hn
  · cases s[n.toNat]? with
    | none => rfl
    | some t => simp only []; rw [if_pos (Or.inl hn)]
  · rw [List.getElem?_eq_none (by omega)]
theorem conv_fit {s : List TabT} {c : ChgT} (h : (locT s c).1 = 0) (m : Nat) (hm : m < s.length) (row : List T3) (hf : fitsB s[m].attrs row = false) : convT s c (m : Int) row = ([], 1) := by
  unfold convT
  rw [h, if_neg (by simp), Int.toNat_natCast, List.getElem?_eq_getElem hm]
  simp only []
  rw [if_pos (Or.inr hf)]
theorem conv_yes {s : List TabT} {c : ChgT} {i : Nat} {y : Int} (h : locT s c = (0, (i : Int), y)) (m : Nat) (hm : m < s.length) (row : List T3) (hf : fitsB s[m].attrs row = true) : convT s c (m : Int) row = if m ≠ i then (row, 0) else rowT row y.toNat c := by
  unfold convT
  rw [h]
  simp only [ne_eq, not_true, if_false, Int.toNat_natCast]
  rw [List.getElem?_eq_getElem hm]
  simp only []
  rw [if_neg (by rw [hf]; simp)]
  by_cases e : m = i
  · subst e; simp
  · rw [if_pos (by omega), if_pos e]
theorem fits_len {l : List AttrT} {row : List T3} (h : fitsB l row = true) : row.length = l.length := by
  unfold fitsB at h
  simp only [Bool.and_eq_true, decide_eq_true_eq] at h
  exact h.1
/-- A row that is copied is the call's own. -/
theorem cloneRow_any (row : List T3) (A : Option Addr) (cap : Nat) (hl : row.length ≤ 4000) (w : World) (h : Vals w (.slice A row.length cap) row) :
    Calls Tryz.prog 34 #[.slice A row.length cap] w fun e w' => ∃ v, e = .returned v ∧ OwnV w' w.heap.size v row ∧ Below w.heap.size w w' :=
  cloneV_any A row.length cap (row.flatMap valC) hl w (src_vals h).2
end Go.Proofs.YteokcgfbhaeklaaGreatDoor

