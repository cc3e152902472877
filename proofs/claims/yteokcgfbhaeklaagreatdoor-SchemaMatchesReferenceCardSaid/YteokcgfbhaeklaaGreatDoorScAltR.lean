/- The contract of rename: an attribute of a table of the call's own has another name, and its old one among its former names. -/
import Derived.Test.YteokcgfbhaeklaaGreatDoorScAltB
import Derived.Test.YteokcgfbhaeklaaGreatDoorScTab
namespace Go.Proofs.YteokcgfbhaeklaaGreatDoor
open Go.RowKit

set_option maxRecDepth 100000 in
set_option maxHeartbeats 4000000 in
theorem alterRename_any (lo hi g o : Nat) (t : TabT) (va vk : Value) (qs : List (AttrT × Value)) (col : Nat) (c : ChgT) (hk : c.kind = 3) (hcol : col < t.attrs.length) (hl : t.attrs.length ≤ 4000) (hlw : ∀ a ∈ t.attrs, a.was.length ≤ 4000) (hg : g < lo) (w : World)
    (hat : TabW w g o va vk t.name) (ho : OwnT w lo hi (t, va, vk) qs) :
    Calls Tryz.prog 87 #[.pointer (some ⟨g, o, none⟩), .int .i64 (col : Int), Cv c] w (AltPost w lo hi g o (altT t col c)) := by
  have hql : qs.length = t.attrs.length := by rw [← ho.fst, List.length_map]
  have hcq : col < qs.length := by omega
  have ha := ho.attrs
  obtain ⟨ga, ca, e, hca, hga, hga2⟩ := own_form ha (by omega)
  replace e : va = .slice (some ⟨ga, 0, none⟩) qs.length ca := e
  subst e
  obtain ⟨⟨a, wv⟩, hq⟩ : ∃ q, qs[col] = q := ⟨_, rfl⟩
  have hgh : ga < hi := ho.attrsHi ga rfl
  have hx : ∀ j, j < 6 → w.cell? ⟨ga, col * 6 + j, none⟩ = (attrC (a, wv))[j]? := fun j hj => by
    rw [ha.cellAt _ (by omega), flat_get attrC_len qs col j hcq hj, hq]
  have x0 : w.cell? ⟨ga, col * 6, none⟩ = some (str a.name) := hx 0 (by decide)
  have x2 : w.cell? ⟨ga, col * 6 + 2, none⟩ = some wv := hx 2 (by decide)
  have xf : ∀ j, w.frozen? ⟨ga, j, none⟩ = false := fun j => ha.frozenAt j
  have xf0 := xf (col * 6); have xf2 := xf (col * 6 + 2)
  have hws : OwnS w lo wv a.was := by
    have := ho.was _ (List.getElem_mem hcq)
    rwa [hq] at this
  obtain ⟨Aw, cw, rfl⟩ := own_isSl hws
  have HWS := Lib.hid hws
  have hwl : a.was.length ≤ 4000 := hlw a (by rw [← ho.fst]; exact List.mem_map.2 ⟨qs[col], List.getElem_mem hcq, by rw [hq]⟩)
  have HWN : Hid (∀ k, (Value.slice Aw a.was.length cw).ownBlock = some k → k ≠ ga ∧ k ≠ g) := Lib.hid (fun k ek => ⟨fun q => by subst q; exact own_ne hws ha (by decide) k ek rfl, by have := (hws.lt k ek).1; omega⟩)
  have y1 : w.cell? ⟨g, o + 1, none⟩ = some (.slice (some ⟨ga, 0, none⟩) qs.length ca) := hat.c1
  have HAT := Lib.hid hat
  have HO := Lib.hid ho
  have HQ := Lib.hid hq
  have HK := Lib.hid hk
  have HL := Lib.hid hql
  have i1 : (0 : Int) ≤ (col : Int) := by omega
  have i2 : (col : Int) < (qs.length : Int) := by omega
  have hne1 : g ≠ ga := by omega
  have B := below_box w (.cells #[.int .i64 c.kind, str c.table, str c.attr, str c.name, .int .i64 c.to, .int .i64 c.dft.1, .int .i64 c.dft.2.1, str c.dft.2.2] 28)
  have z0 := cellB B x0; have z2 := cellB B x2; have zy := cellB B y1
  have n0 := frozenB B x0 xf0; have n2 := frozenB B x2 xf2
  have HB := Lib.hid B
  clear hx xf xf0 xf2 x0 x2 hat ho hq hk B ha hql hws hlw
  go_enter Tryz.func87, Tryz.ntmps87
  go_wp2_with fail
  obtain ⟨W, hW⟩ : ∃ W, w.alloc (.cells #[.int .i64 c.kind, str c.table, str c.attr, str c.name, .int .i64 c.to, .int .i64 c.dft.1, .int .i64 c.dft.2.1, str c.dft.2.2] 28) = W := ⟨_, rfl⟩
  rw [hW]
  rw [hW] at z0 z2 zy n0 n2 HB
  have k3 : W.cell? ⟨w.heap.size, 3, none⟩ = some (str c.name) := by rw [← hW]; simp [go_sem]
  have hszW : w.heap.size ≤ W.heap.size := by rw [← hW]; simp
  obtain ⟨X, hX⟩ : ∃ X, w.heap.size = X := ⟨_, rfl⟩
  have HX := Lib.hid hX
  rw [hX] at k3
  rw [hX]
  have hne2 : ¬ ga = g := by omega
  have hne3 : ¬ X = ga := by omega
  have hne4 : ¬ ga = X := by omega
  have HOW : Hid (OwnS W lo (.slice Aw a.was.length cw) a.was) := Lib.hid (own_heap HWS.out (fun k ek => HB.out.block k (HWS.out.lt k ek).2))
  have HWX : Hid (∀ k, (Value.slice Aw a.was.length cw).ownBlock = some k → k < X) := Lib.hid (fun k ek => by have := (HWS.out.lt k ek).2; omega)
  have hloW : lo ≤ W.heap.size := by omega
  have hne5 : ¬ ga = W.heap.size := by omega
  have hne6 : ¬ W.heap.size = ga := by omega
  have za2 := Cell.alloc z2 (.cells #[str a.name] 9)
  have za0 := Cell.alloc z0 (.cells #[str a.name] 9)
  clear hW hX
  go_region_law (refine step_app elemStr rfl (.tmp 17) (.tmp 22) rfl (base := lo) (by rfl) (HOW.out.alloc _) (by rfl) ((src_new W _ _ rfl).drew) (by omega) (by simp; omega) ?_; intro v1 W1 hown hg1 hat1; have HOW1 := Lib.hid hown; have HG1 := Lib.hid hg1; obtain ⟨A1, cc1, rfl⟩ := own_isSl HOW1.out; clear hown hat1; have b0 : W1.cell? ⟨ga, col * 6, none⟩ = some (str a.name) := hg1.cell (a := ⟨ga, col * 6, none⟩) (Cell.alloc z0 _) (fun e => (HWN.out _ e.symm).1 rfl); have b2 : W1.cell? ⟨ga, col * 6 + 2, none⟩ = some (.slice Aw a.was.length cw) := hg1.cell (a := ⟨ga, col * 6 + 2, none⟩) (Cell.alloc z2 _) (fun e => (HWN.out _ e.symm).1 rfl); have b3 : W1.cell? ⟨X, 3, none⟩ = some (str c.name) := hg1.cell (a := ⟨X, 3, none⟩) (Cell.alloc k3 _) (fun e => Nat.lt_irrefl _ (HWX.out _ e.symm)); have f0 : W1.frozen? ⟨ga, col * 6, none⟩ = false := (hg1.frozen_far ⟨ga, col * 6, none⟩ (by simp; omega) (fun e => (HWN.out _ e.symm).1 rfl)).trans (frozenB ((below_box W _).trans (below_drewN _ _ 1)) z0 n0); have f2 : W1.frozen? ⟨ga, col * 6 + 2, none⟩ = false := (hg1.frozen_far ⟨ga, col * 6 + 2, none⟩ (by simp; omega) (fun e => (HWN.out _ e.symm).1 rfl)).trans (frozenB ((below_box W _).trans (below_drewN _ _ 1)) z2 n2); clear hg1)
  all_goals
    go_wp2_with fail
    go_end0
    have hqc : qs[col] = (a, .slice Aw a.was.length cw) := HQ.out
    have TG : Tch (fun b => b = ga ∨ (Value.slice Aw a.was.length cw).ownBlock = some b) w W1 := (Tch.of_below (HB.out.trans (((below_box W (.cells #[str a.name] 9)).trans (below_drewN _ _ 1)).mono (by omega)))).trans (Tch.of_grown HG1.out (fun i e => Or.inr e))
    have gaS : ∀ k, (Value.slice Aw a.was.length cw).ownBlock = some k → ¬ k = ga := fun k e => (HWN.out k e).1
    have r0 : W1.ownsRow lo 53 6 (.slice (some ⟨ga, 0, none⟩) qs.length ca) qs.length (qs.flatMap attrC) := own_heap HO.out.attrs (fun k e => by
      cases e
      have h1 := HG1.out.block ga (by simp; omega) (fun e => gaS ga e.symm rfl)
      refine h1.trans ?_
      have h2 := ((below_box W (.cells #[str a.name] 9)).trans (below_drewN _ _ 1)).block ga (by omega)
      exact h2.trans (HB.out.block ga hga2))
    have r1 := (r0.stored (col * 6 + 2) (.slice A1 (a.was.length + 1) cc1)).1
    rw [flat_set attrC_len qs col 2 hcq _ (a, .slice A1 (a.was.length + 1) cc1) (by decide) (by rw [hqc]; rfl)] at r1
    have r2 := (r1.stored (col * 6 + 0) (str c.name)).1
    rw [flat_set attrC_len _ col 0 (by simpa using hcq) _ ({ a with name := c.name, was := a.was ++ [a.name] }, .slice A1 (a.was.length + 1) cc1) (by decide) (by rw [List.getElem_set_self]; rfl), List.set_set] at r2
    have T2 := (TG.set (p := ⟨ga, col * 6 + 2, none⟩) (Or.inl rfl) (.slice A1 (a.was.length + 1) cc1)).set (p := ⟨ga, col * 6 + 0, none⟩) (Or.inl rfl) (str c.name)
    have hown : OwnS W1 lo (.slice A1 (a.was.length + 1) cc1) (a.was ++ [a.name]) := by
      have := HOW1.out
      unfold OwnS
      rw [List.length_append, List.map_append]
      exact this
    have hown2 : OwnS (((W1.setCell ⟨ga, col * 6 + 2, none⟩ (.slice A1 (a.was.length + 1) cc1))).setCell ⟨ga, col * 6 + 0, none⟩ (str c.name)) lo (.slice A1 (a.was.length + 1) cc1) (a.was ++ [a.name]) := own_heap hown (fun k ek => by
      have hn : ¬ k = ga := fun q => by subst q; exact own_ne hown r0 (by decide) k ek rfl
      rw [Below.heap_setCell _ _ _ _ hn, Below.heap_setCell _ _ _ _ hn])
    have D := alt_done HO.out (col := col) r2 hown2 T2 (fun j hj hne k ek q => by
        rcases q with q | q
        · subst q; exact own_ne (HO.out.was _ (List.getElem_mem hj)) HO.out.attrs (by decide) k ek rfl
        · have hap := List.pairwise_iff_getElem.1 HO.out.apart
          rcases Nat.lt_trichotomy j col with h | h | h
          · exact hap j col hj hcq h k ek (by rw [hqc]; exact q)
          · exact hne h
          · exact hap col j hcq hj h k (by rw [hqc]; exact q) ek)
      (fun k ek q => by
        rcases q with q | q
        · subst q; exact own_ne HO.out.key HO.out.attrs (by decide) k ek rfl
        · exact own_ne HO.out.key HWS.out (by decide) k ek q)
    have ea : t.attrs[col] = a := by rw [fst_get HO.out.fst hcq hcol, hqc]
    have hat := HAT.out
    have hgS : ¬ (g = ga ∨ (Value.slice Aw a.was.length cw).ownBlock = some g) := fun q => by
      rcases q with q | q
      · exact hne2 q.symm
      · exact (HWN.out g q).2 rfl
    refine ⟨rfl, fun w2 h2 => ?_, fun x _ => ?_, ?_⟩
    · rw [altT_rename t col c HK.out hcol, ea]
      have hgf := h2 g (Nat.le_refl _) (Nat.lt_of_lt_of_le hat.lt T2.size)
      have D2 := D w2 (fun b b1 b2 => h2 b (by omega) b2)
      exact ⟨_, _, ⟨cell_of_heap hgf (T2.cell hat.c0 hgS), cell_of_heap hgf (T2.cell hat.c1 hgS), cell_of_heap hgf (T2.cell hat.c2 hgS)⟩, D2.1, D2.2⟩
    · exact World.cell?_of_block (a := ⟨g, x, none⟩) (T2.block g hat.lt hgS)
    · exact T2.wider (fun b _ h => Or.inr (by
        rcases h with h | h
        · omega
        · have h1 := (HWS.out.lt b h).1
          have h2 := HO.out.wasHi _ (List.getElem_mem hcq) b (by rw [hqc]; exact h)
          omega))
end Go.Proofs.YteokcgfbhaeklaaGreatDoor
