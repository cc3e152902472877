/- The contract of cast: an attribute of a table of the call's own has another kind and default. -/
import Derived.Test.YteokcgfbhaeklaaGreatDoorScAltB
import Derived.Test.YteokcgfbhaeklaaGreatDoorScDel
namespace Go.Proofs.YteokcgfbhaeklaaGreatDoor
open Go.RowKit

set_option maxRecDepth 100000 in
set_option maxHeartbeats 4000000 in
theorem alterCast_any (lo hi g o : Nat) (t : TabT) (va vk : Value) (qs : List (AttrT × Value)) (col : Nat) (c : ChgT) (hk : c.kind = 4) (hcol : col < t.attrs.length) (hl : t.attrs.length ≤ 4000) (hg : g < lo) (w : World)
    (hat : TabW w g o va vk t.name) (ho : OwnT w lo hi (t, va, vk) qs) :
    Calls Tryz.prog 91 #[.pointer (some ⟨g, o, none⟩), .int .i64 (col : Int), Cv c] w (AltPost w lo hi g o (altT t col c)) := by
  have hql : qs.length = t.attrs.length := by rw [← ho.fst, List.length_map]
  have hcq : col < qs.length := by omega
  have ha := ho.attrs
  obtain ⟨ga, ca, e, hca, hga, hga2⟩ := own_form ha (by omega)
  replace e : va = .slice (some ⟨ga, 0, none⟩) qs.length ca := e
  subst e
  obtain ⟨⟨a, wv⟩, hq⟩ : ∃ q, qs[col] = q := ⟨_, rfl⟩
  have hgh : ga < hi := ho.attrsHi ga rfl
  have hx : ∀ j, j < 6 → w.cell? ⟨ga, col * 6 + j, none⟩ = (attrC (a, wv))[j]? := fun j hj => by
    rw [ha.cellAt _ (by omega), flat_get attrC_len qs col j hcq hj, hq]
  have x1 : w.cell? ⟨ga, col * 6 + 1, none⟩ = some (.int .i64 a.kind) := hx 1 (by decide)
  have x3 : w.cell? ⟨ga, col * 6 + 3, none⟩ = some (.int .i64 a.dft.1) := hx 3 (by decide)
  have x4 : w.cell? ⟨ga, col * 6 + 4, none⟩ = some (.int .i64 a.dft.2.1) := hx 4 (by decide)
  have x5 : w.cell? ⟨ga, col * 6 + 5, none⟩ = some (str a.dft.2.2) := hx 5 (by decide)
  have xf : ∀ j, w.frozen? ⟨ga, j, none⟩ = false := fun j => ha.frozenAt j
  have xf1 := xf (col * 6 + 1); have xf3 := xf (col * 6 + 3); have xf4 := xf (col * 6 + 4); have xf5 := xf (col * 6 + 5)
  have y1 : w.cell? ⟨g, o + 1, none⟩ = some (.slice (some ⟨ga, 0, none⟩) qs.length ca) := hat.c1
  have HAT := Lib.hid hat
  have HO := Lib.hid ho
  have HQ := Lib.hid hq
  have HK := Lib.hid hk
  have HL := Lib.hid hql
  have i1 : (0 : Int) ≤ (col : Int) := by omega
  have i2 : (col : Int) < (qs.length : Int) := by omega
  have hne1 : g ≠ ga := by omega
  have B := below_box w (.cells #[.int .i64 c.kind, str c.table, str c.attr, str c.name, .int .i64 c.to, .int .i64 c.dft.1, .int .i64 c.dft.2.1, str c.dft.2.2] 28)
  have z1 := cellB B x1; have z3 := cellB B x3; have z4 := cellB B x4; have z5 := cellB B x5; have zy := cellB B y1
  have n1 := frozenB B x1 xf1; have n3 := frozenB B x3 xf3; have n4 := frozenB B x4 xf4; have n5 := frozenB B x5 xf5
  have HB := Lib.hid B
  clear hx xf xf1 xf3 xf4 xf5 x1 x3 x4 x5 hat ho hq hk B ha hql
  go_enter Tryz.func91, Tryz.ntmps91
  go_wp2_with fail
  obtain ⟨W, hW⟩ : ∃ W, w.alloc (.cells #[.int .i64 c.kind, str c.table, str c.attr, str c.name, .int .i64 c.to, .int .i64 c.dft.1, .int .i64 c.dft.2.1, str c.dft.2.2] 28) = W := ⟨_, rfl⟩
  rw [hW]
  rw [hW] at z1 z3 z4 z5 zy n1 n3 n4 n5 HB
  have k4 : W.cell? ⟨w.heap.size, 4, none⟩ = some (.int .i64 c.to) := by rw [← hW]; simp [go_sem]
  have k5 : W.cell? ⟨w.heap.size, 5, none⟩ = some (.int .i64 c.dft.1) := by rw [← hW]; simp [go_sem]
  have k6 : W.cell? ⟨w.heap.size, 6, none⟩ = some (.int .i64 c.dft.2.1) := by rw [← hW]; simp [go_sem]
  have k7 : W.cell? ⟨w.heap.size, 7, none⟩ = some (str c.dft.2.2) := by rw [← hW]; simp [go_sem]
  obtain ⟨X, hX⟩ : ∃ X, w.heap.size = X := ⟨_, rfl⟩
  have HX := Lib.hid hX
  rw [hX] at k4 k5 k6 k7
  rw [hX]
  have hne2 : ¬ ga = g := by omega
  have hne3 : ¬ X = ga := by omega
  have hne4 : ¬ ga = X := by omega
  clear hW hX
  go_region_held3 (fun w' => w'.cell? ⟨g, o + 1, none⟩ = some (.slice (some ⟨ga, 0, none⟩) qs.length ca) ∧ w'.cell? ⟨X, 4, none⟩ = some (.int .i64 c.to)) (go_keep) (fail)
  go_wp2_with fail
  go_region_held3 (fun w' => w'.cell? ⟨g, o + 1, none⟩ = some (.slice (some ⟨ga, 0, none⟩) qs.length ca) ∧ w'.cell? ⟨X, 5, none⟩ = some (.int .i64 c.dft.1) ∧ w'.cell? ⟨X, 6, none⟩ = some (.int .i64 c.dft.2.1) ∧ w'.cell? ⟨X, 7, none⟩ = some (str c.dft.2.2)) (go_keep) (fail)
  go_wp2_with fail
  go_end0
  have hqc : qs[col] = (a, wv) := HQ.out
  have r0 : W.ownsRow lo 53 6 (.slice (some ⟨ga, 0, none⟩) qs.length ca) qs.length (qs.flatMap attrC) := own_heap HO.out.attrs (fun k e => by cases e; exact HB.out.block ga hga2)
  have r1 := (r0.stored (col * 6 + 1) (.int .i64 c.to)).1
  rw [flat_set attrC_len qs col 1 hcq _ ({ a with kind := c.to }, wv) (by decide) (by rw [hqc]; rfl)] at r1
  have r2 := (r1.stored (col * 6 + 3) (.int .i64 c.dft.1)).1
  rw [flat_set attrC_len _ col 3 (by simpa using hcq) _ ({ a with kind := c.to, dft := (c.dft.1, a.dft.2) }, wv) (by decide) (by rw [List.getElem_set_self]; rfl), List.set_set] at r2
  have r3 := (r2.stored (col * 6 + 4) (.int .i64 c.dft.2.1)).1
  rw [flat_set attrC_len _ col 4 (by simpa using hcq) _ ({ a with kind := c.to, dft := (c.dft.1, c.dft.2.1, a.dft.2.2) }, wv) (by decide) (by rw [List.getElem_set_self]; rfl), List.set_set] at r3
  have r4 := (r3.stored (col * 6 + 5) (str c.dft.2.2)).1
  rw [flat_set attrC_len _ col 5 (by simpa using hcq) _ ({ a with kind := c.to, dft := c.dft }, wv) (by decide) (by rw [List.getElem_set_self]; rfl), List.set_set] at r4
  have T0 : Tch (fun b => b = ga) w W := Tch.of_below HB.out
  have T1 := (((T0.set (p := ⟨ga, col * 6 + 1, none⟩) rfl (.int .i64 c.to)).set (p := ⟨ga, col * 6 + 3, none⟩) rfl (.int .i64 c.dft.1)).set (p := ⟨ga, col * 6 + 4, none⟩) rfl (.int .i64 c.dft.2.1)).set (p := ⟨ga, col * 6 + 5, none⟩) rfl (str c.dft.2.2)
  have hwas := HO.out.was _ (List.getElem_mem hcq)
  rw [hqc] at hwas
  have neW : ∀ j (hj : j < qs.length) k, qs[j].2.ownBlock = some k → ¬ k = ga := fun j hj k ek q => by
    subst q
    exact own_ne (HO.out.was _ (List.getElem_mem hj)) HO.out.attrs (by decide) k ek rfl
  have D := alt_done HO.out (col := col) r4 (own_heap hwas (fun k ek => T1.block k (hwas.lt k ek).2 (neW col hcq k (by rw [hqc]; exact ek)))) T1 (fun j hj _ => neW j hj)
    (fun k ek q => by subst q; exact own_ne HO.out.key HO.out.attrs (by decide) k ek rfl)
  have ea : t.attrs[col] = a := by rw [fst_get HO.out.fst hcq hcol, hqc]
  have hat := HAT.out
  refine ⟨rfl, fun w2 h2 => ?_, fun x _ => ?_, ?_⟩
  · rw [altT_cast t col c HK.out hcol, ea]
    have hgf := h2 g (Nat.le_refl _) (Nat.lt_of_lt_of_le hat.lt T1.size)
    have D2 := D w2 (fun b b1 b2 => h2 b (by omega) b2)
    exact ⟨_, _, ⟨cell_of_heap hgf (T1.cell hat.c0 (by omega)), cell_of_heap hgf (T1.cell hat.c1 (by omega)), cell_of_heap hgf (T1.cell hat.c2 (by omega))⟩, D2.1, D2.2⟩
  · exact World.cell?_of_block (a := ⟨g, x, none⟩) (T1.block g hat.lt (by omega))
  · exact (T1.wider (fun b _ h => Or.inr (by omega))).trans (Tch.drewN _ _ 2)
end Go.Proofs.YteokcgfbhaeklaaGreatDoor
