/- The contract of add: a table of the call's own has one attribute more. -/
import Derived.Test.YteokcgfbhaeklaaGreatDoorScAltB
import Derived.Test.YteokcgfbhaeklaaGreatDoorScTab
namespace Go.Proofs.YteokcgfbhaeklaaGreatDoor
open Go.RowKit

theorem altT_add (t : TabT) (col : Nat) (c : ChgT) (hk : c.kind = 1) : altT t col c = { t with attrs := t.attrs ++ [newA c] } := by
  unfold altT
  rw [if_pos hk]
theorem src_attr (w : World) (t : TypeId) (p : AttrT × Value) (h : p.2.oneCell' = true) : Src (w.alloc (.cells (attrC p).toArray t)) (some ⟨w.heap.size, 0, none⟩) 1 1 6 (attrC p) :=
  ⟨rfl, Nat.le_refl _, (fun e => by cases e), fun ad e j u hj => by
    cases e
    exact World.news_of_block (heap_alloc_new w _) j u (by simpa using hj), fun u hu => by
    simp only [attrC, List.mem_cons, List.not_mem_nil, or_false] at hu
    rcases hu with rfl | rfl | rfl | rfl | rfl | rfl <;> first | exact h | rfl⟩
/-- Behind the append: what is read. -/
theorem add_done {w W W1 : World} {lo hi g o : Nat} {t : TabT} {va vk v1 : Value} {qs : List (AttrT × Value)} {c : ChgT} {ob : Obj} {n : Nat} (hk : c.kind = 1) (col : Nat) (hg : g < lo) (hat : TabW w g o va vk t.name) (ho : OwnT w lo hi (t, va, vk) qs) (hB : Below w.heap.size w W)
    (hn : n = qs.length) (h1 : W1.ownsRow lo 53 6 v1 (n + 1) (qs.flatMap attrC ++ attrC (newA c, .slice none 0 0))) (hG : ((W.alloc ob).drew).grownBy W1 va.ownBlock) :
    AltPost w lo hi g o (altT t col c) (.returned (.tuple #[])) (W1.setCell ⟨g, o + 1, none⟩ v1) := by
  have hga : ∀ k, va.ownBlock = some k → lo ≤ k ∧ k < hi := fun k e => ⟨(ho.attrs.lt k e).1, ho.attrsHi k e⟩
  have hsz := hB.size
  have TG : Tch (fun b => va.ownBlock = some b) w W1 := (Tch.of_below (hB.trans (((below_box W ob).trans (below_drewN _ _ 1)).mono hsz))).trans (Tch.of_grown hG (fun i e => e))
  have hgS : ¬ va.ownBlock = some g := fun e => by have := (hga g e).1; omega
  have g0 := TG.cell hat.c0 hgS
  have g1 := TG.cell hat.c1 hgS
  have g2 := TG.cell hat.c2 hgS
  have TF : Tch (fun b => b = g ∨ (lo ≤ b ∧ b < hi)) w (W1.setCell ⟨g, o + 1, none⟩ v1) := Tch.set (S := fun b => b = g ∨ (lo ≤ b ∧ b < hi)) (TG.wider (fun b _ e => Or.inr (hga b e))) (p := ⟨g, o + 1, none⟩) (Or.inl rfl) v1
  have hv1 : ∀ k, v1.ownBlock = some k → lo ≤ k := fun k e => (h1.lt k e).1
  have hrow : (W1.setCell ⟨g, o + 1, none⟩ v1).ownsRow lo 53 6 v1 (qs ++ [(newA c, Value.slice none 0 0)]).length ((qs ++ [(newA c, Value.slice none 0 0)]).flatMap attrC) := by
    rw [List.flatMap_append, List.length_append]
    subst hn
    refine own_heap (by simpa using h1) (fun k e => Below.heap_setCell _ _ _ _ (fun q => by have := hv1 k e; rw [q] at this; exact absurd this (by show ¬ lo ≤ g; omega)))
  have hstr : ∀ w2 : World, (∀ b, lo ≤ b → b < (W1.setCell ⟨g, o + 1, none⟩ v1).heap.size → w2.heap[b]? = (W1.setCell ⟨g, o + 1, none⟩ v1).heap[b]?) → ∀ q ∈ qs ++ [(newA c, Value.slice none 0 0)], Strs w2 q.2 q.1.was := fun w2 hw2 q hq => by
    rcases List.mem_append.1 hq with hq | hq
    · have hw := ho.was q hq
      refine strs_of_own (own_heap hw (fun k e => ?_))
      have h2 := hw.lt k e
      refine (hw2 k h2.1 (by have := TG.size; simp; omega)).trans ?_
      rw [Below.heap_setCell _ _ _ _ (by show k ≠ g; omega)]
      exact TG.block k h2.2 (fun e' => own_ne hw ho.attrs (by decide) k e e')
    · simp only [List.mem_singleton] at hq
      subst hq
      exact strs_nil _
  refine ⟨rfl, fun w2 hw2 => ?_, fun x hx => ?_, TF⟩
  · rw [altT_add t col c hk]
    have hgf := hw2 g (Nat.le_refl _) (by have := cellLt g0; simpa using this)
    have hlo : ∀ b, lo ≤ b → b < (W1.setCell ⟨g, o + 1, none⟩ v1).heap.size → w2.heap[b]? = (W1.setCell ⟨g, o + 1, none⟩ v1).heap[b]? := fun b b1 b2 => hw2 b (by omega) b2
    refine ⟨v1, vk, ⟨cell_of_heap hgf ?_, cell_of_heap hgf ?_, cell_of_heap hgf ?_⟩, ?_, ?_⟩
    · rw [World.cell?_setCell_other _ _ _ _ (by simp)]; exact g0
    · exact World.cell?_setCell_same _ _ _ g1
    · rw [World.cell?_setCell_other _ _ _ _ (by simp)]; exact g2
    · have := attrs_shut (attrs_of_own rfl (own_heap hrow (fun k ek => hlo k (hrow.lt k ek).1 (hrow.lt k ek).2))) (hstr w2 hlo)
      rw [List.map_append, ho.fst] at this
      exact this
    · refine ints_of_own rfl (own_heap ho.key (fun k e => ?_))
      have h2 := ho.key.lt k e
      refine (hlo k h2.1 (by have := TG.size; simp; omega)).trans ?_
      rw [Below.heap_setCell _ _ _ _ (by show k ≠ g; omega)]
      exact TG.block k h2.2 (fun e' => own_ne ho.key ho.attrs (by decide) k e e')
  · rw [World.cell?_setCell_other _ _ _ _ (by simp <;> omega)]
    exact World.cell?_of_block (a := ⟨g, x, none⟩) (TG.block g hat.lt hgS)

set_option maxRecDepth 100000 in
set_option maxHeartbeats 4000000 in
theorem alterAdd_any (lo hi g o : Nat) (t : TabT) (va vk : Value) (qs : List (AttrT × Value)) (col : Nat) (y : Int) (c : ChgT) (hk : c.kind = 1) (h0 : 0 < t.attrs.length) (hl : t.attrs.length ≤ 4000) (hg : g < lo) (w : World)
    (hat : TabW w g o va vk t.name) (ho : OwnT w lo hi (t, va, vk) qs) :
    Calls Tryz.prog 79 #[.pointer (some ⟨g, o, none⟩), .int .i64 y, Cv c] w (AltPost w lo hi g o (altT t col c)) := by
  have hql : qs.length = t.attrs.length := by rw [← ho.fst, List.length_map]
  have ha := ho.attrs
  obtain ⟨ga, ca, e, hca, hga, hga2⟩ := own_form ha (by omega)
  replace e : va = .slice (some ⟨ga, 0, none⟩) qs.length ca := e
  subst e
  have hgh : ga < hi := ho.attrsHi ga rfl
  have y1 : w.cell? ⟨g, o + 1, none⟩ = some (.slice (some ⟨ga, 0, none⟩) qs.length ca) := hat.c1
  have B := below_box w (.cells #[.int .i64 c.kind, str c.table, str c.attr, str c.name, .int .i64 c.to, .int .i64 c.dft.1, .int .i64 c.dft.2.1, str c.dft.2.2] 28)
  have zy := cellB B y1
  have nf := frozenB B y1 hat.f1
  have HB := Lib.hid B
  have HAT := Lib.hid hat
  have HO := Lib.hid ho
  have HK := Lib.hid hk
  have hne2 : ¬ ga = g := by omega
  have hgw := hat.lt
  have hqle : qs.length ≤ 4000 := by omega
  clear hat ho hk B ha y1 hql h0 hl
  go_enter Tryz.func79, Tryz.ntmps79
  go_wp2_with fail
  obtain ⟨W, hW⟩ : ∃ W, w.alloc (.cells #[.int .i64 c.kind, str c.table, str c.attr, str c.name, .int .i64 c.to, .int .i64 c.dft.1, .int .i64 c.dft.2.1, str c.dft.2.2] 28) = W := ⟨_, rfl⟩
  rw [hW]
  rw [hW] at zy nf HB
  have k3 : W.cell? ⟨w.heap.size, 3, none⟩ = some (str c.name) := by rw [← hW]; simp [go_sem]
  have k4 : W.cell? ⟨w.heap.size, 4, none⟩ = some (.int .i64 c.to) := by rw [← hW]; simp [go_sem]
  have k5 : W.cell? ⟨w.heap.size, 5, none⟩ = some (.int .i64 c.dft.1) := by rw [← hW]; simp [go_sem]
  have k6 : W.cell? ⟨w.heap.size, 6, none⟩ = some (.int .i64 c.dft.2.1) := by rw [← hW]; simp [go_sem]
  have k7 : W.cell? ⟨w.heap.size, 7, none⟩ = some (str c.dft.2.2) := by rw [← hW]; simp [go_sem]
  have hszW : w.heap.size ≤ W.heap.size := by rw [← hW]; simp
  obtain ⟨X, hX⟩ : ∃ X, w.heap.size = X := ⟨_, rfl⟩
  have HX := Lib.hid hX
  rw [hX] at k3 k4 k5 k6 k7
  rw [hX]
  have HOW : Hid (W.ownsRow lo 53 6 (.slice (some ⟨ga, 0, none⟩) qs.length ca) qs.length (qs.flatMap attrC)) := Lib.hid (own_heap HO.out.attrs (fun k ek => by cases ek; exact HB.out.block ga hga2))
  have za := Cell.alloc zy (.cells #[str c.name, .int .i64 c.to, .slice none 0 0, .int .i64 c.dft.1, .int .i64 c.dft.2.1, str c.dft.2.2] 53)
  have hloW : lo ≤ W.heap.size := by omega
  clear hW hX
  go_region_law (refine step_app elemAttr rfl (.tmp 10) (.tmp 18) rfl (base := lo) (by rfl) (HOW.out.alloc _) (by rfl) ((src_attr W 53 (newA c, .slice none 0 0) rfl).drew) (by omega) (by simp; omega) ?_; intro v1 W1 hown hg1 hat1; have HOW1 := Lib.hid hown; have HG1 := Lib.hid hg1; obtain ⟨A1, cc1, rfl⟩ := own_isSl HOW1.out; clear hown hat1; have b1 : W1.cell? ⟨g, o + 1, none⟩ = some (.slice (some ⟨ga, 0, none⟩) qs.length ca) := hg1.cell (a := ⟨g, o + 1, none⟩) (Cell.alloc zy _) (fun e => by cases e; exact hne2 rfl); have f1 : W1.frozen? ⟨g, o + 1, none⟩ = false := (hg1.frozen_far ⟨g, o + 1, none⟩ (by simp; omega) (fun e => by cases e; exact hne2 rfl)).trans (frozenB ((below_box W _).trans (below_drewN _ _ 1)) zy nf); clear hg1)
  all_goals
    go_wp2_with fail
    go_end0
    exact add_done HK.out col hg HAT.out HO.out HB.out rfl HOW1.out HG1.out
end Go.Proofs.YteokcgfbhaeklaaGreatDoor
