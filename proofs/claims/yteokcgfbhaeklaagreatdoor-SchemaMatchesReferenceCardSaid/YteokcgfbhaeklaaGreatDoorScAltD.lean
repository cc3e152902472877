/- The contract of drop: a table of the call's own loses an attribute. -/
import Derived.Test.YteokcgfbhaeklaaGreatDoorScAltB
import Derived.Test.YteokcgfbhaeklaaGreatDoorScDel
namespace Go.Proofs.YteokcgfbhaeklaaGreatDoor
open Go.RowKit

theorem altT_drop (t : TabT) (col : Nat) (c : ChgT) (hk : c.kind = 2) : altT t col c = { t with attrs := t.attrs.eraseIdx col, key := t.key.map (lower col) } := by
  unfold altT
  rw [if_neg (by omega), if_pos hk]
/-- The key, whose first k indices are lowered. -/
def keyK (l : List Int) (col k : Nat) : List Int := (l.take k).map (lower col) ++ l.drop k
theorem keyK_len (l : List Int) (col k : Nat) : (keyK l col k).length = l.length := by
  unfold keyK
  simp
  omega
theorem keyK_get {l : List Int} {col k : Nat} (hk : k < l.length) : (keyK l col k)[k]'(by rw [keyK_len]; exact hk) = l[k] := by
  unfold keyK
  rw [List.getElem_append_right (by simp; omega)]
  simp
  congr 1
  omega
theorem keyK_set {l : List Int} {col k : Nat} (hk : k < l.length) : (keyK l col k).set k (lower col l[k]) = keyK l col (k + 1) := by
  unfold keyK
  rw [List.take_succ_eq_append_getElem hk, List.map_append, List.set_append_right _ _ (by simp; omega), List.drop_eq_getElem_cons hk]
  rw [show k - ((l.take k).map (lower col)).length = 0 by simp; omega, List.set_cons_zero, List.append_assoc]
  rfl
theorem keyK_same {l : List Int} {col k : Nat} (hk : k < l.length) (h : ¬ (col : Int) < l[k]) : keyK l col (k + 1) = keyK l col k := by
  rw [← keyK_set hk]
  have e : lower col l[k] = (keyK l col k)[k]'(by rw [keyK_len]; exact hk) := by rw [keyK_get hk]; unfold lower; rw [if_neg h]
  rw [e, List.set_getElem_self]
theorem keyK_zero (l : List Int) (col : Nat) : keyK l col 0 = l := by unfold keyK; simp
theorem keyK_all (l : List Int) (col : Nat) : keyK l col l.length = l.map (lower col) := by unfold keyK; simp
theorem flat_int (l : List Int) : l.flatMap intC = l.map (Value.int .i64) := by
  induction l with
  | nil => rfl
  | cons x l ih => rw [List.flatMap_cons, ih]; rfl
theorem erase_map {α β : Type} (f : α → β) : ∀ (l : List α) (i : Nat), (l.eraseIdx i).map f = (l.map f).eraseIdx i
  | [], _ => rfl
  | _ :: _, 0 => rfl
  | a :: l, i + 1 => by
    show f a :: (l.eraseIdx i).map f = f a :: (l.map f).eraseIdx i
    rw [erase_map f l i]

set_option maxRecDepth 100000 in
set_option maxHeartbeats 4000000 in
theorem alterDrop_any (lo hi g o : Nat) (t : TabT) (va vk : Value) (qs : List (AttrT × Value)) (col : Nat) (c : ChgT) (hk : c.kind = 2) (hcol : col < t.attrs.length) (hl : t.attrs.length ≤ 4000) (hk0 : 0 < t.key.length) (hkl : t.key.length ≤ 4000) (hkr : ∀ x ∈ t.key, 0 ≤ x ∧ x ≤ 4000) (hg : g < lo) (w : World)
    (hat : TabW w g o va vk t.name) (ho : OwnT w lo hi (t, va, vk) qs) :
    Calls Tryz.prog 83 #[.pointer (some ⟨g, o, none⟩), .int .i64 (col : Int), Cv c] w (AltPost w lo hi g o (altT t col c)) := by
  have hql : qs.length = t.attrs.length := by rw [← ho.fst, List.length_map]
  have hcq : col < qs.length := by omega
  have ha := ho.attrs
  obtain ⟨ga, ca, e, hca, hga, hga2⟩ := own_form ha (by omega)
  replace e : va = .slice (some ⟨ga, 0, none⟩) qs.length ca := e
  subst e
  have hkk := ho.key
  obtain ⟨gk, ck, e, hck, hgk, hgk2⟩ := own_form hkk hk0
  replace e : vk = .slice (some ⟨gk, 0, none⟩) t.key.length ck := e
  subst e
  have hgh : ga < hi := ho.attrsHi ga rfl
  have hgkh : gk < hi := ho.keyHi gk rfl
  have hneK : ¬ gk = ga := fun q => by subst q; exact own_ne hkk ha (by decide) gk rfl rfl
  have B := below_box w (.cells #[.int .i64 c.kind, str c.table, str c.attr, str c.name, .int .i64 c.to, .int .i64 c.dft.1, .int .i64 c.dft.2.1, str c.dft.2.2] 28)
  have zy := cellB B hat.c1
  have zk := cellB B hat.c2
  have nf := frozenB B hat.c1 hat.f1
  have HC := Lib.hid (fun W (hW : Below w.heap.size w W) => by
    have := delA_any attrC_len qs lo ga ca col (col + 1) rfl hcq (by omega) W (own_heap ha (fun k e => by cases e; exact hW.block ga hga2)) (fun p hp u hu => by
      simp only [attrC, List.mem_cons, List.not_mem_nil, or_false] at hu
      rcases hu with rfl | rfl | rfl | rfl | rfl | rfl <;> first | rfl | (obtain ⟨A, c, e⟩ := own_isSl (ho.was p hp); rw [e]; rfl))
    rw [show ((col + 1 : Nat) : Int) = (col : Int) + 1 from by simp] at this
    exact this)
  have HB := Lib.hid B
  have HAT := Lib.hid hat
  have HO := Lib.hid ho
  have HK := Lib.hid hk
  have HKR := Lib.hid hkr
  have hne2 : ¬ ga = g := by omega
  have hne3 : ¬ gk = g := by omega
  have hgw := hat.lt
  have hqle : qs.length ≤ 4000 := by omega
  have hcle : (col : Int) ≤ 4000 := by omega
  have hgB : (w.alloc (.cells #[.int .i64 c.kind, str c.table, str c.attr, str c.name, .int .i64 c.to, .int .i64 c.dft.1, .int .i64 c.dft.2.1, str c.dft.2.2] 28)).heap.size = w.heap.size + 1 := by simp
  clear hat ho hk B ha hql hl hkk hkr hcol
  go_enter Tryz.func83, Tryz.ntmps83
  go_wp2_with fail
  refine (HC.out _ HB.out).mono ?_
  rintro e w1 ⟨rfl, hown, hg1⟩
  have HOW := Lib.hid hown
  have HG1 := Lib.hid hg1
  have b1 : w1.cell? ⟨g, o + 1, none⟩ = some (.slice (some ⟨ga, 0, none⟩) qs.length ca) := hg1.cell (a := ⟨g, o + 1, none⟩) zy (fun e => by cases e; exact hne2 rfl)
  have f1 : w1.frozen? ⟨g, o + 1, none⟩ = false := (hg1.frozen_far ⟨g, o + 1, none⟩ (by rw [hgB]; show g < _; omega) (fun e => by cases e; exact hne2 rfl)).trans nf
  have b2 : w1.cell? ⟨g, o + 2, none⟩ = some (.slice (some ⟨gk, 0, none⟩) t.key.length ck) := hg1.cell (a := ⟨g, o + 2, none⟩) zk (fun e => by cases e; exact hne2 rfl)
  have TA : Tch (fun b => b = ga) w w1 := (Tch.of_below HB.out).trans (Tch.of_grown hg1 (fun i e => by cases e; rfl))
  have HTA := Lib.hid TA
  clear hown hg1 TA zy zk nf HC hgB
  go_wp2_with fail
  obtain ⟨w2, hw2⟩ : ∃ w2, w1.setCell ⟨g, o + 1, none⟩ (.slice (some ⟨ga, 0, none⟩) (qs.length - 1) ca) = w2 := ⟨_, rfl⟩
  rw [hw2]
  have HT2 : Hid (Tch (fun b => b = g ∨ b = ga) w w2) := Lib.hid (by
    rw [← hw2]
    exact Tch.set (S := fun b => b = g ∨ b = ga) (HTA.out.wider (fun b _ h => Or.inr h)) (p := ⟨g, o + 1, none⟩) (Or.inl rfl) _)
  have HA2 : Hid (w2.ownsRow lo 53 6 (.slice (some ⟨ga, 0, none⟩) (qs.length - 1) ca) (qs.length - 1) ((qs.eraseIdx col).flatMap attrC)) := Lib.hid (own_heap HOW.out (fun k e => by
    cases e
    rw [← hw2, Below.heap_setCell _ _ _ _ (by show ga ≠ g; omega)]))
  have HG2 : Hid (∀ x, (x < o ∨ o + 3 ≤ x) → w2.cell? ⟨g, x, none⟩ = w.cell? ⟨g, x, none⟩) := Lib.hid (fun x hx => by
    rw [← hw2, World.cell?_setCell_other _ _ _ _ (by simp <;> omega)]
    exact World.cell?_of_block (a := ⟨g, x, none⟩) (HTA.out.block g hgw (fun h => hne2 h.symm)))
  have d1 : w2.cell? ⟨g, o + 1, none⟩ = some (.slice (some ⟨ga, 0, none⟩) (qs.length - 1) ca) := by rw [← hw2]; exact World.cell?_setCell_same _ _ _ b1
  have d2 : w2.cell? ⟨g, o + 2, none⟩ = some (.slice (some ⟨gk, 0, none⟩) t.key.length ck) := by rw [← hw2, World.cell?_setCell_other _ _ _ _ (by simp)]; exact b2
  have hgw2 : g < w2.heap.size := cellLt d1
  have d0 : w2.cell? ⟨g, o, none⟩ = some (str t.name) := by rw [← hw2, World.cell?_setCell_other _ _ _ _ (by simp)]; exact HTA.out.cell HAT.out.c0 (fun h => hne2 h.symm)
  have HK2 : Hid (w2.ownsRow lo 3 1 (.slice (some ⟨gk, 0, none⟩) t.key.length ck) t.key.length ((keyK t.key col 0).map (Value.int .i64))) := Lib.hid (by
    rw [keyK_zero, ← flat_int]
    exact own_heap HO.out.key (fun k e => by cases e; exact HT2.out.block gk hgk2 (fun h => by omega)))
  clear hw2 b1 f1 b2 HOW HG1 HTA
  go_loopw [23] (fun i wr => ∃ k : Nat, k ≤ t.key.length ∧ i = .int .i64 (k : Int) ∧ wr.ownsRow lo 3 1 (.slice (some ⟨gk, 0, none⟩) t.key.length ck) t.key.length ((keyK t.key col k).map (Value.int .i64)) ∧ Tch (fun b => b = gk) w2 wr) (fun i _ => t.key.length - (intOf i).toNat)
  case atStart => exact ⟨0, by omega, by simp, HK2.out, Tch.refl _ _⟩
  case round =>
    clear HK2
    obtain ⟨k, hkk, rfl, hrow, ht⟩ := hrel
    have HR := Lib.hid hrow
    have HT := Lib.hid ht
    have e2 : wr.cell? ⟨g, o + 2, none⟩ = some (.slice (some ⟨gk, 0, none⟩) t.key.length ck) := ht.cell d2 (by omega)
    clear hrow ht
    by_cases hlt : k < t.key.length
    · obtain ⟨x, hx⟩ : ∃ x, t.key[k] = x := ⟨_, rfl⟩
      have hxr := HKR.out x (by rw [← hx]; exact List.getElem_mem hlt)
      obtain ⟨hx0, hx1⟩ := hxr
      have HX := Lib.hid hx
      have hkl2 : k < (keyK t.key col k).length := by rw [keyK_len]; exact hlt
      have e3 : wr.cell? ⟨gk, k, none⟩ = some (.int .i64 x) := by
        rw [HR.out.cellAt k (by omega), List.getElem?_map, List.getElem?_eq_getElem hkl2, keyK_get hlt, hx]
        rfl
      have e4 : wr.frozen? ⟨gk, k, none⟩ = false := HR.out.frozenAt k
      have i1 : (0 : Int) ≤ (k : Int) := by omega
      have i2 : (k : Int) < (t.key.length : Int) := by omega
      clear hx hkl2
      by_cases hgt : (col : Int) < x
      · have HS := Lib.hid (HR.out.stored k (.int .i64 (x - 1)))
        have HKS : Hid (((keyK t.key col k).map (Value.int .i64)).set k (.int .i64 (x - 1)) = (keyK t.key col (k + 1)).map (Value.int .i64)) := Lib.hid (by
          rw [← keyK_set hlt, HX.out, List.map_set]
          unfold lower
          rw [if_pos hgt])
        go_wp2_with fail
        go_roundw
        case rel => exact ⟨k + 1, by omega, by simp, by have := HS.out.1; rwa [HKS.out] at this, HT.out.set (p := ⟨gk, k, none⟩) rfl _⟩
        case measure => simp [intOf]; omega
      · have HKS := Lib.hid (keyK_same hlt (by rw [HX.out]; exact hgt))
        go_wp2_with fail
        go_roundw
        case rel => exact ⟨k + 1, by omega, by simp, by rw [HKS.out]; exact HR.out, HT.out⟩
        case measure => simp [intOf]; omega
    · go_wp2_with fail
      go_end0
      have hke : k = t.key.length := by omega
      have hrk := HR.out
      rw [hke, keyK_all, ← flat_int] at hrk
      have TE : Tch (fun b => b = g ∨ (lo ≤ b ∧ b < hi)) w wr := (HT2.out.wider (fun b _ h => by omega)).trans (HT.out.wider (fun b _ h => Or.inr (by omega)))
      have hA := HA2.out
      have hA2 : wr.ownsRow lo 53 6 (.slice (some ⟨ga, 0, none⟩) (qs.length - 1) ca) (qs.length - 1) ((qs.eraseIdx col).flatMap attrC) := own_heap hA (fun q e => by
        cases e
        exact HT.out.block ga (hA.lt ga rfl).2 (fun h => hneK h.symm))
      have hlen : (qs.eraseIdx col).length = qs.length - 1 := by rw [List.length_eraseIdx, if_pos hcq]
      refine ⟨rfl, fun wz hz => ?_, fun x hx => ?_, TE⟩
      have hlo : ∀ b, lo ≤ b → b < wr.heap.size → wz.heap[b]? = wr.heap[b]? := fun b b1 b2 => hz b (by omega) b2
      have hgf := hz g (Nat.le_refl _) (Nat.lt_of_lt_of_le hgw2 HT.out.size)
      have hatt := attrs_shut (attrs_of_own hlen.symm (own_heap hA2 (fun k' e => hlo k' (hA2.lt k' e).1 (hA2.lt k' e).2))) (fun q hq => by
        have hq' := List.mem_of_mem_eraseIdx hq
        have hw := HO.out.was q hq'
        refine strs_of_own (own_heap hw (fun k' e => ?_))
        have h1 := hw.lt k' e
        refine (hlo k' h1.1 (by have := HT2.out.size; have := HT.out.size; omega)).trans ?_
        have h3 : ¬ k' = ga := fun q => by subst q; exact own_ne hw HO.out.attrs (by decide) k' e rfl
        have h4 : ¬ k' = gk := fun q => by subst q; exact own_ne hw HO.out.key (by decide) k' e rfl
        exact (HT.out.block k' (by have := HT2.out.size; omega) h4).trans (HT2.out.block k' h1.2 (fun h => by omega)))
      rw [erase_map, HO.out.fst] at hatt
      · rw [altT_drop t col c HK.out]
        exact ⟨_, _, ⟨cell_of_heap hgf (HT.out.cell d0 (by omega)), cell_of_heap hgf (HT.out.cell d1 (by omega)), cell_of_heap hgf e2⟩, hatt, ints_of_own (by simp) (own_heap hrk (fun k' e => hlo k' (hrk.lt k' e).1 (hrk.lt k' e).2))⟩
      · rw [World.cell?_of_block (a := ⟨g, x, none⟩) (HT.out.block g hgw2 (by omega))]
        exact HG2.out x hx
end Go.Proofs.YteokcgfbhaeklaaGreatDoor
