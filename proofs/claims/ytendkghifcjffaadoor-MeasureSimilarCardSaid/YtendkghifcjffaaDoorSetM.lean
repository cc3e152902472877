/- Sets of texts as maps: how many entries they have when elements are put in and deleted. -/
import Derived.Test.YtendkghifcjffaaDoorSMath
import Derived.Maps.Views
namespace Go.Proofs.YtendkghifcjffaaDoor
open Go Go.Maps

/-- The set of some texts, as a map. -/
def setD (xs : List (List UInt8)) : DataW Unit := xs.foldl (fun m x => m.put (.string x) (.lit (.bool true))) (.map [])
def delD (D : DataW Unit) (xs : List (List UInt8)) : DataW Unit := xs.foldl (fun m x => m.del (.string x)) D
theorem setD_snoc (l : List (List UInt8)) (x : List UInt8) : setD (l ++ [x]) = (setD l).put (.string x) (.lit (.bool true)) := by unfold setD; rw [List.foldl_append]; rfl
theorem delD_snoc (D : DataW Unit) (l : List (List UInt8)) (x : List UInt8) : delD D (l ++ [x]) = (delD D l).del (.string x) := by unfold delD; rw [List.foldl_append]; rfl
/-- A map holds just the texts of a list without repeats. -/
structure Rep (D : DataW Unit) (L : List (List UInt8)) : Prop where
  tidy : Tidy D
  nodup : L.Nodup
  has : ∀ x, Maps.has D (.string x) = true ↔ x ∈ L
  size : Maps.size D = L.length
theorem str_ne {x y : List UInt8} (h : x ≠ y) : Lit.string x ≠ Lit.string y := fun e => h (by cases e; rfl)
theorem Rep.empty : Rep (.map []) [] := ⟨tidy_empty, List.nodup_nil, fun x => ⟨fun h => (by cases h), fun h => (by cases h)⟩, rfl⟩
theorem Rep.put {D : DataW Unit} {L : List (List UInt8)} (h : Rep D L) (x : List UInt8) (d : DataW Unit) : Rep (D.put (.string x) d) (if x ∈ L then L else L ++ [x]) := by
  have hk : WideAt.IsKeyLit (Lit.string x) := trivial
  have hh : ∀ y, Maps.has (D.put (.string x) d) (.string y) = true ↔ y = x ∨ y ∈ L := by
    intro y
    by_cases e : y = x
    · subst e
      rw [has_put_same h.tidy.isMap hk]
      simp
    · rw [has_put_other (str_ne e), h.has y]
      simp [e]
  refine ⟨h.tidy.put hk d, ?_, ?_, ?_⟩
  · split
    · exact h.nodup
    · rename_i g
      rw [List.nodup_append]
      exact ⟨h.nodup, by simp, fun a ha b hb e => g (by rw [← List.mem_singleton.1 hb, ← e]; exact ha)⟩
  · intro y
    rw [hh y]
    split
    · rename_i g
      exact ⟨fun k => k.elim (fun e => e ▸ g) id, Or.inr⟩
    · rw [List.mem_append, List.mem_singleton]
      exact Or.comm
  · rw [size_put h.tidy]
    by_cases g : x ∈ L
    · rw [if_pos ((h.has x).2 g), if_pos g, h.size]
    · rw [if_neg (fun k => g ((h.has x).1 k)), if_neg g, List.length_append, h.size]
      rfl
theorem Rep.del {D : DataW Unit} {L : List (List UInt8)} (h : Rep D L) (x : List UInt8) : Rep (D.del (.string x)) (L.filter (fun y => !decide (y = x))) := by
  have hh : ∀ y, Maps.has (D.del (.string x)) (.string y) = true ↔ y ∈ L ∧ y ≠ x := by
    intro y
    by_cases e : y = x
    · subst e
      rw [has_del_same]
      simp
    · rw [has_del_other (str_ne e), h.has y]
      simp [e]
  refine ⟨h.tidy.del _, h.nodup.filter _, fun y => ?_, ?_⟩
  · rw [hh y, List.mem_filter]
    simp
  · have hs := size_del (k := .string x) h.tidy
    have hl := List.filter_length_eq_sum x L h.nodup
    rw [h.size] at hs
    by_cases g : x ∈ L
    · rw [if_pos ((h.has x).2 g)] at hs
      rw [if_pos g] at hl
      omega
    · rw [if_neg (fun k => g ((h.has x).1 k))] at hs
      rw [if_neg g] at hl
      omega
where List.filter_length_eq_sum (x : List UInt8) : ∀ L : List (List UInt8), L.Nodup → (L.filter (fun y => !decide (y = x))).length + (if x ∈ L then 1 else 0) = L.length
  | [], _ => rfl
  | a :: L, h => by
    have h' := List.nodup_cons.1 h
    have ih := List.filter_length_eq_sum x L h'.2
    by_cases e : a = x
    · subst e
      rw [if_neg h'.1] at ih
      simp
      simpa using ih
    · have : (x ∈ a :: L) = (x ∈ L) := by simp [show ¬ x = a from fun q => e q.symm]
      simp only [List.filter_cons, e, decide_false, Bool.not_false, if_true, List.length_cons, this]
      omega
theorem rep_set (l : List (List UInt8)) : Rep (setD l) (dd l) := by
  refine snoc_ind (P := fun l => Rep (setD l) (dd l)) Rep.empty (fun l x ih => ?_) l
  rw [setD_snoc, dd_snoc]
  exact ih.put x _
theorem rep_del {D : DataW Unit} {L : List (List UInt8)} (h : Rep D L) (b : List (List UInt8)) : Rep (delD D b) (L.filter (fun x => !decide (x ∈ b))) := by
  refine snoc_ind (P := fun b => Rep (delD D b) (L.filter (fun x => !decide (x ∈ b)))) ?_ (fun b x ih => ?_) b
  · have : L.filter (fun x => !decide (x ∈ ([] : List (List UInt8)))) = L := List.filter_eq_self.2 (fun a _ => by simp)
    rw [this]
    exact h
  · rw [delD_snoc]
    have e : L.filter (fun y => !decide (y ∈ b ++ [x])) = (L.filter (fun y => !decide (y ∈ b))).filter (fun y => !decide (y = x)) := by
      rw [List.filter_filter]
      refine List.filter_congr (fun y _ => ?_)
      rw [Bool.eq_iff_iff]
      simp [and_comm]
    rw [e]
    exact ih.del x
theorem size_set (l : List (List UInt8)) : Maps.size (setD l) = (dd l).length := (rep_set l).size
theorem size_del_set (a b : List (List UInt8)) : Maps.size (delD (setD a) b) = only a b := (rep_del (rep_set a) b).size
end Go.Proofs.YtendkghifcjffaaDoor
