/- Lists in plain words; readers leave no more than there was. -/
import Derived.Test.YtcgkaecaddpenaaGreatDoorPsMath
namespace Go.Proofs.YtcgkaecaddpenaaGreatDoor.L8
open L7 (Tk)

/-- What a reader leaves is no longer than what there was. -/
def Shr {α : Type} (p : P α) : Prop := ∀ r a r1, p r = .ok a r1 → r1.length ≤ r.length
theorem Shr.pur {α : Type} (a : α) : Shr (pure a : P α) := fun r b r1 h => by
  have h2 : Res.ok a r = .ok b r1 := h
  cases h2
  exact Nat.le_refl _
theorem Shr.bnd {α β : Type} {p : P α} {q : α → P β} (hp : Shr p) (hq : ∀ a, Shr (q a)) : Shr (p >>= q) := fun r b r1 h => by
  rcases e : p r with ⟨a, r2⟩ | ⟨x, r2⟩
  · rw [bnd_ok e] at h
    exact Nat.le_trans (hq a _ _ _ h) (hp _ _ _ e)
  · rw [bnd_bad e] at h
    cases h
theorem Shr.ite {α : Type} {c : Prop} [Decidable c] {p q : P α} (hp : Shr p) (hq : Shr q) : Shr (if c then p else q) := by
  split
  · exact hp
  · exact hq
theorem shr_take (k : Int) : Shr (takeP k) := fun r a r1 h => by
  cases r with
  | nil => cases h
  | cons t r =>
    simp only [takeP] at h
    split at h
    · cases h
      simp
    · cases h
theorem shr_acc (w : Txt) : Shr (accP w) := fun r a r1 h => by
  unfold accP at h
  split at h
  · cases h
    simp
  · cases h
    exact Nat.le_refl _
theorem shr_exp (w : Txt) : Shr (expP w) := fun r a r1 h => by
  unfold expP at h
  split at h
  · cases h
    simp
  · cases h
theorem shr_one (l : List Txt) : Shr (oneP l) := fun r a r1 h => by
  unfold oneP at h
  split at h
  · cases h
    simp
  · cases h
theorem shr_peek (w : Txt) : Shr (peekP w) := fun r a r1 h => by cases h; exact Nat.le_refl _
theorem shr_kind (k : Int) : Shr (kindP k) := fun r a r1 h => by cases h; exact Nat.le_refl _
theorem shr_at : Shr atP := fun r a r1 h => by cases h; exact Nat.le_refl _
theorem shr_side0 : Shr peekSide := fun r a r1 h => by cases h; exact Nat.le_refl _
theorem shr_ops : Shr opStart := fun r a r1 h => by
  unfold opStart at h
  split at h
  · cases h
    exact Nat.le_refl _
  · cases h
    simp
theorem shr_fail {α : Type} (b : Bool) : Shr (failP b : P α) := fun r a r1 h => by cases h
theorem shr_list {α : Type} (w : Txt) {p : P α} (hp : Shr p) : ∀ f, Shr (listP w p f)
  | 0 => shr_fail false
  | f + 1 => Shr.bnd hp fun _ => Shr.bnd (shr_acc w) fun _ => Shr.ite (Shr.bnd (shr_list w hp f) fun _ => Shr.pur _) (Shr.pur _)
theorem shr_nameP : Shr nameP := by
  unfold nameP
  repeat' first | exact shr_take _ | exact shr_acc _ | exact shr_exp _ | exact shr_one _ | exact shr_peek _ | exact shr_kind _ | exact shr_side0 | exact shr_at | exact shr_ops | exact Shr.pur _ | refine Shr.bnd ?_ (fun _ => ?_) | refine Shr.ite ?_ ?_
theorem shr_numP : Shr numP := by
  unfold numP
  repeat' first | exact shr_take _ | exact shr_acc _ | exact shr_exp _ | exact shr_one _ | exact shr_peek _ | exact shr_kind _ | exact shr_side0 | exact shr_at | exact shr_ops | exact Shr.pur _ | exact shr_nameP | refine Shr.bnd ?_ (fun _ => ?_) | refine Shr.ite ?_ ?_
theorem shr_valueP : Shr valueP := by
  unfold valueP
  repeat' first | exact shr_take _ | exact shr_acc _ | exact shr_exp _ | exact shr_one _ | exact shr_peek _ | exact shr_kind _ | exact shr_side0 | exact shr_at | exact shr_ops | exact Shr.pur _ | exact shr_nameP | exact shr_numP | refine Shr.bnd ?_ (fun _ => ?_) | refine Shr.ite ?_ ?_
theorem shr_columnP : Shr columnP := by
  unfold columnP
  repeat' first | exact shr_take _ | exact shr_acc _ | exact shr_exp _ | exact shr_one _ | exact shr_peek _ | exact shr_kind _ | exact shr_side0 | exact shr_at | exact shr_ops | exact Shr.pur _ | exact shr_nameP | exact shr_numP | exact shr_valueP | refine Shr.bnd ?_ (fun _ => ?_) | refine Shr.ite ?_ ?_
theorem shr_termP : Shr termP := by
  unfold termP
  repeat' first | exact shr_take _ | exact shr_acc _ | exact shr_exp _ | exact shr_one _ | exact shr_peek _ | exact shr_kind _ | exact shr_side0 | exact shr_at | exact shr_ops | exact Shr.pur _ | exact shr_nameP | exact shr_numP | exact shr_valueP | exact shr_columnP | refine Shr.bnd ?_ (fun _ => ?_) | refine Shr.ite ?_ ?_
theorem shr_fixedP : Shr fixedP := by
  unfold fixedP
  repeat' first | exact shr_take _ | exact shr_acc _ | exact shr_exp _ | exact shr_one _ | exact shr_peek _ | exact shr_kind _ | exact shr_side0 | exact shr_at | exact shr_ops | exact Shr.pur _ | exact shr_nameP | exact shr_numP | exact shr_valueP | exact shr_columnP | exact shr_termP | refine Shr.bnd ?_ (fun _ => ?_) | refine Shr.ite ?_ ?_
theorem shr_varP : Shr varP := by
  unfold varP
  repeat' first | exact shr_take _ | exact shr_acc _ | exact shr_exp _ | exact shr_one _ | exact shr_peek _ | exact shr_kind _ | exact shr_side0 | exact shr_at | exact shr_ops | exact Shr.pur _ | exact shr_nameP | exact shr_numP | exact shr_valueP | exact shr_columnP | exact shr_termP | exact shr_fixedP | refine Shr.bnd ?_ (fun _ => ?_) | refine Shr.ite ?_ ?_
theorem shr_sideP : Shr sideP := by
  unfold sideP
  repeat' first | exact shr_take _ | exact shr_acc _ | exact shr_exp _ | exact shr_one _ | exact shr_peek _ | exact shr_kind _ | exact shr_side0 | exact shr_at | exact shr_ops | exact Shr.pur _ | exact shr_nameP | exact shr_numP | exact shr_valueP | exact shr_columnP | exact shr_termP | exact shr_fixedP | exact shr_varP | refine Shr.bnd ?_ (fun _ => ?_) | refine Shr.ite ?_ ?_
theorem shr_condP : Shr condP := by
  unfold condP
  repeat' first | exact shr_take _ | exact shr_acc _ | exact shr_exp _ | exact shr_one _ | exact shr_peek _ | exact shr_kind _ | exact shr_side0 | exact shr_at | exact shr_ops | exact Shr.pur _ | exact shr_nameP | exact shr_numP | exact shr_valueP | exact shr_columnP | exact shr_termP | exact shr_fixedP | exact shr_varP | exact shr_sideP | refine Shr.bnd ?_ (fun _ => ?_) | refine Shr.ite ?_ ?_
/-- What is read behind the elements so far. -/
def listT {α : Type} (x : Txt) (p : P α) (acc : List α) (f : Nat) : P (List α) := do
  let c ← accP x
  if c = true then do
    let l ← listP x p f
    pure (acc ++ l)
  else pure acc
theorem list_start {α : Type} {x : Txt} {p : P α} {f : Nat} {r r1 : List Tk} {a : α} (h : p r = .ok a r1) : listP x p (f + 1) r = listT x p [a] f r1 := bnd_ok h
theorem list_start_bad {α : Type} {x : Txt} {p : P α} {f : Nat} {r r1 : List Tk} {b : Bool} (h : p r = .bad b r1) : listP x p (f + 1) r = .bad b r1 := bnd_bad h
theorem listT_no {α : Type} {x : Txt} {p : P α} {acc : List α} {f : Nat} {r r1 : List Tk} (h : accP x r = .ok false r1) : listT x p acc f r = .ok acc r1 := by
  unfold listT
  rw [bnd_ok h]
  rfl
theorem listT_run {α : Type} {x : Txt} {p : P α} {acc : List α} {f : Nat} {r r1 : List Tk} (h : accP x r = .ok true r1) : listT x p acc f r = (do let l ← listP x p f; pure (acc ++ l) : P (List α)) r1 := by
  unfold listT
  rw [bnd_ok h]
  rfl
theorem listT_yes {α : Type} {x : Txt} {p : P α} {acc : List α} {f : Nat} {r r1 r2 : List Tk} {a : α} (h : accP x r = .ok true r1) (hp : p r1 = .ok a r2) : listT x p acc (f + 1) r = listT x p (acc ++ [a]) f r2 := by
  rw [listT_run h]
  have h1 := list_start (x := x) (f := f) hp
  rcases e : accP x r2 with ⟨c, r3⟩ | ⟨b, r3⟩
  · cases c
    · rw [listT_no e] at h1
      rw [bnd_ok h1, listT_no e]
      rfl
    · rw [listT_run e] at h1 ⊢
      rcases e2 : listP x p f r3 with ⟨l, r4⟩ | ⟨b, r4⟩
      · rw [bnd_ok e2] at h1 ⊢
        rw [bnd_ok (h1.trans (pur_run _ _)), pur_run, pur_run, List.append_assoc]
      · rw [bnd_bad e2] at h1 ⊢
        exact bnd_bad h1
  · exact absurd e (by unfold accP; split <;> simp)
theorem listT_bad {α : Type} {x : Txt} {p : P α} {acc : List α} {f : Nat} {r r1 r2 : List Tk} {b : Bool} (h : accP x r = .ok true r1) (hp : p r1 = .bad b r2) : listT x p acc (f + 1) r = .bad b r2 := by
  rw [listT_run h]
  exact bnd_bad (list_start_bad hp)
theorem acc_len {x : Txt} {r r1 : List Tk} (h : accP x r = .ok true r1) : r.length = r1.length + 1 := by
  unfold accP at h
  split at h
  · rename_i q
    cases h
    cases r with
    | nil => exact absurd rfl q.2
    | cons t r => rfl
  · cases h
end Go.Proofs.YtcgkaecaddpenaaGreatDoor.L8
