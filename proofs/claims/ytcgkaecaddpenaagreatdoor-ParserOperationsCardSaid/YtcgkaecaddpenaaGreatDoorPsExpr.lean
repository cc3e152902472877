/- The program's expressions, whatever comes. -/
import Derived.Test.YtcgkaecaddpenaaGreatDoorPsPgS
namespace Go.Proofs.YtcgkaecaddpenaaGreatDoor
open Go.RowKit
open L7 (Tk)
open L8

theorem px_one {p : Ps} {B kb D : Nat} {lv kd at0 : Int} {a : Ex} {k1 c1 n1 : Value} {W : World} {R : Res Ex} {e : Ending} {w' : World} (h : PPostX p (S2 p.g B) B lv W (isOne D a (.slice (some ⟨kb, 0, none⟩) 1 1)) R e w') (hK : Blk W kb 49 (exL (hd a) k1 c1 n1).toArray) (h1 : kb ≠ p.g) (h2 : kb ≠ B) :
    PPostX p (S3 p.g B kb) B lv W (isOp D a kd at0 k1 c1 n1 kb) R e w' := by
  cases R with
  | ok x r =>
    obtain ⟨he, ⟨cs, hB, hV⟩, hs, hn⟩ := h
    refine ⟨he, ⟨cs, hB, .inl ⟨hV, fun k hk => ?_⟩⟩, hs, hn.wider fun _ _ q => q.elim .inl (fun q => .inr (.inl q))⟩
    have hb : Blk w' kb 49 (exL (hd a) k1 c1 n1).toArray := (hn.block kb hK.lt (fun q => q.elim h1 h2)).trans hK
    rw [Nat.zero_add, hb.cell k]
    simp
  | bad x r => exact ⟨h.1, h.2.wider fun _ _ q => q.elim .inl (fun q => .inr (.inl q))⟩
theorem px_two {p : Ps} {B kb D : Nat} {lv kd at0 : Int} {a : Ex} {k1 c1 n1 : Value} {W : World} {R : Res Ex} {e : Ending} {w' : World} (h : PPostX p (S3 p.g B kb) B lv W (isTwo D a kd at0 k1 c1 n1 kb) R e w') :
    PPostX p (S3 p.g B kb) B lv W (isOp D a kd at0 k1 c1 n1 kb) R e w' := by
  cases R with
  | ok x r =>
    obtain ⟨he, ⟨cs, hB, hV⟩, hs, hn⟩ := h
    exact ⟨he, ⟨cs, hB, .inr hV⟩, hs, hn⟩
  | bad x r => exact h
theorem opC_zero {r : List Tk} (h : headW r ∉ opsW ∨ headW r.tail ≠ [40]) : opC r = 0 := by
  match r with
  | [] => rfl
  | [_] => rfl
  | t :: u :: r =>
    show (if wordT t ∈ opsW ∧ wordT u = [40] then _ else _) = _
    rw [if_neg (fun q => h.elim (fun h => h q.1) (fun h => h q.2))]
theorem opC_op {r : List Tk} {i : Nat} (h : opsW[i]? = some (headW r)) (h2 : headW r.tail = [40]) : opC r = (i : Int) + 1 := by
  match r with
  | [] => cases h2
  | [_] => cases h2
  | t :: u :: r =>
    have hm : wordT t ∈ opsW := List.mem_of_getElem? h
    show (if wordT t ∈ opsW ∧ wordT u = [40] then _ else _) = _
    rw [if_pos ⟨hm, h2⟩]
    have hl := List.idxOf_lt_length_iff.2 hm
    have h3 : opsW[opsW.idxOf (wordT t)]? = opsW[i]? := by
      rw [h, List.getElem?_eq_getElem hl]
      exact congrArg some (List.getElem_idxOf hl)
    have := (List.getElem?_inj hl opsW_nodup).1 h3
    rw [this]
theorem Sta.head_len {w : World} {p : Ps} {r : List Tk} {lv : Int} (h : Sta w p r lv) : (headW r).length ≤ 200000 := by
  obtain ⟨off, cap, h⟩ := h
  cases r with
  | nil => exact Nat.zero_le _
  | cons t r =>
    have := (h.good t (by simp)).len
    show (wordT t).length ≤ 200000
    unfold wordT
    split
    · omega
    · simp
theorem expr_any {p : Ps} : ∀ (d : Nat), d ≤ 12 → ∀ (w : World) (r : List Tk), Sta w p r (12 - (d : Int)) → Calls Tryz.prog 76 #[ptr p.g] w (PPost p (12 - (d : Int)) w (isEx w.heap.size) (exprP d r)) := by
  intro d
  induction d with
  | zero => exact fun _ w r h => expr_zero w h
  | succ d ih =>
    intro hd w r h
    have hlv : (12 - ((d + 1 : Nat) : Int)) + 1 = 12 - (d : Int) := by omega
    have hEx : ∀ W r, Sta W p r ((12 - ((d + 1 : Nat) : Int)) + 1) → Calls Tryz.prog 76 #[ptr p.g] W (PPost p ((12 - ((d + 1 : Nat) : Int)) + 1) W (isEx W.heap.size) (exprP d r)) := by
      rw [hlv]
      exact fun W r hs => ih (by omega) W r hs
    have hl := h.head_len
    by_cases hop : headW r ∈ opsW
    · have hrn : r ≠ [] := fun e => by subst e; exact absurd hop (by decide)
      obtain ⟨i, hi⟩ := List.mem_iff_getElem?.1 hop
      have hi7 : i < 7 := (List.getElem?_eq_some_iff.1 hi).1
      rcases (by omega : i = 0 ∨ i = 1 ∨ i = 2 ∨ i = 3 ∨ i = 4 ∨ i = 5 ∨ i = 6) with rfl | rfl | rfl | rfl | rfl | rfl | rfl
      · by_cases hw : headW r.tail = [40]
        · exact expr_c (kk := 2) (F := 92) (fun W m ht => by obtain ⟨v, hv, hr⟩ := (op_look ht _ hl).1 0 hi; cases hv; exact hr) (by omega) (by omega) hEx (fun W r2 B kb at0 a k1 c1 n1 hs hg hb hBk hB hK => (sel_any a (exprP d) W hs hg hb hB).mono fun e w' q => px_one q hK (by omega) (by omega)) (enters_of Tryz.func92 (by kernel_rfl) rfl) (by decide) (by rw [opC_op hi hw]; rfl) hrn hw w h
        · exact expr_b (kk := 2) (F := 92) (fun W m ht => by obtain ⟨v, hv, hr⟩ := (op_look ht _ hl).1 0 hi; cases hv; exact hr) (by omega) (by omega) hEx (opC_zero (.inr hw)) hrn hw w h
      · by_cases hw : headW r.tail = [40]
        · exact expr_c (kk := 3) (F := 93) (fun W m ht => by obtain ⟨v, hv, hr⟩ := (op_look ht _ hl).1 1 hi; cases hv; exact hr) (by omega) (by omega) hEx (fun W r2 B kb at0 a k1 c1 n1 hs hg hb hBk hB hK => (proj_any a (exprP d) W hs hg hb hB).mono fun e w' q => px_one q hK (by omega) (by omega)) (enters_of Tryz.func93 (by kernel_rfl) rfl) (by decide) (by rw [opC_op hi hw]; rfl) hrn hw w h
        · exact expr_b (kk := 3) (F := 93) (fun W m ht => by obtain ⟨v, hv, hr⟩ := (op_look ht _ hl).1 1 hi; cases hv; exact hr) (by omega) (by omega) hEx (opC_zero (.inr hw)) hrn hw w h
      · by_cases hw : headW r.tail = [40]
        · exact expr_c (kk := 4) (F := 94) (fun W m ht => by obtain ⟨v, hv, hr⟩ := (op_look ht _ hl).1 2 hi; cases hv; exact hr) (by omega) (by omega) hEx (fun W r2 B kb at0 a k1 c1 n1 hs hg hb hBk hB hK => (second_any (by decide) a k1 c1 n1 (exprP d) hEx W hs hg hb hBk hB hK).mono fun e w' q => px_two q) (enters_of Tryz.func94 (by kernel_rfl) rfl) (by decide) (by rw [opC_op hi hw]; rfl) hrn hw w h
        · exact expr_b (kk := 4) (F := 94) (fun W m ht => by obtain ⟨v, hv, hr⟩ := (op_look ht _ hl).1 2 hi; cases hv; exact hr) (by omega) (by omega) hEx (opC_zero (.inr hw)) hrn hw w h
      · by_cases hw : headW r.tail = [40]
        · exact expr_c (kk := 5) (F := 94) (fun W m ht => by obtain ⟨v, hv, hr⟩ := (op_look ht _ hl).1 3 hi; cases hv; exact hr) (by omega) (by omega) hEx (fun W r2 B kb at0 a k1 c1 n1 hs hg hb hBk hB hK => (second_any (by decide) a k1 c1 n1 (exprP d) hEx W hs hg hb hBk hB hK).mono fun e w' q => px_two q) (enters_of Tryz.func94 (by kernel_rfl) rfl) (by decide) (by rw [opC_op hi hw]; rfl) hrn hw w h
        · exact expr_b (kk := 5) (F := 94) (fun W m ht => by obtain ⟨v, hv, hr⟩ := (op_look ht _ hl).1 3 hi; cases hv; exact hr) (by omega) (by omega) hEx (opC_zero (.inr hw)) hrn hw w h
      · by_cases hw : headW r.tail = [40]
        · exact expr_c (kk := 6) (F := 94) (fun W m ht => by obtain ⟨v, hv, hr⟩ := (op_look ht _ hl).1 4 hi; cases hv; exact hr) (by omega) (by omega) hEx (fun W r2 B kb at0 a k1 c1 n1 hs hg hb hBk hB hK => (second_any (by decide) a k1 c1 n1 (exprP d) hEx W hs hg hb hBk hB hK).mono fun e w' q => px_two q) (enters_of Tryz.func94 (by kernel_rfl) rfl) (by decide) (by rw [opC_op hi hw]; rfl) hrn hw w h
        · exact expr_b (kk := 6) (F := 94) (fun W m ht => by obtain ⟨v, hv, hr⟩ := (op_look ht _ hl).1 4 hi; cases hv; exact hr) (by omega) (by omega) hEx (opC_zero (.inr hw)) hrn hw w h
      · by_cases hw : headW r.tail = [40]
        · exact expr_c (kk := 7) (F := 95) (fun W m ht => by obtain ⟨v, hv, hr⟩ := (op_look ht _ hl).1 5 hi; cases hv; exact hr) (by omega) (by omega) hEx (fun W r2 B kb at0 a k1 c1 n1 hs hg hb hBk hB hK => (ren_any a (exprP d) W hs hg hb hB).mono fun e w' q => px_one q hK (by omega) (by omega)) (enters_of Tryz.func95 (by kernel_rfl) rfl) (by decide) (by rw [opC_op hi hw]; rfl) hrn hw w h
        · exact expr_b (kk := 7) (F := 95) (fun W m ht => by obtain ⟨v, hv, hr⟩ := (op_look ht _ hl).1 5 hi; cases hv; exact hr) (by omega) (by omega) hEx (opC_zero (.inr hw)) hrn hw w h
      · by_cases hw : headW r.tail = [40]
        · exact expr_c (kk := 8) (F := 96) (fun W m ht => by obtain ⟨v, hv, hr⟩ := (op_look ht _ hl).1 6 hi; cases hv; exact hr) (by omega) (by omega) hEx (fun W r2 B kb at0 a k1 c1 n1 hs hg hb hBk hB hK => (grp_any a (exprP d) W hs hg hb hB).mono fun e w' q => px_one q hK (by omega) (by omega)) (enters_of Tryz.func96 (by kernel_rfl) rfl) (by decide) (by rw [opC_op hi hw]; rfl) hrn hw w h
        · exact expr_b (kk := 8) (F := 96) (fun W m ht => by obtain ⟨v, hv, hr⟩ := (op_look ht _ hl).1 6 hi; cases hv; exact hr) (by omega) (by omega) hEx (opC_zero (.inr hw)) hrn hw w h
    · exact expr_a (fun W m ht => (op_look ht _ hl).2 hop) (by omega) (by omega) hEx (opC_zero (.inl hop)) w h
end Go.Proofs.YtcgkaecaddpenaaGreatDoor
