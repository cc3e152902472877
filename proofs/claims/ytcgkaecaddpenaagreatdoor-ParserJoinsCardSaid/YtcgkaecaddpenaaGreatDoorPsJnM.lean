/- Lists of items, appended to one another. -/
import Derived.Test.YtcgkaecaddpenaaGreatDoorPsLawB
namespace Go.Proofs.YtcgkaecaddpenaaGreatDoor
open Go.RowKit
open L7 (Tk lexT lx gap)
open L8
set_option linter.unusedSimpArgs false

theorem rows_at : ∀ (acc : List It) (zs : List Sl9), zs.length = acc.length → ∀ j (h : j < acc.length) (h2 : j < zs.length), ∀ k, k < 25 → (rows acc zs)[j * 25 + k]? = (itL acc[j] zs[j])[k]?
  | [], _, _, j, h, _ => by simp at h
  | i :: acc, [], e, j, h, _ => by simp at e
  | i :: acc, z :: zs, e, 0, h, _ => fun k hk => by
      have hl : (itL i z).length = 25 := rfl
      show ((itL i z) ++ rows acc zs)[0 * 25 + k]? = _
      rw [List.getElem?_append_left (by omega), Nat.zero_mul, Nat.zero_add]
      rfl
  | i :: acc, z :: zs, e, j + 1, h, h2 => fun k hk => by
      have h3 := rows_at acc zs (by simpa using e) j (by simpa using h) (by simpa using h2) k hk
      have hl : (itL i z).length = 25 := rfl
      show ((itL i z) ++ rows acc zs)[(j + 1) * 25 + k]? = _
      rw [List.getElem?_append_right (by omega), hl, show (j + 1) * 25 + k - 25 = j * 25 + k by omega, h3]
      rfl
theorem rows_len : ∀ (acc : List It) (zs : List Sl9), zs.length = acc.length → (rows acc zs).length = acc.length * 25
  | [], _, _ => by simp [rows]
  | i :: acc, [], e => by simp at e
  | i :: acc, z :: zs, e => by
      have h := rows_len acc zs (by simpa using e)
      have hl : (itL i z).length = 25 := rfl
      show ((itL i z) ++ rows acc zs).length = _
      rw [List.length_append, h, hl, List.length_cons]
      omega
/-- What is appended: the items' cells as they lie. -/
theorem Its.src {D : Nat} {w : World} {v : Value} {l : List It} (h : Its D w v l) : ∃ A c zs, v = .slice A l.length c ∧ zs.length = l.length ∧ Src w A l.length c 25 (rows l zs) ∧ ∀ x ∈ l.zip zs, ItM D w x.1 x.2 := by
  obtain ⟨A, c, e, hc, hn, f⟩ := h
  have hz : ∀ i : Fin l.length, ∃ z : Sl9, (∀ ad, A = some ad → ∀ k, k < 25 → w.cell? (ad.add (i.1 * 25 + k)) = (itL l[i.1] z)[k]?) ∧ ItM D w l[i.1] z := fun i => by
    obtain ⟨b, off, h1, _, z, h3, h4⟩ := f i.1 i.2
    exact ⟨z, fun ad ha k hk => by
      rw [h1] at ha
      cases ha
      rw [add_none, ← Nat.add_assoc]
      exact h3 k hk, h4⟩
  obtain ⟨g, hg⟩ : ∃ g : Fin l.length → Sl9, ∀ i, (∀ ad, A = some ad → ∀ k, k < 25 → w.cell? (ad.add (i.1 * 25 + k)) = (itL l[i.1] (g i))[k]?) ∧ ItM D w l[i.1] (g i) := ⟨fun i => Classical.choose (hz i), fun i => Classical.choose_spec (hz i)⟩
  have hl : (List.ofFn g).length = l.length := by simp
  have hm : ∀ x ∈ l.zip (List.ofFn g), ItM D w x.1 x.2 := fun x hx => by
    obtain ⟨i, hi, rfl⟩ := List.mem_iff_getElem.1 hx
    have hi2 : i < l.length := by simp at hi; omega
    rw [List.getElem_zip, List.getElem_ofFn]
    exact (hg ⟨i, hi2⟩).2
  refine ⟨A, c, List.ofFn g, e, hl, ⟨rows_len _ _ hl, hc, hn, fun ad ha j u hj => ?_, fun u hu => ?_⟩, hm⟩
  · have hj2 : j < l.length * 25 := by rw [← rows_len _ _ hl]; exact (List.getElem?_eq_some_iff.1 hj).1
    have hi : j / 25 < l.length := by omega
    have h1 := rows_at l (List.ofFn g) hl (j / 25) hi (by rw [hl]; exact hi) (j % 25) (by omega)
    rw [show j / 25 * 25 + j % 25 = j by omega, hj, List.getElem_ofFn] at h1
    have h2 := (hg ⟨j / 25, hi⟩).1 ad ha (j % 25) (by omega)
    simp only [show j / 25 * 25 + j % 25 = j by omega] at h2
    rw [h2]
    exact h1.symm
  · unfold rows at hu
    obtain ⟨x, hx, hu⟩ := List.mem_flatMap.1 hu
    exact it_one (hm x hx) u hu
theorem ItM.its {B D : Nat} {w : World} {v : Value} {i : It} {z : Sl9} (h : ItM D w i z) (hB : B ≤ D) (hv : ∀ j, v.ownBlock = some j → ¬ (D ≤ j ∧ j < w.heap.size)) : ItS B w v i z := ⟨D, w, hB, h, fun _ _ _ => rfl, Nat.le_refl _, hv⟩
/-- A list of items behind a list of items. -/
theorem OwnIts.pushs {B : Nat} {w w4 : World} {v v4 : Value} {acc l : List It} {zs ys : List Sl9} (h0 : zs.length = acc.length) (h1 : ys.length = l.length) (h3 : ∀ x ∈ acc.zip zs, ItS B w v x.1 x.2) (h4 : ∀ x ∈ l.zip ys, ItS B w v x.1 x.2)
    (hown : w4.ownsRow B 51 25 v4 (acc.length + l.length) (rows acc zs ++ rows l ys)) (hg : w.grownBy w4 v.ownBlock) (hv : v4.ownBlock = v.ownBlock ∨ v4.ownBlock = some w.heap.size) : OwnIts B w4 v4 (acc ++ l) := by
  have hv2 : v4.ownBlock = v.ownBlock ∨ ∃ n, v4.ownBlock = some n ∧ w.heap.size ≤ n := by
    rcases hv with e | e
    · exact .inl e
    · exact .inr ⟨_, e, Nat.le_refl _⟩
  have hz : (acc ++ l).zip (zs ++ ys) = acc.zip zs ++ l.zip ys := List.zip_append (by omega)
  refine ⟨zs ++ ys, by simp [h0, h1], ?_, fun x hx => ?_⟩
  · rw [List.length_append]
    unfold rows at hown ⊢
    rw [hz, List.flatMap_append]
    exact hown
  · rw [hz] at hx
    have hx2 : ItS B w v x.1 x.2 := (List.mem_append.1 hx).elim (h3 x) (h4 x)
    exact hx2.next hg.size (fun b hb hl hne => hg.block b hl (fun e => hne e.symm)) hv2
/-- An append of a list, of elements of up to 1000 bytes. -/
theorem run_appI {t e ty : TypeId} {z : Value} {size bytes : Nat} (E : ElemB t e z size bytes) {w : World} {base : Nat} {v : Value} {n : Nat} {xs : List Value} (hown : w.ownsRow base e size v n xs)
    {B : Option Addr} {m c : Nat} {news : List Value} (hs : Src w B m c size news) (hl : n + m ≤ 100000) (hbase : base ≤ w.heap.size) :
    ∃ v' w', (Builtin.append_ #[t, t] ty #[v, .slice B m c]).run Tryz.prog w = .ok v' w' ∧ w'.ownsRow base e size v' (n + m) (xs ++ news) ∧ w.grownBy w' v.ownBlock ∧ (v'.ownBlock = v.ownBlock ∨ v'.ownBlock = some w.heap.size) := by
  obtain ⟨i0, hi, hz0, hz1, hz2⟩ := info_parts E.hi
  cases B with
  | none =>
    have h0 := hs.nil rfl
    have hc := hs.cap
    subst h0
    obtain rfl : m = 0 := by omega
    have hn : news = [] := List.eq_nil_of_length_eq_zero (by simpa using hs.len)
    subst hn
    exact ⟨v, w, run_append_owned_none w base t ty e i0 size E.ht hi v n xs hown, by simpa using hown, World.grownBy.refl w _, Or.inl rfl⟩
  | some ad =>
    obtain ⟨v', w', h1, h2, h3, _, h5⟩ := run_append_own_at (P := Tryz.prog) w base t ty e i0 z size bytes E.ht hi hz0 hz1 hz2 E.hzs E.hpos v n xs hown ad m c news hs.len (hs.cell ad rfl) hs.one (by unfold maxLen; omega)
      (Nat.le_trans (Nat.mul_le_mul hl E.hby) (by omega)) hbase
    exact ⟨v', w', h1, h2, h3, h5⟩
theorem step_appI {t e : TypeId} {z : Value} {size bytes : Nat} (E : ElemB t e z size bytes) {w : World} {ops : Array Oper} {o : Oper} {a : Act} {K : Act → World → Prop} {Q : Exit → Act → World → Prop} {G : Prop} (hgd : o.guard = none) (s x : Operand)
    (ho : o.op = .call { callee := .builtin .append, args := #[s, x], argTypes := #[t, t] }) {base : Nat} {v : Value} {n : Nat} {xs : List Value} (hs : a.eval s = v) (hown : w.ownsRow base e size v n xs)
    {B : Option Addr} {m c : Nat} {news : List Value} (hx : a.eval x = .slice B m c) (hsrc : Src w B m c size news) (hl : n + m ≤ 100000) (hbase : base ≤ w.heap.size)
    (h : ∀ v' w', w'.ownsRow base e size v' (n + m) (xs ++ news) → w.grownBy w' v.ownBlock → (v'.ownBlock = v.ownBlock ∨ v'.ownBlock = some w.heap.size) → K (a.put o.dst v') w') :
    if Region.wanted o (yielded ops a.tmps) = true then Oper.wp Tryz.prog o a w K Q else G := by
  have hw : Region.wanted o (yielded ops a.tmps) = true := by simp [Region.wanted, hgd]
  rw [if_pos hw]
  obtain ⟨v', w', hrun, h2, h3, h4⟩ := run_appI E (ty := o.type) hown hsrc hl hbase
  unfold Oper.wp execOp
  simp only [ho, resolve, invoke, builtin, Sem.run_bind, Sem.run_pure, Result.andThen_ok, List.map_toArray, List.map_cons, List.map_nil, hs, hx, hrun]
  exact h v' w' h2 h3 h4
theorem ItM.its2 {B D : Nat} {w0 w : World} {v : Value} {i : It} {z : Sl9} (h : ItM D w0 i z) (hB : B ≤ D) (hb : Below w0.heap.size w0 w) (hv : ∀ j, v.ownBlock = some j → w0.heap.size ≤ j) : ItS B w v i z :=
  ⟨D, w0, hB, h, fun b _ hl => hb.block b hl, hb.size, fun j hj q => by have := hv j hj; omega⟩
/-- One append, and what is so behind it. -/
theorem OwnIts.step {B : Nat} {W w w4 : World} {v v4 : Value} {acc l : List It} {zs ys : List Sl9} (h0 : zs.length = acc.length) (h1 : ys.length = l.length) (h3 : ∀ x ∈ acc.zip zs, ItS B w v x.1 x.2) (h4 : ∀ x ∈ l.zip ys, ItS B w v x.1 x.2)
    (hown : w4.ownsRow B 51 25 v4 (acc.length + l.length) (rows acc zs ++ rows l ys)) (hg : w.grownBy w4 v.ownBlock) (hat : v4.ownBlock = v.ownBlock ∨ v4.ownBlock = some w.heap.size) (hW : Below W.heap.size W w) (hv : ∀ j, v.ownBlock = some j → W.heap.size ≤ j) :
    OwnIts B w4 v4 (acc ++ l) ∧ Below W.heap.size W w4 ∧ ∀ j, v4.ownBlock = some j → W.heap.size ≤ j :=
  ⟨OwnIts.pushs h0 h1 h3 h4 hown hg hat, hW.grown hg hW.size hv, fun j hj => by
    rcases hat with e | e
    · exact hv j (e ▸ hj)
    · rw [e] at hj
      cases hj
      exact hW.size⟩
end Go.Proofs.YtcgkaecaddpenaaGreatDoor
