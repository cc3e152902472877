/- The contract of Of. -/
import Derived.Test.YtendkghifcjffaaGreatDoorMOfE
namespace Go.Proofs.YtendkghifcjffaaGreatDoor
open Go.RowKit

/-- The similarity by a measure of two values that are not null; none if it does not take them. -/
def cmpT (m t : Int) (k n : Int) (x : List UInt8) (k2 n2 : Int) (y : List UInt8) : Option (Int × Int) :=
  if m = 1 then some (eqT k n x k2 n2 y)
  else if m = 5 then (if k = k2 ∧ (k = 2 ∨ k = 3) then some (nearT n n2 t) else none)
  else if k = 1 ∧ k2 = 1 then some (if m = 2 then alikeT (L3.foldT x) (L3.foldT y) else if m = 3 then jacT (toks x) (toks y) else jaroT (L3.foldT x) (L3.foldT y))
  else none
/-- What Of returns: a ratio and an error. -/
def ofT (m t : Int) (k n : Int) (x : List UInt8) (k2 n2 : Int) (y : List UInt8) : (Int × Int) × Int :=
  if m < 1 ∨ 5 < m then ((0, 0), 1)
  else if L2.vldB k n x = false ∨ L2.vldB k2 n2 y = false then ((0, 0), 1)
  else if m = 5 ∧ okTol t = false then ((0, 0), 1)
  else if k = 0 ∨ k2 = 0 then ((0, 1), 0)
  else match cmpT m t k n x k2 n2 y with
    | some r => (r, 0)
    | none => ((0, 0), 10)
/-- What a call of Of leaves. -/
def OfPost (r : (Int × Int) × Int) (w : World) (e : Ending) (w' : World) : Prop := e = .returned (.tuple #[rat r.1, .int .i64 r.2]) ∧ Below w.heap.size w w'

theorem zeroM (W : World) : (zeroValue 57).run Tryz.prog W = .ok MZ W := by kernel_rfl
theorem look_any {w : World} {b c n : Nat} (hown : OwnT w b c n mD) (m : Int) (hm : (Lit.int .i64 m).wf = true) :
    ∃ v ps, (Instr.lookup 59 (.map (some c)) (.int .i64 m) true).run Tryz.prog w = .ok (.tuple #[v, .bool (Maps.has mD (.int .i64 m))]) w ∧ rdM b v = some (mD.atKey (.int .i64 m) .nil, ps) :=
  hown.look_ok (Maps.int_keyed Tryz.underlying3) Tryz.underlying59 (zeroM w) (rdZ b) (key_int m hm)
theorem look_some {w : World} {b c n : Nat} (hown : OwnT w b c n mD) (m : Int) (hm : (Lit.int .i64 m).wf = true) (h1 : 1 ≤ m) (h2 : m ≤ 5) :
    ∃ v, (Instr.lookup 59 (.map (some c)) (.int .i64 m) true).run Tryz.prog w = .ok (.tuple #[v, .bool true]) w ∧ ((m = 1 ∧ v = M1) ∨ (m = 2 ∧ v = M2) ∨ (m = 3 ∧ v = M3) ∨ (m = 4 ∧ v = M4) ∨ (m = 5 ∧ v = M5 b)) := by
  obtain ⟨v, ps, hr, hv⟩ := look_any hown m hm
  obtain ⟨g1, g2⟩ := mD_at m h1 h2
  rw [g1] at hr
  rw [g2] at hv
  refine ⟨v, hr, ?_⟩
  rcases rd_inv hv with ⟨e, q⟩ | ⟨e, q⟩ | ⟨e, q⟩ | ⟨e, q⟩ | ⟨e, q⟩ | ⟨e, q⟩
  · cases e; exact .inl ⟨rfl, q⟩
  · cases e; exact .inr (.inl ⟨rfl, q⟩)
  · cases e; exact .inr (.inr (.inl ⟨rfl, q⟩))
  · cases e; exact .inr (.inr (.inr (.inl ⟨rfl, q⟩)))
  · cases e; exact .inr (.inr (.inr (.inr ⟨rfl, q⟩)))
  · cases e
theorem gives {m t : Int} (hm : (Lit.int .i64 m).wf = true) (f g : Nat) (cap : Nat → Array Value) (h1 : 1 ≤ m) (h2 : m ≤ 5)
    (h : ∀ (b : Nat) (v : Value), ((m = 1 ∧ v = M1) ∨ (m = 2 ∧ v = M2) ∨ (m = 3 ∧ v = M3) ∨ (m = 4 ∧ v = M4) ∨ (m = 5 ∧ v = M5 b)) → v = .agg #[fnv f, .func (Fn.func g) #[] (cap b)]) : Gives m t f g cap := by
  intro W
  refine (methods_any t W).mono ?_
  rintro e w1 ⟨rfl, hown, hc, hb⟩
  obtain ⟨v, hr, hv⟩ := look_some hown m hm h1 h2
  refine ⟨_, rfl, ?_, hc, hb⟩
  rw [← h _ v hv]
  exact hr

set_option maxRecDepth 100000 in
set_option maxHeartbeats 800000 in
theorem of_none (m t : Int) (k n : Int) (x : List UInt8) (k2 n2 : Int) (y : List UInt8) (hm : (Lit.int .i64 m).wf = true) (hn : m < 1 ∨ 5 < m) (w : World) :
    Calls Tryz.prog 14 #[.int .i64 m, .int .i64 t, V k n x, V k2 n2 y] w fun e w' => e = .returned (.tuple #[rat (0, 0), .int .i64 1]) ∧ Below w.heap.size w w' := by
  have HM := Lib.hid hm
  have HN := Lib.hid (mD_not m hn)
  clear hm hn
  go_enter Tryz.func14, Tryz.ntmps14
  go_wp2_with fail
  refine (methods_any t _).mono ?_
  rintro e w1 ⟨rfl, hown, hc, hb⟩
  obtain ⟨v, ps, hr, hv⟩ := look_any hown m HM.out
  rw [HN.out] at hr
  rw [Maps.atKey_of_not_has HN.out] at hv
  have hz : v = MZ := by
    rcases rd_inv hv with ⟨e, q⟩ | ⟨e, q⟩ | ⟨e, q⟩ | ⟨e, q⟩ | ⟨e, q⟩ | ⟨e, q⟩
    · cases e
    · cases e
    · cases e
    · cases e
    · cases e
    · exact q
  subst hz
  have R : Own2 w1 (w.heap.size + 1 + 1) 0 0 := Own2.below ⟨by simp [go_sem], by simp [go_sem], by simp [go_sem], by simp [go_sem]⟩ hb
  have HB := Lib.hid (below_up (L2.boxes3 w _ _ _) hb (by simp <;> omega))
  have r0 := fun o => (R.alloc o).c0
  have r1 := fun o => (R.alloc o).c1
  have f0 := fun o => (R.alloc o).f0
  have f1 := fun o => (R.alloc o).f1
  simp only [World.size_alloc] at hr
  clear hown hc hb hv R
  go_wp2_with fail
  refine bodyPost_ret (v := .tuple #[rat (0, 0), .int .i64 1]) (by simp [results, Tryz.results14, go_sem, r0, r1]) rfl ?_
  exact ⟨rfl, below_two (HB.out.alloc HB.out.size _) (by omega)⟩

theorem beq_f {a b : Int} (h : a ≠ b) : (a == b) = false := by rw [beq_eq_false_iff_ne]; exact h
theorem beq_t {a b : Int} (h : a = b) : (a == b) = true := by rw [h]; simp

theorem of_gen (m t : Int) (k n : Int) (x : List UInt8) (k2 n2 : Int) (y : List UInt8) (f g : Nat) (cap : Nat → Array Value) (hL : Gives m t f g cap) (h1 : 1 ≤ m) (h2 : m ≤ 4)
    (ef : ∀ args w, (callFunc f args).run Tryz.prog w = .ok (.enter f args) w) (eg : ∀ args w, (callFunc g args).run Tryz.prog w = .ok (.enter g args) w) (tk : Bool)
    (hT : ∀ W, Calls Tryz.prog f #[.int .i64 k, .int .i64 k2] W fun e w' => e = .returned (.bool tk) ∧ Below W.heap.size W w') (r : Int × Int)
    (hG : L2.vldB k n x = true → L2.vldB k2 n2 y = true → ∀ (b : Nat) (W : World), W.cell? ⟨b, 0, none⟩ = some (.int .i64 t) → Calls Tryz.prog g (#[V k n x, V k2 n2 y] ++ cap b) W fun e w' => e = .returned (rat r) ∧ Below W.heap.size W w')
    (hC : cmpT m t k n x k2 n2 y = if tk = true then some r else none) (w : World) :
    Calls Tryz.prog 14 #[.int .i64 m, .int .i64 t, V k n x, V k2 n2 y] w (OfPost (ofT m t k n x k2 n2 y) w) := by
  have h5 : (m == 5) = false := beq_f (by omega)
  unfold ofT
  rw [if_neg (by omega)]
  cases va : L2.vldB k n x
  · rw [if_pos (Or.inl rfl)]
    exact of_bada m t k n x k2 n2 y f g cap hL va w
  cases vb : L2.vldB k2 n2 y
  · rw [if_pos (Or.inr rfl)]
    exact of_badb m t k n x k2 n2 y f g cap hL va vb w
  rw [if_neg (by simp), if_neg (by omega)]
  by_cases hk : k = 0
  · rw [if_pos (Or.inl hk)]
    exact of_nulla m t k n x k2 n2 y f g cap hL h5 va vb (beq_t hk) w
  by_cases hk2 : k2 = 0
  · rw [if_pos (Or.inr hk2)]
    exact of_nullb m t k n x k2 n2 y f g cap hL h5 va vb (beq_f hk) (beq_t hk2) w
  rw [if_neg (by omega), hC]
  cases tk
  · exact of_no m t k n x k2 n2 y f g cap hL h5 va vb (beq_f hk) (beq_f hk2) ef hT w
  · exact of_yes m t k n x k2 n2 y f g cap hL h5 va vb (beq_f hk) (beq_f hk2) ef hT eg r (hG va vb) w
theorem of_gen5 (t : Int) (k n : Int) (x : List UInt8) (k2 n2 : Int) (y : List UInt8) (f g : Nat) (cap : Nat → Array Value) (hL : Gives 5 t f g cap)
    (ef : ∀ args w, (callFunc f args).run Tryz.prog w = .ok (.enter f args) w) (eg : ∀ args w, (callFunc g args).run Tryz.prog w = .ok (.enter g args) w) (tk : Bool)
    (hT : ∀ W, Calls Tryz.prog f #[.int .i64 k, .int .i64 k2] W fun e w' => e = .returned (.bool tk) ∧ Below W.heap.size W w') (r : Int × Int)
    (hG : L2.vldB k n x = true → L2.vldB k2 n2 y = true → ∀ (b : Nat) (W : World), W.cell? ⟨b, 0, none⟩ = some (.int .i64 t) → Calls Tryz.prog g (#[V k n x, V k2 n2 y] ++ cap b) W fun e w' => e = .returned (rat r) ∧ Below W.heap.size W w')
    (hC : cmpT 5 t k n x k2 n2 y = if tk = true then some r else none) (w : World) :
    Calls Tryz.prog 14 #[.int .i64 5, .int .i64 t, V k n x, V k2 n2 y] w (OfPost (ofT 5 t k n x k2 n2 y) w) := by
  unfold ofT
  rw [if_neg (by omega)]
  cases va : L2.vldB k n x
  · rw [if_pos (Or.inl rfl)]
    exact of_bada 5 t k n x k2 n2 y f g cap hL va w
  cases vb : L2.vldB k2 n2 y
  · rw [if_pos (Or.inr rfl)]
    exact of_badb 5 t k n x k2 n2 y f g cap hL va vb w
  rw [if_neg (by simp)]
  cases vt : okTol t
  · rw [if_pos ⟨rfl, rfl⟩]
    exact of_badt5 t k n x k2 n2 y f g cap hL va vb vt w
  rw [if_neg (by simp)]
  by_cases hk : k = 0
  · rw [if_pos (Or.inl hk)]
    exact of_nulla5 t k n x k2 n2 y f g cap hL va vb vt (beq_t hk) w
  by_cases hk2 : k2 = 0
  · rw [if_pos (Or.inr hk2)]
    exact of_nullb5 t k n x k2 n2 y f g cap hL va vb vt (beq_f hk) (beq_t hk2) w
  rw [if_neg (by omega), hC]
  cases tk
  · exact of_no5 t k n x k2 n2 y f g cap hL va vb vt (beq_f hk) (beq_f hk2) ef hT w
  · exact of_yes5 t k n x k2 n2 y f g cap hL va vb vt (beq_f hk) (beq_f hk2) ef hT eg r (hG va vb) w

theorem vld_len {k n : Int} {x : List UInt8} (h : L2.vldB k n x = true) : x.length ≤ 1000 := by
  have := L2.vldB_true h
  unfold L2.Vld at this
  rcases this with ⟨_, _, h⟩ | ⟨_, _, h⟩ | ⟨_, _, _, h⟩ | ⟨_, _, _, h⟩ | ⟨_, _, _, h⟩ <;> first | omega | (rw [h]; simp)
theorem vld_num {k n : Int} {x : List UInt8} (h : L2.vldB k n x = true) : -1000000000 ≤ n ∧ n ≤ 1000000000 := by
  have := L2.vldB_true h
  unfold L2.Vld at this
  omega

theorem of_any (m t : Int) (k n : Int) (x : List UInt8) (k2 n2 : Int) (y : List UInt8) (hm : (Lit.int .i64 m).wf = true) (w : World) :
    Calls Tryz.prog 14 #[.int .i64 m, .int .i64 t, V k n x, V k2 n2 y] w (OfPost (ofT m t k n x k2 n2 y) w) := by
  by_cases hn : m < 1 ∨ 5 < m
  · unfold ofT
    rw [if_pos hn]
    exact of_none m t k n x k2 n2 y hm hn w
  rcases (by omega : m = 1 ∨ m = 2 ∨ m = 3 ∨ m = 4 ∨ m = 5) with rfl | rfl | rfl | rfl | rfl
  · exact of_gen 1 t k n x k2 n2 y 49 50 (fun _ => #[]) (gives hm _ _ _ (by omega) (by omega) (fun b v h => by
      rcases h with ⟨e, q⟩ | ⟨e, q⟩ | ⟨e, q⟩ | ⟨e, q⟩ | ⟨e, q⟩ <;> first | (exact absurd e (by decide)) | (rw [q]))) (by omega) (by omega)
      (enters_of Tryz.func49 (by kernel_rfl) rfl) (enters_of Tryz.func50 (by kernel_rfl) rfl) true (any_any k k2) (eqT k n x k2 n2 y)
      (fun _ _ _ W _ => equal_any k n x k2 n2 y W) rfl w
  · exact of_gen 2 t k n x k2 n2 y 51 52 (fun _ => #[]) (gives hm _ _ _ (by omega) (by omega) (fun b v h => by
      rcases h with ⟨e, q⟩ | ⟨e, q⟩ | ⟨e, q⟩ | ⟨e, q⟩ | ⟨e, q⟩ <;> first | (exact absurd e (by decide)) | (rw [q]))) (by omega) (by omega)
      (enters_of Tryz.func51 (by kernel_rfl) rfl) (enters_of Tryz.func52 (by kernel_rfl) rfl) _ (texts_any k k2) (alikeT (L3.foldT x) (L3.foldT y))
      (fun va vb _ W _ => m1_any k n x k2 n2 y (vld_len va) (vld_len vb) W) (by unfold cmpT; simp) w
  · exact of_gen 3 t k n x k2 n2 y 51 54 (fun _ => #[]) (gives hm _ _ _ (by omega) (by omega) (fun b v h => by
      rcases h with ⟨e, q⟩ | ⟨e, q⟩ | ⟨e, q⟩ | ⟨e, q⟩ | ⟨e, q⟩ <;> first | (exact absurd e (by decide)) | (rw [q]))) (by omega) (by omega)
      (enters_of Tryz.func51 (by kernel_rfl) rfl) (enters_of Tryz.func54 (by kernel_rfl) rfl) _ (texts_any k k2) (jacT (toks x) (toks y))
      (fun va vb _ W _ => m2_any k n x k2 n2 y (vld_len va) (vld_len vb) W) (by unfold cmpT; simp) w
  · exact of_gen 4 t k n x k2 n2 y 51 56 (fun _ => #[]) (gives hm _ _ _ (by omega) (by omega) (fun b v h => by
      rcases h with ⟨e, q⟩ | ⟨e, q⟩ | ⟨e, q⟩ | ⟨e, q⟩ | ⟨e, q⟩ <;> first | (exact absurd e (by decide)) | (rw [q]))) (by omega) (by omega)
      (enters_of Tryz.func51 (by kernel_rfl) rfl) (enters_of Tryz.func56 (by kernel_rfl) rfl) _ (texts_any k k2) (jaroT (L3.foldT x) (L3.foldT y))
      (fun va vb _ W _ => m3_any k n x k2 n2 y (vld_len va) (vld_len vb) W) (by unfold cmpT; simp) w
  · exact of_gen5 t k n x k2 n2 y 57 58 (fun b => #[.pointer (some ⟨b, 0, none⟩)]) (gives hm _ _ _ (by omega) (by omega) (fun b v h => by
      rcases h with ⟨e, q⟩ | ⟨e, q⟩ | ⟨e, q⟩ | ⟨e, q⟩ | ⟨e, q⟩ <;> first | (exact absurd e (by decide)) | (rw [q])))
      (enters_of Tryz.func57 (by kernel_rfl) rfl) (enters_of Tryz.func58 (by kernel_rfl) rfl) _ (counts_any k k2) (nearT n n2 t)
      (fun va vb b W hc => m4_any t k n x k2 n2 y b (by have := vld_num va; omega) (by have := vld_num va; omega) (by have := vld_num vb; omega) (by have := vld_num vb; omega) W hc) (by unfold cmpT; simp) w
end Go.Proofs.YtendkghifcjffaaGreatDoor
