/- Equal items; equal lists of items. -/
import Derived.Test.YtcgkaecaddpenaaGreatDoorPsSameH
namespace Go.Proofs.YtcgkaecaddpenaaGreatDoor
open Go.RowKit
open L7 (Tk lexT lx gap)
open L8
set_option linter.unusedSimpArgs false

theorem item_ok_a (i j : It) (z z2 : Sl9) (he : EqI true i j) (hz : ItZ i) (D E : Nat) (w : World) (h1 : ItM D w i z) (h2 : ItM E w j z2) :
    Calls Tryz.prog 19 #[.agg (itL i z).toArray, .agg (itL j z2).toArray, .bool true] w (fun e w' => e = .returned (.bool true) ∧ Below w.heap.size w w') := by
  obtain ⟨a2, x2, hat, hex, rfl⟩ := he.inv
  obtain ⟨z1, z2_, z3, z4, z5, z6, z7, z8, z9⟩ := z
  obtain ⟨y1, y2, y3, y4, y5, y6, y7, y8, y9⟩ := z2
  obtain ⟨A_h1cols, c_h1cols, e_h1cols, _⟩ := h1.cols.slc.form
  obtain ⟨A_h1names, c_h1names, e_h1names, _⟩ := h1.names.slc.form
  obtain ⟨A_h1terms, c_h1terms, e_h1terms, _⟩ := h1.terms.slc.form
  obtain ⟨A_h1fixed, c_h1fixed, e_h1fixed, _⟩ := h1.fixed.slc.form
  obtain ⟨A_h1vars, c_h1vars, e_h1vars, _⟩ := h1.vars.slc.form
  obtain ⟨A_h1conds, c_h1conds, e_h1conds, _⟩ := h1.conds.slc.form
  obtain ⟨⟨xa_h1, xb_h1, xc_h1, f_h1⟩, ⟨xd_h1, xe_h1, xf_h1, g_h1⟩, ⟨xg_h1, xh_h1, xi_h1, k_h1⟩⟩ := h1.ex.isSl
  obtain ⟨A_h2cols, c_h2cols, e_h2cols, _⟩ := h2.cols.slc.form
  obtain ⟨A_h2names, c_h2names, e_h2names, _⟩ := h2.names.slc.form
  obtain ⟨A_h2terms, c_h2terms, e_h2terms, _⟩ := h2.terms.slc.form
  obtain ⟨A_h2fixed, c_h2fixed, e_h2fixed, _⟩ := h2.fixed.slc.form
  obtain ⟨A_h2vars, c_h2vars, e_h2vars, _⟩ := h2.vars.slc.form
  obtain ⟨A_h2conds, c_h2conds, e_h2conds, _⟩ := h2.conds.slc.form
  obtain ⟨⟨xa_h2, xb_h2, xc_h2, f_h2⟩, ⟨xd_h2, xe_h2, xf_h2, g_h2⟩, ⟨xg_h2, xh_h2, xi_h2, k_h2⟩⟩ := h2.ex.isSl
  simp only at e_h1cols e_h1names e_h1terms e_h1fixed e_h1vars e_h1conds e_h2cols e_h2names e_h2terms e_h2fixed e_h2vars e_h2conds f_h1 g_h1 k_h1 f_h2 g_h2 k_h2
  subst e_h1cols e_h1names e_h1terms e_h1fixed e_h1vars e_h1conds e_h2cols e_h2names e_h2terms e_h2fixed e_h2vars e_h2conds f_h1 g_h1 k_h1 f_h2 g_h2 k_h2
  obtain rfl := hat rfl
  exact item_same_a i x2 hex hz D E w _ _ _ _ _ _ _ _ _ _ _ _ _ _ _ _ _ _ _ _ _ _ _ _ _ _ _ _ _ _ _ _ _ _ _ _ _ _ _ _ _ _ h1.cols h1.names h1.terms h1.fixed h1.vars h1.conds h1.ex h2.cols h2.names h2.terms h2.fixed h2.vars h2.conds h2.ex
set_option maxRecDepth 100000 in
set_option maxHeartbeats 8000000 in
theorem items_same_a (a b : List It) (u v : Value) (D E : Nat) (hab : a.length = b.length) (he : ∀ i (h : i < a.length) (h2 : i < b.length), EqI true a[i] b[i]) (hz : ∀ i ∈ a, ItZ i) (hl : a.length ≤ 6000) (w : World) (h1 : Its D w u a) (h2 : Its E w v b) :
    Calls Tryz.prog 12 #[u, v, .bool true] w (fun e w' => e = .returned (.bool true) ∧ Below w.heap.size w w') := by
  obtain ⟨A1, c1, rfl, hc1⟩ := Slc.form h1
  obtain ⟨A2, c2, rfl, hc2⟩ := Slc.form h2
  have H1 := Lib.hid h1
  have H2 := Lib.hid h2
  have HE := Lib.hid he
  have HZ := Lib.hid hz
  clear h1 h2 he hz
  have q0 : ((a.length : Int) != (b.length : Int)) = false := by simp [hab]
  have HAB := Lib.hid hab
  clear hab
  go_enter Tryz.func12, Tryz.ntmps12
  go_wp2_with fail
  go_loopw [7] (fun i wr => ∃ k : Nat, k ≤ a.length ∧ i = .int .i64 (k : Int) ∧ Below w.heap.size w wr) (fun i _ => a.length - (intOf i).toNat)
  case atStart => exact ⟨0, by omega, by simp, by first | exact Below.refl _ _ | exact below_drewN _ _ _⟩
  case round =>
    obtain ⟨k, hk, rfl, hb⟩ := hrel
    have HB := Lib.hid hb
    clear hb
    by_cases hlt : k < a.length
    · obtain ⟨b1, o1, cc1, e1, _, g1⟩ := H1.out.spot (by omega)
      obtain ⟨b2, o2, cc2, e2, _, g2⟩ := H2.out.spot (by have := HAB.out; omega)
      cases e1
      cases e2
      have hlt2 : k < b.length := by have := HAB.out; omega
      obtain ⟨z1, p1, m1⟩ := g1 k hlt
      obtain ⟨z2, p2, m2⟩ := g2 k hlt2
      have heq := HE.out k hlt hlt2
      have hz := HZ.out _ (List.getElem_mem hlt)
      obtain ⟨x, hx⟩ : ∃ x, a[k] = x := ⟨_, rfl⟩
      obtain ⟨y, hy⟩ : ∃ y, b[k] = y := ⟨_, rfl⟩
      rw [hx] at p1 m1 heq hz
      rw [hy] at p2 m2 heq
      have r1 : wr.rangeAt b1 (o1 + k * 25) (itL x z1) := fun j v hj => cellB HB.out ((p1 j (List.getElem?_eq_some_iff.1 hj).1).trans hj)
      have r2 : wr.rangeAt b2 (o2 + k * 25) (itL y z2) := fun j v hj => cellB HB.out ((p2 j (List.getElem?_eq_some_iff.1 hj).1).trans hj)
      have CI := Lib.hid (fun W (hb : Below w.heap.size w W) => item_ok_a x y z1 z2 heq hz D E W (m1.stay (kept_below hb)) (m2.stay (kept_below hb)))
      have i1 : (0 : Int) ≤ (k : Int) := by omega
      have i2 : (k : Int) < (a.length : Int) := by omega
      have i2b : (k : Int) < (b.length : Int) := by omega
      have i3 : IntKind.i64.wrap ((k : Int) + 1) = (k : Int) + 1 := IntWalk.i64_in _ (by omega)
      clear hx hy p1 p2 m1 m2 g1 g2 heq hz
      go_wp2_with fail
      refine wp_region_held_drew (S := (fun w' => w'.rangeAt b1 (o1 + k * 25) (itL x z1) ∧ w'.rangeAt b2 (o2 + k * 25) (itL y z2))) (by kernel_rfl) ⟨by simpa using r1, by simpa using r2⟩ (fun hHeld => ?_)
      refine wpAnyH_take (i := 0) (oi := { dst := some 19, op := Op.move (Operand.tmp 0), type := 27, pos := "ref.go:455", after := #[], guard := none }) (v := ?_) rfl (by kernel_rfl) (by kernel_rfl) (by kernel_rfl) (fun _ _ _ h => h) (Or.inl ⟨by rfl, ?_⟩) (by assumption) ?_
      rotate_left
      · (intro w hSw; (try dsimp only at hSw); go_simp; try with_reducible rfl)
      try simp only [Act.put, List.setIfInBounds_toArray, List.set_cons_zero, List.set_cons_succ]
      refine wpAnyH_take (i := 1) (oi := { dst := some 20, op := Op.move (Operand.tmp 7), type := 3, pos := "ref.go:455", after := #[], guard := none }) (v := ?_) rfl (by kernel_rfl) (by kernel_rfl) (by kernel_rfl) (fun _ _ _ h => h) (Or.inl ⟨by rfl, ?_⟩) (by assumption) ?_
      rotate_left
      · (intro w hSw; (try dsimp only at hSw); go_simp; try with_reducible rfl)
      try simp only [Act.put, List.setIfInBounds_toArray, List.set_cons_zero, List.set_cons_succ]
      refine wpAnyH_take (i := 2) (oi := { dst := some 21, op := Op.indexAddr 27 (Operand.tmp 19) (Operand.tmp 20), type := 0, pos := "ref.go:455", after := #[{ on := 0, ground := Ground.data }, { on := 1, ground := Ground.data }], guard := none }) (v := ?_) rfl (by kernel_rfl) (by kernel_rfl) (by kernel_rfl) (fun _ _ _ h => h) (Or.inl ⟨by rfl, ?_⟩) (by assumption) ?_
      rotate_left
      · (intro w hSw; (try dsimp only at hSw); go_simp; try with_reducible rfl)
      try simp only [Act.put, List.setIfInBounds_toArray, List.set_cons_zero, List.set_cons_succ]
      refine wpAnyH_take (i := 3) (oi := { dst := some 22, op := Op.load 51 (Operand.tmp 21), type := 51, pos := "ref.go:455", after := #[{ on := 2, ground := Ground.data }], guard := none }) (v := .agg (itL x z1).toArray) rfl (by kernel_rfl) (by kernel_rfl) (by kernel_rfl) (fun _ _ _ h => h) (yieldsIf_load_mid (by rfl) _ _ rfl b1 (o1 + k * 25) rfl (itL x z1) _ (fun _ h => h.1) Tryz.underlying51 rfl infoIt) (by assumption) ?_
      try simp only [Act.put, List.setIfInBounds_toArray, List.set_cons_zero, List.set_cons_succ]
      refine wpAnyH_take (i := 4) (oi := { dst := some 23, op := Op.move (Operand.tmp 1), type := 27, pos := "ref.go:455", after := #[], guard := none }) (v := ?_) rfl (by kernel_rfl) (by kernel_rfl) (by kernel_rfl) (fun _ _ _ h => h) (Or.inl ⟨by rfl, ?_⟩) (by assumption) ?_
      rotate_left
      · (intro w hSw; (try dsimp only at hSw); go_simp; try with_reducible rfl)
      try simp only [Act.put, List.setIfInBounds_toArray, List.set_cons_zero, List.set_cons_succ]
      refine wpAnyH_take (i := 5) (oi := { dst := some 24, op := Op.move (Operand.tmp 7), type := 3, pos := "ref.go:455", after := #[], guard := none }) (v := ?_) rfl (by kernel_rfl) (by kernel_rfl) (by kernel_rfl) (fun _ _ _ h => h) (Or.inl ⟨by rfl, ?_⟩) (by assumption) ?_
      rotate_left
      · (intro w hSw; (try dsimp only at hSw); go_simp; try with_reducible rfl)
      try simp only [Act.put, List.setIfInBounds_toArray, List.set_cons_zero, List.set_cons_succ]
      refine wpAnyH_take (i := 6) (oi := { dst := some 25, op := Op.indexAddr 27 (Operand.tmp 23) (Operand.tmp 24), type := 0, pos := "ref.go:455", after := #[{ on := 4, ground := Ground.data }, { on := 5, ground := Ground.data }], guard := none }) (v := ?_) rfl (by kernel_rfl) (by kernel_rfl) (by kernel_rfl) (fun _ _ _ h => h) (Or.inl ⟨by rfl, ?_⟩) (by assumption) ?_
      rotate_left
      · (intro w hSw; (try dsimp only at hSw); go_simp; try with_reducible rfl)
      try simp only [Act.put, List.setIfInBounds_toArray, List.set_cons_zero, List.set_cons_succ]
      refine wpAnyH_take (i := 7) (oi := { dst := some 26, op := Op.load 51 (Operand.tmp 25), type := 51, pos := "ref.go:455", after := #[{ on := 6, ground := Ground.data }], guard := none }) (v := .agg (itL y z2).toArray) rfl (by kernel_rfl) (by kernel_rfl) (by kernel_rfl) (fun _ _ _ h => h) (yieldsIf_load_mid (by rfl) _ _ rfl b2 (o2 + k * 25) rfl (itL y z2) _ (fun _ h => h.2) Tryz.underlying51 rfl infoIt) (by assumption) ?_
      try simp only [Act.put, List.setIfInBounds_toArray, List.set_cons_zero, List.set_cons_succ]
      refine wpAnyH_take (i := 8) (oi := { dst := some 27, op := Op.move (Operand.tmp 2), type := 4, pos := "ref.go:455", after := #[], guard := none }) (v := ?_) rfl (by kernel_rfl) (by kernel_rfl) (by kernel_rfl) (fun _ _ _ h => h) (Or.inl ⟨by rfl, ?_⟩) (by assumption) ?_
      rotate_left
      · (intro w hSw; (try dsimp only at hSw); go_simp; try with_reducible rfl)
      try simp only [Act.put, List.setIfInBounds_toArray, List.set_cons_zero, List.set_cons_succ]
      refine wpAnyH_ready (rs := [9]) (by kernel_rfl) (by simp) ?_
      refine AllReadyH.cons (o := { dst := some 28, op := Op.call { callee := Callee.value (Operand.func 19), args := #[Operand.tmp 22, Operand.tmp 26, Operand.tmp 27], argTypes := #[51, 51, 4] }, type := 4, pos := "ref.go:455", after := #[{ on := 3, ground := Ground.data }, { on := 7, ground := Ground.data }, { on := 8, ground := Ground.data }], guard := none }) rfl (fun K hK => ?_) AllReadyH.nil
      go_simp
      go_at_call 19
      refine (CI.out _ (HB.out.trans (below_drewN _ wr 1))).mono ?_
      rintro e w8 ⟨rfl, hb8⟩
      have E8 := Lib.hid (show Below wr.heap.size wr w8 from (below_drewN _ wr 1).trans hb8)
      have s1 : w8.rangeAt b1 (o1 + k * 25) (itL x z1) := fun j v hj => cellB E8.out (r1 j v hj)
      have s2 : w8.rangeAt b2 (o2 + k * 25) (itL y z2) := fun j v hj => cellB E8.out (r2 j v hj)
      clear hb8
      refine hK.out _ _ ⟨s1, s2⟩ (fun hHeld2 => ?_)
      clear hK K hHeld
      refine wpAnyH_take (i := 10) (oi := { dst := some 29, op := Op.unOp UnOp.not 4 (Operand.tmp 28), type := 4, pos := "ref.go:455", after := #[{ on := 9, ground := Ground.data }], guard := none }) (v := ?_) rfl (by kernel_rfl) (by kernel_rfl) (by kernel_rfl) (fun _ _ _ h => h) (Or.inl ⟨by rfl, ?_⟩) (by assumption) ?_
      rotate_left
      · (intro w hSw; (try dsimp only at hSw); go_simp; try with_reducible rfl)
      try simp only [Act.put, List.setIfInBounds_toArray, List.set_cons_zero, List.set_cons_succ]
      refine wpAnyH_done (by kernel_rfl) ?_ _
      go_wp2_with fail
      go_roundw
      case rel => exact ⟨k + 1, by omega, by simp, below_step2 HB.out E8.out⟩
      case measure => simp [intOf]; omega
    · have i2 : ¬ (k : Int) < (a.length : Int) := by omega
      go_wp2_with fail
      go_ret
      exact ⟨rfl, HB.out⟩
end Go.Proofs.YtcgkaecaddpenaaGreatDoor
