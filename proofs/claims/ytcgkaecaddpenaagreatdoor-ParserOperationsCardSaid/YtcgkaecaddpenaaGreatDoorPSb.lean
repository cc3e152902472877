import Derived.Test.YtcgkaecaddpenaaGreatDoorPLaw
import Derived.Test.YtcgkaecaddpenaaGreatDoorPsLawB
import Derived.Test.YtcgkaecaddpenaaGreatDoorPsHlp
/- The parser in plain words: how long lists are; equal trees. -/
namespace Go.Proofs.YtcgkaecaddpenaaGreatDoor.L8
open L7 (Tk lexT)

def HdS (h : Hd) : Prop := h.conds.length ≤ 6000 ∧ h.names.length ≤ 6000
def ExS : Ex → Prop
  | .e0 h => HdS h
  | .e1 h a => HdS h ∧ ExS a
  | .e2 h a b => HdS h ∧ ExS a ∧ ExS b
structure ItZ (i : It) : Prop where
  cols : i.cols.length ≤ 6000
  names : i.names.length ≤ 6000
  terms : i.terms.length ≤ 6000
  fixed : i.fixed.length ≤ 6000
  vars : i.vars.length ≤ 6000
  conds : i.conds.length ≤ 6000
  ex : ExS i.ex
theorem val_listP {α : Type} (w : Txt) (p : P α) : ∀ f, Val (fun l : List α => l.length ≤ f) (listP w p f)
  | 0 => fun r a r1 h => by cases h
  | f + 1 => by
    unfold listP
    exact Val.bnd fun a => Val.bnd fun c => Val.ite (fun _ => Val.bnd2 (val_listP w p f) fun l hl => Val.pur (by simp; omega)) fun _ => Val.pur (by simp)
theorem val_termsP : ∀ f, Val (fun l : List Trm => l.length ≤ f) (termsP f)
  | 0 => fun r a r1 h => by cases h
  | f + 1 => by
    unfold termsP
    exact Val.bnd fun c => Val.ite (fun _ => Val.pur (by simp)) fun _ => Val.bnd fun t => Val.bnd2 (val_termsP f) fun l hl => Val.pur (by simp; omega)
theorem fu_eq : FU = 6000 := rfl
theorem val_condsP : Val (fun l : List Cnd => l.length ≤ 6000) condsP := by
  unfold condsP
  exact Val.bnd fun _ => val_listP _ _ FU
theorem val_namesP : Val (fun l : List Txt => l.length ≤ 6000) namesP := val_listP _ _ FU
theorem val_namesUpP (w : Txt) : Val (fun l : List Txt => l.length ≤ 6000) (namesUpP w) := by
  unfold namesUpP
  exact Val.bnd fun _ => Val.bnd fun c => Val.ite (fun _ => Val.pur (by simp)) fun _ => val_namesP
theorem val_opS (k at_ : Int) (a : Ex) (e : P Ex) (ha : ExS a) (he : Val ExS e) : Val ExS (opP k at_ a e) := by
  unfold opP
  refine Val.ite (fun _ => ?_) fun _ => Val.ite (fun _ => ?_) fun _ => Val.ite (fun _ => ?_) fun _ => Val.ite (fun _ => ?_) fun _ => ?_
  · exact Val.bnd2 val_condsP fun c hc => Val.pur ⟨⟨hc, Nat.zero_le _⟩, ha⟩
  · exact Val.bnd2 (val_namesUpP _) fun n hn => Val.pur ⟨⟨Nat.zero_le _, hn⟩, ha⟩
  · exact Val.bnd fun _ => Val.bnd fun _ => Val.bnd fun _ => Val.bnd fun _ => Val.pur ⟨⟨Nat.zero_le _, Nat.zero_le _⟩, ha⟩
  · exact Val.bnd2 (val_namesUpP _) fun n hn => Val.bnd fun _ => Val.bnd fun _ => Val.bnd fun _ => Val.bnd fun _ => Val.bnd fun _ => Val.pur ⟨⟨Nat.zero_le _, hn⟩, ha⟩
  · exact Val.bnd fun _ => Val.bnd2 he fun b hb => Val.pur ⟨⟨Nat.zero_le _, Nat.zero_le _⟩, ha, hb⟩
theorem val_exprS : ∀ d, Val ExS (exprP d)
  | 0 => fun r a r1 h => by cases h
  | d + 1 => by
    unfold exprP
    exact Val.bnd fun p => Val.bnd fun k => Val.ite (fun _ => Val.bnd fun n => Val.pur ⟨Nat.zero_le _, Nat.zero_le _⟩) fun _ => Val.bnd2 (val_exprS d) fun a ha => Val.bnd2 (val_opS _ _ a _ ha (val_exprS d)) fun x hx => Val.bnd fun _ => Val.pur hx
theorem xzS : ExS xz := ⟨Nat.zero_le _, Nat.zero_le _⟩
theorem val_attrsS (k : Int) : Val ItZ (attrsP k) := by
  unfold attrsP
  exact Val.bnd fun _ => Val.bnd fun _ => Val.bnd fun _ => Val.bnd fun _ => Val.bnd2 val_namesP fun l hl => Val.bnd fun _ => Val.pur ⟨Nat.zero_le _, hl, Nat.zero_le _, Nat.zero_le _, Nat.zero_le _, Nat.zero_le _, xzS⟩
theorem val_kindS (k : Int) : Val ItZ (kindP2 k) := by
  unfold kindP2
  refine Val.ite (fun e => ?_) fun n1 => Val.ite (fun e => ?_) fun n2 => Val.ite (fun e => ?_) fun n3 => Val.ite (fun e => ?_) fun n4 => Val.ite (fun e => ?_) fun n5 => Val.ite (fun e => ?_) fun n6 => Val.ite (fun e => ?_) fun n7 => Val.ite (fun e => ?_) fun n8 => Val.ite (fun e => ?_) fun n9 => ?_
  · unfold tableP
    exact Val.bnd fun _ => Val.bnd fun _ => Val.bnd2 (val_listP _ _ FU) fun c hc => Val.bnd fun _ => Val.bnd fun _ => Val.bnd2 val_namesP fun l hl => Val.bnd fun _ => Val.pur ⟨hc, hl, Nat.zero_le _, Nat.zero_le _, Nat.zero_le _, Nat.zero_le _, xzS⟩
  · unfold originP; repeat' first | exact Val.pur ⟨Nat.zero_le _, Nat.zero_le _, Nat.zero_le _, Nat.zero_le _, Nat.zero_le _, Nat.zero_le _, xzS⟩ | refine Val.bnd (fun _ => ?_)
  · unfold blockP; repeat' first | exact Val.pur ⟨Nat.zero_le _, Nat.zero_le _, Nat.zero_le _, Nat.zero_le _, Nat.zero_le _, Nat.zero_le _, xzS⟩ | refine Val.bnd (fun _ => ?_)
  · unfold matchP
    exact Val.bnd fun _ => Val.bnd fun _ => Val.bnd fun _ => Val.bnd fun _ => Val.bnd fun _ => Val.bnd fun _ => Val.bnd2 (val_termsP FU) fun l hl => Val.pur ⟨Nat.zero_le _, Nat.zero_le _, hl, Nat.zero_le _, Nat.zero_le _, Nat.zero_le _, xzS⟩
  · unfold keepP; repeat' first | exact Val.pur ⟨Nat.zero_le _, Nat.zero_le _, Nat.zero_le _, Nat.zero_le _, Nat.zero_le _, Nat.zero_le _, xzS⟩ | refine Val.bnd (fun _ => ?_)
  · unfold uniqueP
    exact Val.bnd2 (val_attrsS 6) fun i hi => Val.bnd fun _ => Val.pur hi
  · unfold dependP
    exact Val.bnd2 (val_attrsS 7) fun i hi => Val.bnd fun _ => Val.bnd fun _ => Val.bnd fun _ => Val.ite (fun _ => Val.bnd2 (val_listP _ _ FU) fun f hf => Val.bnd fun _ => Val.pur ⟨hi.cols, hi.names, hi.terms, hf, hi.vars, hi.conds, hi.ex⟩) fun _ => Val.bnd fun _ => Val.pur ⟨hi.cols, hi.names, hi.terms, hi.fixed, hi.vars, hi.conds, hi.ex⟩
  · unfold includeP; repeat' first | exact Val.pur ⟨Nat.zero_le _, Nat.zero_le _, Nat.zero_le _, Nat.zero_le _, Nat.zero_le _, Nat.zero_le _, xzS⟩ | refine Val.bnd (fun _ => ?_)
  · unfold denyP
    exact Val.bnd fun _ => Val.bnd2 (val_listP _ _ FU) fun v hv => Val.bnd2 val_condsP fun c hc => Val.bnd fun _ => Val.pur ⟨Nat.zero_le _, Nat.zero_le _, Nat.zero_le _, Nat.zero_le _, hv, hc, xzS⟩
  · unfold queryP
    exact Val.bnd fun _ => Val.bnd fun _ => Val.bnd2 (val_exprS 12) fun x hx => Val.bnd fun _ => Val.pur ⟨Nat.zero_le _, Nat.zero_le _, Nat.zero_le _, Nat.zero_le _, Nat.zero_le _, Nat.zero_le _, hx⟩
theorem val_itemS : Val ItZ itemP := by
  unfold itemP
  exact Val.bnd fun _ => Val.bnd fun k => Val.bnd2 (val_kindS k) fun i hi => Val.pur ⟨hi.cols, hi.names, hi.terms, hi.fixed, hi.vars, hi.conds, hi.ex⟩
theorem val_itemsS : ∀ k, Val (fun l : List It => ∀ i ∈ l, ItZ i) (itemsP k)
  | 0 => by
    rw [items_zero]
    exact Val.bnd fun _ => Val.ite (fun _ => Val.pur (fun i h => by cases h)) fun _ => fun r a r1 h => by cases h
  | k + 1 => by
    rw [items_succ]
    exact Val.bnd fun _ => Val.ite (fun _ => Val.pur (fun i h => by cases h)) fun _ => Val.bnd2 val_itemS fun i hi => Val.bnd2 (val_itemsS k) fun l hl => Val.pur (fun j hj => by
      rcases List.mem_cons.1 hj with rfl | hj
      · exact hi
      · exact hl j hj)
theorem parse_size {t : Txt} {a : List It} {er x : Int} (h : parseT t = (a, er, x)) : ∀ i ∈ a, ItZ i := by
  by_cases hl : (lexT t).2.1 ≠ 0
  · rw [parse_err hl] at h
    simp only [Prod.mk.injEq] at h
    rw [← h.1]
    exact fun i q => by cases q
  · have he2 : lexT t = ((lexT t).1, 0, (lexT t).2.2) := Prod.ext rfl (Prod.ext (by simpa using hl) rfl)
    rw [parse_lex he2] at h
    rcases e : itemsP 200 (lexT t).1 with ⟨l, r⟩ | ⟨c, r⟩
    · rw [e] at h
      simp only [endT, Prod.mk.injEq] at h
      rw [← h.1]
      exact val_itemsS 200 _ _ _ e
    · rw [e] at h
      simp only [endT, Prod.mk.injEq] at h
      rw [← h.1]
      exact fun i q => by cases q
/-! ### Equal trees; with or without offsets. -/
def EqE (fl : Bool) (x y : Ex) : Prop := if fl = true then x = y else era x = era y
def EqI (fl : Bool) (x y : It) : Prop := if fl = true then x = y else eraI x = eraI y
theorem hd_eq {h h2 : Hd} (e : { h with at_ := 0 } = { h2 with at_ := 0 }) : h2 = { h with at_ := h2.at_ } := by
  cases h
  cases h2
  simp only [Hd.mk.injEq] at e ⊢
  simp [e]
theorem EqE.e0 {fl : Bool} {h : Hd} {y : Ex} (e : EqE fl (.e0 h) y) : ∃ a2, (fl = true → a2 = h.at_) ∧ y = .e0 { h with at_ := a2 } := by
  cases fl
  · have e2 : era (.e0 h) = era y := e
    cases y with
    | e0 h2 =>
      simp only [era, Ex.e0.injEq] at e2
      exact ⟨h2.at_, (fun q => by cases q), congrArg Ex.e0 (hd_eq e2)⟩
    | e1 h2 a => simp [era] at e2
    | e2 h2 a b => simp [era] at e2
  · have e2 : Ex.e0 h = y := e
    exact ⟨h.at_, fun _ => rfl, e2.symm⟩
theorem EqE.e1 {fl : Bool} {h : Hd} {a y : Ex} (e : EqE fl (.e1 h a) y) : ∃ a2 b, (fl = true → a2 = h.at_) ∧ EqE fl a b ∧ y = .e1 { h with at_ := a2 } b := by
  cases fl
  · have e2 : era (.e1 h a) = era y := e
    cases y with
    | e0 h2 => simp [era] at e2
    | e1 h2 b =>
      simp only [era, Ex.e1.injEq] at e2
      exact ⟨h2.at_, b, (fun q => by cases q), e2.2, by rw [← hd_eq e2.1]⟩
    | e2 h2 a b => simp [era] at e2
  · have e2 : Ex.e1 h a = y := e
    exact ⟨h.at_, a, fun _ => rfl, rfl, e2.symm⟩
theorem EqE.e2 {fl : Bool} {h : Hd} {a b y : Ex} (e : EqE fl (.e2 h a b) y) : ∃ a2 c d, (fl = true → a2 = h.at_) ∧ EqE fl a c ∧ EqE fl b d ∧ y = .e2 { h with at_ := a2 } c d := by
  cases fl
  · have e2 : era (.e2 h a b) = era y := e
    cases y with
    | e0 h2 => simp [era] at e2
    | e1 h2 c => simp [era] at e2
    | e2 h2 c d =>
      simp only [era, Ex.e2.injEq] at e2
      exact ⟨h2.at_, c, d, (fun q => by cases q), e2.2.1, e2.2.2, by rw [← hd_eq e2.1]⟩
  · have e2 : Ex.e2 h a b = y := e
    exact ⟨h.at_, a, b, fun _ => rfl, rfl, rfl, e2.symm⟩
theorem EqI.inv {fl : Bool} {i j : It} (e : EqI fl i j) : ∃ a2 x2, (fl = true → a2 = i.at_) ∧ EqE fl i.ex x2 ∧ j = { i with at_ := a2, ex := x2 } := by
  cases fl
  · have e2 : eraI i = eraI j := e
    refine ⟨j.at_, j.ex, (fun q => by cases q), ?_, ?_⟩
    · exact congrArg It.ex e2
    · cases i
      cases j
      simp only [eraI, It.mk.injEq] at e2 ⊢
      simp [e2]
  · have e2 : i = j := e
    subst e2
    exact ⟨i.at_, i.ex, fun _ => rfl, rfl, rfl⟩
end Go.Proofs.YtcgkaecaddpenaaGreatDoor.L8

/- Equal lists of names and of conditions. -/
namespace Go.Proofs.YtcgkaecaddpenaaGreatDoor
open Go.RowKit
open L7 (Tk lexT lx gap)
open L8
set_option linter.unusedSimpArgs false

set_option maxRecDepth 100000 in
set_option maxHeartbeats 8000000 in
theorem strings_true (l : List Txt) (u v : Value) (D E : Nat) (hl : l.length ≤ 6000) (w : World) (h1 : Lst D 1 txtC w u l) (h2 : Lst E 1 txtC w v l) :
    Calls Tryz.prog 20 #[u, v] w (fun e w' => e = .returned (.bool true) ∧ Below w.heap.size w w') := by
  obtain ⟨A1, c1, rfl, hc1⟩ : ∃ A c, u = .slice A l.length c ∧ l.length ≤ c := by obtain ⟨A, c, e, hc, _⟩ := h1.slc; exact ⟨A, c, e, hc⟩
  obtain ⟨A2, c2, rfl, hc2⟩ : ∃ A c, v = .slice A l.length c ∧ l.length ≤ c := by obtain ⟨A, c, e, hc, _⟩ := h2.slc; exact ⟨A, c, e, hc⟩
  have H1 := Lib.hid h1
  have H2 := Lib.hid h2
  clear h1 h2
  have q0 : ((l.length : Int) != (l.length : Int)) = false := by simp
  go_enter Tryz.func20, Tryz.ntmps20
  go_wp2_with fail
  go_loopw [5] (fun i wr => ∃ k : Nat, k ≤ l.length ∧ i = .int .i64 (k : Int) ∧ Below w.heap.size w wr) (fun i _ => l.length - (intOf i).toNat)
  case atStart => exact ⟨0, by omega, by simp, by first | exact Below.refl _ _ | exact below_drewN _ _ _⟩
  case round =>
    obtain ⟨k, hk, rfl, hb⟩ := hrel
    have HB := Lib.hid hb
    clear hb
    by_cases hlt : k < l.length
    · obtain ⟨b1, o1, cc1, e1, _, g1⟩ := H1.out.spot (by omega)
      obtain ⟨b2, o2, cc2, e2, _, g2⟩ := H2.out.spot (by omega)
      cases e1
      cases e2
      have G1 := fun j hj => g1 k hlt j hj
      have G2 := fun j hj => g2 k hlt j hj
      obtain ⟨x, hx⟩ : ∃ x, l[k] = x := ⟨_, rfl⟩
      rw [hx] at G1 G2
      have x0 : ∀ m, (wr.drewN m).cell? ⟨b1, o1 + k, none⟩ = some (str x) := fun m => cellB (HB.out.trans (below_drewN _ wr m)) (by have q := G1 0 (by decide); rw [Nat.mul_one, Nat.add_zero] at q; exact q)
      have y0 : ∀ m, (wr.drewN m).cell? ⟨b2, o2 + k, none⟩ = some (str x) := fun m => cellB (HB.out.trans (below_drewN _ wr m)) (by have q := G2 0 (by decide); rw [Nat.mul_one, Nat.add_zero] at q; exact q)
      have i1 : (0 : Int) ≤ (k : Int) := by omega
      have i2 : (k : Int) < (l.length : Int) := by omega
      have i3 : IntKind.i64.wrap ((k : Int) + 1) = (k : Int) + 1 := IntWalk.i64_in _ (by omega)
      clear hx g1 g2 G1 G2
      go_wp2_with fail
      go_quiet (fail)
      go_wp2_with fail
      go_roundw
      case rel => exact ⟨k + 1, by omega, by simp, HB.out.trans (below_drewN _ _ _)⟩
      case measure => simp [intOf]; omega
    · have i2 : ¬ (k : Int) < (l.length : Int) := by omega
      go_wp2_with fail
      go_ret
      exact ⟨rfl, HB.out⟩
set_option maxRecDepth 100000 in
set_option maxHeartbeats 8000000 in
theorem conds_true (l : List Cnd) (u v : Value) (D E : Nat) (hl : l.length ≤ 6000) (w : World) (h1 : Lst D 14 cndC w u l) (h2 : Lst E 14 cndC w v l) :
    Calls Tryz.prog 21 #[u, v] w (fun e w' => e = .returned (.bool true) ∧ Below w.heap.size w w') := by
  obtain ⟨A1, c1, rfl, hc1⟩ : ∃ A c, u = .slice A l.length c ∧ l.length ≤ c := by obtain ⟨A, c, e, hc, _⟩ := h1.slc; exact ⟨A, c, e, hc⟩
  obtain ⟨A2, c2, rfl, hc2⟩ : ∃ A c, v = .slice A l.length c ∧ l.length ≤ c := by obtain ⟨A, c, e, hc, _⟩ := h2.slc; exact ⟨A, c, e, hc⟩
  have H1 := Lib.hid h1
  have H2 := Lib.hid h2
  clear h1 h2
  have q0 : ((l.length : Int) != (l.length : Int)) = false := by simp
  go_enter Tryz.func21, Tryz.ntmps21
  go_wp2_with fail
  go_loopw [5] (fun i wr => ∃ k : Nat, k ≤ l.length ∧ i = .int .i64 (k : Int) ∧ Below w.heap.size w wr) (fun i _ => l.length - (intOf i).toNat)
  case atStart => exact ⟨0, by omega, by simp, by first | exact Below.refl _ _ | exact below_drewN _ _ _⟩
  case round =>
    obtain ⟨k, hk, rfl, hb⟩ := hrel
    have HB := Lib.hid hb
    clear hb
    by_cases hlt : k < l.length
    · obtain ⟨b1, o1, cc1, e1, _, g1⟩ := H1.out.spot (by omega)
      obtain ⟨b2, o2, cc2, e2, _, g2⟩ := H2.out.spot (by omega)
      cases e1
      cases e2
      have G1 := fun j hj => g1 k hlt j hj
      have G2 := fun j hj => g2 k hlt j hj
      obtain ⟨x, hx⟩ : ∃ x, l[k] = x := ⟨_, rfl⟩
      rw [hx] at G1 G2
      have x0 : ∀ m, (wr.drewN m).cell? ⟨b1, o1 + k * 14, none⟩ = some (str x.left.var) := fun m => cellB (HB.out.trans (below_drewN _ wr m)) ((G1 0 (by decide)).trans rfl)
      have y0 : ∀ m, (wr.drewN m).cell? ⟨b2, o2 + k * 14, none⟩ = some (str x.left.var) := fun m => cellB (HB.out.trans (below_drewN _ wr m)) ((G2 0 (by decide)).trans rfl)
      have x1 : ∀ m, (wr.drewN m).cell? ⟨b1, o1 + k * 14 + 1, none⟩ = some (str x.left.attr) := fun m => cellB (HB.out.trans (below_drewN _ wr m)) ((G1 1 (by decide)).trans rfl)
      have y1 : ∀ m, (wr.drewN m).cell? ⟨b2, o2 + k * 14 + 1, none⟩ = some (str x.left.attr) := fun m => cellB (HB.out.trans (below_drewN _ wr m)) ((G2 1 (by decide)).trans rfl)
      have x2 : ∀ m, (wr.drewN m).cell? ⟨b1, o1 + k * 14 + 2, none⟩ = some (.bool x.left.const) := fun m => cellB (HB.out.trans (below_drewN _ wr m)) ((G1 2 (by decide)).trans rfl)
      have y2 : ∀ m, (wr.drewN m).cell? ⟨b2, o2 + k * 14 + 2, none⟩ = some (.bool x.left.const) := fun m => cellB (HB.out.trans (below_drewN _ wr m)) ((G2 2 (by decide)).trans rfl)
      have x3 : ∀ m, (wr.drewN m).cell? ⟨b1, o1 + k * 14 + 3, none⟩ = some (.int .i64 x.left.v.k) := fun m => cellB (HB.out.trans (below_drewN _ wr m)) ((G1 3 (by decide)).trans rfl)
      have y3 : ∀ m, (wr.drewN m).cell? ⟨b2, o2 + k * 14 + 3, none⟩ = some (.int .i64 x.left.v.k) := fun m => cellB (HB.out.trans (below_drewN _ wr m)) ((G2 3 (by decide)).trans rfl)
      have x4 : ∀ m, (wr.drewN m).cell? ⟨b1, o1 + k * 14 + 4, none⟩ = some (.int .i64 x.left.v.n) := fun m => cellB (HB.out.trans (below_drewN _ wr m)) ((G1 4 (by decide)).trans rfl)
      have y4 : ∀ m, (wr.drewN m).cell? ⟨b2, o2 + k * 14 + 4, none⟩ = some (.int .i64 x.left.v.n) := fun m => cellB (HB.out.trans (below_drewN _ wr m)) ((G2 4 (by decide)).trans rfl)
      have x5 : ∀ m, (wr.drewN m).cell? ⟨b1, o1 + k * 14 + 5, none⟩ = some (str x.left.v.t) := fun m => cellB (HB.out.trans (below_drewN _ wr m)) ((G1 5 (by decide)).trans rfl)
      have y5 : ∀ m, (wr.drewN m).cell? ⟨b2, o2 + k * 14 + 5, none⟩ = some (str x.left.v.t) := fun m => cellB (HB.out.trans (below_drewN _ wr m)) ((G2 5 (by decide)).trans rfl)
      have x6 : ∀ m, (wr.drewN m).cell? ⟨b1, o1 + k * 14 + 6, none⟩ = some (.int .i64 x.op) := fun m => cellB (HB.out.trans (below_drewN _ wr m)) ((G1 6 (by decide)).trans rfl)
      have y6 : ∀ m, (wr.drewN m).cell? ⟨b2, o2 + k * 14 + 6, none⟩ = some (.int .i64 x.op) := fun m => cellB (HB.out.trans (below_drewN _ wr m)) ((G2 6 (by decide)).trans rfl)
      have x7 : ∀ m, (wr.drewN m).cell? ⟨b1, o1 + k * 14 + 7, none⟩ = some (str x.right.var) := fun m => cellB (HB.out.trans (below_drewN _ wr m)) ((G1 7 (by decide)).trans rfl)
      have y7 : ∀ m, (wr.drewN m).cell? ⟨b2, o2 + k * 14 + 7, none⟩ = some (str x.right.var) := fun m => cellB (HB.out.trans (below_drewN _ wr m)) ((G2 7 (by decide)).trans rfl)
      have x8 : ∀ m, (wr.drewN m).cell? ⟨b1, o1 + k * 14 + 8, none⟩ = some (str x.right.attr) := fun m => cellB (HB.out.trans (below_drewN _ wr m)) ((G1 8 (by decide)).trans rfl)
      have y8 : ∀ m, (wr.drewN m).cell? ⟨b2, o2 + k * 14 + 8, none⟩ = some (str x.right.attr) := fun m => cellB (HB.out.trans (below_drewN _ wr m)) ((G2 8 (by decide)).trans rfl)
      have x9 : ∀ m, (wr.drewN m).cell? ⟨b1, o1 + k * 14 + 9, none⟩ = some (.bool x.right.const) := fun m => cellB (HB.out.trans (below_drewN _ wr m)) ((G1 9 (by decide)).trans rfl)
      have y9 : ∀ m, (wr.drewN m).cell? ⟨b2, o2 + k * 14 + 9, none⟩ = some (.bool x.right.const) := fun m => cellB (HB.out.trans (below_drewN _ wr m)) ((G2 9 (by decide)).trans rfl)
      have x10 : ∀ m, (wr.drewN m).cell? ⟨b1, o1 + k * 14 + 10, none⟩ = some (.int .i64 x.right.v.k) := fun m => cellB (HB.out.trans (below_drewN _ wr m)) ((G1 10 (by decide)).trans rfl)
      have y10 : ∀ m, (wr.drewN m).cell? ⟨b2, o2 + k * 14 + 10, none⟩ = some (.int .i64 x.right.v.k) := fun m => cellB (HB.out.trans (below_drewN _ wr m)) ((G2 10 (by decide)).trans rfl)
      have x11 : ∀ m, (wr.drewN m).cell? ⟨b1, o1 + k * 14 + 11, none⟩ = some (.int .i64 x.right.v.n) := fun m => cellB (HB.out.trans (below_drewN _ wr m)) ((G1 11 (by decide)).trans rfl)
      have y11 : ∀ m, (wr.drewN m).cell? ⟨b2, o2 + k * 14 + 11, none⟩ = some (.int .i64 x.right.v.n) := fun m => cellB (HB.out.trans (below_drewN _ wr m)) ((G2 11 (by decide)).trans rfl)
      have x12 : ∀ m, (wr.drewN m).cell? ⟨b1, o1 + k * 14 + 12, none⟩ = some (str x.right.v.t) := fun m => cellB (HB.out.trans (below_drewN _ wr m)) ((G1 12 (by decide)).trans rfl)
      have y12 : ∀ m, (wr.drewN m).cell? ⟨b2, o2 + k * 14 + 12, none⟩ = some (str x.right.v.t) := fun m => cellB (HB.out.trans (below_drewN _ wr m)) ((G2 12 (by decide)).trans rfl)
      have x13 : ∀ m, (wr.drewN m).cell? ⟨b1, o1 + k * 14 + 13, none⟩ = some (.int .i64 x.add) := fun m => cellB (HB.out.trans (below_drewN _ wr m)) ((G1 13 (by decide)).trans rfl)
      have y13 : ∀ m, (wr.drewN m).cell? ⟨b2, o2 + k * 14 + 13, none⟩ = some (.int .i64 x.add) := fun m => cellB (HB.out.trans (below_drewN _ wr m)) ((G2 13 (by decide)).trans rfl)
      have i1 : (0 : Int) ≤ (k : Int) := by omega
      have i2 : (k : Int) < (l.length : Int) := by omega
      have i3 : IntKind.i64.wrap ((k : Int) + 1) = (k : Int) + 1 := IntWalk.i64_in _ (by omega)
      clear hx g1 g2 G1 G2
      go_wp2_with fail
      go_quiet (fail)
      go_wp2_with fail
      go_roundw
      case rel => exact ⟨k + 1, by omega, by simp, HB.out.trans (below_drewN _ _ _)⟩
      case measure => simp [intOf]; omega
    · have i2 : ¬ (k : Int) < (l.length : Int) := by omega
      go_wp2_with fail
      go_ret
      exact ⟨rfl, HB.out⟩
end Go.Proofs.YtcgkaecaddpenaaGreatDoor

/- Equal expressions. -/
namespace Go.Proofs.YtcgkaecaddpenaaGreatDoor
open Go.RowKit
open L7 (Tk lexT lx gap)
open L8
set_option linter.unusedSimpArgs false

set_option maxRecDepth 100000 in
set_option maxHeartbeats 8000000 in
theorem same0a (h : Hd) (a1 : Int) (w : World) (d1 d2 : Nat) (pA qA rA sA : Option Addr) (pn pc qn qc rn rc sn sc : Nat) (k1A k2A : Option Addr) (hs : ∀ W, Below w.heap.size w W → Calls Tryz.prog 20 #[.slice qA qn qc, .slice sA sn sc] W (fun e w' => e = .returned (.bool true) ∧ Below W.heap.size W w')) (hc : ∀ W, Below w.heap.size w W → Calls Tryz.prog 21 #[.slice pA pn pc, .slice rA rn rc] W (fun e w' => e = .returned (.bool true) ∧ Below W.heap.size W w')) :
    Calls Tryz.prog 14 #[.agg #[.int .i64 h.kind, str h.table, .slice k1A 0 d1, .slice pA pn pc, .slice qA qn qc, str h.attr, str h.as_, .int .i64 h.agg, .int .i64 a1], .agg #[.int .i64 h.kind, str h.table, .slice k2A 0 d2, .slice rA rn rc, .slice sA sn sc, str h.attr, str h.as_, .int .i64 h.agg, .int .i64 a1], .bool true] w (fun e w' => e = .returned (.bool true) ∧ Below w.heap.size w w') := by
  have B0 := Lib.hid (show Below w.heap.size w ((w.alloc (.cells #[.int .i64 h.kind, str h.table, .slice k1A 0 d1, .slice pA pn pc, .slice qA qn qc, str h.attr, str h.as_, .int .i64 h.agg, .int .i64 a1] 49)).alloc (.cells #[.int .i64 h.kind, str h.table, .slice k2A 0 d2, .slice rA rn rc, .slice sA sn sc, str h.attr, str h.as_, .int .i64 h.agg, .int .i64 a1] 49)) from (below_box w _).alloc (by simp) _)
  have u0 : ((w.alloc (.cells #[.int .i64 h.kind, str h.table, .slice k1A 0 d1, .slice pA pn pc, .slice qA qn qc, str h.attr, str h.as_, .int .i64 h.agg, .int .i64 a1] 49)).alloc (.cells #[.int .i64 h.kind, str h.table, .slice k2A 0 d2, .slice rA rn rc, .slice sA sn sc, str h.attr, str h.as_, .int .i64 h.agg, .int .i64 a1] 49)).cell? ⟨w.heap.size, 0, none⟩ = some (.int .i64 h.kind) := by simp [go_sem]
  have v0 : ((w.alloc (.cells #[.int .i64 h.kind, str h.table, .slice k1A 0 d1, .slice pA pn pc, .slice qA qn qc, str h.attr, str h.as_, .int .i64 h.agg, .int .i64 a1] 49)).alloc (.cells #[.int .i64 h.kind, str h.table, .slice k2A 0 d2, .slice rA rn rc, .slice sA sn sc, str h.attr, str h.as_, .int .i64 h.agg, .int .i64 a1] 49)).cell? ⟨w.heap.size + 1, 0, none⟩ = some (.int .i64 h.kind) := by simp [go_sem]
  have u1 : ((w.alloc (.cells #[.int .i64 h.kind, str h.table, .slice k1A 0 d1, .slice pA pn pc, .slice qA qn qc, str h.attr, str h.as_, .int .i64 h.agg, .int .i64 a1] 49)).alloc (.cells #[.int .i64 h.kind, str h.table, .slice k2A 0 d2, .slice rA rn rc, .slice sA sn sc, str h.attr, str h.as_, .int .i64 h.agg, .int .i64 a1] 49)).cell? ⟨w.heap.size, 1, none⟩ = some (str h.table) := by simp [go_sem]
  have v1 : ((w.alloc (.cells #[.int .i64 h.kind, str h.table, .slice k1A 0 d1, .slice pA pn pc, .slice qA qn qc, str h.attr, str h.as_, .int .i64 h.agg, .int .i64 a1] 49)).alloc (.cells #[.int .i64 h.kind, str h.table, .slice k2A 0 d2, .slice rA rn rc, .slice sA sn sc, str h.attr, str h.as_, .int .i64 h.agg, .int .i64 a1] 49)).cell? ⟨w.heap.size + 1, 1, none⟩ = some (str h.table) := by simp [go_sem]
  have u2 : ((w.alloc (.cells #[.int .i64 h.kind, str h.table, .slice k1A 0 d1, .slice pA pn pc, .slice qA qn qc, str h.attr, str h.as_, .int .i64 h.agg, .int .i64 a1] 49)).alloc (.cells #[.int .i64 h.kind, str h.table, .slice k2A 0 d2, .slice rA rn rc, .slice sA sn sc, str h.attr, str h.as_, .int .i64 h.agg, .int .i64 a1] 49)).cell? ⟨w.heap.size, 2, none⟩ = some (.slice k1A 0 d1) := by simp [go_sem]
  have v2 : ((w.alloc (.cells #[.int .i64 h.kind, str h.table, .slice k1A 0 d1, .slice pA pn pc, .slice qA qn qc, str h.attr, str h.as_, .int .i64 h.agg, .int .i64 a1] 49)).alloc (.cells #[.int .i64 h.kind, str h.table, .slice k2A 0 d2, .slice rA rn rc, .slice sA sn sc, str h.attr, str h.as_, .int .i64 h.agg, .int .i64 a1] 49)).cell? ⟨w.heap.size + 1, 2, none⟩ = some (.slice k2A 0 d2) := by simp [go_sem]
  have u3 : ((w.alloc (.cells #[.int .i64 h.kind, str h.table, .slice k1A 0 d1, .slice pA pn pc, .slice qA qn qc, str h.attr, str h.as_, .int .i64 h.agg, .int .i64 a1] 49)).alloc (.cells #[.int .i64 h.kind, str h.table, .slice k2A 0 d2, .slice rA rn rc, .slice sA sn sc, str h.attr, str h.as_, .int .i64 h.agg, .int .i64 a1] 49)).cell? ⟨w.heap.size, 3, none⟩ = some (.slice pA pn pc) := by simp [go_sem]
  have v3 : ((w.alloc (.cells #[.int .i64 h.kind, str h.table, .slice k1A 0 d1, .slice pA pn pc, .slice qA qn qc, str h.attr, str h.as_, .int .i64 h.agg, .int .i64 a1] 49)).alloc (.cells #[.int .i64 h.kind, str h.table, .slice k2A 0 d2, .slice rA rn rc, .slice sA sn sc, str h.attr, str h.as_, .int .i64 h.agg, .int .i64 a1] 49)).cell? ⟨w.heap.size + 1, 3, none⟩ = some (.slice rA rn rc) := by simp [go_sem]
  have u4 : ((w.alloc (.cells #[.int .i64 h.kind, str h.table, .slice k1A 0 d1, .slice pA pn pc, .slice qA qn qc, str h.attr, str h.as_, .int .i64 h.agg, .int .i64 a1] 49)).alloc (.cells #[.int .i64 h.kind, str h.table, .slice k2A 0 d2, .slice rA rn rc, .slice sA sn sc, str h.attr, str h.as_, .int .i64 h.agg, .int .i64 a1] 49)).cell? ⟨w.heap.size, 4, none⟩ = some (.slice qA qn qc) := by simp [go_sem]
  have v4 : ((w.alloc (.cells #[.int .i64 h.kind, str h.table, .slice k1A 0 d1, .slice pA pn pc, .slice qA qn qc, str h.attr, str h.as_, .int .i64 h.agg, .int .i64 a1] 49)).alloc (.cells #[.int .i64 h.kind, str h.table, .slice k2A 0 d2, .slice rA rn rc, .slice sA sn sc, str h.attr, str h.as_, .int .i64 h.agg, .int .i64 a1] 49)).cell? ⟨w.heap.size + 1, 4, none⟩ = some (.slice sA sn sc) := by simp [go_sem]
  have u5 : ((w.alloc (.cells #[.int .i64 h.kind, str h.table, .slice k1A 0 d1, .slice pA pn pc, .slice qA qn qc, str h.attr, str h.as_, .int .i64 h.agg, .int .i64 a1] 49)).alloc (.cells #[.int .i64 h.kind, str h.table, .slice k2A 0 d2, .slice rA rn rc, .slice sA sn sc, str h.attr, str h.as_, .int .i64 h.agg, .int .i64 a1] 49)).cell? ⟨w.heap.size, 5, none⟩ = some (str h.attr) := by simp [go_sem]
  have v5 : ((w.alloc (.cells #[.int .i64 h.kind, str h.table, .slice k1A 0 d1, .slice pA pn pc, .slice qA qn qc, str h.attr, str h.as_, .int .i64 h.agg, .int .i64 a1] 49)).alloc (.cells #[.int .i64 h.kind, str h.table, .slice k2A 0 d2, .slice rA rn rc, .slice sA sn sc, str h.attr, str h.as_, .int .i64 h.agg, .int .i64 a1] 49)).cell? ⟨w.heap.size + 1, 5, none⟩ = some (str h.attr) := by simp [go_sem]
  have u6 : ((w.alloc (.cells #[.int .i64 h.kind, str h.table, .slice k1A 0 d1, .slice pA pn pc, .slice qA qn qc, str h.attr, str h.as_, .int .i64 h.agg, .int .i64 a1] 49)).alloc (.cells #[.int .i64 h.kind, str h.table, .slice k2A 0 d2, .slice rA rn rc, .slice sA sn sc, str h.attr, str h.as_, .int .i64 h.agg, .int .i64 a1] 49)).cell? ⟨w.heap.size, 6, none⟩ = some (str h.as_) := by simp [go_sem]
  have v6 : ((w.alloc (.cells #[.int .i64 h.kind, str h.table, .slice k1A 0 d1, .slice pA pn pc, .slice qA qn qc, str h.attr, str h.as_, .int .i64 h.agg, .int .i64 a1] 49)).alloc (.cells #[.int .i64 h.kind, str h.table, .slice k2A 0 d2, .slice rA rn rc, .slice sA sn sc, str h.attr, str h.as_, .int .i64 h.agg, .int .i64 a1] 49)).cell? ⟨w.heap.size + 1, 6, none⟩ = some (str h.as_) := by simp [go_sem]
  have u7 : ((w.alloc (.cells #[.int .i64 h.kind, str h.table, .slice k1A 0 d1, .slice pA pn pc, .slice qA qn qc, str h.attr, str h.as_, .int .i64 h.agg, .int .i64 a1] 49)).alloc (.cells #[.int .i64 h.kind, str h.table, .slice k2A 0 d2, .slice rA rn rc, .slice sA sn sc, str h.attr, str h.as_, .int .i64 h.agg, .int .i64 a1] 49)).cell? ⟨w.heap.size, 7, none⟩ = some (.int .i64 h.agg) := by simp [go_sem]
  have v7 : ((w.alloc (.cells #[.int .i64 h.kind, str h.table, .slice k1A 0 d1, .slice pA pn pc, .slice qA qn qc, str h.attr, str h.as_, .int .i64 h.agg, .int .i64 a1] 49)).alloc (.cells #[.int .i64 h.kind, str h.table, .slice k2A 0 d2, .slice rA rn rc, .slice sA sn sc, str h.attr, str h.as_, .int .i64 h.agg, .int .i64 a1] 49)).cell? ⟨w.heap.size + 1, 7, none⟩ = some (.int .i64 h.agg) := by simp [go_sem]
  have u8 : ((w.alloc (.cells #[.int .i64 h.kind, str h.table, .slice k1A 0 d1, .slice pA pn pc, .slice qA qn qc, str h.attr, str h.as_, .int .i64 h.agg, .int .i64 a1] 49)).alloc (.cells #[.int .i64 h.kind, str h.table, .slice k2A 0 d2, .slice rA rn rc, .slice sA sn sc, str h.attr, str h.as_, .int .i64 h.agg, .int .i64 a1] 49)).cell? ⟨w.heap.size, 8, none⟩ = some (.int .i64 a1) := by simp [go_sem]
  have v8 : ((w.alloc (.cells #[.int .i64 h.kind, str h.table, .slice k1A 0 d1, .slice pA pn pc, .slice qA qn qc, str h.attr, str h.as_, .int .i64 h.agg, .int .i64 a1] 49)).alloc (.cells #[.int .i64 h.kind, str h.table, .slice k2A 0 d2, .slice rA rn rc, .slice sA sn sc, str h.attr, str h.as_, .int .i64 h.agg, .int .i64 a1] 49)).cell? ⟨w.heap.size + 1, 8, none⟩ = some (.int .i64 a1) := by simp [go_sem]
  have HS := Lib.hid hs
  have HC := Lib.hid hc
  clear hs hc
  go_enter Tryz.func14, Tryz.ntmps14
  go_wp2_with fail
  refine (HS.out _ B0.out).mono ?_
  rintro e w1 ⟨rfl, hb1⟩
  have B1 := Lib.hid (below_step2 B0.out hb1)
  have u0b := cellB hb1 u0
  have v0b := cellB hb1 v0
  have u1b := cellB hb1 u1
  have v1b := cellB hb1 v1
  have u2b := cellB hb1 u2
  have v2b := cellB hb1 v2
  have u3b := cellB hb1 u3
  have v3b := cellB hb1 v3
  have u4b := cellB hb1 u4
  have v4b := cellB hb1 v4
  have u5b := cellB hb1 u5
  have v5b := cellB hb1 v5
  have u6b := cellB hb1 u6
  have v6b := cellB hb1 v6
  have u7b := cellB hb1 u7
  have v7b := cellB hb1 v7
  have u8b := cellB hb1 u8
  have v8b := cellB hb1 v8
  clear hb1
  go_wp2_with fail
  refine (HC.out _ B1.out).mono ?_
  rintro e w2 ⟨rfl, hb2⟩
  have B2 := Lib.hid (below_step2 B1.out hb2)
  have z1 := cellB hb2 u2b
  have z2 := cellB hb2 v2b
  clear hb2 u0b v0b u0 v0 u1b v1b u1 v1 u2b v2b u2 v2 u3b v3b u3 v3 u4b v4b u4 v4 u5b v5b u5 v5 u6b v6b u6 v6 u7b v7b u7 v7 u8b v8b u8 v8
  have HZ1 := Lib.hid z1
  have HZ2 := Lib.hid z2
  obtain ⟨wo, hwo⟩ : ∃ wo, wo = w2 := ⟨_, rfl⟩
  have HO := Lib.hid hwo
  clear hwo
  go_wp2_with fail
  go_loopw [7] (fun i wr => Below wo.heap.size wo wr ∧ (i = .int .i64 0)) (fun i _ => 0 - (intOf i).toNat)
  case atStart => exact ⟨HO.out ▸ Below.refl _ _, rfl⟩
  case round =>
    obtain ⟨hb, rfl⟩ := hrel
    have HB := Lib.hid hb
    have hb2 : Below w2.heap.size w2 wr := HO.out ▸ hb
    have z1b := cellB hb2 HZ1.out
    have z2b := cellB hb2 HZ2.out
    clear hb hb2
    go_wp2_with fail
    go_ret
    exact ⟨rfl, below_step2 B2.out (HO.out ▸ HB.out)⟩
set_option maxRecDepth 100000 in
set_option maxHeartbeats 8000000 in
theorem same0b (h : Hd) (a1 a2 : Int) (w : World) (d1 d2 : Nat) (pA qA rA sA : Option Addr) (pn pc qn qc rn rc sn sc : Nat) (k1A k2A : Option Addr) (hs : ∀ W, Below w.heap.size w W → Calls Tryz.prog 20 #[.slice qA qn qc, .slice sA sn sc] W (fun e w' => e = .returned (.bool true) ∧ Below W.heap.size W w')) (hc : ∀ W, Below w.heap.size w W → Calls Tryz.prog 21 #[.slice pA pn pc, .slice rA rn rc] W (fun e w' => e = .returned (.bool true) ∧ Below W.heap.size W w')) :
    Calls Tryz.prog 14 #[.agg #[.int .i64 h.kind, str h.table, .slice k1A 0 d1, .slice pA pn pc, .slice qA qn qc, str h.attr, str h.as_, .int .i64 h.agg, .int .i64 a1], .agg #[.int .i64 h.kind, str h.table, .slice k2A 0 d2, .slice rA rn rc, .slice sA sn sc, str h.attr, str h.as_, .int .i64 h.agg, .int .i64 a2], .bool false] w (fun e w' => e = .returned (.bool true) ∧ Below w.heap.size w w') := by
  have B0 := Lib.hid (show Below w.heap.size w ((w.alloc (.cells #[.int .i64 h.kind, str h.table, .slice k1A 0 d1, .slice pA pn pc, .slice qA qn qc, str h.attr, str h.as_, .int .i64 h.agg, .int .i64 a1] 49)).alloc (.cells #[.int .i64 h.kind, str h.table, .slice k2A 0 d2, .slice rA rn rc, .slice sA sn sc, str h.attr, str h.as_, .int .i64 h.agg, .int .i64 a2] 49)) from (below_box w _).alloc (by simp) _)
  have u0 : ((w.alloc (.cells #[.int .i64 h.kind, str h.table, .slice k1A 0 d1, .slice pA pn pc, .slice qA qn qc, str h.attr, str h.as_, .int .i64 h.agg, .int .i64 a1] 49)).alloc (.cells #[.int .i64 h.kind, str h.table, .slice k2A 0 d2, .slice rA rn rc, .slice sA sn sc, str h.attr, str h.as_, .int .i64 h.agg, .int .i64 a2] 49)).cell? ⟨w.heap.size, 0, none⟩ = some (.int .i64 h.kind) := by simp [go_sem]
  have v0 : ((w.alloc (.cells #[.int .i64 h.kind, str h.table, .slice k1A 0 d1, .slice pA pn pc, .slice qA qn qc, str h.attr, str h.as_, .int .i64 h.agg, .int .i64 a1] 49)).alloc (.cells #[.int .i64 h.kind, str h.table, .slice k2A 0 d2, .slice rA rn rc, .slice sA sn sc, str h.attr, str h.as_, .int .i64 h.agg, .int .i64 a2] 49)).cell? ⟨w.heap.size + 1, 0, none⟩ = some (.int .i64 h.kind) := by simp [go_sem]
  have u1 : ((w.alloc (.cells #[.int .i64 h.kind, str h.table, .slice k1A 0 d1, .slice pA pn pc, .slice qA qn qc, str h.attr, str h.as_, .int .i64 h.agg, .int .i64 a1] 49)).alloc (.cells #[.int .i64 h.kind, str h.table, .slice k2A 0 d2, .slice rA rn rc, .slice sA sn sc, str h.attr, str h.as_, .int .i64 h.agg, .int .i64 a2] 49)).cell? ⟨w.heap.size, 1, none⟩ = some (str h.table) := by simp [go_sem]
  have v1 : ((w.alloc (.cells #[.int .i64 h.kind, str h.table, .slice k1A 0 d1, .slice pA pn pc, .slice qA qn qc, str h.attr, str h.as_, .int .i64 h.agg, .int .i64 a1] 49)).alloc (.cells #[.int .i64 h.kind, str h.table, .slice k2A 0 d2, .slice rA rn rc, .slice sA sn sc, str h.attr, str h.as_, .int .i64 h.agg, .int .i64 a2] 49)).cell? ⟨w.heap.size + 1, 1, none⟩ = some (str h.table) := by simp [go_sem]
  have u2 : ((w.alloc (.cells #[.int .i64 h.kind, str h.table, .slice k1A 0 d1, .slice pA pn pc, .slice qA qn qc, str h.attr, str h.as_, .int .i64 h.agg, .int .i64 a1] 49)).alloc (.cells #[.int .i64 h.kind, str h.table, .slice k2A 0 d2, .slice rA rn rc, .slice sA sn sc, str h.attr, str h.as_, .int .i64 h.agg, .int .i64 a2] 49)).cell? ⟨w.heap.size, 2, none⟩ = some (.slice k1A 0 d1) := by simp [go_sem]
  have v2 : ((w.alloc (.cells #[.int .i64 h.kind, str h.table, .slice k1A 0 d1, .slice pA pn pc, .slice qA qn qc, str h.attr, str h.as_, .int .i64 h.agg, .int .i64 a1] 49)).alloc (.cells #[.int .i64 h.kind, str h.table, .slice k2A 0 d2, .slice rA rn rc, .slice sA sn sc, str h.attr, str h.as_, .int .i64 h.agg, .int .i64 a2] 49)).cell? ⟨w.heap.size + 1, 2, none⟩ = some (.slice k2A 0 d2) := by simp [go_sem]
  have u3 : ((w.alloc (.cells #[.int .i64 h.kind, str h.table, .slice k1A 0 d1, .slice pA pn pc, .slice qA qn qc, str h.attr, str h.as_, .int .i64 h.agg, .int .i64 a1] 49)).alloc (.cells #[.int .i64 h.kind, str h.table, .slice k2A 0 d2, .slice rA rn rc, .slice sA sn sc, str h.attr, str h.as_, .int .i64 h.agg, .int .i64 a2] 49)).cell? ⟨w.heap.size, 3, none⟩ = some (.slice pA pn pc) := by simp [go_sem]
  have v3 : ((w.alloc (.cells #[.int .i64 h.kind, str h.table, .slice k1A 0 d1, .slice pA pn pc, .slice qA qn qc, str h.attr, str h.as_, .int .i64 h.agg, .int .i64 a1] 49)).alloc (.cells #[.int .i64 h.kind, str h.table, .slice k2A 0 d2, .slice rA rn rc, .slice sA sn sc, str h.attr, str h.as_, .int .i64 h.agg, .int .i64 a2] 49)).cell? ⟨w.heap.size + 1, 3, none⟩ = some (.slice rA rn rc) := by simp [go_sem]
  have u4 : ((w.alloc (.cells #[.int .i64 h.kind, str h.table, .slice k1A 0 d1, .slice pA pn pc, .slice qA qn qc, str h.attr, str h.as_, .int .i64 h.agg, .int .i64 a1] 49)).alloc (.cells #[.int .i64 h.kind, str h.table, .slice k2A 0 d2, .slice rA rn rc, .slice sA sn sc, str h.attr, str h.as_, .int .i64 h.agg, .int .i64 a2] 49)).cell? ⟨w.heap.size, 4, none⟩ = some (.slice qA qn qc) := by simp [go_sem]
  have v4 : ((w.alloc (.cells #[.int .i64 h.kind, str h.table, .slice k1A 0 d1, .slice pA pn pc, .slice qA qn qc, str h.attr, str h.as_, .int .i64 h.agg, .int .i64 a1] 49)).alloc (.cells #[.int .i64 h.kind, str h.table, .slice k2A 0 d2, .slice rA rn rc, .slice sA sn sc, str h.attr, str h.as_, .int .i64 h.agg, .int .i64 a2] 49)).cell? ⟨w.heap.size + 1, 4, none⟩ = some (.slice sA sn sc) := by simp [go_sem]
  have u5 : ((w.alloc (.cells #[.int .i64 h.kind, str h.table, .slice k1A 0 d1, .slice pA pn pc, .slice qA qn qc, str h.attr, str h.as_, .int .i64 h.agg, .int .i64 a1] 49)).alloc (.cells #[.int .i64 h.kind, str h.table, .slice k2A 0 d2, .slice rA rn rc, .slice sA sn sc, str h.attr, str h.as_, .int .i64 h.agg, .int .i64 a2] 49)).cell? ⟨w.heap.size, 5, none⟩ = some (str h.attr) := by simp [go_sem]
  have v5 : ((w.alloc (.cells #[.int .i64 h.kind, str h.table, .slice k1A 0 d1, .slice pA pn pc, .slice qA qn qc, str h.attr, str h.as_, .int .i64 h.agg, .int .i64 a1] 49)).alloc (.cells #[.int .i64 h.kind, str h.table, .slice k2A 0 d2, .slice rA rn rc, .slice sA sn sc, str h.attr, str h.as_, .int .i64 h.agg, .int .i64 a2] 49)).cell? ⟨w.heap.size + 1, 5, none⟩ = some (str h.attr) := by simp [go_sem]
  have u6 : ((w.alloc (.cells #[.int .i64 h.kind, str h.table, .slice k1A 0 d1, .slice pA pn pc, .slice qA qn qc, str h.attr, str h.as_, .int .i64 h.agg, .int .i64 a1] 49)).alloc (.cells #[.int .i64 h.kind, str h.table, .slice k2A 0 d2, .slice rA rn rc, .slice sA sn sc, str h.attr, str h.as_, .int .i64 h.agg, .int .i64 a2] 49)).cell? ⟨w.heap.size, 6, none⟩ = some (str h.as_) := by simp [go_sem]
  have v6 : ((w.alloc (.cells #[.int .i64 h.kind, str h.table, .slice k1A 0 d1, .slice pA pn pc, .slice qA qn qc, str h.attr, str h.as_, .int .i64 h.agg, .int .i64 a1] 49)).alloc (.cells #[.int .i64 h.kind, str h.table, .slice k2A 0 d2, .slice rA rn rc, .slice sA sn sc, str h.attr, str h.as_, .int .i64 h.agg, .int .i64 a2] 49)).cell? ⟨w.heap.size + 1, 6, none⟩ = some (str h.as_) := by simp [go_sem]
  have u7 : ((w.alloc (.cells #[.int .i64 h.kind, str h.table, .slice k1A 0 d1, .slice pA pn pc, .slice qA qn qc, str h.attr, str h.as_, .int .i64 h.agg, .int .i64 a1] 49)).alloc (.cells #[.int .i64 h.kind, str h.table, .slice k2A 0 d2, .slice rA rn rc, .slice sA sn sc, str h.attr, str h.as_, .int .i64 h.agg, .int .i64 a2] 49)).cell? ⟨w.heap.size, 7, none⟩ = some (.int .i64 h.agg) := by simp [go_sem]
  have v7 : ((w.alloc (.cells #[.int .i64 h.kind, str h.table, .slice k1A 0 d1, .slice pA pn pc, .slice qA qn qc, str h.attr, str h.as_, .int .i64 h.agg, .int .i64 a1] 49)).alloc (.cells #[.int .i64 h.kind, str h.table, .slice k2A 0 d2, .slice rA rn rc, .slice sA sn sc, str h.attr, str h.as_, .int .i64 h.agg, .int .i64 a2] 49)).cell? ⟨w.heap.size + 1, 7, none⟩ = some (.int .i64 h.agg) := by simp [go_sem]
  have u8 : ((w.alloc (.cells #[.int .i64 h.kind, str h.table, .slice k1A 0 d1, .slice pA pn pc, .slice qA qn qc, str h.attr, str h.as_, .int .i64 h.agg, .int .i64 a1] 49)).alloc (.cells #[.int .i64 h.kind, str h.table, .slice k2A 0 d2, .slice rA rn rc, .slice sA sn sc, str h.attr, str h.as_, .int .i64 h.agg, .int .i64 a2] 49)).cell? ⟨w.heap.size, 8, none⟩ = some (.int .i64 a1) := by simp [go_sem]
  have v8 : ((w.alloc (.cells #[.int .i64 h.kind, str h.table, .slice k1A 0 d1, .slice pA pn pc, .slice qA qn qc, str h.attr, str h.as_, .int .i64 h.agg, .int .i64 a1] 49)).alloc (.cells #[.int .i64 h.kind, str h.table, .slice k2A 0 d2, .slice rA rn rc, .slice sA sn sc, str h.attr, str h.as_, .int .i64 h.agg, .int .i64 a2] 49)).cell? ⟨w.heap.size + 1, 8, none⟩ = some (.int .i64 a2) := by simp [go_sem]
  have HS := Lib.hid hs
  have HC := Lib.hid hc
  clear hs hc
  go_enter Tryz.func14, Tryz.ntmps14
  go_wp2_with fail
  refine (HS.out _ B0.out).mono ?_
  rintro e w1 ⟨rfl, hb1⟩
  have B1 := Lib.hid (below_step2 B0.out hb1)
  have u0b := cellB hb1 u0
  have v0b := cellB hb1 v0
  have u1b := cellB hb1 u1
  have v1b := cellB hb1 v1
  have u2b := cellB hb1 u2
  have v2b := cellB hb1 v2
  have u3b := cellB hb1 u3
  have v3b := cellB hb1 v3
  have u4b := cellB hb1 u4
  have v4b := cellB hb1 v4
  have u5b := cellB hb1 u5
  have v5b := cellB hb1 v5
  have u6b := cellB hb1 u6
  have v6b := cellB hb1 v6
  have u7b := cellB hb1 u7
  have v7b := cellB hb1 v7
  have u8b := cellB hb1 u8
  have v8b := cellB hb1 v8
  clear hb1
  go_wp2_with fail
  refine (HC.out _ B1.out).mono ?_
  rintro e w2 ⟨rfl, hb2⟩
  have B2 := Lib.hid (below_step2 B1.out hb2)
  have z1 := cellB hb2 u2b
  have z2 := cellB hb2 v2b
  clear hb2 u0b v0b u0 v0 u1b v1b u1 v1 u2b v2b u2 v2 u3b v3b u3 v3 u4b v4b u4 v4 u5b v5b u5 v5 u6b v6b u6 v6 u7b v7b u7 v7 u8b v8b u8 v8
  have HZ1 := Lib.hid z1
  have HZ2 := Lib.hid z2
  obtain ⟨wo, hwo⟩ : ∃ wo, wo = w2 := ⟨_, rfl⟩
  have HO := Lib.hid hwo
  clear hwo
  go_wp2_with fail
  go_loopw [7] (fun i wr => Below wo.heap.size wo wr ∧ (i = .int .i64 0)) (fun i _ => 0 - (intOf i).toNat)
  case atStart => exact ⟨HO.out ▸ Below.refl _ _, rfl⟩
  case round =>
    obtain ⟨hb, rfl⟩ := hrel
    have HB := Lib.hid hb
    have hb2 : Below w2.heap.size w2 wr := HO.out ▸ hb
    have z1b := cellB hb2 HZ1.out
    have z2b := cellB hb2 HZ2.out
    clear hb hb2
    go_wp2_with fail
    go_ret
    exact ⟨rfl, below_step2 B2.out (HO.out ▸ HB.out)⟩
set_option maxRecDepth 100000 in
set_option maxHeartbeats 8000000 in
theorem same1a (h : Hd) (a1 : Int) (w : World) (d1 d2 : Nat) (pA qA rA sA : Option Addr) (pn pc qn qc rn rc sn sc : Nat) (k1 o1 k2 o2 : Nat) (hd1 : 1 ≤ d1) (hd2 : 1 ≤ d2) (hs : ∀ W, Below w.heap.size w W → Calls Tryz.prog 20 #[.slice qA qn qc, .slice sA sn sc] W (fun e w' => e = .returned (.bool true) ∧ Below W.heap.size W w')) (hc : ∀ W, Below w.heap.size w W → Calls Tryz.prog 21 #[.slice pA pn pc, .slice rA rn rc] W (fun e w' => e = .returned (.bool true) ∧ Below W.heap.size W w')) (g0 e0 : Hd) (x00A x01A x02A y00A y01A y02A : Option Addr) (x00n x00c x01n x01c x02n x02c y00n y00c y01n y01c y02n y02c : Nat) (c0 : ∀ k, k < 9 → w.cell? ⟨k1, o1 + k, none⟩ = ([.int .i64 g0.kind, str g0.table, .slice x00A x00n x00c, .slice x01A x01n x01c, .slice x02A x02n x02c, str g0.attr, str g0.as_, .int .i64 g0.agg, .int .i64 g0.at_] : List Value)[k]?) (f0 : ∀ k, k < 9 → w.cell? ⟨k2, o2 + k, none⟩ = ([.int .i64 e0.kind, str e0.table, .slice y00A y00n y00c, .slice y01A y01n y01c, .slice y02A y02n y02c, str e0.attr, str e0.as_, .int .i64 e0.agg, .int .i64 e0.at_] : List Value)[k]?) (hk0 : ∀ W, Below w.heap.size w W → Calls Tryz.prog 14 #[.agg #[.int .i64 g0.kind, str g0.table, .slice x00A x00n x00c, .slice x01A x01n x01c, .slice x02A x02n x02c, str g0.attr, str g0.as_, .int .i64 g0.agg, .int .i64 g0.at_], .agg #[.int .i64 e0.kind, str e0.table, .slice y00A y00n y00c, .slice y01A y01n y01c, .slice y02A y02n y02c, str e0.attr, str e0.as_, .int .i64 e0.agg, .int .i64 e0.at_], .bool true] W (fun e w' => e = .returned (.bool true) ∧ Below W.heap.size W w')) :
    Calls Tryz.prog 14 #[.agg #[.int .i64 h.kind, str h.table, .slice (some ⟨k1, o1, none⟩) 1 d1, .slice pA pn pc, .slice qA qn qc, str h.attr, str h.as_, .int .i64 h.agg, .int .i64 a1], .agg #[.int .i64 h.kind, str h.table, .slice (some ⟨k2, o2, none⟩) 1 d2, .slice rA rn rc, .slice sA sn sc, str h.attr, str h.as_, .int .i64 h.agg, .int .i64 a1], .bool true] w (fun e w' => e = .returned (.bool true) ∧ Below w.heap.size w w') := by
  have B0 := Lib.hid (show Below w.heap.size w ((w.alloc (.cells #[.int .i64 h.kind, str h.table, .slice (some ⟨k1, o1, none⟩) 1 d1, .slice pA pn pc, .slice qA qn qc, str h.attr, str h.as_, .int .i64 h.agg, .int .i64 a1] 49)).alloc (.cells #[.int .i64 h.kind, str h.table, .slice (some ⟨k2, o2, none⟩) 1 d2, .slice rA rn rc, .slice sA sn sc, str h.attr, str h.as_, .int .i64 h.agg, .int .i64 a1] 49)) from (below_box w _).alloc (by simp) _)
  have u0 : ((w.alloc (.cells #[.int .i64 h.kind, str h.table, .slice (some ⟨k1, o1, none⟩) 1 d1, .slice pA pn pc, .slice qA qn qc, str h.attr, str h.as_, .int .i64 h.agg, .int .i64 a1] 49)).alloc (.cells #[.int .i64 h.kind, str h.table, .slice (some ⟨k2, o2, none⟩) 1 d2, .slice rA rn rc, .slice sA sn sc, str h.attr, str h.as_, .int .i64 h.agg, .int .i64 a1] 49)).cell? ⟨w.heap.size, 0, none⟩ = some (.int .i64 h.kind) := by simp [go_sem]
  have v0 : ((w.alloc (.cells #[.int .i64 h.kind, str h.table, .slice (some ⟨k1, o1, none⟩) 1 d1, .slice pA pn pc, .slice qA qn qc, str h.attr, str h.as_, .int .i64 h.agg, .int .i64 a1] 49)).alloc (.cells #[.int .i64 h.kind, str h.table, .slice (some ⟨k2, o2, none⟩) 1 d2, .slice rA rn rc, .slice sA sn sc, str h.attr, str h.as_, .int .i64 h.agg, .int .i64 a1] 49)).cell? ⟨w.heap.size + 1, 0, none⟩ = some (.int .i64 h.kind) := by simp [go_sem]
  have u1 : ((w.alloc (.cells #[.int .i64 h.kind, str h.table, .slice (some ⟨k1, o1, none⟩) 1 d1, .slice pA pn pc, .slice qA qn qc, str h.attr, str h.as_, .int .i64 h.agg, .int .i64 a1] 49)).alloc (.cells #[.int .i64 h.kind, str h.table, .slice (some ⟨k2, o2, none⟩) 1 d2, .slice rA rn rc, .slice sA sn sc, str h.attr, str h.as_, .int .i64 h.agg, .int .i64 a1] 49)).cell? ⟨w.heap.size, 1, none⟩ = some (str h.table) := by simp [go_sem]
  have v1 : ((w.alloc (.cells #[.int .i64 h.kind, str h.table, .slice (some ⟨k1, o1, none⟩) 1 d1, .slice pA pn pc, .slice qA qn qc, str h.attr, str h.as_, .int .i64 h.agg, .int .i64 a1] 49)).alloc (.cells #[.int .i64 h.kind, str h.table, .slice (some ⟨k2, o2, none⟩) 1 d2, .slice rA rn rc, .slice sA sn sc, str h.attr, str h.as_, .int .i64 h.agg, .int .i64 a1] 49)).cell? ⟨w.heap.size + 1, 1, none⟩ = some (str h.table) := by simp [go_sem]
  have u2 : ((w.alloc (.cells #[.int .i64 h.kind, str h.table, .slice (some ⟨k1, o1, none⟩) 1 d1, .slice pA pn pc, .slice qA qn qc, str h.attr, str h.as_, .int .i64 h.agg, .int .i64 a1] 49)).alloc (.cells #[.int .i64 h.kind, str h.table, .slice (some ⟨k2, o2, none⟩) 1 d2, .slice rA rn rc, .slice sA sn sc, str h.attr, str h.as_, .int .i64 h.agg, .int .i64 a1] 49)).cell? ⟨w.heap.size, 2, none⟩ = some (.slice (some ⟨k1, o1, none⟩) 1 d1) := by simp [go_sem]
  have v2 : ((w.alloc (.cells #[.int .i64 h.kind, str h.table, .slice (some ⟨k1, o1, none⟩) 1 d1, .slice pA pn pc, .slice qA qn qc, str h.attr, str h.as_, .int .i64 h.agg, .int .i64 a1] 49)).alloc (.cells #[.int .i64 h.kind, str h.table, .slice (some ⟨k2, o2, none⟩) 1 d2, .slice rA rn rc, .slice sA sn sc, str h.attr, str h.as_, .int .i64 h.agg, .int .i64 a1] 49)).cell? ⟨w.heap.size + 1, 2, none⟩ = some (.slice (some ⟨k2, o2, none⟩) 1 d2) := by simp [go_sem]
  have u3 : ((w.alloc (.cells #[.int .i64 h.kind, str h.table, .slice (some ⟨k1, o1, none⟩) 1 d1, .slice pA pn pc, .slice qA qn qc, str h.attr, str h.as_, .int .i64 h.agg, .int .i64 a1] 49)).alloc (.cells #[.int .i64 h.kind, str h.table, .slice (some ⟨k2, o2, none⟩) 1 d2, .slice rA rn rc, .slice sA sn sc, str h.attr, str h.as_, .int .i64 h.agg, .int .i64 a1] 49)).cell? ⟨w.heap.size, 3, none⟩ = some (.slice pA pn pc) := by simp [go_sem]
  have v3 : ((w.alloc (.cells #[.int .i64 h.kind, str h.table, .slice (some ⟨k1, o1, none⟩) 1 d1, .slice pA pn pc, .slice qA qn qc, str h.attr, str h.as_, .int .i64 h.agg, .int .i64 a1] 49)).alloc (.cells #[.int .i64 h.kind, str h.table, .slice (some ⟨k2, o2, none⟩) 1 d2, .slice rA rn rc, .slice sA sn sc, str h.attr, str h.as_, .int .i64 h.agg, .int .i64 a1] 49)).cell? ⟨w.heap.size + 1, 3, none⟩ = some (.slice rA rn rc) := by simp [go_sem]
  have u4 : ((w.alloc (.cells #[.int .i64 h.kind, str h.table, .slice (some ⟨k1, o1, none⟩) 1 d1, .slice pA pn pc, .slice qA qn qc, str h.attr, str h.as_, .int .i64 h.agg, .int .i64 a1] 49)).alloc (.cells #[.int .i64 h.kind, str h.table, .slice (some ⟨k2, o2, none⟩) 1 d2, .slice rA rn rc, .slice sA sn sc, str h.attr, str h.as_, .int .i64 h.agg, .int .i64 a1] 49)).cell? ⟨w.heap.size, 4, none⟩ = some (.slice qA qn qc) := by simp [go_sem]
  have v4 : ((w.alloc (.cells #[.int .i64 h.kind, str h.table, .slice (some ⟨k1, o1, none⟩) 1 d1, .slice pA pn pc, .slice qA qn qc, str h.attr, str h.as_, .int .i64 h.agg, .int .i64 a1] 49)).alloc (.cells #[.int .i64 h.kind, str h.table, .slice (some ⟨k2, o2, none⟩) 1 d2, .slice rA rn rc, .slice sA sn sc, str h.attr, str h.as_, .int .i64 h.agg, .int .i64 a1] 49)).cell? ⟨w.heap.size + 1, 4, none⟩ = some (.slice sA sn sc) := by simp [go_sem]
  have u5 : ((w.alloc (.cells #[.int .i64 h.kind, str h.table, .slice (some ⟨k1, o1, none⟩) 1 d1, .slice pA pn pc, .slice qA qn qc, str h.attr, str h.as_, .int .i64 h.agg, .int .i64 a1] 49)).alloc (.cells #[.int .i64 h.kind, str h.table, .slice (some ⟨k2, o2, none⟩) 1 d2, .slice rA rn rc, .slice sA sn sc, str h.attr, str h.as_, .int .i64 h.agg, .int .i64 a1] 49)).cell? ⟨w.heap.size, 5, none⟩ = some (str h.attr) := by simp [go_sem]
  have v5 : ((w.alloc (.cells #[.int .i64 h.kind, str h.table, .slice (some ⟨k1, o1, none⟩) 1 d1, .slice pA pn pc, .slice qA qn qc, str h.attr, str h.as_, .int .i64 h.agg, .int .i64 a1] 49)).alloc (.cells #[.int .i64 h.kind, str h.table, .slice (some ⟨k2, o2, none⟩) 1 d2, .slice rA rn rc, .slice sA sn sc, str h.attr, str h.as_, .int .i64 h.agg, .int .i64 a1] 49)).cell? ⟨w.heap.size + 1, 5, none⟩ = some (str h.attr) := by simp [go_sem]
  have u6 : ((w.alloc (.cells #[.int .i64 h.kind, str h.table, .slice (some ⟨k1, o1, none⟩) 1 d1, .slice pA pn pc, .slice qA qn qc, str h.attr, str h.as_, .int .i64 h.agg, .int .i64 a1] 49)).alloc (.cells #[.int .i64 h.kind, str h.table, .slice (some ⟨k2, o2, none⟩) 1 d2, .slice rA rn rc, .slice sA sn sc, str h.attr, str h.as_, .int .i64 h.agg, .int .i64 a1] 49)).cell? ⟨w.heap.size, 6, none⟩ = some (str h.as_) := by simp [go_sem]
  have v6 : ((w.alloc (.cells #[.int .i64 h.kind, str h.table, .slice (some ⟨k1, o1, none⟩) 1 d1, .slice pA pn pc, .slice qA qn qc, str h.attr, str h.as_, .int .i64 h.agg, .int .i64 a1] 49)).alloc (.cells #[.int .i64 h.kind, str h.table, .slice (some ⟨k2, o2, none⟩) 1 d2, .slice rA rn rc, .slice sA sn sc, str h.attr, str h.as_, .int .i64 h.agg, .int .i64 a1] 49)).cell? ⟨w.heap.size + 1, 6, none⟩ = some (str h.as_) := by simp [go_sem]
  have u7 : ((w.alloc (.cells #[.int .i64 h.kind, str h.table, .slice (some ⟨k1, o1, none⟩) 1 d1, .slice pA pn pc, .slice qA qn qc, str h.attr, str h.as_, .int .i64 h.agg, .int .i64 a1] 49)).alloc (.cells #[.int .i64 h.kind, str h.table, .slice (some ⟨k2, o2, none⟩) 1 d2, .slice rA rn rc, .slice sA sn sc, str h.attr, str h.as_, .int .i64 h.agg, .int .i64 a1] 49)).cell? ⟨w.heap.size, 7, none⟩ = some (.int .i64 h.agg) := by simp [go_sem]
  have v7 : ((w.alloc (.cells #[.int .i64 h.kind, str h.table, .slice (some ⟨k1, o1, none⟩) 1 d1, .slice pA pn pc, .slice qA qn qc, str h.attr, str h.as_, .int .i64 h.agg, .int .i64 a1] 49)).alloc (.cells #[.int .i64 h.kind, str h.table, .slice (some ⟨k2, o2, none⟩) 1 d2, .slice rA rn rc, .slice sA sn sc, str h.attr, str h.as_, .int .i64 h.agg, .int .i64 a1] 49)).cell? ⟨w.heap.size + 1, 7, none⟩ = some (.int .i64 h.agg) := by simp [go_sem]
  have u8 : ((w.alloc (.cells #[.int .i64 h.kind, str h.table, .slice (some ⟨k1, o1, none⟩) 1 d1, .slice pA pn pc, .slice qA qn qc, str h.attr, str h.as_, .int .i64 h.agg, .int .i64 a1] 49)).alloc (.cells #[.int .i64 h.kind, str h.table, .slice (some ⟨k2, o2, none⟩) 1 d2, .slice rA rn rc, .slice sA sn sc, str h.attr, str h.as_, .int .i64 h.agg, .int .i64 a1] 49)).cell? ⟨w.heap.size, 8, none⟩ = some (.int .i64 a1) := by simp [go_sem]
  have v8 : ((w.alloc (.cells #[.int .i64 h.kind, str h.table, .slice (some ⟨k1, o1, none⟩) 1 d1, .slice pA pn pc, .slice qA qn qc, str h.attr, str h.as_, .int .i64 h.agg, .int .i64 a1] 49)).alloc (.cells #[.int .i64 h.kind, str h.table, .slice (some ⟨k2, o2, none⟩) 1 d2, .slice rA rn rc, .slice sA sn sc, str h.attr, str h.as_, .int .i64 h.agg, .int .i64 a1] 49)).cell? ⟨w.heap.size + 1, 8, none⟩ = some (.int .i64 a1) := by simp [go_sem]
  have HS := Lib.hid hs
  have HC := Lib.hid hc
  clear hs hc
  go_enter Tryz.func14, Tryz.ntmps14
  go_wp2_with fail
  refine (HS.out _ B0.out).mono ?_
  rintro e w1 ⟨rfl, hb1⟩
  have B1 := Lib.hid (below_step2 B0.out hb1)
  have u0b := cellB hb1 u0
  have v0b := cellB hb1 v0
  have u1b := cellB hb1 u1
  have v1b := cellB hb1 v1
  have u2b := cellB hb1 u2
  have v2b := cellB hb1 v2
  have u3b := cellB hb1 u3
  have v3b := cellB hb1 v3
  have u4b := cellB hb1 u4
  have v4b := cellB hb1 v4
  have u5b := cellB hb1 u5
  have v5b := cellB hb1 v5
  have u6b := cellB hb1 u6
  have v6b := cellB hb1 v6
  have u7b := cellB hb1 u7
  have v7b := cellB hb1 v7
  have u8b := cellB hb1 u8
  have v8b := cellB hb1 v8
  clear hb1
  go_wp2_with fail
  refine (HC.out _ B1.out).mono ?_
  rintro e w2 ⟨rfl, hb2⟩
  have B2 := Lib.hid (below_step2 B1.out hb2)
  have z1 := cellB hb2 u2b
  have z2 := cellB hb2 v2b
  clear hb2 u0b v0b u0 v0 u1b v1b u1 v1 u2b v2b u2 v2 u3b v3b u3 v3 u4b v4b u4 v4 u5b v5b u5 v5 u6b v6b u6 v6 u7b v7b u7 v7 u8b v8b u8 v8
  have HZ1 := Lib.hid z1
  have HZ2 := Lib.hid z2
  obtain ⟨wo, hwo⟩ : ∃ wo, wo = w2 := ⟨_, rfl⟩
  have HO := Lib.hid hwo
  clear hwo
  go_wp2_with fail
  go_loopw [7] (fun i wr => Below wo.heap.size wo wr ∧ (i = .int .i64 0 ∨ i = .int .i64 1)) (fun i _ => 1 - (intOf i).toNat)
  case atStart => exact ⟨HO.out ▸ Below.refl _ _, .inl rfl⟩
  case round =>
    obtain ⟨hb, rfl | rfl⟩ := hrel
    · have HB := Lib.hid hb
      have hb2 : Below w2.heap.size w2 wr := HO.out ▸ hb
      have z1b := cellB hb2 HZ1.out
      have z2b := cellB hb2 HZ2.out
      have BW := Lib.hid (below_step2 B2.out hb2)
      have j1 : 1 ≤ d1 := hd1
      have j2 : 1 ≤ d2 := hd2
      have x0 : wr.cell? ⟨k1, o1, none⟩ = some (.int .i64 g0.kind) := cellB BW.out ((c0 0 (by decide)).trans rfl)
      have y0 : wr.cell? ⟨k2, o2, none⟩ = some (.int .i64 e0.kind) := cellB BW.out ((f0 0 (by decide)).trans rfl)
      have x1 : wr.cell? ⟨k1, o1 + 1, none⟩ = some (str g0.table) := cellB BW.out ((c0 1 (by decide)).trans rfl)
      have y1 : wr.cell? ⟨k2, o2 + 1, none⟩ = some (str e0.table) := cellB BW.out ((f0 1 (by decide)).trans rfl)
      have x2 : wr.cell? ⟨k1, o1 + 2, none⟩ = some (.slice x00A x00n x00c) := cellB BW.out ((c0 2 (by decide)).trans rfl)
      have y2 : wr.cell? ⟨k2, o2 + 2, none⟩ = some (.slice y00A y00n y00c) := cellB BW.out ((f0 2 (by decide)).trans rfl)
      have x3 : wr.cell? ⟨k1, o1 + 3, none⟩ = some (.slice x01A x01n x01c) := cellB BW.out ((c0 3 (by decide)).trans rfl)
      have y3 : wr.cell? ⟨k2, o2 + 3, none⟩ = some (.slice y01A y01n y01c) := cellB BW.out ((f0 3 (by decide)).trans rfl)
      have x4 : wr.cell? ⟨k1, o1 + 4, none⟩ = some (.slice x02A x02n x02c) := cellB BW.out ((c0 4 (by decide)).trans rfl)
      have y4 : wr.cell? ⟨k2, o2 + 4, none⟩ = some (.slice y02A y02n y02c) := cellB BW.out ((f0 4 (by decide)).trans rfl)
      have x5 : wr.cell? ⟨k1, o1 + 5, none⟩ = some (str g0.attr) := cellB BW.out ((c0 5 (by decide)).trans rfl)
      have y5 : wr.cell? ⟨k2, o2 + 5, none⟩ = some (str e0.attr) := cellB BW.out ((f0 5 (by decide)).trans rfl)
      have x6 : wr.cell? ⟨k1, o1 + 6, none⟩ = some (str g0.as_) := cellB BW.out ((c0 6 (by decide)).trans rfl)
      have y6 : wr.cell? ⟨k2, o2 + 6, none⟩ = some (str e0.as_) := cellB BW.out ((f0 6 (by decide)).trans rfl)
      have x7 : wr.cell? ⟨k1, o1 + 7, none⟩ = some (.int .i64 g0.agg) := cellB BW.out ((c0 7 (by decide)).trans rfl)
      have y7 : wr.cell? ⟨k2, o2 + 7, none⟩ = some (.int .i64 e0.agg) := cellB BW.out ((f0 7 (by decide)).trans rfl)
      have x8 : wr.cell? ⟨k1, o1 + 8, none⟩ = some (.int .i64 g0.at_) := cellB BW.out ((c0 8 (by decide)).trans rfl)
      have y8 : wr.cell? ⟨k2, o2 + 8, none⟩ = some (.int .i64 e0.at_) := cellB BW.out ((f0 8 (by decide)).trans rfl)
      clear hb hb2
      go_wp2_with fail
      go_region_held3 (fun w' => w'.cell? ⟨w.heap.size, 2, none⟩ = some (.slice (some ⟨k1, o1, none⟩) 1 d1) ∧ w'.cell? ⟨w.heap.size + 1, 2, none⟩ = some (.slice (some ⟨k2, o2, none⟩) 1 d2) ∧ w'.cell? ⟨k1, o1, none⟩ = some (.int .i64 g0.kind) ∧ w'.cell? ⟨k2, o2, none⟩ = some (.int .i64 e0.kind) ∧ w'.cell? ⟨k1, o1 + 1, none⟩ = some (str g0.table) ∧ w'.cell? ⟨k2, o2 + 1, none⟩ = some (str e0.table) ∧ w'.cell? ⟨k1, o1 + 2, none⟩ = some (.slice x00A x00n x00c) ∧ w'.cell? ⟨k2, o2 + 2, none⟩ = some (.slice y00A y00n y00c) ∧ w'.cell? ⟨k1, o1 + 3, none⟩ = some (.slice x01A x01n x01c) ∧ w'.cell? ⟨k2, o2 + 3, none⟩ = some (.slice y01A y01n y01c) ∧ w'.cell? ⟨k1, o1 + 4, none⟩ = some (.slice x02A x02n x02c) ∧ w'.cell? ⟨k2, o2 + 4, none⟩ = some (.slice y02A y02n y02c) ∧ w'.cell? ⟨k1, o1 + 5, none⟩ = some (str g0.attr) ∧ w'.cell? ⟨k2, o2 + 5, none⟩ = some (str e0.attr) ∧ w'.cell? ⟨k1, o1 + 6, none⟩ = some (str g0.as_) ∧ w'.cell? ⟨k2, o2 + 6, none⟩ = some (str e0.as_) ∧ w'.cell? ⟨k1, o1 + 7, none⟩ = some (.int .i64 g0.agg) ∧ w'.cell? ⟨k2, o2 + 7, none⟩ = some (.int .i64 e0.agg) ∧ w'.cell? ⟨k1, o1 + 8, none⟩ = some (.int .i64 g0.at_) ∧ w'.cell? ⟨k2, o2 + 8, none⟩ = some (.int .i64 e0.at_)) (go_keep) ((go_at_call 14; refine (hk0 _ (BW.out.trans (below_drewN _ wr 1))).mono ?_; rintro e w8 ⟨rfl, hb8⟩; have HB8 := Lib.hid (show Below wr.heap.size wr w8 from (below_drewN _ wr 1).trans hb8); have z1q := cellB hb8 z1b; have z2q := cellB hb8 z2b; have x0q := cellB hb8 x0; have y0q := cellB hb8 y0; have x1q := cellB hb8 x1; have y1q := cellB hb8 y1; have x2q := cellB hb8 x2; have y2q := cellB hb8 y2; have x3q := cellB hb8 x3; have y3q := cellB hb8 y3; have x4q := cellB hb8 x4; have y4q := cellB hb8 y4; have x5q := cellB hb8 x5; have y5q := cellB hb8 y5; have x6q := cellB hb8 x6; have y6q := cellB hb8 y6; have x7q := cellB hb8 x7; have y7q := cellB hb8 y7; have x8q := cellB hb8 x8; have y8q := cellB hb8 y8; clear hb8))
      all_goals
        go_wp2_with fail
        go_roundw
        case rel => exact ⟨below_step2 HB.out HB8.out, .inr (rfl)⟩
        case measure => decide
    · have HB := Lib.hid hb
      have hb2 : Below w2.heap.size w2 wr := HO.out ▸ hb
      have z1b := cellB hb2 HZ1.out
      have z2b := cellB hb2 HZ2.out
      clear hb hb2
      go_wp2_with fail
      go_ret
      exact ⟨rfl, below_step2 B2.out (HO.out ▸ HB.out)⟩
set_option maxRecDepth 100000 in
set_option maxHeartbeats 8000000 in
theorem same1b (h : Hd) (a1 a2 : Int) (w : World) (d1 d2 : Nat) (pA qA rA sA : Option Addr) (pn pc qn qc rn rc sn sc : Nat) (k1 o1 k2 o2 : Nat) (hd1 : 1 ≤ d1) (hd2 : 1 ≤ d2) (hs : ∀ W, Below w.heap.size w W → Calls Tryz.prog 20 #[.slice qA qn qc, .slice sA sn sc] W (fun e w' => e = .returned (.bool true) ∧ Below W.heap.size W w')) (hc : ∀ W, Below w.heap.size w W → Calls Tryz.prog 21 #[.slice pA pn pc, .slice rA rn rc] W (fun e w' => e = .returned (.bool true) ∧ Below W.heap.size W w')) (g0 e0 : Hd) (x00A x01A x02A y00A y01A y02A : Option Addr) (x00n x00c x01n x01c x02n x02c y00n y00c y01n y01c y02n y02c : Nat) (c0 : ∀ k, k < 9 → w.cell? ⟨k1, o1 + k, none⟩ = ([.int .i64 g0.kind, str g0.table, .slice x00A x00n x00c, .slice x01A x01n x01c, .slice x02A x02n x02c, str g0.attr, str g0.as_, .int .i64 g0.agg, .int .i64 g0.at_] : List Value)[k]?) (f0 : ∀ k, k < 9 → w.cell? ⟨k2, o2 + k, none⟩ = ([.int .i64 e0.kind, str e0.table, .slice y00A y00n y00c, .slice y01A y01n y01c, .slice y02A y02n y02c, str e0.attr, str e0.as_, .int .i64 e0.agg, .int .i64 e0.at_] : List Value)[k]?) (hk0 : ∀ W, Below w.heap.size w W → Calls Tryz.prog 14 #[.agg #[.int .i64 g0.kind, str g0.table, .slice x00A x00n x00c, .slice x01A x01n x01c, .slice x02A x02n x02c, str g0.attr, str g0.as_, .int .i64 g0.agg, .int .i64 g0.at_], .agg #[.int .i64 e0.kind, str e0.table, .slice y00A y00n y00c, .slice y01A y01n y01c, .slice y02A y02n y02c, str e0.attr, str e0.as_, .int .i64 e0.agg, .int .i64 e0.at_], .bool false] W (fun e w' => e = .returned (.bool true) ∧ Below W.heap.size W w')) :
    Calls Tryz.prog 14 #[.agg #[.int .i64 h.kind, str h.table, .slice (some ⟨k1, o1, none⟩) 1 d1, .slice pA pn pc, .slice qA qn qc, str h.attr, str h.as_, .int .i64 h.agg, .int .i64 a1], .agg #[.int .i64 h.kind, str h.table, .slice (some ⟨k2, o2, none⟩) 1 d2, .slice rA rn rc, .slice sA sn sc, str h.attr, str h.as_, .int .i64 h.agg, .int .i64 a2], .bool false] w (fun e w' => e = .returned (.bool true) ∧ Below w.heap.size w w') := by
  have B0 := Lib.hid (show Below w.heap.size w ((w.alloc (.cells #[.int .i64 h.kind, str h.table, .slice (some ⟨k1, o1, none⟩) 1 d1, .slice pA pn pc, .slice qA qn qc, str h.attr, str h.as_, .int .i64 h.agg, .int .i64 a1] 49)).alloc (.cells #[.int .i64 h.kind, str h.table, .slice (some ⟨k2, o2, none⟩) 1 d2, .slice rA rn rc, .slice sA sn sc, str h.attr, str h.as_, .int .i64 h.agg, .int .i64 a2] 49)) from (below_box w _).alloc (by simp) _)
  have u0 : ((w.alloc (.cells #[.int .i64 h.kind, str h.table, .slice (some ⟨k1, o1, none⟩) 1 d1, .slice pA pn pc, .slice qA qn qc, str h.attr, str h.as_, .int .i64 h.agg, .int .i64 a1] 49)).alloc (.cells #[.int .i64 h.kind, str h.table, .slice (some ⟨k2, o2, none⟩) 1 d2, .slice rA rn rc, .slice sA sn sc, str h.attr, str h.as_, .int .i64 h.agg, .int .i64 a2] 49)).cell? ⟨w.heap.size, 0, none⟩ = some (.int .i64 h.kind) := by simp [go_sem]
  have v0 : ((w.alloc (.cells #[.int .i64 h.kind, str h.table, .slice (some ⟨k1, o1, none⟩) 1 d1, .slice pA pn pc, .slice qA qn qc, str h.attr, str h.as_, .int .i64 h.agg, .int .i64 a1] 49)).alloc (.cells #[.int .i64 h.kind, str h.table, .slice (some ⟨k2, o2, none⟩) 1 d2, .slice rA rn rc, .slice sA sn sc, str h.attr, str h.as_, .int .i64 h.agg, .int .i64 a2] 49)).cell? ⟨w.heap.size + 1, 0, none⟩ = some (.int .i64 h.kind) := by simp [go_sem]
  have u1 : ((w.alloc (.cells #[.int .i64 h.kind, str h.table, .slice (some ⟨k1, o1, none⟩) 1 d1, .slice pA pn pc, .slice qA qn qc, str h.attr, str h.as_, .int .i64 h.agg, .int .i64 a1] 49)).alloc (.cells #[.int .i64 h.kind, str h.table, .slice (some ⟨k2, o2, none⟩) 1 d2, .slice rA rn rc, .slice sA sn sc, str h.attr, str h.as_, .int .i64 h.agg, .int .i64 a2] 49)).cell? ⟨w.heap.size, 1, none⟩ = some (str h.table) := by simp [go_sem]
  have v1 : ((w.alloc (.cells #[.int .i64 h.kind, str h.table, .slice (some ⟨k1, o1, none⟩) 1 d1, .slice pA pn pc, .slice qA qn qc, str h.attr, str h.as_, .int .i64 h.agg, .int .i64 a1] 49)).alloc (.cells #[.int .i64 h.kind, str h.table, .slice (some ⟨k2, o2, none⟩) 1 d2, .slice rA rn rc, .slice sA sn sc, str h.attr, str h.as_, .int .i64 h.agg, .int .i64 a2] 49)).cell? ⟨w.heap.size + 1, 1, none⟩ = some (str h.table) := by simp [go_sem]
  have u2 : ((w.alloc (.cells #[.int .i64 h.kind, str h.table, .slice (some ⟨k1, o1, none⟩) 1 d1, .slice pA pn pc, .slice qA qn qc, str h.attr, str h.as_, .int .i64 h.agg, .int .i64 a1] 49)).alloc (.cells #[.int .i64 h.kind, str h.table, .slice (some ⟨k2, o2, none⟩) 1 d2, .slice rA rn rc, .slice sA sn sc, str h.attr, str h.as_, .int .i64 h.agg, .int .i64 a2] 49)).cell? ⟨w.heap.size, 2, none⟩ = some (.slice (some ⟨k1, o1, none⟩) 1 d1) := by simp [go_sem]
  have v2 : ((w.alloc (.cells #[.int .i64 h.kind, str h.table, .slice (some ⟨k1, o1, none⟩) 1 d1, .slice pA pn pc, .slice qA qn qc, str h.attr, str h.as_, .int .i64 h.agg, .int .i64 a1] 49)).alloc (.cells #[.int .i64 h.kind, str h.table, .slice (some ⟨k2, o2, none⟩) 1 d2, .slice rA rn rc, .slice sA sn sc, str h.attr, str h.as_, .int .i64 h.agg, .int .i64 a2] 49)).cell? ⟨w.heap.size + 1, 2, none⟩ = some (.slice (some ⟨k2, o2, none⟩) 1 d2) := by simp [go_sem]
  have u3 : ((w.alloc (.cells #[.int .i64 h.kind, str h.table, .slice (some ⟨k1, o1, none⟩) 1 d1, .slice pA pn pc, .slice qA qn qc, str h.attr, str h.as_, .int .i64 h.agg, .int .i64 a1] 49)).alloc (.cells #[.int .i64 h.kind, str h.table, .slice (some ⟨k2, o2, none⟩) 1 d2, .slice rA rn rc, .slice sA sn sc, str h.attr, str h.as_, .int .i64 h.agg, .int .i64 a2] 49)).cell? ⟨w.heap.size, 3, none⟩ = some (.slice pA pn pc) := by simp [go_sem]
  have v3 : ((w.alloc (.cells #[.int .i64 h.kind, str h.table, .slice (some ⟨k1, o1, none⟩) 1 d1, .slice pA pn pc, .slice qA qn qc, str h.attr, str h.as_, .int .i64 h.agg, .int .i64 a1] 49)).alloc (.cells #[.int .i64 h.kind, str h.table, .slice (some ⟨k2, o2, none⟩) 1 d2, .slice rA rn rc, .slice sA sn sc, str h.attr, str h.as_, .int .i64 h.agg, .int .i64 a2] 49)).cell? ⟨w.heap.size + 1, 3, none⟩ = some (.slice rA rn rc) := by simp [go_sem]
  have u4 : ((w.alloc (.cells #[.int .i64 h.kind, str h.table, .slice (some ⟨k1, o1, none⟩) 1 d1, .slice pA pn pc, .slice qA qn qc, str h.attr, str h.as_, .int .i64 h.agg, .int .i64 a1] 49)).alloc (.cells #[.int .i64 h.kind, str h.table, .slice (some ⟨k2, o2, none⟩) 1 d2, .slice rA rn rc, .slice sA sn sc, str h.attr, str h.as_, .int .i64 h.agg, .int .i64 a2] 49)).cell? ⟨w.heap.size, 4, none⟩ = some (.slice qA qn qc) := by simp [go_sem]
  have v4 : ((w.alloc (.cells #[.int .i64 h.kind, str h.table, .slice (some ⟨k1, o1, none⟩) 1 d1, .slice pA pn pc, .slice qA qn qc, str h.attr, str h.as_, .int .i64 h.agg, .int .i64 a1] 49)).alloc (.cells #[.int .i64 h.kind, str h.table, .slice (some ⟨k2, o2, none⟩) 1 d2, .slice rA rn rc, .slice sA sn sc, str h.attr, str h.as_, .int .i64 h.agg, .int .i64 a2] 49)).cell? ⟨w.heap.size + 1, 4, none⟩ = some (.slice sA sn sc) := by simp [go_sem]
  have u5 : ((w.alloc (.cells #[.int .i64 h.kind, str h.table, .slice (some ⟨k1, o1, none⟩) 1 d1, .slice pA pn pc, .slice qA qn qc, str h.attr, str h.as_, .int .i64 h.agg, .int .i64 a1] 49)).alloc (.cells #[.int .i64 h.kind, str h.table, .slice (some ⟨k2, o2, none⟩) 1 d2, .slice rA rn rc, .slice sA sn sc, str h.attr, str h.as_, .int .i64 h.agg, .int .i64 a2] 49)).cell? ⟨w.heap.size, 5, none⟩ = some (str h.attr) := by simp [go_sem]
  have v5 : ((w.alloc (.cells #[.int .i64 h.kind, str h.table, .slice (some ⟨k1, o1, none⟩) 1 d1, .slice pA pn pc, .slice qA qn qc, str h.attr, str h.as_, .int .i64 h.agg, .int .i64 a1] 49)).alloc (.cells #[.int .i64 h.kind, str h.table, .slice (some ⟨k2, o2, none⟩) 1 d2, .slice rA rn rc, .slice sA sn sc, str h.attr, str h.as_, .int .i64 h.agg, .int .i64 a2] 49)).cell? ⟨w.heap.size + 1, 5, none⟩ = some (str h.attr) := by simp [go_sem]
  have u6 : ((w.alloc (.cells #[.int .i64 h.kind, str h.table, .slice (some ⟨k1, o1, none⟩) 1 d1, .slice pA pn pc, .slice qA qn qc, str h.attr, str h.as_, .int .i64 h.agg, .int .i64 a1] 49)).alloc (.cells #[.int .i64 h.kind, str h.table, .slice (some ⟨k2, o2, none⟩) 1 d2, .slice rA rn rc, .slice sA sn sc, str h.attr, str h.as_, .int .i64 h.agg, .int .i64 a2] 49)).cell? ⟨w.heap.size, 6, none⟩ = some (str h.as_) := by simp [go_sem]
  have v6 : ((w.alloc (.cells #[.int .i64 h.kind, str h.table, .slice (some ⟨k1, o1, none⟩) 1 d1, .slice pA pn pc, .slice qA qn qc, str h.attr, str h.as_, .int .i64 h.agg, .int .i64 a1] 49)).alloc (.cells #[.int .i64 h.kind, str h.table, .slice (some ⟨k2, o2, none⟩) 1 d2, .slice rA rn rc, .slice sA sn sc, str h.attr, str h.as_, .int .i64 h.agg, .int .i64 a2] 49)).cell? ⟨w.heap.size + 1, 6, none⟩ = some (str h.as_) := by simp [go_sem]
  have u7 : ((w.alloc (.cells #[.int .i64 h.kind, str h.table, .slice (some ⟨k1, o1, none⟩) 1 d1, .slice pA pn pc, .slice qA qn qc, str h.attr, str h.as_, .int .i64 h.agg, .int .i64 a1] 49)).alloc (.cells #[.int .i64 h.kind, str h.table, .slice (some ⟨k2, o2, none⟩) 1 d2, .slice rA rn rc, .slice sA sn sc, str h.attr, str h.as_, .int .i64 h.agg, .int .i64 a2] 49)).cell? ⟨w.heap.size, 7, none⟩ = some (.int .i64 h.agg) := by simp [go_sem]
  have v7 : ((w.alloc (.cells #[.int .i64 h.kind, str h.table, .slice (some ⟨k1, o1, none⟩) 1 d1, .slice pA pn pc, .slice qA qn qc, str h.attr, str h.as_, .int .i64 h.agg, .int .i64 a1] 49)).alloc (.cells #[.int .i64 h.kind, str h.table, .slice (some ⟨k2, o2, none⟩) 1 d2, .slice rA rn rc, .slice sA sn sc, str h.attr, str h.as_, .int .i64 h.agg, .int .i64 a2] 49)).cell? ⟨w.heap.size + 1, 7, none⟩ = some (.int .i64 h.agg) := by simp [go_sem]
  have u8 : ((w.alloc (.cells #[.int .i64 h.kind, str h.table, .slice (some ⟨k1, o1, none⟩) 1 d1, .slice pA pn pc, .slice qA qn qc, str h.attr, str h.as_, .int .i64 h.agg, .int .i64 a1] 49)).alloc (.cells #[.int .i64 h.kind, str h.table, .slice (some ⟨k2, o2, none⟩) 1 d2, .slice rA rn rc, .slice sA sn sc, str h.attr, str h.as_, .int .i64 h.agg, .int .i64 a2] 49)).cell? ⟨w.heap.size, 8, none⟩ = some (.int .i64 a1) := by simp [go_sem]
  have v8 : ((w.alloc (.cells #[.int .i64 h.kind, str h.table, .slice (some ⟨k1, o1, none⟩) 1 d1, .slice pA pn pc, .slice qA qn qc, str h.attr, str h.as_, .int .i64 h.agg, .int .i64 a1] 49)).alloc (.cells #[.int .i64 h.kind, str h.table, .slice (some ⟨k2, o2, none⟩) 1 d2, .slice rA rn rc, .slice sA sn sc, str h.attr, str h.as_, .int .i64 h.agg, .int .i64 a2] 49)).cell? ⟨w.heap.size + 1, 8, none⟩ = some (.int .i64 a2) := by simp [go_sem]
  have HS := Lib.hid hs
  have HC := Lib.hid hc
  clear hs hc
  go_enter Tryz.func14, Tryz.ntmps14
  go_wp2_with fail
  refine (HS.out _ B0.out).mono ?_
  rintro e w1 ⟨rfl, hb1⟩
  have B1 := Lib.hid (below_step2 B0.out hb1)
  have u0b := cellB hb1 u0
  have v0b := cellB hb1 v0
  have u1b := cellB hb1 u1
  have v1b := cellB hb1 v1
  have u2b := cellB hb1 u2
  have v2b := cellB hb1 v2
  have u3b := cellB hb1 u3
  have v3b := cellB hb1 v3
  have u4b := cellB hb1 u4
  have v4b := cellB hb1 v4
  have u5b := cellB hb1 u5
  have v5b := cellB hb1 v5
  have u6b := cellB hb1 u6
  have v6b := cellB hb1 v6
  have u7b := cellB hb1 u7
  have v7b := cellB hb1 v7
  have u8b := cellB hb1 u8
  have v8b := cellB hb1 v8
  clear hb1
  go_wp2_with fail
  refine (HC.out _ B1.out).mono ?_
  rintro e w2 ⟨rfl, hb2⟩
  have B2 := Lib.hid (below_step2 B1.out hb2)
  have z1 := cellB hb2 u2b
  have z2 := cellB hb2 v2b
  clear hb2 u0b v0b u0 v0 u1b v1b u1 v1 u2b v2b u2 v2 u3b v3b u3 v3 u4b v4b u4 v4 u5b v5b u5 v5 u6b v6b u6 v6 u7b v7b u7 v7 u8b v8b u8 v8
  have HZ1 := Lib.hid z1
  have HZ2 := Lib.hid z2
  obtain ⟨wo, hwo⟩ : ∃ wo, wo = w2 := ⟨_, rfl⟩
  have HO := Lib.hid hwo
  clear hwo
  go_wp2_with fail
  go_loopw [7] (fun i wr => Below wo.heap.size wo wr ∧ (i = .int .i64 0 ∨ i = .int .i64 1)) (fun i _ => 1 - (intOf i).toNat)
  case atStart => exact ⟨HO.out ▸ Below.refl _ _, .inl rfl⟩
  case round =>
    obtain ⟨hb, rfl | rfl⟩ := hrel
    · have HB := Lib.hid hb
      have hb2 : Below w2.heap.size w2 wr := HO.out ▸ hb
      have z1b := cellB hb2 HZ1.out
      have z2b := cellB hb2 HZ2.out
      have BW := Lib.hid (below_step2 B2.out hb2)
      have j1 : 1 ≤ d1 := hd1
      have j2 : 1 ≤ d2 := hd2
      have x0 : wr.cell? ⟨k1, o1, none⟩ = some (.int .i64 g0.kind) := cellB BW.out ((c0 0 (by decide)).trans rfl)
      have y0 : wr.cell? ⟨k2, o2, none⟩ = some (.int .i64 e0.kind) := cellB BW.out ((f0 0 (by decide)).trans rfl)
      have x1 : wr.cell? ⟨k1, o1 + 1, none⟩ = some (str g0.table) := cellB BW.out ((c0 1 (by decide)).trans rfl)
      have y1 : wr.cell? ⟨k2, o2 + 1, none⟩ = some (str e0.table) := cellB BW.out ((f0 1 (by decide)).trans rfl)
      have x2 : wr.cell? ⟨k1, o1 + 2, none⟩ = some (.slice x00A x00n x00c) := cellB BW.out ((c0 2 (by decide)).trans rfl)
      have y2 : wr.cell? ⟨k2, o2 + 2, none⟩ = some (.slice y00A y00n y00c) := cellB BW.out ((f0 2 (by decide)).trans rfl)
      have x3 : wr.cell? ⟨k1, o1 + 3, none⟩ = some (.slice x01A x01n x01c) := cellB BW.out ((c0 3 (by decide)).trans rfl)
      have y3 : wr.cell? ⟨k2, o2 + 3, none⟩ = some (.slice y01A y01n y01c) := cellB BW.out ((f0 3 (by decide)).trans rfl)
      have x4 : wr.cell? ⟨k1, o1 + 4, none⟩ = some (.slice x02A x02n x02c) := cellB BW.out ((c0 4 (by decide)).trans rfl)
      have y4 : wr.cell? ⟨k2, o2 + 4, none⟩ = some (.slice y02A y02n y02c) := cellB BW.out ((f0 4 (by decide)).trans rfl)
      have x5 : wr.cell? ⟨k1, o1 + 5, none⟩ = some (str g0.attr) := cellB BW.out ((c0 5 (by decide)).trans rfl)
      have y5 : wr.cell? ⟨k2, o2 + 5, none⟩ = some (str e0.attr) := cellB BW.out ((f0 5 (by decide)).trans rfl)
      have x6 : wr.cell? ⟨k1, o1 + 6, none⟩ = some (str g0.as_) := cellB BW.out ((c0 6 (by decide)).trans rfl)
      have y6 : wr.cell? ⟨k2, o2 + 6, none⟩ = some (str e0.as_) := cellB BW.out ((f0 6 (by decide)).trans rfl)
      have x7 : wr.cell? ⟨k1, o1 + 7, none⟩ = some (.int .i64 g0.agg) := cellB BW.out ((c0 7 (by decide)).trans rfl)
      have y7 : wr.cell? ⟨k2, o2 + 7, none⟩ = some (.int .i64 e0.agg) := cellB BW.out ((f0 7 (by decide)).trans rfl)
      have x8 : wr.cell? ⟨k1, o1 + 8, none⟩ = some (.int .i64 g0.at_) := cellB BW.out ((c0 8 (by decide)).trans rfl)
      have y8 : wr.cell? ⟨k2, o2 + 8, none⟩ = some (.int .i64 e0.at_) := cellB BW.out ((f0 8 (by decide)).trans rfl)
      clear hb hb2
      go_wp2_with fail
      go_region_held3 (fun w' => w'.cell? ⟨w.heap.size, 2, none⟩ = some (.slice (some ⟨k1, o1, none⟩) 1 d1) ∧ w'.cell? ⟨w.heap.size + 1, 2, none⟩ = some (.slice (some ⟨k2, o2, none⟩) 1 d2) ∧ w'.cell? ⟨k1, o1, none⟩ = some (.int .i64 g0.kind) ∧ w'.cell? ⟨k2, o2, none⟩ = some (.int .i64 e0.kind) ∧ w'.cell? ⟨k1, o1 + 1, none⟩ = some (str g0.table) ∧ w'.cell? ⟨k2, o2 + 1, none⟩ = some (str e0.table) ∧ w'.cell? ⟨k1, o1 + 2, none⟩ = some (.slice x00A x00n x00c) ∧ w'.cell? ⟨k2, o2 + 2, none⟩ = some (.slice y00A y00n y00c) ∧ w'.cell? ⟨k1, o1 + 3, none⟩ = some (.slice x01A x01n x01c) ∧ w'.cell? ⟨k2, o2 + 3, none⟩ = some (.slice y01A y01n y01c) ∧ w'.cell? ⟨k1, o1 + 4, none⟩ = some (.slice x02A x02n x02c) ∧ w'.cell? ⟨k2, o2 + 4, none⟩ = some (.slice y02A y02n y02c) ∧ w'.cell? ⟨k1, o1 + 5, none⟩ = some (str g0.attr) ∧ w'.cell? ⟨k2, o2 + 5, none⟩ = some (str e0.attr) ∧ w'.cell? ⟨k1, o1 + 6, none⟩ = some (str g0.as_) ∧ w'.cell? ⟨k2, o2 + 6, none⟩ = some (str e0.as_) ∧ w'.cell? ⟨k1, o1 + 7, none⟩ = some (.int .i64 g0.agg) ∧ w'.cell? ⟨k2, o2 + 7, none⟩ = some (.int .i64 e0.agg) ∧ w'.cell? ⟨k1, o1 + 8, none⟩ = some (.int .i64 g0.at_) ∧ w'.cell? ⟨k2, o2 + 8, none⟩ = some (.int .i64 e0.at_)) (go_keep) ((go_at_call 14; refine (hk0 _ (BW.out.trans (below_drewN _ wr 1))).mono ?_; rintro e w8 ⟨rfl, hb8⟩; have HB8 := Lib.hid (show Below wr.heap.size wr w8 from (below_drewN _ wr 1).trans hb8); have z1q := cellB hb8 z1b; have z2q := cellB hb8 z2b; have x0q := cellB hb8 x0; have y0q := cellB hb8 y0; have x1q := cellB hb8 x1; have y1q := cellB hb8 y1; have x2q := cellB hb8 x2; have y2q := cellB hb8 y2; have x3q := cellB hb8 x3; have y3q := cellB hb8 y3; have x4q := cellB hb8 x4; have y4q := cellB hb8 y4; have x5q := cellB hb8 x5; have y5q := cellB hb8 y5; have x6q := cellB hb8 x6; have y6q := cellB hb8 y6; have x7q := cellB hb8 x7; have y7q := cellB hb8 y7; have x8q := cellB hb8 x8; have y8q := cellB hb8 y8; clear hb8))
      all_goals
        go_wp2_with fail
        go_roundw
        case rel => exact ⟨below_step2 HB.out HB8.out, .inr (rfl)⟩
        case measure => decide
    · have HB := Lib.hid hb
      have hb2 : Below w2.heap.size w2 wr := HO.out ▸ hb
      have z1b := cellB hb2 HZ1.out
      have z2b := cellB hb2 HZ2.out
      clear hb hb2
      go_wp2_with fail
      go_ret
      exact ⟨rfl, below_step2 B2.out (HO.out ▸ HB.out)⟩
end Go.Proofs.YtcgkaecaddpenaaGreatDoor

