import Derived.Test.YtcgkaecaddpenaaGreatDoorPsLst
import Derived.Test.YtcgkaecaddpenaaGreatDoorPLx
/- The parser in plain words: what follows matters by its first token alone; a beginning is read to its end; offsets do not matter. -/
namespace Go.Proofs.YtcgkaecaddpenaaGreatDoor.L8
open L7 (Tk bare)

def rst {α : Type} : Res α → List Tk
  | .ok _ r => r
  | .bad _ r => r
def put {α : Type} (R : Res α) (y : List Tk) : Res α := match R with
  | .ok a _ => .ok a y
  | .bad b _ => .bad b y
/-- No symbol is the name of an operation. -/
def Sy (r : List Tk) : Prop := ∀ t ∈ r, t.kind = 4 → t.text ∉ opsW
theorem Sy.left {x y : List Tk} (h : Sy (x ++ y)) : Sy x := fun t q => h t (List.mem_append_left _ q)
theorem Sy.right {x y : List Tk} (h : Sy (x ++ y)) : Sy y := fun t q => h t (List.mem_append_right _ q)
theorem Sy.app {x y : List Tk} (h : Sy x) (k : Sy y) : Sy (x ++ y) := fun t q => (List.mem_append.1 q).elim (h t) (k t)
theorem Sy.nil : Sy [] := fun t q => by cases q
/-- What follows matters by its first token alone. -/
def Loc {α : Type} (p : P α) : Prop := ∀ r, Sy r → ∃ x, r = x ++ rst (p r) ∧ ∀ y, Sy y → y.head? = (rst (p r)).head? → p (x ++ y) = put (p r) y
/-- Cut within what is read, all that is left is read. -/
def Tr {α : Type} (p : P α) : Prop := ∀ x z, Sy (x ++ z) → (rst (p (x ++ z))).length ≤ z.length → rst (p x) = []
structure Nice {α : Type} (p : P α) : Prop where
  loc : Loc p
  tr : Tr p
theorem Nice.none {α : Type} {p : P α} (h : Nice p) : rst (p []) = [] := by
  obtain ⟨x, hx, _⟩ := h.loc [] Sy.nil
  exact (List.append_eq_nil_iff.1 hx.symm).2
theorem Nice.pur {α : Type} (a : α) : Nice (pure a : P α) := ⟨fun r _ => ⟨[], rfl, fun y _ _ => rfl⟩, fun x z _ h => by
  have h2 : (x ++ z).length ≤ z.length := h
  rw [List.length_append] at h2
  exact List.length_eq_zero_iff.1 (by show x.length = 0; omega)⟩
theorem Nice.fail {α : Type} (b : Bool) : Nice (failP b : P α) := ⟨fun r _ => ⟨[], rfl, fun y _ _ => rfl⟩, fun x z _ h => by
  have h2 : (x ++ z).length ≤ z.length := h
  rw [List.length_append] at h2
  exact List.length_eq_zero_iff.1 (by show x.length = 0; omega)⟩
theorem Nice.bnd {α β : Type} {p : P α} {q : α → P β} (hp : Nice p) (hq : ∀ a, Nice (q a)) : Nice (p >>= q) := by
  refine ⟨fun r hr => ?_, fun x z hr h => ?_⟩
  · obtain ⟨x1, h1, h2⟩ := hp.loc r hr
    rcases e : p r with ⟨a, r1⟩ | ⟨b, r1⟩
    · rw [e] at h1 h2
      have hr1 : Sy r1 := by
        have h1' : r = x1 ++ r1 := h1
        rw [h1'] at hr
        exact hr.right
      obtain ⟨x2, h3, h4⟩ := (hq a).loc r1 hr1
      rw [bnd_ok e]
      have hx2 : Sy x2 := by
        rw [h3] at hr1
        exact hr1.left
      refine ⟨x1 ++ x2, by rw [List.append_assoc, ← h3]; exact h1, fun y sy hy => ?_⟩
      have h5 : p (x1 ++ (x2 ++ y)) = .ok a (x2 ++ y) := h2 (x2 ++ y) (hx2.app sy) (by
        show (x2 ++ y).head? = r1.head?
        rw [h3]
        cases x2 with
        | nil => exact hy
        | cons t x2 => rfl)
      rw [List.append_assoc, bnd_ok h5]
      exact h4 y sy hy
    · rw [e] at h1 h2
      rw [bnd_bad e]
      exact ⟨x1, h1, fun y sy hy => bnd_bad (h2 y sy hy)⟩
  · obtain ⟨x1, h1, h2⟩ := hp.loc (x ++ z) hr
    rcases e : p (x ++ z) with ⟨a, r1⟩ | ⟨b, r1⟩
    · rw [e] at h1 h2
      rw [bnd_ok e] at h
      rcases Nat.lt_or_ge z.length r1.length with hl | hl
      · have h3 : ∃ x2, x = x1 ++ x2 ∧ r1 = x2 ++ z := by
          have h6 : x1 ++ r1 = x ++ z := h1.symm
          rcases List.append_eq_append_iff.1 h6 with ⟨c, h7, h8⟩ | ⟨c, h7, h8⟩
          · exact ⟨c, h7, h8⟩
          · have : z.length = c.length + r1.length := by rw [h8, List.length_append]
            omega
        obtain ⟨x2, rfl, rfl⟩ := h3
        have h4 : p (x1 ++ x2) = .ok a x2 := h2 x2 hr.left.right (by
          show x2.head? = (x2 ++ z).head?
          cases x2 with
          | nil => simp at hl
          | cons t x2 => rfl)
        rw [bnd_ok h4]
        exact (hq a).tr x2 z (by rw [List.append_assoc] at hr; exact hr.right) h
      · have h5 := hp.tr x z hr (by rw [e]; exact hl)
        rcases e2 : p x with ⟨a2, r2⟩ | ⟨b2, r2⟩
        · rw [e2] at h5
          have h6 : r2 = [] := h5
          subst h6
          rw [bnd_ok e2]
          exact (hq a2).none
        · rw [e2] at h5
          rw [bnd_bad e2]
          exact h5
    · rw [bnd_bad e] at h
      have h5 := hp.tr x z hr (by rw [e]; exact h)
      rcases e2 : p x with ⟨a2, r2⟩ | ⟨b2, r2⟩
      · rw [e2] at h5
        have h6 : r2 = [] := h5
        subst h6
        rw [bnd_ok e2]
        exact (hq a2).none
      · rw [e2] at h5
        rw [bnd_bad e2]
        exact h5
theorem Nice.ite {α : Type} {c : Prop} [Decidable c] {p q : P α} (hp : Nice p) (hq : Nice q) : Nice (if c then p else q) := by
  split
  · exact hp
  · exact hq
/-- Readers that read one token or none, and look at it alone. -/
theorem nice_one {α : Type} {p : P α} (h0 : ∃ R : Res α, p [] = R ∧ rst R = []) (h1 : ∀ t : Tk, (∃ a, ∀ r, p (t :: r) = .ok a r) ∨ (∃ a, ∀ r, p (t :: r) = .ok a (t :: r)) ∨ (∃ b, ∀ r, p (t :: r) = .bad b (t :: r))) : Nice p := by
  obtain ⟨R0, e0, hR0⟩ := h0
  refine ⟨fun r hr => ?_, fun x z hr h => ?_⟩
  · cases r with
    | nil =>
      refine ⟨[], by rw [e0, hR0]; rfl, fun y _ hy => ?_⟩
      rw [e0, hR0] at hy
      have hy2 : y = [] := by cases y with
        | nil => rfl
        | cons a b => simp at hy
      subst hy2
      rw [e0]
      show p [] = put R0 []
      rw [e0]
      cases R0 with
      | ok a r => cases hR0; rfl
      | bad b r => cases hR0; rfl
    | cons t r =>
      rcases h1 t with ⟨a, h⟩ | ⟨a, h⟩ | ⟨b, h⟩
      · rw [h]
        exact ⟨[t], rfl, fun y _ _ => h y⟩
      · rw [h]
        refine ⟨[], rfl, fun y _ hy => ?_⟩
        cases y with
        | nil => simp [rst] at hy
        | cons u y =>
          have : u = t := by simpa [rst] using hy
          subst this
          exact h y
      · rw [h]
        refine ⟨[], rfl, fun y _ hy => ?_⟩
        cases y with
        | nil => simp [rst] at hy
        | cons u y =>
          have : u = t := by simpa [rst] using hy
          subst this
          exact h y
  · cases x with
    | nil => rw [e0]; exact hR0
    | cons t x =>
      rcases h1 t with ⟨a, h2⟩ | ⟨a, h2⟩ | ⟨b, h2⟩
      · rw [List.cons_append, h2] at h
        have h3 : (x ++ z).length ≤ z.length := h
        rw [List.length_append] at h3
        have h4 : x = [] := List.length_eq_zero_iff.1 (by omega)
        subst h4
        rw [h2]
        rfl
      · rw [List.cons_append, h2] at h
        have h3 : (t :: (x ++ z)).length ≤ z.length := h
        simp at h3
        omega
      · rw [List.cons_append, h2] at h
        have h3 : (t :: (x ++ z)).length ≤ z.length := h
        simp at h3
        omega
theorem nice_take (k : Int) : Nice (takeP k) := nice_one ⟨_, rfl, rfl⟩ fun t => by
  by_cases h : t.kind = k
  · exact .inl ⟨t, fun r => by simp only [takeP]; rw [if_pos h]⟩
  · exact .inr (.inr ⟨false, fun r => by simp only [takeP]; rw [if_neg h]⟩)
theorem nice_acc (w : Txt) : Nice (accP w) := nice_one ⟨_, rfl, by unfold accP; rw [if_neg (fun q => q.2 rfl)]; rfl⟩ fun t => by
  by_cases h : wordT t = w
  · exact .inl ⟨true, fun r => by unfold accP; rw [if_pos ⟨h, by simp⟩]; rfl⟩
  · exact .inr (.inl ⟨false, fun r => by unfold accP; rw [if_neg (fun q => h q.1)]⟩)
theorem nice_exp (w : Txt) : Nice (expP w) := nice_one ⟨_, rfl, by unfold expP; rw [if_neg (fun q => q.2 rfl)]; rfl⟩ fun t => by
  by_cases h : wordT t = w
  · exact .inl ⟨(), fun r => by unfold expP; rw [if_pos ⟨h, by simp⟩]; rfl⟩
  · exact .inr (.inr ⟨false, fun r => by unfold expP; rw [if_neg (fun q => h q.1)]⟩)
theorem nice_one_ (l : List Txt) : Nice (oneP l) := nice_one ⟨_, rfl, by unfold oneP; rw [if_neg (fun q => q.2 rfl)]; rfl⟩ fun t => by
  by_cases h : wordT t ∈ l
  · exact .inl ⟨(l.idxOf (wordT t) : Int) + 1, fun r => by unfold oneP; rw [if_pos ⟨h, by simp⟩]; rfl⟩
  · exact .inr (.inr ⟨false, fun r => by unfold oneP; rw [if_neg (fun q => h q.1)]⟩)
theorem nice_peek (w : Txt) : Nice (peekP w) := nice_one ⟨_, rfl, rfl⟩ fun t => .inr (.inl ⟨decide (wordT t = w), fun _ => rfl⟩)
theorem nice_kind (k : Int) : Nice (kindP k) := nice_one ⟨_, rfl, rfl⟩ fun t => .inr (.inl ⟨decide ((some t).map (·.kind) = some k), fun _ => rfl⟩)
theorem nice_side0 : Nice peekSide := nice_one ⟨_, rfl, rfl⟩ fun t => .inr (.inl ⟨decide (t.kind ≠ 1) || isVal t.text, fun _ => rfl⟩)
theorem nice_at : Nice atP := nice_one ⟨_, rfl, rfl⟩ fun t => .inr (.inl ⟨t.at_, fun _ => rfl⟩)
theorem nice_list {α : Type} (w : Txt) {p : P α} (hp : Nice p) : ∀ f, Nice (listP w p f)
  | 0 => Nice.fail false
  | f + 1 => Nice.bnd hp fun _ => Nice.bnd (nice_acc w) fun _ => Nice.ite (Nice.bnd (nice_list w hp f) fun _ => Nice.pur _) (Nice.pur _)
theorem nice_nameP : Nice (nameP) := by
  unfold nameP
  repeat' first | exact nice_take _ | exact nice_acc _ | exact nice_exp _ | exact nice_one_ _ | exact nice_peek _ | exact nice_kind _ | exact nice_side0 | exact nice_at | exact Nice.fail _ | exact Nice.pur _ | refine nice_list _ ?_ _ | refine Nice.bnd ?_ (fun _ => ?_) | refine Nice.ite ?_ ?_
theorem nice_numP : Nice (numP) := by
  unfold numP
  repeat' first | exact nice_take _ | exact nice_acc _ | exact nice_exp _ | exact nice_one_ _ | exact nice_peek _ | exact nice_kind _ | exact nice_side0 | exact nice_at | exact Nice.fail _ | exact nice_nameP | exact Nice.pur _ | refine nice_list _ ?_ _ | refine Nice.bnd ?_ (fun _ => ?_) | refine Nice.ite ?_ ?_
theorem nice_valueP : Nice (valueP) := by
  unfold valueP
  repeat' first | exact nice_take _ | exact nice_acc _ | exact nice_exp _ | exact nice_one_ _ | exact nice_peek _ | exact nice_kind _ | exact nice_side0 | exact nice_at | exact Nice.fail _ | exact nice_nameP | exact nice_numP | exact Nice.pur _ | refine nice_list _ ?_ _ | refine Nice.bnd ?_ (fun _ => ?_) | refine Nice.ite ?_ ?_
theorem nice_columnP : Nice (columnP) := by
  unfold columnP
  repeat' first | exact nice_take _ | exact nice_acc _ | exact nice_exp _ | exact nice_one_ _ | exact nice_peek _ | exact nice_kind _ | exact nice_side0 | exact nice_at | exact Nice.fail _ | exact nice_nameP | exact nice_numP | exact nice_valueP | exact Nice.pur _ | refine nice_list _ ?_ _ | refine Nice.bnd ?_ (fun _ => ?_) | refine Nice.ite ?_ ?_
theorem nice_termP : Nice (termP) := by
  unfold termP
  repeat' first | exact nice_take _ | exact nice_acc _ | exact nice_exp _ | exact nice_one_ _ | exact nice_peek _ | exact nice_kind _ | exact nice_side0 | exact nice_at | exact Nice.fail _ | exact nice_nameP | exact nice_numP | exact nice_valueP | exact nice_columnP | exact Nice.pur _ | refine nice_list _ ?_ _ | refine Nice.bnd ?_ (fun _ => ?_) | refine Nice.ite ?_ ?_
theorem nice_fixedP : Nice (fixedP) := by
  unfold fixedP
  repeat' first | exact nice_take _ | exact nice_acc _ | exact nice_exp _ | exact nice_one_ _ | exact nice_peek _ | exact nice_kind _ | exact nice_side0 | exact nice_at | exact Nice.fail _ | exact nice_nameP | exact nice_numP | exact nice_valueP | exact nice_columnP | exact nice_termP | exact Nice.pur _ | refine nice_list _ ?_ _ | refine Nice.bnd ?_ (fun _ => ?_) | refine Nice.ite ?_ ?_
theorem nice_varP : Nice (varP) := by
  unfold varP
  repeat' first | exact nice_take _ | exact nice_acc _ | exact nice_exp _ | exact nice_one_ _ | exact nice_peek _ | exact nice_kind _ | exact nice_side0 | exact nice_at | exact Nice.fail _ | exact nice_nameP | exact nice_numP | exact nice_valueP | exact nice_columnP | exact nice_termP | exact nice_fixedP | exact Nice.pur _ | refine nice_list _ ?_ _ | refine Nice.bnd ?_ (fun _ => ?_) | refine Nice.ite ?_ ?_
theorem nice_sideP : Nice (sideP) := by
  unfold sideP
  repeat' first | exact nice_take _ | exact nice_acc _ | exact nice_exp _ | exact nice_one_ _ | exact nice_peek _ | exact nice_kind _ | exact nice_side0 | exact nice_at | exact Nice.fail _ | exact nice_nameP | exact nice_numP | exact nice_valueP | exact nice_columnP | exact nice_termP | exact nice_fixedP | exact nice_varP | exact Nice.pur _ | refine nice_list _ ?_ _ | refine Nice.bnd ?_ (fun _ => ?_) | refine Nice.ite ?_ ?_
theorem nice_condP : Nice (condP) := by
  unfold condP
  repeat' first | exact nice_take _ | exact nice_acc _ | exact nice_exp _ | exact nice_one_ _ | exact nice_peek _ | exact nice_kind _ | exact nice_side0 | exact nice_at | exact Nice.fail _ | exact nice_nameP | exact nice_numP | exact nice_valueP | exact nice_columnP | exact nice_termP | exact nice_fixedP | exact nice_varP | exact nice_sideP | exact Nice.pur _ | refine nice_list _ ?_ _ | refine Nice.bnd ?_ (fun _ => ?_) | refine Nice.ite ?_ ?_
theorem nice_condsP : Nice (condsP) := by
  unfold condsP
  repeat' first | exact nice_take _ | exact nice_acc _ | exact nice_exp _ | exact nice_one_ _ | exact nice_peek _ | exact nice_kind _ | exact nice_side0 | exact nice_at | exact Nice.fail _ | exact nice_nameP | exact nice_numP | exact nice_valueP | exact nice_columnP | exact nice_termP | exact nice_fixedP | exact nice_varP | exact nice_sideP | exact nice_condP | exact Nice.pur _ | refine nice_list _ ?_ _ | refine Nice.bnd ?_ (fun _ => ?_) | refine Nice.ite ?_ ?_
theorem nice_namesP : Nice (namesP) := by
  unfold namesP
  repeat' first | exact nice_take _ | exact nice_acc _ | exact nice_exp _ | exact nice_one_ _ | exact nice_peek _ | exact nice_kind _ | exact nice_side0 | exact nice_at | exact Nice.fail _ | exact nice_nameP | exact nice_numP | exact nice_valueP | exact nice_columnP | exact nice_termP | exact nice_fixedP | exact nice_varP | exact nice_sideP | exact nice_condP | exact nice_condsP | exact Nice.pur _ | refine nice_list _ ?_ _ | refine Nice.bnd ?_ (fun _ => ?_) | refine Nice.ite ?_ ?_
theorem nice_namesUpP (w : Txt) : Nice (namesUpP w) := by
  unfold namesUpP
  repeat' first | exact nice_take _ | exact nice_acc _ | exact nice_exp _ | exact nice_one_ _ | exact nice_peek _ | exact nice_kind _ | exact nice_side0 | exact nice_at | exact Nice.fail _ | exact nice_nameP | exact nice_numP | exact nice_valueP | exact nice_columnP | exact nice_termP | exact nice_fixedP | exact nice_varP | exact nice_sideP | exact nice_condP | exact nice_condsP | exact nice_namesP | exact Nice.pur _ | refine nice_list _ ?_ _ | refine Nice.bnd ?_ (fun _ => ?_) | refine Nice.ite ?_ ?_
theorem nice_placeP : Nice (placeP) := by
  unfold placeP
  repeat' first | exact nice_take _ | exact nice_acc _ | exact nice_exp _ | exact nice_one_ _ | exact nice_peek _ | exact nice_kind _ | exact nice_side0 | exact nice_at | exact Nice.fail _ | exact nice_nameP | exact nice_numP | exact nice_valueP | exact nice_columnP | exact nice_termP | exact nice_fixedP | exact nice_varP | exact nice_sideP | exact nice_condP | exact nice_condsP | exact nice_namesP | exact nice_namesUpP _ | exact Nice.pur _ | refine nice_list _ ?_ _ | refine Nice.bnd ?_ (fun _ => ?_) | refine Nice.ite ?_ ?_
/-- An expression's head: an operation's number, or the name of a table. -/
def headP : P (Int × Txt) := do
  let k ← opStart
  if k = 0 then do
    let n ← nameP
    pure (0, n)
  else pure (k, [])
theorem opC_two (t u : Tk) (r : List Tk) : opC (t :: u :: r) = if wordT t ∈ opsW ∧ wordT u = [40] then (opsW.idxOf (wordT t) : Int) + 1 else 0 := rfl
theorem opC_pos (t u : Tk) (r : List Tk) (h : wordT t ∈ opsW ∧ wordT u = [40]) : opC (t :: u :: r) = (opsW.idxOf (wordT t) : Int) + 1 := by rw [opC_two, if_pos h]
theorem opC_neg (t u : Tk) (r : List Tk) (h : ¬ (wordT t ∈ opsW ∧ wordT u = [40])) : opC (t :: u :: r) = 0 := by rw [opC_two, if_neg h]
theorem opStart_zero {r : List Tk} (h : opC r = 0) : opStart r = .ok 0 r := by unfold opStart; rw [if_pos h]
theorem opStart_pos {r : List Tk} (h : opC r ≠ 0) : opStart r = .ok (opC r) (r.drop 2) := by unfold opStart; rw [if_neg h]
theorem name_run (t : Tk) (r : List Tk) : nameP (t :: r) = if t.kind = 1 then .ok t.text r else .bad false (t :: r) := by
  by_cases h : t.kind = 1
  · have e : takeP 1 (t :: r) = .ok t r := by simp only [takeP]; rw [if_pos h]
    rw [if_pos h]
    exact bnd_ok e
  · have e : takeP 1 (t :: r) = .bad false (t :: r) := by simp only [takeP]; rw [if_neg h]
    rw [if_neg h]
    exact bnd_bad e
theorem headP_op {t u : Tk} {r : List Tk} (h : wordT t ∈ opsW ∧ wordT u = [40]) : headP (t :: u :: r) = .ok ((opsW.idxOf (wordT t) : Int) + 1, []) r := by
  have e := opC_pos t u r h
  have h2 : opC (t :: u :: r) ≠ 0 := by rw [e]; omega
  unfold headP
  rw [bnd_ok (opStart_pos h2), if_neg h2, e]
  rfl
theorem headP_tab {r : List Tk} (h : opC r = 0) : headP r = (do let n ← nameP; pure (0, n) : P (Int × Txt)) r := by
  unfold headP
  rw [bnd_ok (opStart_zero h), if_pos rfl]
theorem headP_name {t : Tk} {r : List Tk} (h : opC (t :: r) = 0) (hk : t.kind = 1) : headP (t :: r) = .ok (0, t.text) r := by
  rw [headP_tab h, bnd_ok (show nameP (t :: r) = .ok t.text r by rw [name_run, if_pos hk])]
  rfl
theorem headP_none {t : Tk} {r : List Tk} (h : opC (t :: r) = 0) (hk : t.kind ≠ 1) : headP (t :: r) = .bad false (t :: r) := by
  rw [headP_tab h, bnd_bad (show nameP (t :: r) = .bad false (t :: r) by rw [name_run, if_neg hk])]
theorem headP_nil : headP [] = .bad false [] := rfl
theorem op_kind {t : Tk} (h : t.kind ≠ 1) (h4 : t.kind ≠ 4) : wordT t ∉ opsW := by
  unfold wordT
  rw [if_neg (by omega)]
  decide
theorem opC_one (t : Tk) : opC [t] = 0 := rfl
/-- What follows a name matters by its first word. -/
theorem opC_head {t : Tk} {r y : List Tk} (h : opC (t :: r) = 0) (hy : headW y = headW r) : opC (t :: y) = 0 := by
  cases y with
  | nil => rfl
  | cons v y =>
    by_cases q : wordT t ∈ opsW ∧ wordT v = [40]
    · cases r with
      | nil =>
        have : wordT v = [] := hy
        rw [this] at q
        exact absurd q.2 (by decide)
      | cons u r =>
        have e : wordT v = wordT u := hy
        rw [opC_pos t u r ⟨q.1, by rw [← e]; exact q.2⟩] at h
        omega
    · exact opC_neg t v y q
theorem headW_head {y r : List Tk} (h : y.head? = r.head?) : headW y = headW r := by
  cases y <;> cases r <;> simp_all [headW]
theorem sy_head {t : Tk} {r : List Tk} (h : Sy (t :: r)) (hk : t.kind ≠ 1) : wordT t ∉ opsW := by
  by_cases h4 : t.kind = 4
  · unfold wordT
    rw [if_pos (.inr h4)]
    exact h t (by simp) h4
  · exact op_kind hk h4
theorem opC_no {t : Tk} {r : List Tk} (h : wordT t ∉ opsW) : opC (t :: r) = 0 := by
  cases r with
  | nil => rfl
  | cons u r => exact opC_neg t u r (fun q => h q.1)
theorem nice_headP : Nice headP := by
  refine ⟨fun r hr => ?_, fun x z hr h => ?_⟩
  · cases r with
    | nil => exact ⟨[], rfl, fun y _ hy => by
        have : y = [] := by
          cases y with
          | nil => rfl
          | cons a b => simp [headP_nil, rst] at hy
        subst this
        rfl⟩
    | cons t r =>
      by_cases h0 : opC (t :: r) = 0
      · by_cases hk : t.kind = 1
        · rw [headP_name h0 hk]
          exact ⟨[t], rfl, fun y _ hy => headP_name (opC_head h0 (headW_head hy)) hk⟩
        · rw [headP_none h0 hk]
          refine ⟨[], rfl, fun y sy hy => ?_⟩
          cases y with
          | nil => simp [rst] at hy
          | cons u y =>
            have : u = t := by simpa [rst] using hy
            subst this
            exact headP_none (opC_no (sy_head hr hk)) hk
      · cases r with
        | nil => exact absurd rfl h0
        | cons u r =>
          by_cases q : wordT t ∈ opsW ∧ wordT u = [40]
          · rw [headP_op q]
            exact ⟨[t, u], rfl, fun y _ _ => headP_op q⟩
          · exact absurd (opC_neg t u r q) h0
  · cases x with
    | nil => rfl
    | cons t x =>
      by_cases h0 : opC (t :: (x ++ z)) = 0
      · by_cases hk : t.kind = 1
        · rw [List.cons_append, headP_name h0 hk] at h
          have h3 : (x ++ z).length ≤ z.length := h
          rw [List.length_append] at h3
          have h4 : x = [] := List.length_eq_zero_iff.1 (by omega)
          subst h4
          rw [headP_name rfl hk]
          rfl
        · rw [List.cons_append, headP_none h0 hk] at h
          have h3 : (t :: (x ++ z)).length ≤ z.length := h
          simp at h3
          omega
      · cases x with
        | nil =>
          by_cases hk : t.kind = 1
          · rw [headP_name rfl hk]
            rfl
          · exact absurd (opC_no (sy_head hr hk)) h0
        | cons u x =>
          by_cases q : wordT t ∈ opsW ∧ wordT u = [40]
          · rw [List.cons_append, List.cons_append, headP_op q] at h
            have h3 : (x ++ z).length ≤ z.length := h
            rw [List.length_append] at h3
            have h4 : x = [] := List.length_eq_zero_iff.1 (by omega)
            subst h4
            rw [headP_op q]
            rfl
          · exact absurd (opC_neg t u (x ++ z) q) h0
theorem expr_eq (d : Nat) : exprP (d + 1) = (do
    let p ← atP
    let k ← headP
    if k.1 = 0 then pure (.e0 { hk 1 p with table := k.2 })
    else do
      let a ← exprP d
      let x ← opP (k.1 + 1) p a (exprP d)
      let _ ← expP [41]
      pure x : P Ex) := by
  funext r
  obtain ⟨a, ha⟩ : ∃ a, atP r = .ok a r := ⟨_, rfl⟩
  rw [exprP, bnd_ok ha, bnd_ok ha]
  by_cases h0 : opC r = 0
  · rw [bnd_ok (opStart_zero h0), if_pos rfl]
    rcases e : nameP r with ⟨n, r1⟩ | ⟨b, r1⟩
    · rw [bnd_ok e, bnd_ok (show headP r = .ok (0, n) r1 by rw [headP_tab h0, bnd_ok e]; rfl), if_pos rfl]
    · rw [bnd_bad e, bnd_bad (show headP r = .bad b r1 by rw [headP_tab h0, bnd_bad e])]
  · have e : headP r = .ok (opC r, []) (r.drop 2) := by
      unfold headP
      rw [bnd_ok (opStart_pos h0), if_neg h0]
      rfl
    rw [bnd_ok (opStart_pos h0), bnd_ok e, if_neg h0, if_neg h0]
theorem nice_opP (k at_ : Int) (a : Ex) {e : P Ex} (he : Nice e) : Nice (opP k at_ a e) := by
  unfold opP
  repeat' first | exact he | exact nice_take _ | exact nice_acc _ | exact nice_exp _ | exact nice_one_ _ | exact nice_peek _ | exact nice_kind _ | exact nice_side0 | exact nice_at | exact Nice.fail _ | exact nice_nameP | exact nice_numP | exact nice_valueP | exact nice_columnP | exact nice_termP | exact nice_fixedP | exact nice_varP | exact nice_sideP | exact nice_condP | exact nice_condsP | exact nice_namesP | exact nice_namesUpP _ | exact nice_placeP | exact Nice.pur _ | refine nice_list _ ?_ _ | refine Nice.bnd ?_ (fun _ => ?_) | refine Nice.ite ?_ ?_
theorem nice_exprP : ∀ d, Nice (exprP d)
  | 0 => Nice.fail true
  | d + 1 => by
    rw [expr_eq]
    exact Nice.bnd nice_at fun _ => Nice.bnd nice_headP fun _ => Nice.ite (Nice.pur _) (Nice.bnd (nice_exprP d) fun _ => Nice.bnd (nice_opP _ _ _ (nice_exprP d)) fun _ => Nice.bnd (nice_exp _) fun _ => Nice.pur _)
theorem nice_tableP : Nice (tableP) := by
  unfold tableP
  repeat' first | exact nice_take _ | exact nice_acc _ | exact nice_exp _ | exact nice_one_ _ | exact nice_peek _ | exact nice_kind _ | exact nice_side0 | exact nice_at | exact Nice.fail _ | exact nice_nameP | exact nice_numP | exact nice_valueP | exact nice_columnP | exact nice_termP | exact nice_fixedP | exact nice_varP | exact nice_sideP | exact nice_condP | exact nice_condsP | exact nice_namesP | exact nice_namesUpP _ | exact nice_placeP | exact nice_exprP _ | exact Nice.pur _ | refine nice_list _ ?_ _ | refine Nice.bnd ?_ (fun _ => ?_) | refine Nice.ite ?_ ?_
theorem nice_originP : Nice (originP) := by
  unfold originP
  repeat' first | exact nice_take _ | exact nice_acc _ | exact nice_exp _ | exact nice_one_ _ | exact nice_peek _ | exact nice_kind _ | exact nice_side0 | exact nice_at | exact Nice.fail _ | exact nice_nameP | exact nice_numP | exact nice_valueP | exact nice_columnP | exact nice_termP | exact nice_fixedP | exact nice_varP | exact nice_sideP | exact nice_condP | exact nice_condsP | exact nice_namesP | exact nice_namesUpP _ | exact nice_placeP | exact nice_exprP _ | exact nice_tableP | exact Nice.pur _ | refine nice_list _ ?_ _ | refine Nice.bnd ?_ (fun _ => ?_) | refine Nice.ite ?_ ?_
theorem nice_blockP : Nice (blockP) := by
  unfold blockP
  repeat' first | exact nice_take _ | exact nice_acc _ | exact nice_exp _ | exact nice_one_ _ | exact nice_peek _ | exact nice_kind _ | exact nice_side0 | exact nice_at | exact Nice.fail _ | exact nice_nameP | exact nice_numP | exact nice_valueP | exact nice_columnP | exact nice_termP | exact nice_fixedP | exact nice_varP | exact nice_sideP | exact nice_condP | exact nice_condsP | exact nice_namesP | exact nice_namesUpP _ | exact nice_placeP | exact nice_exprP _ | exact nice_tableP | exact nice_originP | exact Nice.pur _ | refine nice_list _ ?_ _ | refine Nice.bnd ?_ (fun _ => ?_) | refine Nice.ite ?_ ?_
theorem nice_keepP : Nice (keepP) := by
  unfold keepP
  repeat' first | exact nice_take _ | exact nice_acc _ | exact nice_exp _ | exact nice_one_ _ | exact nice_peek _ | exact nice_kind _ | exact nice_side0 | exact nice_at | exact Nice.fail _ | exact nice_nameP | exact nice_numP | exact nice_valueP | exact nice_columnP | exact nice_termP | exact nice_fixedP | exact nice_varP | exact nice_sideP | exact nice_condP | exact nice_condsP | exact nice_namesP | exact nice_namesUpP _ | exact nice_placeP | exact nice_exprP _ | exact nice_tableP | exact nice_originP | exact nice_blockP | exact Nice.pur _ | refine nice_list _ ?_ _ | refine Nice.bnd ?_ (fun _ => ?_) | refine Nice.ite ?_ ?_
theorem nice_termsP : ∀ f, Nice (termsP f)
  | 0 => Nice.fail false
  | f + 1 => Nice.bnd (nice_acc _) fun _ => Nice.ite (Nice.pur _) (Nice.bnd nice_termP fun _ => Nice.bnd (nice_termsP f) fun _ => Nice.pur _)
theorem nice_matchP : Nice (matchP) := by
  unfold matchP
  repeat' first | exact nice_take _ | exact nice_acc _ | exact nice_exp _ | exact nice_one_ _ | exact nice_peek _ | exact nice_kind _ | exact nice_side0 | exact nice_at | exact Nice.fail _ | exact nice_nameP | exact nice_numP | exact nice_valueP | exact nice_columnP | exact nice_termP | exact nice_fixedP | exact nice_varP | exact nice_sideP | exact nice_condP | exact nice_condsP | exact nice_namesP | exact nice_namesUpP _ | exact nice_placeP | exact nice_exprP _ | exact nice_tableP | exact nice_originP | exact nice_blockP | exact nice_keepP | exact nice_termsP _ | exact Nice.pur _ | refine nice_list _ ?_ _ | refine Nice.bnd ?_ (fun _ => ?_) | refine Nice.ite ?_ ?_
theorem nice_attrsP (k : Int) : Nice (attrsP k) := by
  unfold attrsP
  repeat' first | exact nice_take _ | exact nice_acc _ | exact nice_exp _ | exact nice_one_ _ | exact nice_peek _ | exact nice_kind _ | exact nice_side0 | exact nice_at | exact Nice.fail _ | exact nice_nameP | exact nice_numP | exact nice_valueP | exact nice_columnP | exact nice_termP | exact nice_fixedP | exact nice_varP | exact nice_sideP | exact nice_condP | exact nice_condsP | exact nice_namesP | exact nice_namesUpP _ | exact nice_placeP | exact nice_exprP _ | exact nice_tableP | exact nice_originP | exact nice_blockP | exact nice_keepP | exact nice_termsP _ | exact nice_matchP | exact Nice.pur _ | refine nice_list _ ?_ _ | refine Nice.bnd ?_ (fun _ => ?_) | refine Nice.ite ?_ ?_
theorem nice_uniqueP : Nice (uniqueP) := by
  unfold uniqueP
  repeat' first | exact nice_take _ | exact nice_acc _ | exact nice_exp _ | exact nice_one_ _ | exact nice_peek _ | exact nice_kind _ | exact nice_side0 | exact nice_at | exact Nice.fail _ | exact nice_nameP | exact nice_numP | exact nice_valueP | exact nice_columnP | exact nice_termP | exact nice_fixedP | exact nice_varP | exact nice_sideP | exact nice_condP | exact nice_condsP | exact nice_namesP | exact nice_namesUpP _ | exact nice_placeP | exact nice_exprP _ | exact nice_tableP | exact nice_originP | exact nice_blockP | exact nice_keepP | exact nice_termsP _ | exact nice_matchP | exact nice_attrsP _ | exact Nice.pur _ | refine nice_list _ ?_ _ | refine Nice.bnd ?_ (fun _ => ?_) | refine Nice.ite ?_ ?_
theorem nice_dependP : Nice (dependP) := by
  unfold dependP
  repeat' first | exact nice_take _ | exact nice_acc _ | exact nice_exp _ | exact nice_one_ _ | exact nice_peek _ | exact nice_kind _ | exact nice_side0 | exact nice_at | exact Nice.fail _ | exact nice_nameP | exact nice_numP | exact nice_valueP | exact nice_columnP | exact nice_termP | exact nice_fixedP | exact nice_varP | exact nice_sideP | exact nice_condP | exact nice_condsP | exact nice_namesP | exact nice_namesUpP _ | exact nice_placeP | exact nice_exprP _ | exact nice_tableP | exact nice_originP | exact nice_blockP | exact nice_keepP | exact nice_termsP _ | exact nice_matchP | exact nice_attrsP _ | exact nice_uniqueP | exact Nice.pur _ | refine nice_list _ ?_ _ | refine Nice.bnd ?_ (fun _ => ?_) | refine Nice.ite ?_ ?_
theorem nice_includeP : Nice (includeP) := by
  unfold includeP
  repeat' first | exact nice_take _ | exact nice_acc _ | exact nice_exp _ | exact nice_one_ _ | exact nice_peek _ | exact nice_kind _ | exact nice_side0 | exact nice_at | exact Nice.fail _ | exact nice_nameP | exact nice_numP | exact nice_valueP | exact nice_columnP | exact nice_termP | exact nice_fixedP | exact nice_varP | exact nice_sideP | exact nice_condP | exact nice_condsP | exact nice_namesP | exact nice_namesUpP _ | exact nice_placeP | exact nice_exprP _ | exact nice_tableP | exact nice_originP | exact nice_blockP | exact nice_keepP | exact nice_termsP _ | exact nice_matchP | exact nice_attrsP _ | exact nice_uniqueP | exact nice_dependP | exact Nice.pur _ | refine nice_list _ ?_ _ | refine Nice.bnd ?_ (fun _ => ?_) | refine Nice.ite ?_ ?_
theorem nice_denyP : Nice (denyP) := by
  unfold denyP
  repeat' first | exact nice_take _ | exact nice_acc _ | exact nice_exp _ | exact nice_one_ _ | exact nice_peek _ | exact nice_kind _ | exact nice_side0 | exact nice_at | exact Nice.fail _ | exact nice_nameP | exact nice_numP | exact nice_valueP | exact nice_columnP | exact nice_termP | exact nice_fixedP | exact nice_varP | exact nice_sideP | exact nice_condP | exact nice_condsP | exact nice_namesP | exact nice_namesUpP _ | exact nice_placeP | exact nice_exprP _ | exact nice_tableP | exact nice_originP | exact nice_blockP | exact nice_keepP | exact nice_termsP _ | exact nice_matchP | exact nice_attrsP _ | exact nice_uniqueP | exact nice_dependP | exact nice_includeP | exact Nice.pur _ | refine nice_list _ ?_ _ | refine Nice.bnd ?_ (fun _ => ?_) | refine Nice.ite ?_ ?_
theorem nice_queryP : Nice (queryP) := by
  unfold queryP
  repeat' first | exact nice_take _ | exact nice_acc _ | exact nice_exp _ | exact nice_one_ _ | exact nice_peek _ | exact nice_kind _ | exact nice_side0 | exact nice_at | exact Nice.fail _ | exact nice_nameP | exact nice_numP | exact nice_valueP | exact nice_columnP | exact nice_termP | exact nice_fixedP | exact nice_varP | exact nice_sideP | exact nice_condP | exact nice_condsP | exact nice_namesP | exact nice_namesUpP _ | exact nice_placeP | exact nice_exprP _ | exact nice_tableP | exact nice_originP | exact nice_blockP | exact nice_keepP | exact nice_termsP _ | exact nice_matchP | exact nice_attrsP _ | exact nice_uniqueP | exact nice_dependP | exact nice_includeP | exact nice_denyP | exact Nice.pur _ | refine nice_list _ ?_ _ | refine Nice.bnd ?_ (fun _ => ?_) | refine Nice.ite ?_ ?_
theorem nice_kindP2 (k : Int) : Nice (kindP2 k) := by
  unfold kindP2
  repeat' first | exact nice_take _ | exact nice_acc _ | exact nice_exp _ | exact nice_one_ _ | exact nice_peek _ | exact nice_kind _ | exact nice_side0 | exact nice_at | exact Nice.fail _ | exact nice_nameP | exact nice_numP | exact nice_valueP | exact nice_columnP | exact nice_termP | exact nice_fixedP | exact nice_varP | exact nice_sideP | exact nice_condP | exact nice_condsP | exact nice_namesP | exact nice_namesUpP _ | exact nice_placeP | exact nice_exprP _ | exact nice_tableP | exact nice_originP | exact nice_blockP | exact nice_keepP | exact nice_termsP _ | exact nice_matchP | exact nice_attrsP _ | exact nice_uniqueP | exact nice_dependP | exact nice_includeP | exact nice_denyP | exact nice_queryP | exact Nice.pur _ | refine nice_list _ ?_ _ | refine Nice.bnd ?_ (fun _ => ?_) | refine Nice.ite ?_ ?_
theorem nice_itemP : Nice (itemP) := by
  unfold itemP
  repeat' first | exact nice_take _ | exact nice_acc _ | exact nice_exp _ | exact nice_one_ _ | exact nice_peek _ | exact nice_kind _ | exact nice_side0 | exact nice_at | exact Nice.fail _ | exact nice_nameP | exact nice_numP | exact nice_valueP | exact nice_columnP | exact nice_termP | exact nice_fixedP | exact nice_varP | exact nice_sideP | exact nice_condP | exact nice_condsP | exact nice_namesP | exact nice_namesUpP _ | exact nice_placeP | exact nice_exprP _ | exact nice_tableP | exact nice_originP | exact nice_blockP | exact nice_keepP | exact nice_termsP _ | exact nice_matchP | exact nice_attrsP _ | exact nice_uniqueP | exact nice_dependP | exact nice_includeP | exact nice_denyP | exact nice_queryP | exact nice_kindP2 _ | exact Nice.pur _ | refine nice_list _ ?_ _ | refine Nice.bnd ?_ (fun _ => ?_) | refine Nice.ite ?_ ?_
end Go.Proofs.YtcgkaecaddpenaaGreatDoor.L8

/- The parser in plain words: offsets do not matter; what an item ends with; items, one behind the other. -/
namespace Go.Proofs.YtcgkaecaddpenaaGreatDoor.L8
open L7 (Tk bare)

def rmap {α β : Type} (g : α → β) : Res α → Res β
  | .ok a r => .ok (g a) (r.map bare)
  | .bad b r => .bad b (r.map bare)
/-- A reader of bare tokens reads what the other one does, as g says. -/
def Com {α : Type} (g : α → α) (p q : P α) : Prop := ∀ r, q (r.map bare) = rmap g (p r)
abbrev Com0 {α : Type} (p : P α) : Prop := Com (fun a => a) p p
theorem Com.bnd {α β : Type} {g : α → α} {h : β → β} {p p' : P α} {q q' : α → P β} (hp : Com g p p') (hq : ∀ a, Com h (q a) (q' (g a))) : Com h (p >>= q) (p' >>= q') := fun r => by
  have h1 := hp r
  rcases e : p r with ⟨a, r1⟩ | ⟨b, r1⟩
  · rw [e] at h1
    rw [bnd_ok h1, bnd_ok e]
    exact hq a r1
  · rw [e] at h1
    rw [bnd_bad h1, bnd_bad e]
    rfl
theorem Com.bnd0 {α β : Type} {h : β → β} {p : P α} {q q' : α → P β} (hp : Com0 p) (hq : ∀ a, Com h (q a) (q' a)) : Com h (p >>= q) (p >>= q') := Com.bnd hp hq
theorem Com.ite {α : Type} {g : α → α} {c : Prop} [Decidable c] {p q p' q' : P α} (hp : Com g p p') (hq : Com g q q') : Com g (if c then p else q) (if c then p' else q') := by
  split
  · exact hp
  · exact hq
theorem Com.pur {α : Type} (g : α → α) (a b : α) (h : b = g a) : Com g (pure a : P α) (pure b) := fun r => by
  subst h
  rfl
theorem com_fail {α : Type} (g : α → α) (b : Bool) : Com g (failP b : P α) (failP b) := fun _ => rfl
theorem headW_bare (r : List Tk) : headW (r.map bare) = headW r := by cases r <;> rfl
theorem nil_bare (r : List Tk) : (r.map bare = []) ↔ (r = []) := by simp
theorem com_take (k : Int) : Com bare (takeP k) (takeP k) := fun r => by
  cases r with
  | nil => rfl
  | cons t r =>
    show takeP k (bare t :: r.map bare) = _
    simp only [takeP]
    by_cases h : t.kind = k
    · rw [if_pos h, if_pos (show (bare t).kind = k from h)]
      rfl
    · rw [if_neg h, if_neg (show ¬ (bare t).kind = k from h)]
      rfl
theorem com_acc (w : Txt) : Com0 (accP w) := fun r => by
  unfold accP
  rw [headW_bare]
  by_cases h : headW r = w ∧ r ≠ []
  · rw [if_pos h, if_pos ⟨h.1, by simpa using h.2⟩]
    show _ = Res.ok true (r.tail.map bare)
    rw [List.map_tail]
  · rw [if_neg h, if_neg (fun q => h ⟨q.1, by simpa using q.2⟩)]
    rfl
theorem com_exp (w : Txt) : Com0 (expP w) := fun r => by
  unfold expP
  rw [headW_bare]
  by_cases h : headW r = w ∧ r ≠ []
  · rw [if_pos h, if_pos ⟨h.1, by simpa using h.2⟩]
    show _ = Res.ok () (r.tail.map bare)
    rw [List.map_tail]
  · rw [if_neg h, if_neg (fun q => h ⟨q.1, by simpa using q.2⟩)]
    rfl
theorem com_one (l : List Txt) : Com0 (oneP l) := fun r => by
  unfold oneP
  rw [headW_bare]
  by_cases h : headW r ∈ l ∧ r ≠ []
  · rw [if_pos h, if_pos ⟨h.1, by simpa using h.2⟩]
    show _ = Res.ok _ (r.tail.map bare)
    rw [List.map_tail]
  · rw [if_neg h, if_neg (fun q => h ⟨q.1, by simpa using q.2⟩)]
    rfl
theorem com_peek (w : Txt) : Com0 (peekP w) := fun r => by
  unfold peekP
  rw [headW_bare]
  rfl
theorem com_kind (k : Int) : Com0 (kindP k) := fun r => by cases r <;> rfl
theorem com_side0 : Com0 peekSide := fun r => by cases r <;> rfl
theorem com_at : Com (fun _ => 0) atP atP := fun r => by cases r <;> rfl
theorem opC_bare (r : List Tk) : opC (r.map bare) = opC r := by
  match r with
  | [] => rfl
  | [_] => rfl
  | t :: u :: r => rfl
theorem com_ops : Com0 opStart := fun r => by
  unfold opStart
  rw [opC_bare]
  by_cases h : opC r = 0
  · rw [if_pos h, if_pos h]
    rfl
  · rw [if_neg h, if_neg h]
    show _ = Res.ok _ ((r.drop 2).map bare)
    rw [List.map_drop]
theorem com_list {α : Type} {g : α → α} (w : Txt) {p p' : P α} (hp : Com g p p') : ∀ f, Com (List.map g) (listP w p f) (listP w p' f)
  | 0 => com_fail _ false
  | f + 1 => Com.bnd hp fun _ => Com.bnd0 (com_acc w) fun _ => Com.ite (Com.bnd (com_list w hp f) fun _ => Com.pur _ _ _ rfl) (Com.pur _ _ _ rfl)
theorem com_list0 {α : Type} (w : Txt) {p : P α} (hp : Com0 p) (f : Nat) : Com0 (listP w p f) := fun r => by
  have h := com_list w hp f r
  rw [h]
  rcases listP w p f r with ⟨a, r1⟩ | ⟨b, r1⟩
  · show Res.ok (List.map (fun a => a) a) _ = _
    rw [List.map_id']
    rfl
  · rfl
theorem com_nameP : Com0 (nameP) := by
  unfold nameP
  repeat' first | exact com_acc _ | exact com_exp _ | exact com_one _ | exact com_peek _ | exact com_kind _ | exact com_side0 | exact com_ops | exact com_fail _ _ | exact Com.pur _ _ _ rfl | refine Com.bnd (com_take _) (fun _ => ?_) | refine Com.bnd0 (com_acc _) (fun _ => ?_) | refine Com.bnd0 (com_exp _) (fun _ => ?_) | refine Com.bnd0 (com_one _) (fun _ => ?_) | refine Com.bnd0 (com_peek _) (fun _ => ?_) | refine Com.bnd0 (com_kind _) (fun _ => ?_) | refine Com.bnd0 (com_side0) (fun _ => ?_) | refine Com.bnd0 (com_ops) (fun _ => ?_) | refine Com.ite ?_ ?_
theorem com_numP : Com0 (numP) := by
  unfold numP
  repeat' first | exact com_acc _ | exact com_exp _ | exact com_one _ | exact com_peek _ | exact com_kind _ | exact com_side0 | exact com_ops | exact com_nameP | exact com_fail _ _ | exact Com.pur _ _ _ rfl | refine Com.bnd (com_take _) (fun _ => ?_) | refine Com.bnd0 (com_acc _) (fun _ => ?_) | refine Com.bnd0 (com_exp _) (fun _ => ?_) | refine Com.bnd0 (com_one _) (fun _ => ?_) | refine Com.bnd0 (com_peek _) (fun _ => ?_) | refine Com.bnd0 (com_kind _) (fun _ => ?_) | refine Com.bnd0 (com_side0) (fun _ => ?_) | refine Com.bnd0 (com_ops) (fun _ => ?_) | refine Com.bnd0 (com_nameP) (fun _ => ?_) | refine Com.ite ?_ ?_
theorem com_valueP : Com0 (valueP) := by
  unfold valueP
  repeat' first | exact com_acc _ | exact com_exp _ | exact com_one _ | exact com_peek _ | exact com_kind _ | exact com_side0 | exact com_ops | exact com_nameP | exact com_numP | exact com_fail _ _ | exact Com.pur _ _ _ rfl | refine Com.bnd (com_take _) (fun _ => ?_) | refine Com.bnd0 (com_acc _) (fun _ => ?_) | refine Com.bnd0 (com_exp _) (fun _ => ?_) | refine Com.bnd0 (com_one _) (fun _ => ?_) | refine Com.bnd0 (com_peek _) (fun _ => ?_) | refine Com.bnd0 (com_kind _) (fun _ => ?_) | refine Com.bnd0 (com_side0) (fun _ => ?_) | refine Com.bnd0 (com_ops) (fun _ => ?_) | refine Com.bnd0 (com_nameP) (fun _ => ?_) | refine Com.bnd0 (com_numP) (fun _ => ?_) | refine Com.ite ?_ ?_
theorem com_columnP : Com0 (columnP) := by
  unfold columnP
  repeat' first | exact com_acc _ | exact com_exp _ | exact com_one _ | exact com_peek _ | exact com_kind _ | exact com_side0 | exact com_ops | exact com_nameP | exact com_numP | exact com_valueP | exact com_fail _ _ | exact Com.pur _ _ _ rfl | refine com_list0 _ ?_ _ | refine Com.bnd0 ?_ (fun _ => ?_) | refine Com.ite ?_ ?_
theorem com_termP : Com0 (termP) := by
  unfold termP
  repeat' first | exact com_acc _ | exact com_exp _ | exact com_one _ | exact com_peek _ | exact com_kind _ | exact com_side0 | exact com_ops | exact com_nameP | exact com_numP | exact com_valueP | exact com_columnP | exact com_fail _ _ | exact Com.pur _ _ _ rfl | refine com_list0 _ ?_ _ | refine Com.bnd0 ?_ (fun _ => ?_) | refine Com.ite ?_ ?_
theorem com_fixedP : Com0 (fixedP) := by
  unfold fixedP
  repeat' first | exact com_acc _ | exact com_exp _ | exact com_one _ | exact com_peek _ | exact com_kind _ | exact com_side0 | exact com_ops | exact com_nameP | exact com_numP | exact com_valueP | exact com_columnP | exact com_termP | exact com_fail _ _ | exact Com.pur _ _ _ rfl | refine com_list0 _ ?_ _ | refine Com.bnd0 ?_ (fun _ => ?_) | refine Com.ite ?_ ?_
theorem com_varP : Com0 (varP) := by
  unfold varP
  repeat' first | exact com_acc _ | exact com_exp _ | exact com_one _ | exact com_peek _ | exact com_kind _ | exact com_side0 | exact com_ops | exact com_nameP | exact com_numP | exact com_valueP | exact com_columnP | exact com_termP | exact com_fixedP | exact com_fail _ _ | exact Com.pur _ _ _ rfl | refine com_list0 _ ?_ _ | refine Com.bnd0 ?_ (fun _ => ?_) | refine Com.ite ?_ ?_
theorem com_sideP : Com0 (sideP) := by
  unfold sideP
  repeat' first | exact com_acc _ | exact com_exp _ | exact com_one _ | exact com_peek _ | exact com_kind _ | exact com_side0 | exact com_ops | exact com_nameP | exact com_numP | exact com_valueP | exact com_columnP | exact com_termP | exact com_fixedP | exact com_varP | exact com_fail _ _ | exact Com.pur _ _ _ rfl | refine com_list0 _ ?_ _ | refine Com.bnd0 ?_ (fun _ => ?_) | refine Com.ite ?_ ?_
theorem com_condP : Com0 (condP) := by
  unfold condP
  repeat' first | exact com_acc _ | exact com_exp _ | exact com_one _ | exact com_peek _ | exact com_kind _ | exact com_side0 | exact com_ops | exact com_nameP | exact com_numP | exact com_valueP | exact com_columnP | exact com_termP | exact com_fixedP | exact com_varP | exact com_sideP | exact com_fail _ _ | exact Com.pur _ _ _ rfl | refine com_list0 _ ?_ _ | refine Com.bnd0 ?_ (fun _ => ?_) | refine Com.ite ?_ ?_
theorem com_condsP : Com0 (condsP) := by
  unfold condsP
  repeat' first | exact com_acc _ | exact com_exp _ | exact com_one _ | exact com_peek _ | exact com_kind _ | exact com_side0 | exact com_ops | exact com_nameP | exact com_numP | exact com_valueP | exact com_columnP | exact com_termP | exact com_fixedP | exact com_varP | exact com_sideP | exact com_condP | exact com_fail _ _ | exact Com.pur _ _ _ rfl | refine com_list0 _ ?_ _ | refine Com.bnd0 ?_ (fun _ => ?_) | refine Com.ite ?_ ?_
theorem com_namesP : Com0 (namesP) := by
  unfold namesP
  repeat' first | exact com_acc _ | exact com_exp _ | exact com_one _ | exact com_peek _ | exact com_kind _ | exact com_side0 | exact com_ops | exact com_nameP | exact com_numP | exact com_valueP | exact com_columnP | exact com_termP | exact com_fixedP | exact com_varP | exact com_sideP | exact com_condP | exact com_condsP | exact com_fail _ _ | exact Com.pur _ _ _ rfl | refine com_list0 _ ?_ _ | refine Com.bnd0 ?_ (fun _ => ?_) | refine Com.ite ?_ ?_
theorem com_namesUpP (w : Txt) : Com0 (namesUpP w) := by
  unfold namesUpP
  repeat' first | exact com_acc _ | exact com_exp _ | exact com_one _ | exact com_peek _ | exact com_kind _ | exact com_side0 | exact com_ops | exact com_nameP | exact com_numP | exact com_valueP | exact com_columnP | exact com_termP | exact com_fixedP | exact com_varP | exact com_sideP | exact com_condP | exact com_condsP | exact com_namesP | exact com_fail _ _ | exact Com.pur _ _ _ rfl | refine com_list0 _ ?_ _ | refine Com.bnd0 ?_ (fun _ => ?_) | refine Com.ite ?_ ?_
theorem com_placeP : Com0 (placeP) := by
  unfold placeP
  repeat' first | exact com_acc _ | exact com_exp _ | exact com_one _ | exact com_peek _ | exact com_kind _ | exact com_side0 | exact com_ops | exact com_nameP | exact com_numP | exact com_valueP | exact com_columnP | exact com_termP | exact com_fixedP | exact com_varP | exact com_sideP | exact com_condP | exact com_condsP | exact com_namesP | exact com_namesUpP _ | exact com_fail _ _ | exact Com.pur _ _ _ rfl | refine com_list0 _ ?_ _ | refine Com.bnd0 ?_ (fun _ => ?_) | refine Com.ite ?_ ?_
def era : Ex → Ex
  | .e0 h => .e0 { h with at_ := 0 }
  | .e1 h a => .e1 { h with at_ := 0 } (era a)
  | .e2 h a b => .e2 { h with at_ := 0 } (era a) (era b)
def eraI (i : It) : It := { i with at_ := 0, ex := era i.ex }
theorem com_opP (k at_ : Int) (a : Ex) {e e' : P Ex} (he : Com era e e') : Com era (opP k at_ a e) (opP k 0 (era a) e') := by
  unfold opP
  repeat' first | exact com_acc _ | exact com_exp _ | exact com_one _ | exact com_peek _ | exact com_kind _ | exact com_side0 | exact com_ops | exact com_nameP | exact com_numP | exact com_valueP | exact com_columnP | exact com_termP | exact com_fixedP | exact com_varP | exact com_sideP | exact com_condP | exact com_condsP | exact com_namesP | exact com_namesUpP _ | exact com_placeP | exact Com.pur _ _ _ rfl | refine Com.bnd he (fun _ => ?_) | refine Com.bnd0 ?_ (fun _ => ?_) | refine Com.ite ?_ ?_
theorem com_exprP : ∀ d, Com era (exprP d) (exprP d)
  | 0 => com_fail _ true
  | d + 1 => by
    unfold exprP
    refine Com.bnd com_at fun _ => Com.bnd0 com_ops fun k => Com.ite ?_ ?_
    · exact Com.bnd0 com_nameP fun _ => Com.pur _ _ _ rfl
    · exact Com.bnd (com_exprP d) fun _ => Com.bnd (com_opP _ _ _ (com_exprP d)) fun _ => Com.bnd0 (com_exp _) fun _ => Com.pur _ _ _ rfl
theorem com_termsP : ∀ f, Com0 (termsP f)
  | 0 => com_fail _ false
  | f + 1 => Com.bnd0 (com_acc _) fun _ => Com.ite (Com.pur _ _ _ rfl) (Com.bnd0 com_termP fun _ => Com.bnd0 (com_termsP f) fun _ => Com.pur _ _ _ rfl)
theorem com_attrsP (k : Int) : Com eraI (attrsP k) (attrsP k) := by
  unfold attrsP
  repeat' first | exact com_acc _ | exact com_exp _ | exact com_one _ | exact com_peek _ | exact com_kind _ | exact com_side0 | exact com_ops | exact com_nameP | exact com_numP | exact com_valueP | exact com_columnP | exact com_termP | exact com_fixedP | exact com_varP | exact com_sideP | exact com_condP | exact com_condsP | exact com_namesP | exact com_namesUpP _ | exact com_placeP | exact com_termsP _ | exact Com.pur _ _ _ rfl | refine com_list0 _ ?_ _ | refine Com.bnd0 ?_ (fun _ => ?_) | refine Com.ite ?_ ?_
theorem com_tableP : Com eraI (tableP) (tableP) := by
  unfold tableP
  repeat' first | exact com_acc _ | exact com_exp _ | exact com_one _ | exact com_peek _ | exact com_kind _ | exact com_side0 | exact com_ops | exact com_nameP | exact com_numP | exact com_valueP | exact com_columnP | exact com_termP | exact com_fixedP | exact com_varP | exact com_sideP | exact com_condP | exact com_condsP | exact com_namesP | exact com_namesUpP _ | exact com_placeP | exact com_termsP _ | exact Com.pur _ _ _ rfl | refine com_list0 _ ?_ _ | refine Com.bnd (com_attrsP _) (fun _ => ?_) | refine Com.bnd (com_exprP _) (fun _ => ?_) | refine Com.bnd0 ?_ (fun _ => ?_) | refine Com.ite ?_ ?_
theorem com_originP : Com eraI (originP) (originP) := by
  unfold originP
  repeat' first | exact com_acc _ | exact com_exp _ | exact com_one _ | exact com_peek _ | exact com_kind _ | exact com_side0 | exact com_ops | exact com_nameP | exact com_numP | exact com_valueP | exact com_columnP | exact com_termP | exact com_fixedP | exact com_varP | exact com_sideP | exact com_condP | exact com_condsP | exact com_namesP | exact com_namesUpP _ | exact com_placeP | exact com_termsP _ | exact Com.pur _ _ _ rfl | refine com_list0 _ ?_ _ | refine Com.bnd (com_attrsP _) (fun _ => ?_) | refine Com.bnd (com_exprP _) (fun _ => ?_) | refine Com.bnd0 ?_ (fun _ => ?_) | refine Com.ite ?_ ?_
theorem com_blockP : Com eraI (blockP) (blockP) := by
  unfold blockP
  repeat' first | exact com_acc _ | exact com_exp _ | exact com_one _ | exact com_peek _ | exact com_kind _ | exact com_side0 | exact com_ops | exact com_nameP | exact com_numP | exact com_valueP | exact com_columnP | exact com_termP | exact com_fixedP | exact com_varP | exact com_sideP | exact com_condP | exact com_condsP | exact com_namesP | exact com_namesUpP _ | exact com_placeP | exact com_termsP _ | exact Com.pur _ _ _ rfl | refine com_list0 _ ?_ _ | refine Com.bnd (com_attrsP _) (fun _ => ?_) | refine Com.bnd (com_exprP _) (fun _ => ?_) | refine Com.bnd0 ?_ (fun _ => ?_) | refine Com.ite ?_ ?_
theorem com_keepP : Com eraI (keepP) (keepP) := by
  unfold keepP
  repeat' first | exact com_acc _ | exact com_exp _ | exact com_one _ | exact com_peek _ | exact com_kind _ | exact com_side0 | exact com_ops | exact com_nameP | exact com_numP | exact com_valueP | exact com_columnP | exact com_termP | exact com_fixedP | exact com_varP | exact com_sideP | exact com_condP | exact com_condsP | exact com_namesP | exact com_namesUpP _ | exact com_placeP | exact com_termsP _ | exact Com.pur _ _ _ rfl | refine com_list0 _ ?_ _ | refine Com.bnd (com_attrsP _) (fun _ => ?_) | refine Com.bnd (com_exprP _) (fun _ => ?_) | refine Com.bnd0 ?_ (fun _ => ?_) | refine Com.ite ?_ ?_
theorem com_matchP : Com eraI (matchP) (matchP) := by
  unfold matchP
  repeat' first | exact com_acc _ | exact com_exp _ | exact com_one _ | exact com_peek _ | exact com_kind _ | exact com_side0 | exact com_ops | exact com_nameP | exact com_numP | exact com_valueP | exact com_columnP | exact com_termP | exact com_fixedP | exact com_varP | exact com_sideP | exact com_condP | exact com_condsP | exact com_namesP | exact com_namesUpP _ | exact com_placeP | exact com_termsP _ | exact Com.pur _ _ _ rfl | refine com_list0 _ ?_ _ | refine Com.bnd (com_attrsP _) (fun _ => ?_) | refine Com.bnd (com_exprP _) (fun _ => ?_) | refine Com.bnd0 ?_ (fun _ => ?_) | refine Com.ite ?_ ?_
theorem com_uniqueP : Com eraI (uniqueP) (uniqueP) := by
  unfold uniqueP
  repeat' first | exact com_acc _ | exact com_exp _ | exact com_one _ | exact com_peek _ | exact com_kind _ | exact com_side0 | exact com_ops | exact com_nameP | exact com_numP | exact com_valueP | exact com_columnP | exact com_termP | exact com_fixedP | exact com_varP | exact com_sideP | exact com_condP | exact com_condsP | exact com_namesP | exact com_namesUpP _ | exact com_placeP | exact com_termsP _ | exact Com.pur _ _ _ rfl | refine com_list0 _ ?_ _ | refine Com.bnd (com_attrsP _) (fun _ => ?_) | refine Com.bnd (com_exprP _) (fun _ => ?_) | refine Com.bnd0 ?_ (fun _ => ?_) | refine Com.ite ?_ ?_
theorem com_dependP : Com eraI (dependP) (dependP) := by
  unfold dependP
  repeat' first | exact com_acc _ | exact com_exp _ | exact com_one _ | exact com_peek _ | exact com_kind _ | exact com_side0 | exact com_ops | exact com_nameP | exact com_numP | exact com_valueP | exact com_columnP | exact com_termP | exact com_fixedP | exact com_varP | exact com_sideP | exact com_condP | exact com_condsP | exact com_namesP | exact com_namesUpP _ | exact com_placeP | exact com_termsP _ | exact Com.pur _ _ _ rfl | refine com_list0 _ ?_ _ | refine Com.bnd (com_attrsP _) (fun _ => ?_) | refine Com.bnd (com_exprP _) (fun _ => ?_) | refine Com.bnd0 ?_ (fun _ => ?_) | refine Com.ite ?_ ?_
theorem com_includeP : Com eraI (includeP) (includeP) := by
  unfold includeP
  repeat' first | exact com_acc _ | exact com_exp _ | exact com_one _ | exact com_peek _ | exact com_kind _ | exact com_side0 | exact com_ops | exact com_nameP | exact com_numP | exact com_valueP | exact com_columnP | exact com_termP | exact com_fixedP | exact com_varP | exact com_sideP | exact com_condP | exact com_condsP | exact com_namesP | exact com_namesUpP _ | exact com_placeP | exact com_termsP _ | exact Com.pur _ _ _ rfl | refine com_list0 _ ?_ _ | refine Com.bnd (com_attrsP _) (fun _ => ?_) | refine Com.bnd (com_exprP _) (fun _ => ?_) | refine Com.bnd0 ?_ (fun _ => ?_) | refine Com.ite ?_ ?_
theorem com_denyP : Com eraI (denyP) (denyP) := by
  unfold denyP
  repeat' first | exact com_acc _ | exact com_exp _ | exact com_one _ | exact com_peek _ | exact com_kind _ | exact com_side0 | exact com_ops | exact com_nameP | exact com_numP | exact com_valueP | exact com_columnP | exact com_termP | exact com_fixedP | exact com_varP | exact com_sideP | exact com_condP | exact com_condsP | exact com_namesP | exact com_namesUpP _ | exact com_placeP | exact com_termsP _ | exact Com.pur _ _ _ rfl | refine com_list0 _ ?_ _ | refine Com.bnd (com_attrsP _) (fun _ => ?_) | refine Com.bnd (com_exprP _) (fun _ => ?_) | refine Com.bnd0 ?_ (fun _ => ?_) | refine Com.ite ?_ ?_
theorem com_queryP : Com eraI (queryP) (queryP) := by
  unfold queryP
  repeat' first | exact com_acc _ | exact com_exp _ | exact com_one _ | exact com_peek _ | exact com_kind _ | exact com_side0 | exact com_ops | exact com_nameP | exact com_numP | exact com_valueP | exact com_columnP | exact com_termP | exact com_fixedP | exact com_varP | exact com_sideP | exact com_condP | exact com_condsP | exact com_namesP | exact com_namesUpP _ | exact com_placeP | exact com_termsP _ | exact Com.pur _ _ _ rfl | refine com_list0 _ ?_ _ | refine Com.bnd (com_attrsP _) (fun _ => ?_) | refine Com.bnd (com_exprP _) (fun _ => ?_) | refine Com.bnd0 ?_ (fun _ => ?_) | refine Com.ite ?_ ?_
theorem com_kindP2 (k : Int) : Com eraI (kindP2 k) (kindP2 k) := by
  unfold kindP2
  repeat' first | exact com_tableP | exact com_originP | exact com_blockP | exact com_keepP | exact com_matchP | exact com_uniqueP | exact com_dependP | exact com_includeP | exact com_denyP | exact com_queryP | refine Com.ite ?_ ?_
theorem com_itemP : Com eraI itemP itemP := by
  unfold itemP
  exact Com.bnd com_at fun _ => Com.bnd0 (com_one _) fun _ => Com.bnd (com_kindP2 _) fun _ => Com.pur _ _ _ rfl
/-- Whether nothing is left. -/
def endP : P Bool := fun r => .ok (decide (r = [])) r
theorem items_zero : itemsP 0 = (do let c ← endP; if c = true then pure [] else failP true : P (List It)) := by
  funext r
  cases r <;> rfl
theorem items_succ (k : Nat) : itemsP (k + 1) = (do let c ← endP; if c = true then pure [] else do { let i ← itemP; let l ← itemsP k; pure (i :: l) } : P (List It)) := by
  funext r
  cases r <;> rfl
theorem com_end : Com0 endP := fun r => by cases r <;> rfl
theorem com_items : ∀ k, Com (List.map eraI) (itemsP k) (itemsP k)
  | 0 => by
    rw [items_zero]
    exact Com.bnd0 com_end fun _ => Com.ite (Com.pur _ _ _ rfl) (com_fail _ true)
  | k + 1 => by
    rw [items_succ]
    exact Com.bnd0 com_end fun _ => Com.ite (Com.pur _ _ _ rfl) (Com.bnd com_itemP fun _ => Com.bnd (com_items k) fun _ => Com.pur _ _ _ rfl)
theorem nice_end : Nice endP := nice_one ⟨_, rfl, rfl⟩ fun _ => .inr (.inl ⟨false, fun _ => rfl⟩)
theorem nice_items : ∀ k, Nice (itemsP k)
  | 0 => by
    rw [items_zero]
    exact Nice.bnd nice_end fun _ => Nice.ite (Nice.pur _) (Nice.fail _)
  | k + 1 => by
    rw [items_succ]
    exact Nice.bnd nice_end fun _ => Nice.ite (Nice.pur _) (Nice.bnd nice_itemP fun _ => Nice.bnd (nice_items k) fun _ => Nice.pur _)
/-- What is read needs nothing behind it. -/
def Str {α : Type} (p : P α) : Prop := ∀ r a r1, Sy r → p r = .ok a r1 → ∃ x, r = x ++ r1 ∧ x ≠ [] ∧ ∀ y, Sy y → p (x ++ y) = .ok a y
theorem Str.bnd {α β : Type} {p : P α} {q : α → P β} (hp : Nice p) (hq : ∀ a, Str (q a)) : Str (p >>= q) := fun r b r2 hr h => by
  obtain ⟨x1, h1, h2⟩ := hp.loc r hr
  rcases e : p r with ⟨a, r1⟩ | ⟨b, r1⟩
  · rw [e] at h1 h2
    rw [bnd_ok e] at h
    have hr1 : Sy r1 := by
      have h1' : r = x1 ++ r1 := h1
      rw [h1'] at hr
      exact hr.right
    obtain ⟨x2, h3, h4, h5⟩ := hq a r1 b r2 hr1 h
    have hx2 : Sy x2 := by
      rw [h3] at hr1
      exact hr1.left
    refine ⟨x1 ++ x2, by rw [List.append_assoc, ← h3]; exact h1, by simp [h4], fun y sy => ?_⟩
    have h6 : p (x1 ++ (x2 ++ y)) = .ok a (x2 ++ y) := h2 (x2 ++ y) (hx2.app sy) (by
      show (x2 ++ y).head? = r1.head?
      rw [h3]
      cases x2 with
      | nil => exact absurd rfl h4
      | cons t x2 => rfl)
    rw [List.append_assoc, bnd_ok h6]
    exact h5 y sy
  · rw [bnd_bad e] at h
    cases h
theorem Str.map {α β : Type} {p : P α} {f : α → β} (hp : Str p) : Str (do let a ← p; pure (f a)) := fun r b r1 hr h => by
  rcases e : p r with ⟨a, r2⟩ | ⟨b2, r2⟩
  · rw [bnd_ok e] at h
    have h2 : Res.ok (f a) r2 = .ok b r1 := h
    cases h2
    obtain ⟨x, h3, h4, h5⟩ := hp r a r1 hr e
    exact ⟨x, h3, h4, fun y sy => bnd_ok (h5 y sy)⟩
  · rw [bnd_bad e] at h
    cases h
theorem Str.ite {α : Type} {c : Prop} [Decidable c] {p q : P α} (hp : Str p) (hq : Str q) : Str (if c then p else q) := by
  split
  · exact hp
  · exact hq
theorem str_exp (w : Txt) : Str (expP w) := fun r a r1 _ h => by
  unfold expP at h
  split at h
  · rename_i q
    cases r with
    | nil => exact absurd rfl q.2
    | cons t r =>
      cases h
      refine ⟨[t], rfl, by simp, fun y _ => ?_⟩
      unfold expP
      rw [if_pos ⟨q.1, by simp⟩]
      rfl
  · cases h
theorem Str.semi {α : Type} {w : Txt} {a : α} : Str (do let _ ← expP w; pure a) := Str.map (f := fun _ => a) (str_exp w)
theorem str_termsP : ∀ f, Str (termsP f)
  | 0 => fun r a r1 _ h => by cases h
  | f + 1 => fun r a r1 hr h => by
    by_cases hc : headW r = [125] ∧ r ≠ []
    · cases r with
      | nil => exact absurd rfl hc.2
      | cons t r =>
        have e : ∀ y, accP [125] (t :: y) = .ok true y := fun y => by
          unfold accP
          rw [if_pos ⟨hc.1, by simp⟩]
          rfl
        have k : ∀ y, termsP (f + 1) (t :: y) = .ok [] y := fun y => by
          show (accP [125] >>= _) (t :: y) = _
          rw [bnd_ok (e y)]
          rfl
        rw [k] at h
        cases h
        exact ⟨[t], rfl, by simp, fun y _ => k y⟩
    · have e : accP [125] r = .ok false r := by
        unfold accP
        rw [if_neg hc]
      have k : ∀ r, ¬ (headW r = [125] ∧ r ≠ []) → termsP (f + 1) r = (do let t ← termP; let l ← termsP f; pure (t :: l) : P (List Trm)) r := fun r hc => by
        show (accP [125] >>= _) r = _
        rw [bnd_ok (show accP [125] r = .ok false r by unfold accP; rw [if_neg hc])]
        rfl
      rw [k r hc] at h
      obtain ⟨x, h1, h2, h3⟩ := Str.bnd nice_termP (fun t => Str.map (f := fun l => t :: l) (str_termsP f)) r a r1 hr h
      refine ⟨x, h1, h2, fun y sy => ?_⟩
      cases x with
      | nil => exact absurd rfl h2
      | cons t x =>
        rw [k _ (by rw [h1] at hc; intro q; exact hc ⟨q.1, by simp⟩)]
        exact h3 y sy
theorem str_tableP : Str tableP := by
  unfold tableP
  repeat' first | exact Str.semi | exact Str.map (str_termsP _) | exact nice_take _ | exact nice_acc _ | exact nice_exp _ | exact nice_one_ _ | exact nice_peek _ | exact nice_kind _ | exact nice_side0 | exact nice_at | exact nice_nameP | exact nice_numP | exact nice_valueP | exact nice_columnP | exact nice_termP | exact nice_fixedP | exact nice_varP | exact nice_sideP | exact nice_condP | exact nice_condsP | exact nice_namesP | exact nice_placeP | exact nice_namesUpP _ | exact nice_exprP _ | exact nice_attrsP _ | exact Nice.pur _ | refine nice_list _ ?_ _ | refine Str.ite ?_ ?_ | refine Str.bnd ?_ (fun _ => ?_) | refine Nice.ite ?_ ?_
theorem str_originP : Str originP := by
  unfold originP
  repeat' first | exact Str.semi | exact Str.map (str_termsP _) | exact nice_take _ | exact nice_acc _ | exact nice_exp _ | exact nice_one_ _ | exact nice_peek _ | exact nice_kind _ | exact nice_side0 | exact nice_at | exact nice_nameP | exact nice_numP | exact nice_valueP | exact nice_columnP | exact nice_termP | exact nice_fixedP | exact nice_varP | exact nice_sideP | exact nice_condP | exact nice_condsP | exact nice_namesP | exact nice_placeP | exact nice_namesUpP _ | exact nice_exprP _ | exact nice_attrsP _ | exact Nice.pur _ | refine nice_list _ ?_ _ | refine Str.ite ?_ ?_ | refine Str.bnd ?_ (fun _ => ?_) | refine Nice.ite ?_ ?_
theorem str_blockP : Str blockP := by
  unfold blockP
  repeat' first | exact Str.semi | exact Str.map (str_termsP _) | exact nice_take _ | exact nice_acc _ | exact nice_exp _ | exact nice_one_ _ | exact nice_peek _ | exact nice_kind _ | exact nice_side0 | exact nice_at | exact nice_nameP | exact nice_numP | exact nice_valueP | exact nice_columnP | exact nice_termP | exact nice_fixedP | exact nice_varP | exact nice_sideP | exact nice_condP | exact nice_condsP | exact nice_namesP | exact nice_placeP | exact nice_namesUpP _ | exact nice_exprP _ | exact nice_attrsP _ | exact Nice.pur _ | refine nice_list _ ?_ _ | refine Str.ite ?_ ?_ | refine Str.bnd ?_ (fun _ => ?_) | refine Nice.ite ?_ ?_
theorem str_keepP : Str keepP := by
  unfold keepP
  repeat' first | exact Str.semi | exact Str.map (str_termsP _) | exact nice_take _ | exact nice_acc _ | exact nice_exp _ | exact nice_one_ _ | exact nice_peek _ | exact nice_kind _ | exact nice_side0 | exact nice_at | exact nice_nameP | exact nice_numP | exact nice_valueP | exact nice_columnP | exact nice_termP | exact nice_fixedP | exact nice_varP | exact nice_sideP | exact nice_condP | exact nice_condsP | exact nice_namesP | exact nice_placeP | exact nice_namesUpP _ | exact nice_exprP _ | exact nice_attrsP _ | exact Nice.pur _ | refine nice_list _ ?_ _ | refine Str.ite ?_ ?_ | refine Str.bnd ?_ (fun _ => ?_) | refine Nice.ite ?_ ?_
theorem str_matchP : Str matchP := by
  unfold matchP
  repeat' first | exact Str.semi | exact Str.map (str_termsP _) | exact nice_take _ | exact nice_acc _ | exact nice_exp _ | exact nice_one_ _ | exact nice_peek _ | exact nice_kind _ | exact nice_side0 | exact nice_at | exact nice_nameP | exact nice_numP | exact nice_valueP | exact nice_columnP | exact nice_termP | exact nice_fixedP | exact nice_varP | exact nice_sideP | exact nice_condP | exact nice_condsP | exact nice_namesP | exact nice_placeP | exact nice_namesUpP _ | exact nice_exprP _ | exact nice_attrsP _ | exact Nice.pur _ | refine nice_list _ ?_ _ | refine Str.ite ?_ ?_ | refine Str.bnd ?_ (fun _ => ?_) | refine Nice.ite ?_ ?_
theorem str_uniqueP : Str uniqueP := by
  unfold uniqueP
  repeat' first | exact Str.semi | exact Str.map (str_termsP _) | exact nice_take _ | exact nice_acc _ | exact nice_exp _ | exact nice_one_ _ | exact nice_peek _ | exact nice_kind _ | exact nice_side0 | exact nice_at | exact nice_nameP | exact nice_numP | exact nice_valueP | exact nice_columnP | exact nice_termP | exact nice_fixedP | exact nice_varP | exact nice_sideP | exact nice_condP | exact nice_condsP | exact nice_namesP | exact nice_placeP | exact nice_namesUpP _ | exact nice_exprP _ | exact nice_attrsP _ | exact Nice.pur _ | refine nice_list _ ?_ _ | refine Str.ite ?_ ?_ | refine Str.bnd ?_ (fun _ => ?_) | refine Nice.ite ?_ ?_
theorem str_dependP : Str dependP := by
  unfold dependP
  repeat' first | exact Str.semi | exact Str.map (str_termsP _) | exact nice_take _ | exact nice_acc _ | exact nice_exp _ | exact nice_one_ _ | exact nice_peek _ | exact nice_kind _ | exact nice_side0 | exact nice_at | exact nice_nameP | exact nice_numP | exact nice_valueP | exact nice_columnP | exact nice_termP | exact nice_fixedP | exact nice_varP | exact nice_sideP | exact nice_condP | exact nice_condsP | exact nice_namesP | exact nice_placeP | exact nice_namesUpP _ | exact nice_exprP _ | exact nice_attrsP _ | exact Nice.pur _ | refine nice_list _ ?_ _ | refine Str.ite ?_ ?_ | refine Str.bnd ?_ (fun _ => ?_) | refine Nice.ite ?_ ?_
theorem str_includeP : Str includeP := by
  unfold includeP
  repeat' first | exact Str.semi | exact Str.map (str_termsP _) | exact nice_take _ | exact nice_acc _ | exact nice_exp _ | exact nice_one_ _ | exact nice_peek _ | exact nice_kind _ | exact nice_side0 | exact nice_at | exact nice_nameP | exact nice_numP | exact nice_valueP | exact nice_columnP | exact nice_termP | exact nice_fixedP | exact nice_varP | exact nice_sideP | exact nice_condP | exact nice_condsP | exact nice_namesP | exact nice_placeP | exact nice_namesUpP _ | exact nice_exprP _ | exact nice_attrsP _ | exact Nice.pur _ | refine nice_list _ ?_ _ | refine Str.ite ?_ ?_ | refine Str.bnd ?_ (fun _ => ?_) | refine Nice.ite ?_ ?_
theorem str_denyP : Str denyP := by
  unfold denyP
  repeat' first | exact Str.semi | exact Str.map (str_termsP _) | exact nice_take _ | exact nice_acc _ | exact nice_exp _ | exact nice_one_ _ | exact nice_peek _ | exact nice_kind _ | exact nice_side0 | exact nice_at | exact nice_nameP | exact nice_numP | exact nice_valueP | exact nice_columnP | exact nice_termP | exact nice_fixedP | exact nice_varP | exact nice_sideP | exact nice_condP | exact nice_condsP | exact nice_namesP | exact nice_placeP | exact nice_namesUpP _ | exact nice_exprP _ | exact nice_attrsP _ | exact Nice.pur _ | refine nice_list _ ?_ _ | refine Str.ite ?_ ?_ | refine Str.bnd ?_ (fun _ => ?_) | refine Nice.ite ?_ ?_
theorem str_queryP : Str queryP := by
  unfold queryP
  repeat' first | exact Str.semi | exact Str.map (str_termsP _) | exact nice_take _ | exact nice_acc _ | exact nice_exp _ | exact nice_one_ _ | exact nice_peek _ | exact nice_kind _ | exact nice_side0 | exact nice_at | exact nice_nameP | exact nice_numP | exact nice_valueP | exact nice_columnP | exact nice_termP | exact nice_fixedP | exact nice_varP | exact nice_sideP | exact nice_condP | exact nice_condsP | exact nice_namesP | exact nice_placeP | exact nice_namesUpP _ | exact nice_exprP _ | exact nice_attrsP _ | exact Nice.pur _ | refine nice_list _ ?_ _ | refine Str.ite ?_ ?_ | refine Str.bnd ?_ (fun _ => ?_) | refine Nice.ite ?_ ?_
theorem str_kindP2 (k : Int) : Str (kindP2 k) := by
  unfold kindP2
  repeat' first | exact str_tableP | exact str_originP | exact str_blockP | exact str_keepP | exact str_matchP | exact str_uniqueP | exact str_dependP | exact str_includeP | exact str_denyP | exact str_queryP | refine Str.ite ?_ ?_
theorem str_itemP : Str itemP := by
  unfold itemP
  exact Str.bnd nice_at fun p => Str.bnd (nice_one_ _) fun _ => Str.map (f := fun i => { i with at_ := p }) (str_kindP2 _)
/-- Items, and what comes behind them. -/
def prep (is : List It) : Res (List It) → Res (List It)
  | .ok js r => .ok (is ++ js) r
  | .bad b r => .bad b r
theorem items_nil (m : Nat) : itemsP m [] = .ok [] [] := by cases m <;> rfl
theorem items_run {m : Nat} {r : List Tk} (h : r ≠ []) : itemsP (m + 1) r = (do let i ← itemP; let l ← itemsP m; pure (i :: l) : P (List It)) r := by
  show (if r = [] then _ else _) = _
  rw [if_neg h]
theorem items_app : ∀ (k : Nat) (r : List Tk) (is : List It) (r1 : List Tk), Sy r → itemsP k r = .ok is r1 → r1 = [] ∧ is.length ≤ k ∧ ∀ m y, Sy y → itemsP (is.length + m) (r ++ y) = prep is (itemsP m y)
  | 0, r, is, r1, hr, h => by
    have h2 : (if r = [] then Res.ok [] r else Res.bad true r) = .ok is r1 := h
    split at h2
    · rename_i e
      cases h2
      subst e
      refine ⟨rfl, Nat.le_refl _, fun m y _ => ?_⟩
      simp only [List.length_nil, Nat.zero_add, List.nil_append]
      rcases itemsP m y with ⟨a, r⟩ | ⟨b, r⟩ <;> rfl
    · cases h2
  | k + 1, r, is, r1, hr, h => by
    by_cases e : r = []
    · subst e
      rw [items_nil] at h
      cases h
      refine ⟨rfl, Nat.zero_le _, fun m y _ => ?_⟩
      simp only [List.length_nil, Nat.zero_add, List.nil_append]
      rcases itemsP m y with ⟨a, r⟩ | ⟨b, r⟩ <;> rfl
    · rw [items_run e] at h
      rcases e1 : itemP r with ⟨i, r2⟩ | ⟨b, r2⟩
      · rw [bnd_ok e1] at h
        obtain ⟨x, h1, h2, h3⟩ := str_itemP r i r2 hr e1
        rcases e2 : itemsP k r2 with ⟨js, r3⟩ | ⟨b, r3⟩
        · rw [bnd_ok e2] at h
          have h4 : Res.ok (i :: js) r3 = .ok is r1 := h
          cases h4
          have hr2 : Sy r2 := by
            rw [h1] at hr
            exact hr.right
          obtain ⟨q1, q2, q3⟩ := items_app k r2 js r1 hr2 e2
          refine ⟨q1, by simp; omega, fun m y sy => ?_⟩
          rw [List.length_cons, show js.length + 1 + m = js.length + m + 1 by omega, items_run (by simp [e]), h1, List.append_assoc, bnd_ok (h3 _ (hr2.app sy))]
          rcases e3 : itemsP m y with ⟨ks, r4⟩ | ⟨b, r4⟩
          · rw [bnd_ok (show itemsP (js.length + m) (r2 ++ y) = .ok (js ++ ks) r4 by rw [q3 m y sy, e3]; rfl)]
            rfl
          · rw [bnd_bad (show itemsP (js.length + m) (r2 ++ y) = .bad b r4 by rw [q3 m y sy, e3]; rfl)]
            rfl
        · rw [bnd_bad e2] at h
          cases h
      · rw [bnd_bad e1] at h
        cases h
end Go.Proofs.YtcgkaecaddpenaaGreatDoor.L8

/- The parser's laws in plain words: joined texts, beginnings, the first error, tokens written anew. -/
namespace Go.Proofs.YtcgkaecaddpenaaGreatDoor.L8
open L7 (Tk bare sh lx lexT tok tkOf gap gapC)

/-! ### Of the tokens of a text. -/
theorem tok_err (r : List UInt8) : (tok r).2.2 = 0 ∨ (tok r).2.2 = 3 ∨ (tok r).2.2 = 5 ∨ (tok r).2.2 = 6 ∨ (tok r).2.2 = 7 := by
  have hcon : ∀ l : List UInt8, (L7.con l).2.2 = 0 ∨ (L7.con l).2.2 = 5 ∨ (L7.con l).2.2 = 7 := by
    intro l
    induction l using L7.con.induct with
    | case1 => exact .inr (.inr rfl)
    | case2 => simp [L7.con]
    | case3 => simp [L7.con]
    | case4 c h1 h2 => simp [L7.con, h1, h2]
    | case5 => simp [L7.con]
    | case6 => simp [L7.con]
    | case7 d r h1 h2 hd ih => simp only [L7.con, h1, h2, hd]; simpa using ih
    | case8 d r h1 h2 hd => simp only [L7.con, h1, h2, hd, if_false]; simp
    | case9 c d r h1 h2 h3 ih => simp only [L7.con, h1, h2, h3]; simpa using ih
  match r with
  | [] => exact .inr (.inr (.inl rfl))
  | c :: r =>
    by_cases h1 : L7.Lt c = true
    · rw [L7.tok_name h1]
      split
      · exact .inr (.inl rfl)
      · exact .inl rfl
    · by_cases h2 : L7.Dg c = true
      · rw [L7.tok_num h1 h2]
        split
        · exact .inr (.inr (.inr (.inl rfl)))
        · exact .inl rfl
      · by_cases h3 : c = 34
        · subst h3
          rw [L7.tok_text]
          split
          · rcases hcon r with h | h | h
            · exact .inl h
            · exact .inr (.inr (.inl h))
            · exact .inr (.inr (.inr (.inr h)))
          · split
            · exact .inr (.inl rfl)
            · exact .inl rfl
        · rw [L7.tok_sym h1 h2 h3]
          split
          · exact .inr (.inr (.inl rfl))
          · exact .inl rfl
theorem lx_err : ∀ (m : Nat) (r : List UInt8) (p : Nat), r.length ≤ m → (lx r p).2.1 ≠ 4
  | m, r, p, hm => by
    rcases L7.lx_cases r with h1 | ⟨h1, he⟩ | ⟨h1, t, n, ht⟩
    · rw [L7.lx_nil h1]
      decide
    · rw [L7.lx_bad h1 he]
      show (tok (r.drop (gap r))).2.2 ≠ 4
      have := tok_err (r.drop (gap r))
      omega
    · obtain ⟨hn, hl, _⟩ := L7.tok_ext ht
      rw [List.length_drop] at hl
      rw [L7.lx_tok h1 ht]
      match m with
      | 0 => omega
      | m + 1 => exact lx_err m _ _ (by rw [List.length_drop]; omega)
theorem lexT_err (t : Txt) : (lexT t).2.1 ≠ 4 := by
  rw [L7.lexT_lx]
  split
  · decide
  · split
    · exact show (3 : Int) ≠ 4 by decide
    · split
      · exact lx_err t.length t 0 (Nat.le_refl _)
      · exact show (0 : Int) ≠ 4 by decide
theorem lexT_ok {t : Txt} {l : List Tk} {x : Int} (h : lexT t = (l, 0, x)) : lx t 0 = (l, 0, 0) ∧ l.length ≤ 5000 ∧ t.length ≤ 20000 ∧ x = 0 := by
  rw [L7.lexT_lx] at h
  split at h
  · cases h
  · rename_i h1
    split at h
    · cases h
    · rename_i h2
      split at h
      · rename_i h3
        simp only [Prod.mk.injEq] at h
        exact absurd (congrArg Prod.fst h.2) h3
      · rename_i h3
        simp only [Prod.mk.injEq] at h
        obtain ⟨rfl, _, rfl⟩ := h
        exact ⟨L7.lx_ok (by simpa using h3), by rw [List.getElem?_eq_none_iff] at h2; exact h2, by omega, rfl⟩
theorem lexT_of {t : Txt} {l : List Tk} (h : lx t 0 = (l, 0, 0)) (hl : l.length ≤ 5000) (ht : t.length ≤ 20000) : lexT t = (l, 0, 0) := by
  rw [L7.lexT_lx, if_neg (by omega), h]
  simp only [List.getElem?_eq_none hl]
  rw [if_neg (by simp)]
theorem tok_sy {r : List UInt8} {t : Int × List UInt8 × Int} {n : Nat} (h : tok r = (t, n, 0)) (hk : t.1 = 4) : t.2.1.length ≤ 2 := by
  match r with
  | [] => rw [tok] at h; exact absurd h (L7.bad_ne (by decide))
  | c :: r =>
    by_cases h1 : L7.Lt c = true
    · rw [L7.tok_name h1] at h
      split at h
      · exact absurd h (L7.bad_ne (by decide))
      · simp only [Prod.mk.injEq] at h
        obtain ⟨rfl, _⟩ := h
        simp at hk
    · by_cases h2 : L7.Dg c = true
      · rw [L7.tok_num h1 h2] at h
        split at h
        · exact absurd h (L7.bad_ne (by decide))
        · simp only [Prod.mk.injEq] at h
          obtain ⟨rfl, _⟩ := h
          simp at hk
      · by_cases h3 : c = 34
        · subst h3
          rw [L7.tok_text] at h
          split at h
          · rename_i he
            exact absurd h (L7.bad_ne he)
          · split at h
            · exact absurd h (L7.bad_ne (by decide))
            · simp only [Prod.mk.injEq] at h
              obtain ⟨rfl, _⟩ := h
              simp at hk
        · rw [L7.tok_sym h1 h2 h3] at h
          split at h
          · exact absurd h (L7.bad_ne (by decide))
          · simp only [Prod.mk.injEq] at h
            obtain ⟨rfl, _⟩ := h
            have : L7.symN (c :: r) ≤ 2 := by
              rcases L7.symN_cases c r with e | e | e <;> omega
            rw [List.length_take]
            omega
theorem sy_lx : ∀ (m : Nat) (r : List UInt8) (p : Nat), r.length ≤ m → Sy (lx r p).1
  | m, r, p, hm => by
    rcases L7.lx_cases r with h1 | ⟨h1, he⟩ | ⟨h1, t, n, ht⟩
    · rw [L7.lx_nil h1]
      exact Sy.nil
    · rw [L7.lx_bad h1 he]
      exact Sy.nil
    · obtain ⟨hn, hl, _⟩ := L7.tok_ext ht
      rw [List.length_drop] at hl
      rw [L7.lx_tok h1 ht]
      match m with
      | 0 => omega
      | m + 1 =>
        intro u hu hk
        rcases List.mem_cons.1 hu with rfl | hu
        · have h2 := tok_sy ht hk
          intro q
          have : ∀ w ∈ opsW, 3 ≤ w.length := by decide
          have := this _ q
          have h3 : (tkOf t (p + gap r)).text.length = t.2.1.length := rfl
          omega
        · exact sy_lx m _ _ (by rw [List.length_drop]; omega) u hu hk
theorem lx_inc : ∀ (m : Nat) (r : List UInt8) (p : Nat), r.length ≤ m → (lx r p).1.Pairwise (fun a b => a.at_ < b.at_)
  | m, r, p, hm => by
    rcases L7.lx_cases r with h1 | ⟨h1, he⟩ | ⟨h1, t, n, ht⟩
    · rw [L7.lx_nil h1]
      exact List.Pairwise.nil
    · rw [L7.lx_bad h1 he]
      exact List.Pairwise.nil
    · obtain ⟨hn, hl, _⟩ := L7.tok_ext ht
      rw [List.length_drop] at hl
      rw [L7.lx_tok h1 ht]
      match m with
      | 0 => omega
      | m + 1 =>
        refine List.Pairwise.cons (fun u hu => ?_) (lx_inc m _ _ (by rw [List.length_drop]; omega))
        have := (L7.lx_at _ _ _ (Nat.le_refl _) u hu).1
        show ((p + gap r : Nat) : Int) < _
        omega
/-- A text that is cut where a token begins, or at its end. -/
theorem lx_take : ∀ (m : Nat) (r : List UInt8) (p : Nat) (ts : List Tk), r.length ≤ m → lx r p = (ts, 0, 0) → ∀ i, i ≤ ts.length →
    ∃ k, k ≤ r.length ∧ (∀ h : i < ts.length, ts[i].at_ = ((p + k : Nat) : Int)) ∧ (i = ts.length → k = r.length) ∧ lx (r.take k) p = (ts.take i, 0, 0)
  | m, r, p, ts, hm, h, i, hi => by
    rcases L7.lx_cases r with h1 | ⟨h1, he⟩ | ⟨h1, t, n, ht⟩
    · rw [L7.lx_nil h1] at h
      simp only [Prod.mk.injEq] at h
      obtain ⟨rfl, _⟩ := h
      exact ⟨r.length, Nat.le_refl _, fun q => by simp at q, fun _ => rfl, by rw [List.take_length, List.take_nil]; exact L7.lx_nil h1⟩
    · rw [L7.lx_bad h1 he] at h
      simp only [Prod.mk.injEq] at h
      exact absurd h.2.1 he
    · obtain ⟨hn, hl, hx⟩ := L7.tok_ext ht
      rw [List.length_drop] at hl
      rw [L7.lx_tok h1 ht] at h
      obtain ⟨us, hus⟩ : ∃ us, (lx (r.drop (gap r + n)) (p + gap r + n)).1 = us := ⟨_, rfl⟩
      rw [hus] at h
      simp only [Prod.mk.injEq] at h
      obtain ⟨rfl, h2⟩ := h
      have h4 : lx (r.drop (gap r + n)) (p + gap r + n) = (us, 0, 0) := Prod.ext hus h2
      have hlen : (r.drop (gap r + n)).length < r.length := by rw [List.length_drop]; omega
      match i with
      | 0 =>
        refine ⟨gap r, by omega, fun _ => rfl, fun q => by simp at q, L7.lx_nil ?_⟩
        have := L7.gap_take false r
        rw [show gap (r.take (gap r)) = gap r from this, List.length_take]
        omega
      | i + 1 =>
        match m with
        | 0 => omega
        | m + 1 =>
          have hi2 : i ≤ us.length := by simpa using hi
          obtain ⟨k, k1, k2, k3, k4⟩ := lx_take m _ _ us (by omega) h4 i hi2
          rw [List.length_drop] at k1 k3
          have hk : gap r + n + k ≤ r.length := by omega
          have hg1 : gap (r.take (gap r + n + k)) = gap r := L7.gap_of_take (by omega) hk
          have hd : (r.take (gap r + n + k)).drop (gap r) = (r.drop (gap r)).take n ++ (r.drop (gap r + n)).take k := by
            rw [List.drop_take, show gap r + n + k - gap r = n + k by omega, List.take_add, List.drop_drop]
          have hd2 : (r.take (gap r + n + k)).drop (gap r + n) = (r.drop (gap r + n)).take k := by
            rw [List.drop_take, show gap r + n + k - (gap r + n) = k by omega]
          have ht2 : tok ((r.take (gap r + n + k)).drop (gap (r.take (gap r + n + k)))) = (t, n, 0) := by
            rw [hg1, hd]
            refine hx _ (fun s hs => .inr ?_)
            rw [List.drop_drop]
            rw [List.head?_take] at hs
            split at hs
            · simp at hs
            · exact hs
          refine ⟨gap r + n + k, hk, fun q => ?_, fun q => ?_, ?_⟩
          · have q2 : i < us.length := by simpa using q
            show us[i].at_ = _
            rw [k2 q2]
            simp only [Nat.add_assoc]
          · have := k3 (by simpa using q)
            omega
          · rw [L7.lx_tok (by rw [hg1, List.length_take]; omega) ht2, hg1, hd2, k4]
            rfl
/-- The tokens' texts, with blanks between them: where they stand. -/
theorem again_pos : ∀ (m : Nat) (r : List UInt8) (p : Nat) (ts : List Tk), r.length ≤ m → lx r p = (ts, 0, 0) → ∀ q, ∃ us, lx (L7.wrAll ts) q = (us, 0, 0) ∧ us.map bare = ts.map bare ∧ ∀ i (h : i < us.length), us[i].at_ = ((q + (L7.wrAll (ts.take i)).length : Nat) : Int)
  | m, r, p, ts, hm, h, q => by
    rcases L7.lx_cases r with h1 | ⟨h1, he⟩ | ⟨h1, t, n, ht⟩
    · rw [L7.lx_nil h1] at h
      simp only [Prod.mk.injEq] at h
      obtain ⟨rfl, _⟩ := h
      exact ⟨[], L7.lx_nil rfl, rfl, fun i h => by simp at h⟩
    · rw [L7.lx_bad h1 he] at h
      simp only [Prod.mk.injEq] at h
      exact absurd h.2.1 he
    · obtain ⟨hn, hl, hx⟩ := L7.tok_ext ht
      rw [List.length_drop] at hl
      rw [L7.lx_tok h1 ht] at h
      obtain ⟨us, hus⟩ : ∃ us, (lx (r.drop (gap r + n)) (p + gap r + n)).1 = us := ⟨_, rfl⟩
      rw [hus] at h
      simp only [Prod.mk.injEq] at h
      obtain ⟨rfl, h2⟩ := h
      have h4 : lx (r.drop (gap r + n)) (p + gap r + n) = (us, 0, 0) := Prod.ext hus h2
      have hlen : (r.drop (gap r + n)).length < r.length := by rw [List.length_drop]; omega
      match m with
      | 0 => omega
      | m + 1 =>
        obtain ⟨vs, hv, hb, hp⟩ := again_pos m _ _ us (by omega) h4 (q + (L7.wr7 (tkOf t (p + gap r))).length + 1)
        have e : L7.wrAll (tkOf t (p + gap r) :: us) = L7.wr7 (tkOf t (p + gap r)) ++ 32 :: L7.wrAll us := by
          unfold L7.wrAll
          rw [List.flatMap_cons, List.append_assoc]
          rfl
        refine ⟨tkOf t q :: vs, ?_, ?_, fun i hi => ?_⟩
        · rw [e, L7.lx_one (L7.tok_wr ht), L7.lx_blank, hv]
        · rw [List.map_cons, List.map_cons, hb]
          rfl
        · cases i with
          | zero => rfl
          | succ i =>
            have hi2 : i < vs.length := by simpa using hi
            show vs[i].at_ = _
            rw [hp i hi2]
            have e2 : (L7.wrAll ((tkOf t (p + gap r) :: us).take (i + 1))).length = (L7.wr7 (tkOf t (p + gap r))).length + 1 + (L7.wrAll (us.take i)).length := by
              rw [List.take_succ_cons]
              unfold L7.wrAll
              rw [List.flatMap_cons, List.length_append, List.length_append]
              rfl
            rw [e2]
            omega
/-! ### Programs. -/
theorem parse_lex {t : Txt} {l : List Tk} {x : Int} (h : lexT t = (l, 0, x)) : parseT t = endT t.length (itemsP 200 l) := by
  unfold parseT
  rw [h, if_neg (by simp)]
theorem parse_err {t : Txt} (h : (lexT t).2.1 ≠ 0) : parseT t = ([], (lexT t).2) := by
  unfold parseT
  rw [if_pos h]
theorem endT_err (n : Nat) (R : Res (List It)) : ((∃ l r, R = .ok l r) ∧ (endT n R).2.1 = 0) ∨ ∃ b r, R = .bad b r ∧ (endT n R).2.1 = errOf b r ∧ errOf b r ≠ 0 := by
  cases R with
  | ok l r => exact .inl ⟨⟨l, r, rfl⟩, rfl⟩
  | bad b r =>
    refine .inr ⟨b, r, rfl, rfl, ?_⟩
    unfold errOf
    split
    · decide
    · split <;> decide
/-- What a program without an error is. -/
theorem parse_ok {t : Txt} {a : List It} {x : Int} (h : parseT t = (a, 0, x)) : ∃ l, lexT t = (l, 0, 0) ∧ lx t 0 = (l, 0, 0) ∧ itemsP 200 l = .ok a [] ∧ x = 0 ∧ Sy l ∧ l.length ≤ 5000 ∧ t.length ≤ 20000 := by
  by_cases he : (lexT t).2.1 ≠ 0
  · rw [parse_err he] at h
    simp only [Prod.mk.injEq] at h
    exact absurd (congrArg Prod.fst h.2) he
  · have he2 : lexT t = ((lexT t).1, 0, (lexT t).2.2) := Prod.ext rfl (Prod.ext (by simpa using he) rfl)
    obtain ⟨h1, h2, h3, h4⟩ := lexT_ok he2
    have hsy : Sy (lexT t).1 := by
      have := sy_lx t.length t 0 (Nat.le_refl _)
      rw [h1] at this
      exact this
    rw [parse_lex he2] at h
    rcases endT_err t.length (itemsP 200 (lexT t).1) with ⟨⟨l, r, e⟩, _⟩ | ⟨b, r, e, e1, e2⟩
    · rw [e] at h
      simp only [endT, Prod.mk.injEq] at h
      obtain ⟨rfl, _, rfl⟩ := h
      obtain ⟨q, _⟩ := items_app 200 _ _ _ hsy e
      subst q
      exact ⟨(lexT t).1, by rw [h4] at he2; exact he2, h1, e, rfl, hsy, h2, h3⟩
    · rw [e] at h e1
      rw [h] at e1
      exact absurd e1.symm e2
theorem items_more {m : Nat} {r : List Tk} {is : List It} (hr : Sy r) (h : itemsP 200 r = .ok is []) (hm : is.length ≤ m) : itemsP m r = .ok is [] := by
  obtain ⟨_, _, k⟩ := items_app 200 r is [] hr h
  have := k (m - is.length) [] Sy.nil
  rw [items_nil, List.append_nil, show is.length + (m - is.length) = m by omega] at this
  rw [this]
  show Res.ok (is ++ []) [] = _
  rw [List.append_nil]
theorem sy_bare {l l' : List Tk} (h : l'.map bare = l.map bare) (hl : Sy l) : Sy l' := fun t ht hk => by
  have h1 : bare t ∈ l.map bare := h ▸ List.mem_map_of_mem ht
  obtain ⟨u, hu, e⟩ := List.mem_map.1 h1
  have e1 : u.kind = t.kind := (congrArg Tk.kind e : (bare u).kind = (bare t).kind)
  have e2 : u.text = t.text := (congrArg Tk.text e : (bare u).text = (bare t).text)
  rw [← e2]
  exact hl u hu (by rw [e1]; exact hk)
theorem items_bare {m : Nat} {r r2 : List Tk} {is : List It} (hb : r2.map bare = r.map bare) (h : itemsP m r = .ok is []) : ∃ js, itemsP m r2 = .ok js [] ∧ js.map eraI = is.map eraI := by
  have h1 := com_items m r
  have h2 := com_items m r2
  rw [hb, h1, h] at h2
  rcases e : itemsP m r2 with ⟨js, r3⟩ | ⟨b, r3⟩
  · rw [e] at h2
    simp only [rmap, Res.ok.injEq] at h2
    obtain ⟨h3, h4⟩ := h2
    have : r3 = [] := by
      cases r3 with
      | nil => rfl
      | cons a b => simp at h4
    subst this
    exact ⟨js, rfl, h3.symm⟩
  · rw [e] at h2
    cases h2
/-- P8.3. -/
theorem joins_math {t u : Txt} {a b : List It} {x y : Int} (ht : t.length ≤ 2000) (hu : u.length ≤ 2000) (h1 : parseT t = (a, 0, x)) (h2 : parseT u = (b, 0, y)) (hl : a.length + b.length ≤ 200) :
    ∃ c, parseT (t ++ 10 :: u) = (c, 0, 0) ∧ c.map eraI = (a ++ b).map eraI := by
  obtain ⟨l1, p1, p2, p3, _, p4, p5, _⟩ := parse_ok h1
  obtain ⟨l2, q1, q2, q3, _, q4, q5, _⟩ := parse_ok h2
  have e := L7.parts_math t u (by rw [p2])
  have e2 := L7.lx_bare u (t.length + 1) 0
  rw [q2] at e2
  have e3 : lx u (t.length + 1) = ((lx u (t.length + 1)).1, 0, 0) := L7.lx_ok e2.2
  obtain ⟨l3, h3⟩ : ∃ l, (lx u (t.length + 1)).1 = l := ⟨_, rfl⟩
  rw [e3, p2, h3] at e
  rw [h3] at e2
  have n1 : l1.length ≤ t.length := by have := L7.lx_count t.length t 0 (Nat.le_refl _); rw [p2] at this; exact this
  have n3 : l3.length ≤ u.length := by have := L7.lx_count u.length u (t.length + 1) (Nat.le_refl _); rw [h3] at this; exact this
  have e4 := lexT_of e (by show (l1 ++ l3).length ≤ 5000; rw [List.length_append]; omega) (by simp; omega)
  have hsy : Sy l3 := sy_bare e2.1 q4
  obtain ⟨_, _, k⟩ := items_app 200 l1 a [] p4 p3
  obtain ⟨js, k1, k2⟩ := items_bare (m := 200 - a.length) e2.1 (items_more q4 q3 (by omega))
  have k3 := k (200 - a.length) l3 hsy
  rw [k1, show a.length + (200 - a.length) = 200 by omega] at k3
  refine ⟨a ++ js, ?_, by rw [List.map_append, List.map_append, k2]⟩
  rw [parse_lex e4, k3]
  rfl
theorem items_begin : ∀ (k : Nat) (r : List Tk) (is : List It), Sy r → itemsP k r = .ok is [] → ∀ i (h : i < is.length), ∃ j, ∃ hj : j < r.length, r[j].at_ = is[i].at_ ∧ itemsP k (r.take j) = .ok (is.take i) []
  | 0, r, is, hr, h, i, hi => by
    obtain ⟨_, h2, _⟩ := items_app 0 r is [] hr h
    omega
  | k + 1, r, is, hr, h, i, hi => by
    have e : r ≠ [] := by
      rintro rfl
      rw [items_nil] at h
      cases h
      simp at hi
    have h0 := h
    rw [items_run e] at h
    rcases e1 : itemP r with ⟨i0, r2⟩ | ⟨b, r2⟩
    · rw [bnd_ok e1] at h
      obtain ⟨x, h1, h2, h3⟩ := str_itemP r i0 r2 hr e1
      rcases e2 : itemsP k r2 with ⟨js, r3⟩ | ⟨b, r3⟩
      · rw [bnd_ok e2] at h
        have h4 : Res.ok (i0 :: js) r3 = .ok is [] := h
        cases h4
        have hr2 : Sy r2 := by
          rw [h1] at hr
          exact hr.right
        cases i with
        | zero =>
          have hl : 0 < r.length := by cases r with
            | nil => exact absurd rfl e
            | cons t r => simp
          refine ⟨0, hl, ?_, items_nil _⟩
          cases r with
          | nil => exact absurd rfl e
          | cons t r =>
            have e5 : atP (t :: r) = .ok t.at_ (t :: r) := rfl
            unfold itemP at e1
            rw [bnd_ok e5] at e1
            rcases e6 : oneP kindsW (t :: r) with ⟨kk, r4⟩ | ⟨b, r4⟩
            · rw [bnd_ok e6] at e1
              rcases e7 : kindP2 kk r4 with ⟨i1, r5⟩ | ⟨b, r5⟩
              · rw [bnd_ok e7] at e1
                have h8 : Res.ok { i1 with at_ := t.at_ } r5 = .ok i0 r2 := e1
                cases h8
                rfl
              · rw [bnd_bad e7] at e1
                cases e1
            · rw [bnd_bad e6] at e1
              cases e1
        | succ i =>
          have hi2 : i < js.length := by simpa using hi
          obtain ⟨j, hj, j1, j2⟩ := items_begin k r2 js hr2 e2 i hi2
          subst h1
          refine ⟨x.length + j, by rw [List.length_append]; omega, ?_, ?_⟩
          · rw [List.getElem_append_right (by omega)]
            simp only [Nat.add_sub_cancel_left]
            exact j1
          · rw [List.take_length_add_append, items_run (by simp [h2]), bnd_ok (h3 _ (fun t q => hr2 t (List.mem_of_mem_take q))), bnd_ok j2]
            rfl
      · rw [bnd_bad e2] at h
        cases h
    · rw [bnd_bad e1] at h
      cases h
/-- P8.6. -/
theorem beginnings_math {t : Txt} {a : List It} {x : Int} (h : parseT t = (a, 0, x)) (i : Nat) (hi : i < a.length) :
    ∃ k, k ≤ t.length ∧ a[i].at_ = (k : Int) ∧ parseT (t.take k) = (a.take i, 0, 0) := by
  obtain ⟨l, p1, p2, p3, _, p4, p5, p6⟩ := parse_ok h
  obtain ⟨j, hj, j1, j2⟩ := items_begin 200 l a p4 p3 i hi
  obtain ⟨k, k1, k2, _, k4⟩ := lx_take t.length t 0 l (Nat.le_refl _) p2 j (Nat.le_of_lt hj)
  refine ⟨k, k1, ?_, ?_⟩
  · rw [← j1, k2 hj, Nat.zero_add]
  · rw [parse_lex (lexT_of k4 (by rw [List.length_take]; omega) (by rw [List.length_take]; omega)), j2]
    rfl
/-- P8.4. -/
theorem first_math {t : Txt} {a : List It} {x : Int} (ht : t.length ≤ 2000) (h : parseT t = (a, 4, x)) :
    ∃ l i, ∃ hi : i < l.length, lexT t = (l, 0, 0) ∧ l.Pairwise (fun a b => a.at_ < b.at_) ∧ l[i].at_ = x ∧ ∃ k e : Nat, x = (k : Int) ∧ k ≤ e ∧ e ≤ t.length ∧
      (∀ h : i + 1 < l.length, l[i + 1].at_ = (e : Int)) ∧ (i + 1 = l.length → e = t.length) ∧
      (((parseT (t.take k)).2.1 = 0) ∨ ((parseT (t.take k)).2.1 = 7 ∧ (parseT (t.take k)).2.2 = (k : Int))) ∧
      ∀ u : Txt, u.length ≤ 2000 → (lexT (t.take e ++ 10 :: u)).2.1 = 0 → (parseT (t.take e ++ 10 :: u)).2 = (4, x) := by
  by_cases he : (lexT t).2.1 ≠ 0
  · rw [parse_err he] at h
    simp only [Prod.mk.injEq] at h
    exact absurd (congrArg Prod.fst h.2) (lexT_err t)
  · have he2 : lexT t = ((lexT t).1, 0, (lexT t).2.2) := Prod.ext rfl (Prod.ext (by simpa using he) rfl)
    obtain ⟨h1, h2, h3, h4⟩ := lexT_ok he2
    obtain ⟨l, hl⟩ : ∃ l, (lexT t).1 = l := ⟨_, rfl⟩
    rw [h4, hl] at he2
    rw [hl] at h1 h2
    have hsy : Sy l := by
      have := sy_lx t.length t 0 (Nat.le_refl _)
      rw [h1] at this
      exact this
    have hinc : l.Pairwise (fun a b => a.at_ < b.at_) := by
      have := lx_inc t.length t 0 (Nat.le_refl _)
      rw [h1] at this
      exact this
    rw [parse_lex he2] at h
    rcases e1 : itemsP 200 l with ⟨is, r⟩ | ⟨b, r⟩
    · rw [e1] at h
      simp only [endT, Prod.mk.injEq] at h
      omega
    · rw [e1] at h
      simp only [endT, Prod.mk.injEq] at h
      obtain ⟨rfl, h5, rfl⟩ := h
      cases r with
      | nil => simp [errOf] at h5
      | cons tk z =>
        have hb : b = false := by
          cases b
          · rfl
          · simp [errOf] at h5
        subst hb
        obtain ⟨y, y1, y2⟩ := (nice_items 200).loc l hsy
        rw [e1] at y1 y2
        have y3 : l = y ++ tk :: z := y1
        have hi : y.length < l.length := by rw [y3]; simp
        have hat : l[y.length].at_ = tk.at_ := by simp [y3]
        obtain ⟨k, k1, k2, _, k4⟩ := lx_take t.length t 0 l (Nat.le_refl _) h1 y.length (Nat.le_of_lt hi)
        obtain ⟨e, e2, e3, e4, e5⟩ := lx_take t.length t 0 l (Nat.le_refl _) h1 (y.length + 1) hi
        have hk : tk.at_ = (k : Int) := by rw [← hat, k2 hi, Nat.zero_add]
        have hke : k ≤ e := by
          by_cases q : y.length + 1 < l.length
          · have e6 := e3 q
            have e7 := List.pairwise_iff_getElem.1 hinc y.length (y.length + 1) hi q (by omega)
            rw [k2 hi, e6] at e7
            omega
          · have := e4 (by omega)
            omega
        refine ⟨l, y.length, hi, he2, hinc, hat, k, e, hk, hke, e2, fun q => by rw [e3 q, Nat.zero_add], e4, ?_, fun u hu hlx => ?_⟩
        · have hy : l.take y.length = y := by rw [y3, List.take_left]
          rw [hy] at k4
          have hlen : (t.take k).length = k := by rw [List.length_take]; omega
          have k5 := lexT_of k4 (by have := congrArg List.length y3; rw [List.length_append] at this; omega) (by omega)
          rw [parse_lex k5]
          have hr := (nice_items 200).tr y (tk :: z) (by rw [← y3]; exact hsy) (by rw [← y3, e1]; exact Nat.le_refl _)
          rcases e8 : itemsP 200 y with ⟨is, r⟩ | ⟨b, r⟩
          · exact .inl rfl
          · rw [e8] at hr
            have : r = [] := hr
            subst this
            refine .inr ⟨rfl, ?_⟩
            show atOf (t.take k).length [] = _
            rw [hlen]
            rfl
        · have hn : t.take e ++ 10 :: u ≠ [] := by simp
          have hlen : (t.take e ++ 10 :: u).length ≤ 5000 := by simp; omega
          have e9 := L7.parts_math (t.take e) u (by rw [e5])
          have e10 : lexT (t.take e ++ 10 :: u) = ((lx (t.take e ++ 10 :: u) 0).1, 0, 0) := by
            rw [L7.lexT_short hlen]
            rw [L7.lexT_short hlen] at hlx
            split
            · rename_i q
              rw [if_pos q] at hlx
              exact absurd hlx q
            · rfl
          have hy : l.take (y.length + 1) = y ++ [tk] := by
            rw [y3, List.take_length_add_append]
            rfl
          rw [e9, e5, hy] at e10
          have hs2 : Sy ((y ++ [tk]) ++ (lx u ((t.take e).length + 1)).1) := by
            refine Sy.app ?_ (sy_lx u.length u _ (Nat.le_refl _))
            rw [y3] at hsy
            intro q hq
            exact hsy q (by
              rcases List.mem_append.1 hq with q1 | q1
              · exact List.mem_append_left _ q1
              · exact List.mem_append_right _ (by simp at q1; subst q1; simp))
          rw [parse_lex e10]
          have e11 := y2 ([tk] ++ (lx u ((t.take e).length + 1)).1) (by rw [List.append_assoc] at hs2; exact hs2.right) rfl
          show (endT _ (itemsP 200 ((y ++ [tk]) ++ (lx u ((t.take e).length + 1)).1))).2 = _
          rw [List.append_assoc, e11]
          show (errOf false (tk :: _), _) = _
          rfl
/-- P8.2. -/
theorem tokens_math {t : Txt} {l : List Tk} {x : Int} (ht : t.length ≤ 2000) (h : lexT t = (l, 0, x)) :
    (parseT t).2.1 = (parseT (L7.wrAll l)).2.1 ∧ (parseT t).1.map eraI = (parseT (L7.wrAll l)).1.map eraI ∧
    (((parseT t).2.1 = 0 ∧ (parseT t).2.2 = 0 ∧ (parseT (L7.wrAll l)).2.2 = 0) ∨ ((parseT t).2.1 = 7 ∧ (parseT t).2.2 = (t.length : Int) ∧ (parseT (L7.wrAll l)).2.2 = ((L7.wrAll l).length : Int)) ∨
      ((parseT t).2.1 ≠ 0 ∧ (parseT t).2.1 ≠ 7 ∧ l.Pairwise (fun a b => a.at_ < b.at_) ∧ ∃ i, ∃ hi : i < l.length, l[i].at_ = (parseT t).2.2 ∧ (parseT (L7.wrAll l)).2.2 = ((L7.wrAll (l.take i)).length : Int))) := by
  obtain ⟨h1, h2, h3, rfl⟩ := lexT_ok h
  obtain ⟨us, u1, u2, u3⟩ := again_pos t.length t 0 l (Nat.le_refl _) h1 0
  have hsy : Sy l := by
    have := sy_lx t.length t 0 (Nat.le_refl _)
    rw [h1] at this
    exact this
  have hinc : l.Pairwise (fun a b => a.at_ < b.at_) := by
    have := lx_inc t.length t 0 (Nat.le_refl _)
    rw [h1] at this
    exact this
  have hlen := L7.wr_total t.length t 0 l (Nat.le_refl _) h1
  have hul : us.length = l.length := by have := congrArg List.length u2; simpa using this
  have e1 := lexT_of u1 (by omega) (by omega)
  rw [parse_lex h, parse_lex e1]
  have c1 := com_items 200 l
  have c2 := com_items 200 us
  rw [u2, c1] at c2
  have hsu := sy_bare u2 hsy
  rcases r1 : itemsP 200 l with ⟨is, r⟩ | ⟨b, r⟩
  · rcases r2 : itemsP 200 us with ⟨js, s⟩ | ⟨c, s⟩
    · rw [r1, r2] at c2
      simp only [rmap, Res.ok.injEq] at c2
      exact ⟨rfl, c2.1, .inl ⟨rfl, rfl, rfl⟩⟩
    · rw [r1, r2] at c2
      cases c2
  · rcases r2 : itemsP 200 us with ⟨js, s⟩ | ⟨c, s⟩
    · rw [r1, r2] at c2
      cases c2
    · rw [r1, r2] at c2
      simp only [rmap, Res.bad.injEq] at c2
      obtain ⟨rfl, c3⟩ := c2
      cases r with
      | nil =>
        have : s = [] := by
          cases s with
          | nil => rfl
          | cons a b => simp at c3
        subst this
        exact ⟨rfl, rfl, .inr (.inl ⟨rfl, rfl, rfl⟩)⟩
      | cons tk z =>
        cases s with
        | nil => simp at c3
        | cons tk2 z2 =>
          have hb : (errOf b (tk :: z)) = (errOf b (tk2 :: z2)) := rfl
          refine ⟨hb, rfl, .inr (.inr ⟨?_, ?_, hinc, ?_⟩)⟩
          · show errOf b (tk :: z) ≠ 0
            cases b <;> simp [errOf]
          · show errOf b (tk :: z) ≠ 7
            cases b <;> simp [errOf]
          · obtain ⟨y, y1, _⟩ := (nice_items 200).loc l hsy
            rw [r1] at y1
            obtain ⟨y', y1', _⟩ := (nice_items 200).loc us hsu
            rw [r2] at y1'
            have q1 : l = y ++ tk :: z := y1
            have q2 : us = y' ++ tk2 :: z2 := y1'
            have q3 : (tk :: z).length = (tk2 :: z2).length := by have := congrArg List.length c3; simpa using this
            have q4 : y'.length = y.length := by
              have a1 := congrArg List.length q1
              have a2 := congrArg List.length q2
              rw [List.length_append] at a1 a2
              omega
            have hi : y.length < l.length := by rw [q1]; simp
            refine ⟨y.length, hi, by simp [q1, endT, atOf], ?_⟩
            have hi2 : y.length < us.length := by omega
            have := u3 y.length hi2
            rw [Nat.zero_add] at this
            rw [← this]
            show tk2.at_ = us[y.length].at_
            have q5 : us[y.length]? = some tk2 := by
              rw [q2, ← q4]
              simp
            have q6 := (List.getElem?_eq_some_iff.1 q5).2
            rw [q6]
end Go.Proofs.YtcgkaecaddpenaaGreatDoor.L8

/- The parser's laws in plain words: where items and expressions stand. -/
namespace Go.Proofs.YtcgkaecaddpenaaGreatDoor.L8
open L7 (Tk bare lx lexT tok gap Pl)

def ordH (t : Txt) (h : Hd) (f : Int) : Bool := decide (f ≤ h.at_ ∧ h.at_ < (t.length : Int) ∧ (h.kind = 1 → h.at_ ≤ (t.length : Int) - (h.table.length : Int) ∧ (t.drop h.at_.toNat).take h.table.length = h.table))
/-- Whether the expressions in an expression stand in a text from an offset on: the offset of the last one. -/
def ordE (t : Txt) : Ex → Int → Option Int
  | .e0 h, f => if ordH t h f = true then some h.at_ else none
  | .e1 h a, f => if ordH t h f = true then ordE t a (h.at_ + 1) else none
  | .e2 h a b, f => if ordH t h f = true then (ordE t a (h.at_ + 1)).bind fun n => ordE t b (n + 1) else none
def wordI (k : Int) : Txt := (kindsW[(k - 1).toNat]?).getD []
def offH (t : Txt) (i : It) (f : Int) : Bool := decide (1 ≤ i.kind ∧ i.kind ≤ 10 ∧ f ≤ i.at_ ∧ i.at_ ≤ (t.length : Int) - ((wordI i.kind).length : Int) ∧ (t.drop i.at_.toNat).take (wordI i.kind).length = wordI i.kind)
/-- Whether the items stand in a text from an offset on. -/
def offI (t : Txt) : List It → Int → Bool
  | [], _ => true
  | i :: l, f => offH t i f && (if i.kind = 10 then (match ordE t i.ex (i.at_ + ((wordI i.kind).length : Int)) with
    | none => false
    | some n => offI t l (n + 1)) else offI t l (i.at_ + ((wordI i.kind).length : Int)))
theorem pl_suffix {t : Txt} : ∀ (x r : List Tk) (e : Nat), Pl t e (x ++ r) → ∃ e', e ≤ e' ∧ Pl t e' r
  | [], r, e, h => ⟨e, Nat.le_refl _, h⟩
  | tk :: x, r, e, h => by
    obtain ⟨k, n, h1, h2, h3, h4, h5, h6⟩ := h
    obtain ⟨e', q1, q2⟩ := pl_suffix x r (k + n) h6
    exact ⟨e', by omega, q2⟩
/-- What is read moves on. -/
theorem pl_ok {α : Type} {p : P α} (hp : Nice p) {t : Txt} {r r1 : List Tk} {a : α} {e : Nat} (hr : Sy r) (h : p r = .ok a r1) (hl : Pl t e r) : Sy r1 ∧ ∃ e', e ≤ e' ∧ Pl t e' r1 := by
  obtain ⟨x, h1, _⟩ := hp.loc r hr
  rw [h] at h1
  have h2 : r = x ++ r1 := h1
  subst h2
  exact ⟨hr.right, pl_suffix x r1 e hl⟩
/-- A name or a symbol stands where it says. -/
theorem pl_word {t : Txt} {e : Nat} {tk : Tk} {r : List Tk} (hl : Pl t e (tk :: r)) (hk : tk.kind ≠ 3) : ∃ k : Nat, tk.at_ = (k : Int) ∧ e ≤ k ∧ k < t.length ∧ k + tk.text.length ≤ t.length ∧ (t.drop k).take tk.text.length = tk.text ∧ 1 ≤ tk.text.length ∧ Pl t (k + tk.text.length) r := by
  obtain ⟨k, n, h1, h2, h3, h4, h5, h6⟩ := hl
  obtain ⟨q1, q2, _⟩ := L7.tok_ext h5
  rw [List.length_drop] at q2
  have q3 := ((L7.tok_shape h5).resolve_left (fun q => hk q.1)).2
  have q4 : tk.text = (t.drop k).take n := q3
  have q5 : tk.text.length = n := by rw [q4, List.length_take, List.length_drop]; omega
  exact ⟨k, h1, h2, h3, by omega, by rw [q5, ← q4], by omega, by rw [q5]; exact h6⟩
theorem pl_any {t : Txt} {e : Nat} {tk : Tk} {r : List Tk} (hl : Pl t e (tk :: r)) : ∃ k n : Nat, tk.at_ = (k : Int) ∧ e ≤ k ∧ k < t.length ∧ 1 ≤ n ∧ Pl t (k + n) r := by
  obtain ⟨k, n, h1, h2, h3, h4, h5, h6⟩ := hl
  exact ⟨k, n, h1, h2, h3, (L7.tok_ext h5).1, h6⟩
theorem bnd_inv {α β : Type} {p : P α} {q : α → P β} {r r2 : List Tk} {b : β} (h : (p >>= q) r = .ok b r2) : ∃ a r1, p r = .ok a r1 ∧ q a r1 = .ok b r2 := by
  rcases e : p r with ⟨a, r1⟩ | ⟨c, r1⟩
  · rw [bnd_ok e] at h
    exact ⟨a, r1, rfl, h⟩
  · rw [bnd_bad e] at h
    cases h
theorem ordH_op {t : Txt} {h : Hd} {e k : Nat} (h1 : h.at_ = (k : Int)) (h2 : h.kind ≠ 1) (h3 : e ≤ k) (h4 : k < t.length) : ordH t h (e : Int) = true := by
  unfold ordH
  rw [decide_eq_true_eq]
  exact ⟨by omega, by omega, fun q => absurd q h2⟩
theorem ord_up {t : Txt} {a : Ex} {f g : Int} {n : Int} (ha : ordE t a f = some n) (hfg : g ≤ f) : ordE t a g = some n := by
  have hH : ∀ h : Hd, ordH t h f = true → ordH t h g = true := fun h q => by
    unfold ordH at *
    rw [decide_eq_true_eq] at *
    exact ⟨by omega, q.2⟩
  cases a with
  | e0 h =>
    simp only [ordE] at ha ⊢
    split at ha
    · rename_i z
      rw [if_pos (hH _ z)]
      exact ha
    · cases ha
  | e1 h b =>
    simp only [ordE] at ha ⊢
    split at ha
    · rename_i z
      rw [if_pos (hH _ z)]
      exact ha
    · cases ha
  | e2 h b c =>
    simp only [ordE] at ha ⊢
    split at ha
    · rename_i z
      rw [if_pos (hH _ z)]
      exact ha
    · cases ha
theorem ord_expr (t : Txt) : ∀ (d : Nat) (r : List Tk) (x : Ex) (r1 : List Tk) (e : Nat), Sy r → Pl t e r → exprP d r = .ok x r1 → ∃ (n e' : Nat), ordE t x (e : Int) = some (n : Int) ∧ n < e' ∧ Pl t e' r1
  | 0, r, x, r1, e, hr, hl, h => by cases h
  | d + 1, r, x, r1, e, hr, hl, h => by
    rw [expr_eq] at h
    obtain ⟨p, r2, e1, hh⟩ := bnd_inv h; replace h := hh; clear hh
    obtain ⟨kn, r3, e2, hh⟩ := bnd_inv h; replace h := hh; clear hh
    cases r with
    | nil =>
      have : headP ([] : List Tk) = .ok kn r3 := by
        have e3 : Res.ok _ [] = Res.ok p r2 := e1
        cases e3
        exact e2
      cases this
    | cons tk r =>
      have e3 : Res.ok tk.at_ (tk :: r) = Res.ok p r2 := e1
      cases e3
      by_cases h0 : opC (tk :: r) = 0
      · by_cases hk1 : tk.kind = 1
        · rw [headP_name h0 hk1] at e2
          cases e2
          rw [if_pos rfl] at h
          have h5 : Res.ok (Ex.e0 { hk 1 tk.at_ with table := tk.text }) r3 = .ok x r1 := h
          cases h5
          obtain ⟨k, q1, q2, q3, q4, q5, q6, q7⟩ := pl_word hl (by omega)
          refine ⟨k, k + tk.text.length, ?_, by omega, q7⟩
          show (if ordH t _ _ = true then some tk.at_ else none) = _
          rw [if_pos, q1]
          unfold ordH
          rw [decide_eq_true_eq]
          refine ⟨?_, ?_, fun _ => ⟨?_, ?_⟩⟩
          · show (e : Int) ≤ tk.at_
            omega
          · show tk.at_ < _
            omega
          · show tk.at_ ≤ _ - (tk.text.length : Int)
            omega
          · show (t.drop tk.at_.toNat).take tk.text.length = tk.text
            rw [q1, Int.toNat_natCast]
            exact q5
        · rw [headP_none h0 hk1] at e2
          cases e2
      · cases r with
        | nil => exact absurd rfl h0
        | cons u r =>
          by_cases q : wordT tk ∈ opsW ∧ wordT u = [40]
          · rw [headP_op q] at e2
            cases e2
            rw [if_neg (by show ¬ ((opsW.idxOf (wordT tk) : Int) + 1 = 0); omega)] at h
            obtain ⟨k, n, q1, q2, q3, q4, q5⟩ := pl_any hl
            obtain ⟨k2, n2, q6, q7, q8, q9, q10⟩ := pl_any q5
            have hr3 : Sy r3 := fun v hv => hr v (List.mem_cons_of_mem _ (List.mem_cons_of_mem _ hv))
            obtain ⟨a, r4, e4, hh⟩ := bnd_inv h; replace h := hh; clear hh
            obtain ⟨n3, e5, o1, o2, o3⟩ := ord_expr t d r3 a r4 (k2 + n2) hr3 q10 e4
            have hr4 := (pl_ok (nice_exprP d) hr3 e4 q10).1
            obtain ⟨y, r5, e6, hh⟩ := bnd_inv h; replace h := hh; clear hh
            obtain ⟨_, r6, e7, hh⟩ := bnd_inv h; replace h := hh; clear hh
            have h6 : Res.ok y r6 = .ok x r1 := h
            cases h6
            have o4 : ordE t a (tk.at_ + 1) = some (n3 : Int) := ord_up o1 (by omega)
            have hkind : ((opsW.idxOf (wordT tk) : Int) + 1 + 1) ≠ 1 := by omega
            have hH : ∀ h : Hd, h.at_ = tk.at_ → h.kind = (opsW.idxOf (wordT tk) : Int) + 1 + 1 → ordH t h (e : Int) = true := fun h z1 z2 => ordH_op (k := k) (z1.trans q1) (by rw [z2]; exact hkind) q2 q3
            have one : ∀ h : Hd, h.at_ = tk.at_ → h.kind = (opsW.idxOf (wordT tk) : Int) + 1 + 1 → ordE t (.e1 h a) (e : Int) = some (n3 : Int) := fun h z1 z2 => by
              simp only [ordE]
              rw [if_pos (hH h z1 z2), z1]
              exact o4
            obtain ⟨_, e8, l1, l2⟩ := pl_ok (nice_opP _ _ _ (nice_exprP d)) hr4 e6 o3
            have hr5 := (pl_ok (nice_opP _ _ _ (nice_exprP d)) hr4 e6 o3).1
            obtain ⟨_, e9, l3, l4⟩ := pl_ok (nice_exp _) hr5 e7 l2
            unfold opP at e6
            split at e6
            · obtain ⟨c, r7, _, hh⟩ := bnd_inv e6; replace e6 := hh; clear hh
              have e10 : Res.ok _ r7 = .ok x r5 := e6
              cases e10
              exact ⟨n3, e9, one _ rfl rfl, by omega, l4⟩
            · split at e6
              · obtain ⟨c, r7, _, hh⟩ := bnd_inv e6; replace e6 := hh; clear hh
                have e10 : Res.ok _ r7 = .ok x r5 := e6
                cases e10
                exact ⟨n3, e9, one _ rfl rfl, by omega, l4⟩
              · split at e6
                · obtain ⟨_, r7, _, hh⟩ := bnd_inv e6; replace e6 := hh; clear hh
                  obtain ⟨_, r8, _, hh⟩ := bnd_inv e6; replace e6 := hh; clear hh
                  obtain ⟨_, r9, _, hh⟩ := bnd_inv e6; replace e6 := hh; clear hh
                  obtain ⟨_, r10, _, hh⟩ := bnd_inv e6; replace e6 := hh; clear hh
                  have e10 : Res.ok _ r10 = .ok x r5 := e6
                  cases e10
                  exact ⟨n3, e9, one _ rfl rfl, by omega, l4⟩
                · split at e6
                  · obtain ⟨_, r7, _, hh⟩ := bnd_inv e6; replace e6 := hh; clear hh
                    obtain ⟨_, r8, _, hh⟩ := bnd_inv e6; replace e6 := hh; clear hh
                    obtain ⟨_, r9, _, hh⟩ := bnd_inv e6; replace e6 := hh; clear hh
                    obtain ⟨_, r10, _, hh⟩ := bnd_inv e6; replace e6 := hh; clear hh
                    obtain ⟨_, r11, _, hh⟩ := bnd_inv e6; replace e6 := hh; clear hh
                    obtain ⟨_, r12, _, hh⟩ := bnd_inv e6; replace e6 := hh; clear hh
                    have e10 : Res.ok _ r12 = .ok x r5 := e6
                    cases e10
                    exact ⟨n3, e9, one _ rfl rfl, by omega, l4⟩
                  · obtain ⟨_, r7, c1, hh⟩ := bnd_inv e6; replace e6 := hh; clear hh
                    obtain ⟨b, r8, c2, hh⟩ := bnd_inv e6; replace e6 := hh; clear hh
                    have e10 : Res.ok _ r8 = .ok x r5 := e6
                    cases e10
                    obtain ⟨hr7, e11, l5, l6⟩ := pl_ok (nice_exp _) hr4 c1 o3
                    obtain ⟨n4, e12, o5, o6, o7⟩ := ord_expr t d r7 b r5 e11 hr7 l6 c2
                    obtain ⟨_, e13, l7, l8⟩ := pl_ok (nice_exp _) hr5 e7 o7
                    refine ⟨n4, e13, ?_, by omega, l8⟩
                    simp only [ordE]
                    rw [if_pos (hH _ rfl rfl), show (hk ((opsW.idxOf (wordT tk) : Int) + 1 + 1) tk.at_).at_ = tk.at_ from rfl, o4]
                    exact ord_up o5 (by omega)
          · exact absurd (opC_neg tk u r q) h0
/-! ### What the readers' values are. -/
def Val {α : Type} (Q : α → Prop) (p : P α) : Prop := ∀ r a r1, p r = .ok a r1 → Q a
theorem Val.bnd {α β : Type} {Q : β → Prop} {p : P α} {q : α → P β} (h : ∀ a, Val Q (q a)) : Val Q (p >>= q) := fun r b r2 e => by
  obtain ⟨a, r1, _, e2⟩ := bnd_inv e
  exact h a _ _ _ e2
theorem Val.bnd2 {α β : Type} {Q1 : α → Prop} {Q : β → Prop} {p : P α} {q : α → P β} (hp : Val Q1 p) (h : ∀ a, Q1 a → Val Q (q a)) : Val Q (p >>= q) := fun r b r2 e => by
  obtain ⟨a, r1, e1, e2⟩ := bnd_inv e
  exact h a (hp _ _ _ e1) _ _ _ e2
theorem Val.pur {α : Type} {Q : α → Prop} {a : α} (h : Q a) : Val Q (pure a : P α) := fun r b r1 e => by
  have e2 : Res.ok a r = .ok b r1 := e
  cases e2
  exact h
theorem Val.ite {α : Type} {Q : α → Prop} {c : Prop} [Decidable c] {p q : P α} (hp : c → Val Q p) (hq : ¬ c → Val Q q) : Val Q (if c then p else q) := by
  split
  · rename_i h; exact hp h
  · rename_i h; exact hq h
theorem val_attrsP (k : Int) : Val (fun i => i.kind = k) (attrsP k) := by
  unfold attrsP
  exact Val.bnd fun _ => Val.bnd fun _ => Val.bnd fun _ => Val.bnd fun _ => Val.bnd fun _ => Val.bnd fun _ => Val.pur rfl
theorem val_kindP2 (k : Int) (h1 : 1 ≤ k) (h2 : k ≤ 10) : Val (fun i => i.kind = k) (kindP2 k) := by
  unfold kindP2
  refine Val.ite (fun e => ?_) fun n1 => Val.ite (fun e => ?_) fun n2 => Val.ite (fun e => ?_) fun n3 => Val.ite (fun e => ?_) fun n4 => Val.ite (fun e => ?_) fun n5 => Val.ite (fun e => ?_) fun n6 => Val.ite (fun e => ?_) fun n7 => Val.ite (fun e => ?_) fun n8 => Val.ite (fun e => ?_) fun n9 => ?_
  · subst e; unfold tableP; repeat' first | exact Val.pur rfl | refine Val.bnd (fun _ => ?_)
  · subst e; unfold originP; repeat' first | exact Val.pur rfl | refine Val.bnd (fun _ => ?_)
  · subst e; unfold blockP; repeat' first | exact Val.pur rfl | refine Val.bnd (fun _ => ?_)
  · subst e; unfold matchP; repeat' first | exact Val.pur rfl | refine Val.bnd (fun _ => ?_)
  · subst e; unfold keepP; repeat' first | exact Val.pur rfl | refine Val.bnd (fun _ => ?_)
  · subst e; unfold uniqueP; exact Val.bnd2 (val_attrsP 6) fun i hi => Val.bnd fun _ => Val.pur hi
  · subst e; unfold dependP; exact Val.bnd2 (val_attrsP 7) fun i hi => Val.bnd fun _ => Val.bnd fun _ => Val.bnd fun _ => Val.ite (fun _ => Val.bnd fun _ => Val.bnd fun _ => Val.pur hi) fun _ => Val.bnd fun _ => Val.pur hi
  · subst e; unfold includeP; repeat' first | exact Val.pur rfl | refine Val.bnd (fun _ => ?_)
  · subst e; unfold denyP; repeat' first | exact Val.pur rfl | refine Val.bnd (fun _ => ?_)
  · obtain rfl : k = 10 := by omega
    unfold queryP; repeat' first | exact Val.pur rfl | refine Val.bnd (fun _ => ?_)
theorem one_word {l : List Txt} {r r1 : List Tk} {k : Int} (h : oneP l r = .ok k r1) : ∃ t, r = t :: r1 ∧ l[(k - 1).toNat]? = some (wordT t) ∧ 1 ≤ k ∧ k ≤ l.length := by
  unfold oneP at h
  split at h
  · rename_i q
    cases r with
    | nil => exact absurd rfl q.2
    | cons t r =>
      cases h
      have hl := List.idxOf_lt_length_iff.2 q.1
      refine ⟨t, rfl, ?_, by omega, by omega⟩
      rw [show ((l.idxOf (headW (t :: r)) : Int) + 1 - 1).toNat = l.idxOf (headW (t :: r)) by omega, List.getElem?_eq_getElem hl]
      exact congrArg some (List.getElem_idxOf hl)
  · cases h
/-- P8.5. -/
theorem off_items (t : Txt) : ∀ (k : Nat) (r : List Tk) (is : List It) (f : Int) (e : Nat), f ≤ (e : Int) → Sy r → Pl t e r → itemsP k r = .ok is [] → offI t is f = true
  | 0, r, is, f, e, hf, hr, hl, h => by
    have h2 : (if r = [] then Res.ok [] r else Res.bad true r) = .ok is [] := h
    split at h2
    · cases h2
      rfl
    · cases h2
  | k + 1, r, is, f, e, hf, hr, hl, h => by
    by_cases e0 : r = []
    · subst e0
      rw [items_nil] at h
      cases h
      rfl
    · rw [items_run e0] at h
      obtain ⟨i, r2, e1, hh⟩ := bnd_inv h; replace h := hh; clear hh
      obtain ⟨js, r3, e2, hh⟩ := bnd_inv h; replace h := hh; clear hh
      have h4 : Res.ok (i :: js) r3 = .ok is [] := h
      cases h4
      have hr2 := (pl_ok nice_itemP hr e1 hl).1
      unfold itemP at e1
      obtain ⟨p, r4, a1, hh⟩ := bnd_inv e1; replace e1 := hh; clear hh
      obtain ⟨K, r5, a2, hh⟩ := bnd_inv e1; replace e1 := hh; clear hh
      obtain ⟨i0, r6, a3, hh⟩ := bnd_inv e1; replace e1 := hh; clear hh
      have e3 : Res.ok { i0 with at_ := p } r6 = .ok i r2 := e1
      cases e3
      obtain ⟨tk, rfl, b1, b2, b3⟩ := one_word a2
      have e4 : r = tk :: r5 ∧ p = tk.at_ := by
        cases r with
        | nil => cases a1
        | cons v r =>
          cases a1
          exact ⟨rfl, rfl⟩
      obtain ⟨rfl, rfl⟩ := e4
      have b4 : K ≤ 10 := b3
      have hkind := val_kindP2 K b2 b4 _ _ _ a3
      have hw : wordI K = wordT tk := by unfold wordI; rw [b1]; rfl
      have hne : wordT tk ≠ [] := by
        intro z
        rw [z] at b1
        exact absurd (List.mem_of_getElem? b1) (by decide)
      have htx : wordT tk = tk.text ∧ tk.kind ≠ 3 := by
        unfold wordT at hne ⊢
        split
        · rename_i z
          exact ⟨rfl, by omega⟩
        · rename_i z
          rw [if_neg z] at hne
          exact absurd rfl hne
      obtain ⟨n, q1, q2, q3, q4, q5, q6, q7⟩ := pl_word hl htx.2
      have hr5 : Sy r5 := fun v hv => hr v (by simp [hv])
      obtain ⟨_, e6, l1, l2⟩ := pl_ok (nice_kindP2 K) hr5 a3 q7
      have hH : offH t { i0 with at_ := tk.at_ } f = true := by
        unfold offH
        rw [decide_eq_true_eq]
        show 1 ≤ i0.kind ∧ i0.kind ≤ 10 ∧ f ≤ tk.at_ ∧ tk.at_ ≤ _ - ((wordI i0.kind).length : Int) ∧ (t.drop tk.at_.toNat).take (wordI i0.kind).length = wordI i0.kind
        rw [hkind, hw, htx.1, q1, Int.toNat_natCast]
        exact ⟨b2, b4, by omega, by omega, q5⟩
      unfold offI
      rw [hH, Bool.true_and]
      show (if i0.kind = 10 then _ else offI t js (tk.at_ + ((wordI i0.kind).length : Int))) = true
      by_cases h10 : i0.kind = 10
      · rw [if_pos h10]
        obtain rfl : K = 10 := by omega
        have a4 : queryP r5 = .ok i0 r2 := a3
        unfold queryP at a4
        obtain ⟨nm, r7, c1, hh⟩ := bnd_inv a4; replace a4 := hh; clear hh
        obtain ⟨_, r8, c2, hh⟩ := bnd_inv a4; replace a4 := hh; clear hh
        obtain ⟨x, r9, c3, hh⟩ := bnd_inv a4; replace a4 := hh; clear hh
        obtain ⟨_, r10, c4, hh⟩ := bnd_inv a4; replace a4 := hh; clear hh
        have a5 : Res.ok _ r10 = .ok i0 r2 := a4
        cases a5
        obtain ⟨s1, d1, m1, m2⟩ := pl_ok nice_nameP hr5 c1 q7
        obtain ⟨s2, d2, m3, m4⟩ := pl_ok (nice_exp _) s1 c2 m2
        obtain ⟨n2, d3, o1, o2, o3⟩ := ord_expr t 12 r8 x r9 d2 s2 m4 c3
        have s3 := (pl_ok (nice_exprP 12) s2 c3 m4).1
        obtain ⟨_, d4, m5, m6⟩ := pl_ok (nice_exp _) s3 c4 o3
        have o4 : ordE t x (tk.at_ + ((wordI 10).length : Int)) = some (n2 : Int) := by
          refine ord_up o1 ?_
          rw [hw, htx.1]
          omega
        show (match ordE t x (tk.at_ + ((wordI 10).length : Int)) with
          | none => false
          | some n => offI t js (n + 1)) = true
        rw [o4]
        exact off_items t k r2 js _ d4 (by omega) hr2 m6 e2
      · rw [if_neg h10]
        exact off_items t k r2 js _ e6 (by rw [hkind, hw, htx.1]; omega) hr2 l2 e2
theorem offsets_math {t : Txt} {a : List It} {x : Int} (h : parseT t = (a, 0, x)) : offI t a 0 = true := by
  obtain ⟨l, p1, p2, p3, _, p4, p5, p6⟩ := parse_ok h
  exact off_items t 200 l a 0 0 (by omega) p4 (L7.places_math t l 0 (by omega) p2) p3
end Go.Proofs.YtcgkaecaddpenaaGreatDoor.L8

