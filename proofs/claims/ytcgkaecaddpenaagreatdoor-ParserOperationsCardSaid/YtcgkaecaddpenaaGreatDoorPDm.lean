import Derived.Test.YtcgkaecaddpenaaGreatDoorPLaw
/- The parser's laws in plain words: operations on expressions. -/
namespace Go.Proofs.YtcgkaecaddpenaaGreatDoor.L8
open L7 (Tk bare lx lexT tok tkOf gap Good)

def depE : Ex → Nat
  | .e0 _ => 1
  | .e1 _ a => depE a + 1
  | .e2 _ a b => max (depE a) (depE b) + 1
theorem dep_pos (x : Ex) : 1 ≤ depE x := by cases x <;> simp [depE]
theorem opP_same (k at_ : Int) (a : Ex) (e e' : P Ex) (h : k = 2 ∨ k = 3 ∨ k = 7 ∨ k = 8) : opP k at_ a e = opP k at_ a e' := by
  rcases h with rfl | rfl | rfl | rfl <;> rfl
theorem opP_two (k at_ : Int) (a : Ex) (e : P Ex) (h : ¬ (k = 2 ∨ k = 3 ∨ k = 7 ∨ k = 8)) : opP k at_ a e = (do let _ ← expP [44]; let b ← e; pure (.e2 (hk k at_) a b) : P Ex) := by
  unfold opP
  rw [if_neg (by omega), if_neg (by omega), if_neg (by omega), if_neg (by omega)]
theorem val_op1 (k at_ : Int) (a : Ex) (e : P Ex) (h : k = 2 ∨ k = 3 ∨ k = 7 ∨ k = 8) : Val (fun x => depE x = depE a + 1) (opP k at_ a e) := by
  rcases h with rfl | rfl | rfl | rfl
  · exact Val.bnd fun _ => Val.pur rfl
  · exact Val.bnd fun _ => Val.pur rfl
  · exact Val.bnd fun _ => Val.bnd fun _ => Val.bnd fun _ => Val.bnd fun _ => Val.pur rfl
  · exact Val.bnd fun _ => Val.bnd fun _ => Val.bnd fun _ => Val.bnd fun _ => Val.bnd fun _ => Val.bnd fun _ => Val.pur rfl
/-- An operation's reading, with its steps. -/
theorem expr_inv {d : Nat} {r r1 : List Tk} {x : Ex} (h : exprP (d + 1) r = .ok x r1) :
    (∃ t, r = t :: r1 ∧ t.kind = 1 ∧ opC r = 0 ∧ x = .e0 { hk 1 t.at_ with table := t.text }) ∨
    ∃ t u r3 a r4 r5, r = t :: u :: r3 ∧ (wordT t ∈ opsW ∧ wordT u = [40]) ∧ exprP d r3 = .ok a r4 ∧ opP ((opsW.idxOf (wordT t) : Int) + 1 + 1) t.at_ a (exprP d) r4 = .ok x r5 ∧ expP [41] r5 = .ok () r1 := by
  rw [expr_eq] at h
  obtain ⟨p, r2, e1, hh⟩ := bnd_inv h; replace h := hh; clear hh
  obtain ⟨kn, r3, e2, hh⟩ := bnd_inv h; replace h := hh; clear hh
  cases r with
  | nil =>
    have : headP ([] : List Tk) = .ok kn r3 := by
      have e3 : Res.ok _ [] = Res.ok p r2 := e1
      cases e3
      exact e2
    cases this
  | cons tk r =>
    have e3 : Res.ok tk.at_ (tk :: r) = Res.ok p r2 := e1
    cases e3
    by_cases h0 : opC (tk :: r) = 0
    · by_cases hk1 : tk.kind = 1
      · rw [headP_name h0 hk1] at e2
        cases e2
        rw [if_pos rfl] at h
        have h5 : Res.ok (Ex.e0 { hk 1 tk.at_ with table := tk.text }) r3 = .ok x r1 := h
        cases h5
        exact .inl ⟨tk, rfl, hk1, h0, rfl⟩
      · rw [headP_none h0 hk1] at e2
        cases e2
    · cases r with
      | nil => exact absurd rfl h0
      | cons u r =>
        by_cases q : wordT tk ∈ opsW ∧ wordT u = [40]
        · rw [headP_op q] at e2
          cases e2
          rw [if_neg (by show ¬ ((opsW.idxOf (wordT tk) : Int) + 1 = 0); omega)] at h
          obtain ⟨a, r4, e4, hh⟩ := bnd_inv h; replace h := hh; clear hh
          obtain ⟨y, r5, e6, hh⟩ := bnd_inv h; replace h := hh; clear hh
          obtain ⟨_, r6, e7, hh⟩ := bnd_inv h; replace h := hh; clear hh
          have h6 : Res.ok y r6 = .ok x r1 := h
          cases h6
          exact .inr ⟨tk, u, r3, a, r4, r5, rfl, q, e4, e6, e7⟩
        · exact absurd (opC_neg tk u r q) h0
theorem expr_tab {d : Nat} {t : Tk} {r : List Tk} (hk1 : t.kind = 1) (h0 : opC (t :: r) = 0) : exprP (d + 1) (t :: r) = .ok (.e0 { hk 1 t.at_ with table := t.text }) r := by
  rw [expr_eq, bnd_ok (show atP (t :: r) = .ok t.at_ (t :: r) from rfl), bnd_ok (headP_name h0 hk1), if_pos rfl]
  rfl
theorem expr_op {d : Nat} {t u : Tk} {r3 : List Tk} (q : wordT t ∈ opsW ∧ wordT u = [40]) :
    exprP (d + 1) (t :: u :: r3) = (do
      let a ← exprP d
      let x ← opP ((opsW.idxOf (wordT t) : Int) + 1 + 1) t.at_ a (exprP d)
      let _ ← expP [41]
      pure x : P Ex) r3 := by
  rw [expr_eq, bnd_ok (show atP (t :: u :: r3) = .ok t.at_ (t :: u :: r3) from rfl), bnd_ok (headP_op q), if_neg (by show ¬ ((opsW.idxOf (wordT t) : Int) + 1 = 0); omega)]
theorem expr_op_ok {d : Nat} {t u : Tk} {r3 r4 r5 r1 : List Tk} {a x : Ex} (q : wordT t ∈ opsW ∧ wordT u = [40]) (h1 : exprP d r3 = .ok a r4) (h2 : opP ((opsW.idxOf (wordT t) : Int) + 1 + 1) t.at_ a (exprP d) r4 = .ok x r5) (h3 : expP [41] r5 = .ok () r1) :
    exprP (d + 1) (t :: u :: r3) = .ok x r1 := by
  rw [expr_op q, bnd_ok h1, bnd_ok h2, bnd_ok h3]
  rfl
/-- With fewer levels. -/
theorem expr_down : ∀ (d : Nat) (r : List Tk) (x : Ex) (r1 : List Tk), exprP (d + 1) r = .ok x r1 → depE x ≤ d → exprP d r = .ok x r1
  | 0, r, x, r1, h, hd => by have := dep_pos x; omega
  | d + 1, r, x, r1, h, hd => by
    rcases expr_inv h with ⟨t, rfl, hk1, h0, rfl⟩ | ⟨t, u, r3, a, r4, r5, rfl, q, e1, e2, e3⟩
    · exact expr_tab hk1 h0
    · by_cases hop : ((opsW.idxOf (wordT t) : Int) + 1 + 1 = 2 ∨ (opsW.idxOf (wordT t) : Int) + 1 + 1 = 3 ∨ (opsW.idxOf (wordT t) : Int) + 1 + 1 = 7 ∨ (opsW.idxOf (wordT t) : Int) + 1 + 1 = 8)
      · have h1 := val_op1 _ t.at_ a (exprP (d + 1)) hop _ _ _ e2
        rw [opP_same _ _ _ _ (exprP d) hop] at e2
        exact expr_op_ok q (expr_down d r3 a r4 e1 (by omega)) e2 e3
      · rw [opP_two _ _ _ _ hop] at e2
        obtain ⟨_, r7, c1, hh⟩ := bnd_inv e2
        obtain ⟨b, r8, c2, hh2⟩ := bnd_inv hh
        have e10 : Res.ok _ r8 = .ok x r5 := hh2
        cases e10
        simp only [depE] at hd
        refine expr_op_ok q (expr_down d r3 a r4 e1 (by omega)) ?_ e3
        rw [opP_two _ _ _ _ hop, bnd_ok c1, bnd_ok (expr_down d r7 b r5 c2 (by omega))]
        rfl
/-- What stands behind an expression does not matter, unless it opens a bracket. -/
theorem expr_end (d : Nat) (r : List Tk) (x : Ex) (r1 : List Tk) (hr : Sy r) (h : exprP d r = .ok x r1) : ∃ X, r = X ++ r1 ∧ ∀ y, Sy y → headW y ≠ [40] → exprP d (X ++ y) = .ok x y := by
  cases d with
  | zero => cases h
  | succ d =>
    rcases expr_inv h with ⟨t, rfl, hk1, h0, rfl⟩ | ⟨t, u, r3, a, r4, r5, rfl, q, e1, e2, e3⟩
    · refine ⟨[t], rfl, fun y _ hy => expr_tab hk1 ?_⟩
      cases y with
      | nil => rfl
      | cons v y => exact opC_neg t v y (fun z => hy z.2)
    · rw [expr_op q] at h
      have hs : Str (do
        let a ← exprP d
        let x ← opP ((opsW.idxOf (wordT t) : Int) + 1 + 1) t.at_ a (exprP d)
        let _ ← expP [41]
        pure x : P Ex) := Str.bnd (nice_exprP d) fun a => Str.bnd (nice_opP _ _ _ (nice_exprP d)) fun x => Str.semi
      obtain ⟨X, x1, _, x3⟩ := hs r3 x r1 (fun v hv => hr v (List.mem_cons_of_mem _ (List.mem_cons_of_mem _ hv))) h
      refine ⟨t :: u :: X, by rw [x1]; rfl, fun y sy _ => ?_⟩
      show exprP (d + 1) (t :: u :: (X ++ y)) = _
      rw [expr_op q]
      exact x3 y sy
/-- An expression, wherever its tokens stand and whatever is behind it. -/
theorem expr_move {T T2 y : List Tk} {sc : Tk} {x : Ex} {d : Nat} (hT : Sy (T ++ [sc])) (h : exprP d (T ++ [sc]) = .ok x [sc]) (hb : T2.map bare = T.map bare) (sy : Sy y) (hy : headW y ≠ [40]) :
    ∃ x2, exprP d (T2 ++ y) = .ok x2 y ∧ era x2 = era x := by
  obtain ⟨X, x1, x2⟩ := expr_end d _ x _ hT h
  have e : X = T := (List.append_cancel_right x1).symm
  subst e
  have h1 := x2 y sy hy
  have c1 := com_exprP d (X ++ y)
  have c2 := com_exprP d (T2 ++ y)
  rw [List.map_append, hb, ← List.map_append, c1, h1] at c2
  have hT2 : Sy (T2 ++ y) := (sy_bare hb hT.left).app sy
  rcases e2 : exprP d (T2 ++ y) with ⟨z, r⟩ | ⟨b, r⟩
  · rw [e2] at c2
    simp only [rmap, Res.ok.injEq] at c2
    obtain ⟨c3, c4⟩ := c2
    obtain ⟨Y, y1, _⟩ := (nice_exprP d).loc (T2 ++ y) hT2
    rw [e2] at y1
    have y2 : T2 ++ y = Y ++ r := y1
    have hlen : y.length = r.length := by have := congrArg List.length c4; simpa using this
    have := (List.append_inj' y2 hlen).2
    subst this
    exact ⟨z, rfl, c3.symm⟩
  · rw [e2] at c2
    cases c2
/-! ### The texts. -/
theorem tok_one (c : UInt8) (hc : c = 59 ∨ c = 44 ∨ c = 40 ∨ c = 41) (x : List UInt8) : tok ([c] ++ x) = ((4, [c], 0), [c].length, 0) := by
  have h1 : L7.symN (c :: x) = 1 := by
    rw [L7.symN_cons, if_neg, if_pos]
    · rcases hc with rfl | rfl | rfl | rfl <;> decide
    · rintro ⟨_, q⟩
      rcases hc with rfl | rfl | rfl | rfl <;> revert q <;> decide
  show tok (c :: x) = _
  rw [L7.tok_sym (by rcases hc with rfl | rfl | rfl | rfl <;> decide) (by rcases hc with rfl | rfl | rfl | rfl <;> decide) (by rcases hc with rfl | rfl | rfl | rfl <;> decide), h1]
  rfl
def qpre : Txt := [113, 117, 101, 114, 121, 32, 113, 32, 61, 32]
theorem lx_qpre (z : Txt) : lx (qpre ++ z) 0 = (⟨1, [113, 117, 101, 114, 121], 0, 0⟩ :: ⟨1, [113], 0, 6⟩ :: ⟨4, [61], 0, 8⟩ :: (lx z 10).1, (lx z 10).2) := by
  have g : ∀ x : List UInt8, Good (32 :: x) := L7.good32
  show lx ([113, 117, 101, 114, 121] ++ (32 :: ([113] ++ (32 :: ([61] ++ 32 :: z))))) 0 = _
  rw [L7.lx_one (t := (1, [113, 117, 101, 114, 121], 0)) (L7.tok_app (by decide) (g _)), L7.lx_blank, L7.lx_one (t := (1, [113], 0)) (L7.tok_app (by decide) (g _)), L7.lx_blank, L7.lx_one (t := (4, [61], 0)) (L7.tok_app (by decide) (g _)), L7.lx_blank]
  rfl
theorem lx_nl {one : Txt} {T : List Tk} (h : lx one 0 = (T, 0, 0)) (p : Nat) (rest : Txt) : ∃ T2, T2.map bare = T.map bare ∧ lx (one ++ 10 :: rest) p = (T2 ++ (lx rest (p + one.length + 1)).1, (lx rest (p + one.length + 1)).2) := by
  have hb := L7.lx_bare one p 0
  rw [h] at hb
  refine ⟨(lx one p).1, hb.1, ?_⟩
  rw [L7.lx_app one.length one (10 :: rest) p _ (Nat.le_refl _) (L7.lx_ok hb.2) (fun s hs => by simp at hs; subst hs; decide) ⟨_, L7.gap_nl rest⟩]
  have e := L7.lx_line (G := []) rfl rest (p + one.length)
  rw [List.nil_append] at e
  rw [e]
  rfl
theorem lx_moved {r : Txt} {K : List Tk} (h : lx r 0 = (K, 0, 0)) (p : Nat) : lx r p = (K.map (L7.sh p), 0, 0) := by
  have := L7.lx_shift r.length r 0 p (Nat.le_refl _)
  rw [Nat.zero_add, h] at this
  rw [this]
  simp
/-- A text that is an expression, as it is found. -/
structure IsE (one : Txt) (x : Ex) : Prop where
  len : one.length ≤ 1000
  ok : ∃ T sc x0, lx one 0 = (T, 0, 0) ∧ Sy (T ++ [sc]) ∧ exprP 11 (T ++ [sc]) = .ok x0 [sc] ∧ era x0 = era x
theorem isE_of {one : Txt} {i : It} {y : Int} (hl : one.length ≤ 1000) (h : parseT (qpre ++ (one ++ [10, 59])) = ([i], 0, y)) (hd : depE i.ex ≤ 11) : IsE one i.ex := by
  obtain ⟨l, p1, p2, p3, _, p4, p5, p6⟩ := parse_ok h
  rw [lx_qpre] at p2
  have h0 : (lx (one ++ 10 :: [59]) 10).2.1 = 0 := by
    have := congrArg (fun q => q.2.1) p2
    exact this
  have h1 : (lx one 10).2.1 = 0 := by
    rcases Decidable.em ((lx one 10).2.1 = 0) with q | q
    · exact q
    · exact absurd h0 (L7.lx_nl_bad one.length one [59] 10 (Nat.le_refl _) q)
  have h2 := L7.lx_bare one 10 0
  have h3 : lx one 0 = ((lx one 0).1, 0, 0) := L7.lx_ok (by rw [← h2.2]; exact h1)
  obtain ⟨T, hT⟩ : ∃ T, (lx one 0).1 = T := ⟨_, rfl⟩
  rw [hT] at h3
  obtain ⟨T2, b1, b2⟩ := lx_nl h3 10 [59]
  have b3 : lx [59] (10 + one.length + 1) = ([⟨4, [59], 0, ((10 + one.length + 1 : Nat) : Int)⟩], 0, 0) := by
    have := lx_moved (r := [59]) (K := [⟨4, [59], 0, 0⟩]) (by decide +kernel) (10 + one.length + 1)
    rw [this]
    simp [L7.sh]
  obtain ⟨sc, hsc⟩ : ∃ sc : Tk, sc = ⟨4, [59], 0, ((10 + one.length + 1 : Nat) : Int)⟩ := ⟨_, rfl⟩
  rw [← hsc] at b3
  rw [b3] at b2
  have p7 : l = ⟨1, [113, 117, 101, 114, 121], 0, 0⟩ :: ⟨1, [113], 0, 6⟩ :: ⟨4, [61], 0, 8⟩ :: (T2 ++ [sc]) := by
    have q : _ :: _ :: _ :: (lx (one ++ 10 :: [59]) 10).1 = l := congrArg Prod.fst p2
    rw [← q, b2]
  subst p7
  have hsy : Sy (T2 ++ [sc]) := fun v hv => p4 v (by simp at hv ⊢; exact .inr (.inr (.inr hv)))
  rw [items_run (by simp)] at p3
  obtain ⟨i0, r2, e1, e2⟩ := bnd_inv p3
  obtain ⟨js, r3, e3, e4⟩ := bnd_inv e2
  have e5 : Res.ok (i0 :: js) r3 = .ok [i] [] := e4
  cases e5
  have hr2 : r2 = [] := by
    by_cases q : r2 = []
    · exact q
    · rw [show (199 : Nat) = 198 + 1 from rfl, items_run q] at e3
      obtain ⟨i0, r4, _, e5⟩ := bnd_inv e3
      obtain ⟨js, r5, _, e6⟩ := bnd_inv e5
      have e7 : Res.ok (i0 :: js) r5 = .ok [] [] := e6
      cases e7
  subst hr2
  unfold itemP at e1
  obtain ⟨p, r4, a1, a2⟩ := bnd_inv e1
  cases a1
  obtain ⟨K, r5, a3, a4⟩ := bnd_inv a2
  have a5 : Res.ok (10 : Int) (⟨1, [113], 0, 6⟩ :: ⟨4, [61], 0, 8⟩ :: (T2 ++ [sc])) = .ok K r5 := a3
  cases a5
  obtain ⟨i1, r6, a6, a7⟩ := bnd_inv a4
  have a8 : Res.ok _ r6 = .ok i [] := a7
  cases a8
  have a9 : queryP (⟨1, [113], 0, 6⟩ :: ⟨4, [61], 0, 8⟩ :: (T2 ++ [sc])) = .ok i1 [] := a6
  unfold queryP at a9
  obtain ⟨nm, r7, c1, c2⟩ := bnd_inv a9
  have c3 : Res.ok [113] (⟨4, [61], 0, 8⟩ :: (T2 ++ [sc])) = .ok nm r7 := c1
  cases c3
  obtain ⟨_, r8, c4, c5⟩ := bnd_inv c2
  have c6 : Res.ok () (T2 ++ [sc]) = .ok _ r8 := c4
  cases c6
  obtain ⟨x, r9, c7, c8⟩ := bnd_inv c5
  obtain ⟨_, r10, c9, c10⟩ := bnd_inv c8
  have c11 : Res.ok _ r10 = .ok i1 [] := c10
  cases c11
  have hx : depE x ≤ 11 := hd
  have d1 := expr_down 11 _ x r9 c7 hx
  have d2 : r9 = [sc] := by
    obtain ⟨X, x1, _⟩ := (nice_exprP 11).loc _ hsy
    rw [d1] at x1
    have x2 : T2 ++ [sc] = X ++ r9 := x1
    unfold expP at c9
    split at c9
    · rename_i q
      have c12 : r9.tail = [] := by
        have := congrArg rst c9
        exact this
      cases r9 with
      | nil => exact absurd rfl q.2
      | cons v r9 =>
        have : r9 = [] := c12
        subst this
        have := (List.append_inj' x2 rfl).2
        exact this.symm
    · cases c9
  subst d2
  obtain ⟨X, x1, x2⟩ := expr_end 11 _ x _ hsy d1
  have e : X = T2 := (List.append_cancel_right x1).symm
  subst e
  -- at the offset 0
  have s1 : Sy (T ++ [sc]) := (sy_bare b1.symm hsy.left).app hsy.right
  obtain ⟨x3, y1, y2⟩ := expr_move (T2 := T) (y := [sc]) hsy d1 b1.symm hsy.right (by rw [hsc]; simp [headW, wordT])
  exact ⟨hl, T, sc, x3, h3, s1, y1, y2⟩
/-- A program that is one operation: its beginning is read. -/
theorem op_lex {w one : Txt} {T : List Tk} (hw : tok w = ((1, w, 0), w.length, 0)) (h : lx one 0 = (T, 0, 0)) (rest : Txt) :
    ∃ T2 p, T2.map bare = T.map bare ∧ lx (qpre ++ (w ++ 40 :: (one ++ 10 :: rest))) 0 = (⟨1, [113, 117, 101, 114, 121], 0, 0⟩ :: ⟨1, [113], 0, 6⟩ :: ⟨4, [61], 0, 8⟩ :: ⟨1, w, 0, 10⟩ :: ⟨4, [40], 0, ((10 + w.length : Nat) : Int)⟩ :: (T2 ++ (lx rest p).1), (lx rest p).2) := by
  obtain ⟨T2, b1, b2⟩ := lx_nl h (10 + w.length + 1) rest
  refine ⟨T2, 10 + w.length + 1 + one.length + 1, b1, ?_⟩
  rw [lx_qpre, L7.lx_one (t := (1, w, 0)) (L7.tok_app hw (fun s hs => by simp at hs; subst hs; decide))]
  have e := L7.lx_one (p := 10 + w.length) (tok_one 40 (by decide) (one ++ 10 :: rest))
  rw [List.singleton_append] at e
  rw [e]
  show (_ :: _ :: _ :: _ :: _ :: (lx (one ++ 10 :: rest) (10 + w.length + 1)).1, (lx (one ++ 10 :: rest) (10 + w.length + 1)).2) = _
  rw [b2]
  rfl
/-- A program of one query, whose expression is an operation. -/
theorem op_items {w : Txt} {a : Int} {R Y : List Tk} {z x : Ex} {q1 q2 : Int} (hw : w ∈ opsW) (h1 : exprP 11 R = .ok x Y) (h2 : opP ((opsW.idxOf w : Int) + 1 + 1) 10 x (exprP 11) Y = .ok z [⟨4, [41], 0, q1⟩, ⟨4, [59], 0, q2⟩]) :
    itemsP 200 (⟨1, [113, 117, 101, 114, 121], 0, 0⟩ :: ⟨1, [113], 0, 6⟩ :: ⟨4, [61], 0, 8⟩ :: ⟨1, w, 0, 10⟩ :: ⟨4, [40], 0, a⟩ :: R) = .ok [{ iz 10 [113] with ex := z }] [] := by
  have e1 : exprP 12 (⟨1, w, 0, 10⟩ :: ⟨4, [40], 0, a⟩ :: R) = .ok z [⟨4, [59], 0, q2⟩] := expr_op_ok ⟨hw, rfl⟩ h1 h2 rfl
  have e2 : queryP (⟨1, [113], 0, 6⟩ :: ⟨4, [61], 0, 8⟩ :: ⟨1, w, 0, 10⟩ :: ⟨4, [40], 0, a⟩ :: R) = .ok { iz 10 [113] with ex := z } [] := by
    unfold queryP
    rw [bnd_ok (show nameP (⟨1, [113], 0, 6⟩ :: ⟨4, [61], 0, 8⟩ :: ⟨1, w, 0, 10⟩ :: ⟨4, [40], 0, a⟩ :: R) = .ok [113] (⟨4, [61], 0, 8⟩ :: ⟨1, w, 0, 10⟩ :: ⟨4, [40], 0, a⟩ :: R) from rfl),
      bnd_ok (show expP [61] (⟨4, [61], 0, 8⟩ :: ⟨1, w, 0, 10⟩ :: ⟨4, [40], 0, a⟩ :: R) = .ok () (⟨1, w, 0, 10⟩ :: ⟨4, [40], 0, a⟩ :: R) from rfl), bnd_ok e1,
      bnd_ok (show expP [59] [⟨4, [59], 0, q2⟩] = .ok () [] from rfl)]
    rfl
  rw [items_run (by simp)]
  have e3 : itemP (⟨1, [113, 117, 101, 114, 121], 0, 0⟩ :: ⟨1, [113], 0, 6⟩ :: ⟨4, [61], 0, 8⟩ :: ⟨1, w, 0, 10⟩ :: ⟨4, [40], 0, a⟩ :: R) = .ok { iz 10 [113] with ex := z } [] := by
    unfold itemP
    rw [bnd_ok (show atP (⟨1, [113, 117, 101, 114, 121], 0, 0⟩ :: ⟨1, [113], 0, 6⟩ :: ⟨4, [61], 0, 8⟩ :: ⟨1, w, 0, 10⟩ :: ⟨4, [40], 0, a⟩ :: R) = .ok 0 _ from rfl),
      bnd_ok (show oneP kindsW (⟨1, [113, 117, 101, 114, 121], 0, 0⟩ :: ⟨1, [113], 0, 6⟩ :: ⟨4, [61], 0, 8⟩ :: ⟨1, w, 0, 10⟩ :: ⟨4, [40], 0, a⟩ :: R) = .ok 10 (⟨1, [113], 0, 6⟩ :: ⟨4, [61], 0, 8⟩ :: ⟨1, w, 0, 10⟩ :: ⟨4, [40], 0, a⟩ :: R) from rfl),
      bnd_ok (show kindP2 10 (⟨1, [113], 0, 6⟩ :: ⟨4, [61], 0, 8⟩ :: ⟨1, w, 0, 10⟩ :: ⟨4, [40], 0, a⟩ :: R) = _ from e2)]
    rfl
  rw [bnd_ok e3, bnd_ok (items_nil _)]
  rfl
/-- Of an operation with one kid. -/
theorem op1_math {w one rest : Txt} {x : Ex} {K : List Tk} (hw : w ∈ opsW) (htok : tok w = ((1, w, 0), w.length, 0)) (hE : IsE one x) (hr : rest.length ≤ 1000) (hK : lx rest 0 = (K, 0, 0)) (hne : headW K ≠ [40])
    {f : Ex → Ex} (hf : ∀ x0 : Ex, ∀ p : Nat, ∃ q1 q2, opP ((opsW.idxOf w : Int) + 1 + 1) 10 x0 (exprP 11) (K.map (L7.sh p)) = .ok (f x0) [⟨4, [41], 0, q1⟩, ⟨4, [59], 0, q2⟩]) (hera : ∀ x0 x1 : Ex, era x0 = era x1 → era (f x0) = era (f x1)) :
    ∃ i, parseT (qpre ++ (w ++ 40 :: (one ++ 10 :: rest))) = ([i], 0, 0) ∧ era i.ex = era (f x) := by
  obtain ⟨hl, T, sc, x0, h1, h2, h3, h4⟩ := hE
  obtain ⟨T2, p, b1, b2⟩ := op_lex htok h1 rest
  rw [lx_moved hK p] at b2
  have hsy : Sy (K.map (L7.sh p)) := by
    have := sy_lx rest.length rest 0 (Nat.le_refl _)
    rw [hK] at this
    exact sy_bare (L7.bare_sh p K) this
  obtain ⟨x2, c1, c2⟩ := expr_move (T2 := T2) h2 h3 b1 hsy (by rw [← headW_bare, L7.bare_sh, headW_bare]; exact hne)
  obtain ⟨q1, q2, c3⟩ := hf x2 p
  have hwl : w.length ≤ 10 := by
    have : ∀ w ∈ opsW, w.length ≤ 10 := by decide
    exact this w hw
  have hlen : (qpre ++ (w ++ 40 :: (one ++ 10 :: rest))).length ≤ 5000 := by simp [qpre]; omega
  have hc := L7.lx_count _ (qpre ++ (w ++ 40 :: (one ++ 10 :: rest))) 0 (Nat.le_refl _)
  rw [b2] at hc
  have c4 := lexT_of b2 (Nat.le_trans hc hlen) (by omega)
  refine ⟨{ iz 10 [113] with ex := f x2 }, ?_, hera x2 x (c2.trans h4)⟩
  rw [parse_lex c4, op_items hw c1 c3]
  rfl
/-- Of an operation with two kids. -/
theorem op2_math {w one two : Txt} {x y : Ex} (hw : w ∈ opsW) (hk2 : ¬ ((opsW.idxOf w : Int) + 1 + 1 = 2 ∨ (opsW.idxOf w : Int) + 1 + 1 = 3 ∨ (opsW.idxOf w : Int) + 1 + 1 = 7 ∨ (opsW.idxOf w : Int) + 1 + 1 = 8)) (htok : tok w = ((1, w, 0), w.length, 0)) (hE : IsE one x) (hF : IsE two y) :
    ∃ i, parseT (qpre ++ (w ++ 40 :: (one ++ 10 :: (44 :: (two ++ [10, 41, 59]))))) = ([i], 0, 0) ∧ era i.ex = .e2 (hk ((opsW.idxOf w : Int) + 1 + 1) 0) (era x) (era y) := by
  obtain ⟨hl, T, sc, x0, h1, h2, h3, h4⟩ := hE
  obtain ⟨gl, U, sd, y0, g1, g2, g3, g4⟩ := hF
  obtain ⟨T2, p, b1, b2⟩ := op_lex htok h1 (44 :: (two ++ [10, 41, 59]))
  have e := L7.lx_one (p := p) (tok_one 44 (by decide) (two ++ 10 :: [41, 59]))
  obtain ⟨U2, d1, d2⟩ := lx_nl g1 (p + 1) [41, 59]
  have d3 := lx_moved (r := [41, 59]) (K := [⟨4, [41], 0, 0⟩, ⟨4, [59], 0, 1⟩]) (by decide +kernel) (p + 1 + two.length + 1)
  rw [d3] at d2
  rw [List.singleton_append] at e
  have e2 : lx (44 :: (two ++ [10, 41, 59])) p = (tkOf (4, [44], 0) p :: (U2 ++ List.map (L7.sh (p + 1 + two.length + 1)) [⟨4, [41], 0, 0⟩, ⟨4, [59], 0, 1⟩]), 0, 0) := by
    refine e.trans ?_
    show (_ :: (lx (two ++ 10 :: [41, 59]) (p + 1)).1, (lx (two ++ 10 :: [41, 59]) (p + 1)).2) = _
    rw [d2]
  rw [e2] at b2
  obtain ⟨q1, hq1⟩ : ∃ q : Int, (L7.sh (p + 1 + two.length + 1) ⟨4, [41], 0, 0⟩) = ⟨4, [41], 0, q⟩ := ⟨_, rfl⟩
  obtain ⟨q2, hq2⟩ : ∃ q : Int, (L7.sh (p + 1 + two.length + 1) ⟨4, [59], 0, 1⟩) = ⟨4, [59], 0, q⟩ := ⟨_, rfl⟩
  simp only [List.map_cons, List.map_nil, hq1, hq2] at b2
  have s2 : Sy ([⟨4, [41], 0, q1⟩, ⟨4, [59], 0, q2⟩] : List Tk) := by
    intro t ht hk4
    simp only [List.mem_cons, List.not_mem_nil, or_false] at ht
    rcases ht with rfl | rfl
    · show ([41] : Txt) ∉ opsW
      decide
    · show ([59] : Txt) ∉ opsW
      decide
  obtain ⟨y2, k1, k2⟩ := expr_move (T2 := U2) (y := [⟨4, [41], 0, q1⟩, ⟨4, [59], 0, q2⟩]) g2 g3 d1 s2 (by simp [headW, wordT])
  have s3 : Sy (tkOf (4, [44], 0) p :: (U2 ++ [⟨4, [41], 0, q1⟩, ⟨4, [59], 0, q2⟩])) := by
    have s4 := (sy_bare d1 g2.left).app s2
    intro t ht hk4
    rcases List.mem_cons.1 ht with rfl | ht
    · show ([44] : Txt) ∉ opsW
      decide
    · exact s4 t ht hk4
  obtain ⟨x2, c1, c2⟩ := expr_move (T2 := T2) (y := tkOf (4, [44], 0) p :: (U2 ++ [⟨4, [41], 0, q1⟩, ⟨4, [59], 0, q2⟩])) h2 h3 b1 s3 (by simp [headW, wordT, tkOf])
  have c3 : opP ((opsW.idxOf w : Int) + 1 + 1) 10 x2 (exprP 11) (tkOf (4, [44], 0) p :: (U2 ++ [⟨4, [41], 0, q1⟩, ⟨4, [59], 0, q2⟩])) = .ok (.e2 (hk ((opsW.idxOf w : Int) + 1 + 1) 10) x2 y2) [⟨4, [41], 0, q1⟩, ⟨4, [59], 0, q2⟩] := by
    rw [opP_two _ _ _ _ hk2, bnd_ok (show expP [44] (tkOf (4, [44], 0) p :: (U2 ++ [⟨4, [41], 0, q1⟩, ⟨4, [59], 0, q2⟩])) = .ok () (U2 ++ [⟨4, [41], 0, q1⟩, ⟨4, [59], 0, q2⟩]) from rfl), bnd_ok k1]
    rfl
  have hwl : w.length ≤ 10 := by
    have : ∀ w ∈ opsW, w.length ≤ 10 := by decide
    exact this w hw
  have hlen : (qpre ++ (w ++ 40 :: (one ++ 10 :: (44 :: (two ++ [10, 41, 59]))))).length ≤ 5000 := by simp [qpre]; omega
  have hc := L7.lx_count _ (qpre ++ (w ++ 40 :: (one ++ 10 :: (44 :: (two ++ [10, 41, 59]))))) 0 (Nat.le_refl _)
  rw [b2] at hc
  have c4 := lexT_of b2 (Nat.le_trans hc hlen) (by omega)
  refine ⟨{ iz 10 [113] with ex := .e2 (hk ((opsW.idxOf w : Int) + 1 + 1) 10) x2 y2 }, ?_, ?_⟩
  · rw [parse_lex c4, op_items hw c1 c3]
    rfl
  · show Ex.e2 _ (era x2) (era y2) = _
    rw [c2, h4, k2, g4]
    rfl
theorem op_select {one : Txt} {x : Ex} (hE : IsE one x) : ∃ i, parseT (qpre ++ ([115, 101, 108, 101, 99, 116] ++ 40 :: (one ++ 10 :: [119, 104, 101, 114, 101, 32, 97, 32, 60, 32, 34, 98, 34, 41, 59]))) = ([i], 0, 0) ∧ era i.ex = .e1 { hk 2 0 with conds := [⟨⟨[], [97], false, vz⟩, 3, ⟨[], [], true, ⟨1, 0, [98]⟩⟩, 0⟩] } (era x) :=
  op1_math (w := [115, 101, 108, 101, 99, 116]) (rest := [119, 104, 101, 114, 101, 32, 97, 32, 60, 32, 34, 98, 34, 41, 59]) (K := [⟨1, [119, 104, 101, 114, 101], 0, 0⟩, ⟨1, [97], 0, 6⟩, ⟨4, [60], 0, 8⟩, ⟨3, [98], 0, 10⟩, ⟨4, [41], 0, 13⟩, ⟨4, [59], 0, 14⟩]) (by decide) (by decide) hE (by decide) (by decide +kernel) (by decide) (f := fun x0 => .e1 { hk 2 10 with conds := [⟨⟨[], [97], false, vz⟩, 3, ⟨[], [], true, ⟨1, 0, [98]⟩⟩, 0⟩] } x0) (fun _ _ => ⟨_, _, rfl⟩) (fun _ _ h => congrArg (fun z => Ex.e1 _ z) h)
theorem op_project {one : Txt} {x : Ex} (hE : IsE one x) : ∃ i, parseT (qpre ++ ([112, 114, 111, 106, 101, 99, 116] ++ 40 :: (one ++ 10 :: [111, 110, 32, 97, 44, 32, 98, 41, 59]))) = ([i], 0, 0) ∧ era i.ex = .e1 { hk 3 0 with names := [[97], [98]] } (era x) :=
  op1_math (w := [112, 114, 111, 106, 101, 99, 116]) (rest := [111, 110, 32, 97, 44, 32, 98, 41, 59]) (K := [⟨1, [111, 110], 0, 0⟩, ⟨1, [97], 0, 3⟩, ⟨4, [44], 0, 4⟩, ⟨1, [98], 0, 6⟩, ⟨4, [41], 0, 7⟩, ⟨4, [59], 0, 8⟩]) (by decide) (by decide) hE (by decide) (by decide +kernel) (by decide) (f := fun x0 => .e1 { hk 3 10 with names := [[97], [98]] } x0) (fun _ _ => ⟨_, _, rfl⟩) (fun _ _ h => congrArg (fun z => Ex.e1 _ z) h)
theorem op_rename {one : Txt} {x : Ex} (hE : IsE one x) : ∃ i, parseT (qpre ++ ([114, 101, 110, 97, 109, 101] ++ 40 :: (one ++ 10 :: [44, 32, 97, 32, 97, 115, 32, 98, 41, 59]))) = ([i], 0, 0) ∧ era i.ex = .e1 { hk 7 0 with attr := [97], as_ := [98] } (era x) :=
  op1_math (w := [114, 101, 110, 97, 109, 101]) (rest := [44, 32, 97, 32, 97, 115, 32, 98, 41, 59]) (K := [⟨4, [44], 0, 0⟩, ⟨1, [97], 0, 2⟩, ⟨1, [97, 115], 0, 4⟩, ⟨1, [98], 0, 7⟩, ⟨4, [41], 0, 8⟩, ⟨4, [59], 0, 9⟩]) (by decide) (by decide) hE (by decide) (by decide +kernel) (by decide) (f := fun x0 => .e1 { hk 7 10 with attr := [97], as_ := [98] } x0) (fun _ _ => ⟨_, _, rfl⟩) (fun _ _ h => congrArg (fun z => Ex.e1 _ z) h)
theorem op_group {one : Txt} {x : Ex} (hE : IsE one x) : ∃ i, parseT (qpre ++ ([103, 114, 111, 117, 112] ++ 40 :: (one ++ 10 :: [111, 110, 32, 97, 32, 119, 105, 116, 104, 32, 115, 117, 109, 32, 98, 32, 97, 115, 32, 99, 41, 59]))) = ([i], 0, 0) ∧ era i.ex = .e1 { hk 8 0 with names := [[97]], attr := [98], as_ := [99], agg := 2 } (era x) :=
  op1_math (w := [103, 114, 111, 117, 112]) (rest := [111, 110, 32, 97, 32, 119, 105, 116, 104, 32, 115, 117, 109, 32, 98, 32, 97, 115, 32, 99, 41, 59]) (K := [⟨1, [111, 110], 0, 0⟩, ⟨1, [97], 0, 3⟩, ⟨1, [119, 105, 116, 104], 0, 5⟩, ⟨1, [115, 117, 109], 0, 10⟩, ⟨1, [98], 0, 14⟩, ⟨1, [97, 115], 0, 16⟩, ⟨1, [99], 0, 19⟩, ⟨4, [41], 0, 20⟩, ⟨4, [59], 0, 21⟩]) (by decide) (by decide) hE (by decide) (by decide +kernel) (by decide) (f := fun x0 => .e1 { hk 8 10 with names := [[97]], attr := [98], as_ := [99], agg := 2 } x0) (fun _ _ => ⟨_, _, rfl⟩) (fun _ _ h => congrArg (fun z => Ex.e1 _ z) h)
theorem op_join {one two : Txt} {x y : Ex} (hE : IsE one x) (hF : IsE two y) : ∃ i, parseT (qpre ++ ([106, 111, 105, 110] ++ 40 :: (one ++ 10 :: (44 :: (two ++ [10, 41, 59]))))) = ([i], 0, 0) ∧ era i.ex = .e2 (hk 4 0) (era x) (era y) :=
  op2_math (w := [106, 111, 105, 110]) (by decide) (by decide) (by decide) hE hF
theorem op_union {one two : Txt} {x y : Ex} (hE : IsE one x) (hF : IsE two y) : ∃ i, parseT (qpre ++ ([117, 110, 105, 111, 110] ++ 40 :: (one ++ 10 :: (44 :: (two ++ [10, 41, 59]))))) = ([i], 0, 0) ∧ era i.ex = .e2 (hk 5 0) (era x) (era y) :=
  op2_math (w := [117, 110, 105, 111, 110]) (by decide) (by decide) (by decide) hE hF
theorem op_minus {one two : Txt} {x y : Ex} (hE : IsE one x) (hF : IsE two y) : ∃ i, parseT (qpre ++ ([109, 105, 110, 117, 115] ++ 40 :: (one ++ 10 :: (44 :: (two ++ [10, 41, 59]))))) = ([i], 0, 0) ∧ era i.ex = .e2 (hk 6 0) (era x) (era y) :=
  op2_math (w := [109, 105, 110, 117, 115]) (by decide) (by decide) (by decide) hE hF
end Go.Proofs.YtcgkaecaddpenaaGreatDoor.L8

/- The parser in plain words: how many levels trees have. -/
namespace Go.Proofs.YtcgkaecaddpenaaGreatDoor.L8
open L7 (Tk lexT)

theorem val_opd {d : Nat} (k at_ : Int) (a : Ex) (e : P Ex) (ha : depE a ≤ d) (he : Val (fun x => depE x ≤ d) e) : Val (fun x => depE x ≤ d + 1) (opP k at_ a e) := by
  unfold opP
  refine Val.ite (fun _ => ?_) fun _ => Val.ite (fun _ => ?_) fun _ => Val.ite (fun _ => ?_) fun _ => Val.ite (fun _ => ?_) fun _ => ?_
  · exact Val.bnd fun _ => Val.pur (Nat.succ_le_succ ha)
  · exact Val.bnd fun _ => Val.pur (Nat.succ_le_succ ha)
  · exact Val.bnd fun _ => Val.bnd fun _ => Val.bnd fun _ => Val.bnd fun _ => Val.pur (Nat.succ_le_succ ha)
  · exact Val.bnd fun _ => Val.bnd fun _ => Val.bnd fun _ => Val.bnd fun _ => Val.bnd fun _ => Val.bnd fun _ => Val.pur (Nat.succ_le_succ ha)
  · exact Val.bnd fun _ => Val.bnd2 he fun b hb => Val.pur (Nat.succ_le_succ (Nat.max_le.2 ⟨ha, hb⟩))
theorem val_dep : ∀ d, Val (fun x => depE x ≤ d) (exprP d)
  | 0 => fun r a r1 h => by cases h
  | d + 1 => by
    unfold exprP
    exact Val.bnd fun p => Val.bnd fun k => Val.ite (fun _ => Val.bnd fun n => Val.pur (Nat.succ_le_succ (Nat.zero_le _))) fun _ => Val.bnd2 (val_dep d) fun a ha => Val.bnd2 (val_opd _ _ a _ ha (val_dep d)) fun x hx => Val.bnd fun _ => Val.pur hx
abbrev Dp12 (i : It) : Prop := depE i.ex ≤ 12
theorem val_attrsD (k : Int) : Val Dp12 (attrsP k) := by
  unfold attrsP
  repeat' first | exact Val.pur (by show depE xz ≤ 12; decide) | refine Val.bnd (fun _ => ?_)
theorem val_kindD (k : Int) : Val Dp12 (kindP2 k) := by
  unfold kindP2
  refine Val.ite (fun e => ?_) fun n1 => Val.ite (fun e => ?_) fun n2 => Val.ite (fun e => ?_) fun n3 => Val.ite (fun e => ?_) fun n4 => Val.ite (fun e => ?_) fun n5 => Val.ite (fun e => ?_) fun n6 => Val.ite (fun e => ?_) fun n7 => Val.ite (fun e => ?_) fun n8 => Val.ite (fun e => ?_) fun n9 => ?_
  · unfold tableP; repeat' first | exact Val.pur (by show depE xz ≤ 12; decide) | refine Val.bnd (fun _ => ?_)
  · unfold originP; repeat' first | exact Val.pur (by show depE xz ≤ 12; decide) | refine Val.bnd (fun _ => ?_)
  · unfold blockP; repeat' first | exact Val.pur (by show depE xz ≤ 12; decide) | refine Val.bnd (fun _ => ?_)
  · unfold matchP; repeat' first | exact Val.pur (by show depE xz ≤ 12; decide) | refine Val.bnd (fun _ => ?_)
  · unfold keepP; repeat' first | exact Val.pur (by show depE xz ≤ 12; decide) | refine Val.bnd (fun _ => ?_)
  · unfold uniqueP
    exact Val.bnd2 (val_attrsD 6) fun i hi => Val.bnd fun _ => Val.pur hi
  · unfold dependP
    exact Val.bnd2 (val_attrsD 7) fun i hi => Val.bnd fun _ => Val.bnd fun _ => Val.bnd fun _ => Val.ite (fun _ => Val.bnd fun _ => Val.bnd fun _ => Val.pur hi) fun _ => Val.bnd fun _ => Val.pur hi
  · unfold includeP; repeat' first | exact Val.pur (by show depE xz ≤ 12; decide) | refine Val.bnd (fun _ => ?_)
  · unfold denyP; repeat' first | exact Val.pur (by show depE xz ≤ 12; decide) | refine Val.bnd (fun _ => ?_)
  · unfold queryP
    exact Val.bnd fun _ => Val.bnd fun _ => Val.bnd2 (val_dep 12) fun x hx => Val.bnd fun _ => Val.pur hx
theorem val_itemD : Val Dp12 itemP := by
  unfold itemP
  exact Val.bnd fun _ => Val.bnd fun k => Val.bnd2 (val_kindD k) fun i hi => Val.pur hi
theorem val_itemsD : ∀ k, Val (fun l : List It => ∀ i ∈ l, Dp12 i) (itemsP k)
  | 0 => by
    rw [items_zero]
    exact Val.bnd fun _ => Val.ite (fun _ => Val.pur (fun i h => by cases h)) fun _ => fun r a r1 h => by cases h
  | k + 1 => by
    rw [items_succ]
    exact Val.bnd fun _ => Val.ite (fun _ => Val.pur (fun i h => by cases h)) fun _ => Val.bnd2 val_itemD fun i hi => Val.bnd2 (val_itemsD k) fun l hl => Val.pur (fun j hj => by
      rcases List.mem_cons.1 hj with rfl | hj
      · exact hi
      · exact hl j hj)
theorem parse_deep {t : Txt} {a : List It} {er x : Int} (h : parseT t = (a, er, x)) : ∀ i ∈ a, Dp12 i := by
  by_cases hl : (lexT t).2.1 ≠ 0
  · rw [parse_err hl] at h
    simp only [Prod.mk.injEq] at h
    rw [← h.1]
    exact fun i q => by cases q
  · have he2 : lexT t = ((lexT t).1, 0, (lexT t).2.2) := Prod.ext rfl (Prod.ext (by simpa using hl) rfl)
    rw [parse_lex he2] at h
    rcases e : itemsP 200 (lexT t).1 with ⟨l, r⟩ | ⟨c, r⟩
    · rw [e] at h
      simp only [endT, Prod.mk.injEq] at h
      rw [← h.1]
      exact val_itemsD 200 _ _ _ e
    · rw [e] at h
      simp only [endT, Prod.mk.injEq] at h
      rw [← h.1]
      exact fun i q => by cases q
end Go.Proofs.YtcgkaecaddpenaaGreatDoor.L8

/- The parser in plain words: the seven operations on two expressions. -/
namespace Go.Proofs.YtcgkaecaddpenaaGreatDoor.L8
open L7 (Tk lexT)

def tx (one two : Txt) : Nat → Txt
  | 0 => [115, 101, 108, 101, 99, 116, 40] ++ (one ++ [10, 119, 104, 101, 114, 101, 32, 97, 32, 60, 32, 34, 98, 34, 41])
  | 1 => [112, 114, 111, 106, 101, 99, 116, 40] ++ (one ++ [10, 111, 110, 32, 97, 44, 32, 98, 41])
  | 2 => [106, 111, 105, 110, 40] ++ (one ++ ([10, 44] ++ (two ++ [10, 41])))
  | 3 => [117, 110, 105, 111, 110, 40] ++ (one ++ ([10, 44] ++ (two ++ [10, 41])))
  | 4 => [109, 105, 110, 117, 115, 40] ++ (one ++ ([10, 44] ++ (two ++ [10, 41])))
  | 5 => [114, 101, 110, 97, 109, 101, 40] ++ (one ++ [10, 44, 32, 97, 32, 97, 115, 32, 98, 41])
  | _ => [103, 114, 111, 117, 112, 40] ++ (one ++ [10, 111, 110, 32, 97, 32, 119, 105, 116, 104, 32, 115, 117, 109, 32, 98, 32, 97, 115, 32, 99, 41])
def cndW : Cnd := ⟨⟨[], [97], false, vz⟩, 3, ⟨[], [], true, ⟨1, 0, [98]⟩⟩, 0⟩
def wx (x y : Ex) : Nat → Ex
  | 0 => .e1 { hk 2 0 with conds := [cndW] } x
  | 1 => .e1 { hk 3 0 with names := [[97], [98]] } x
  | 2 => .e2 (hk 4 0) x y
  | 3 => .e2 (hk 5 0) x y
  | 4 => .e2 (hk 6 0) x y
  | 5 => .e1 { hk 7 0 with attr := [97], as_ := [98] } x
  | _ => .e1 { hk 8 0 with names := [[97]], attr := [98], as_ := [99], agg := 2 } x
theorem tx_len {one two : Txt} (h : one.length ≤ 1000) (h2 : two.length ≤ 1000) (k : Nat) : (tx one two k).length ≤ 2100 := by
  unfold tx
  split <;> simp <;> omega
theorem ops_all {one two : Txt} {x y : Ex} (hE : IsE one x) (hF : IsE two y) : ∀ k, k < 7 → ∃ i, parseT (qpre ++ (tx one two k ++ [59])) = ([i], 0, 0) ∧ era i.ex = era (wx x y k)
  | 0, _ => by
    obtain ⟨i, h1, h2⟩ := op_select hE
    have e : qpre ++ (tx one two 0 ++ [59]) = qpre ++ ([115, 101, 108, 101, 99, 116] ++ 40 :: (one ++ 10 :: [119, 104, 101, 114, 101, 32, 97, 32, 60, 32, 34, 98, 34, 41, 59])) := by simp [tx]
    exact ⟨i, by rw [e]; exact h1, h2⟩
  | 1, _ => by
    obtain ⟨i, h1, h2⟩ := op_project hE
    have e : qpre ++ (tx one two 1 ++ [59]) = qpre ++ ([112, 114, 111, 106, 101, 99, 116] ++ 40 :: (one ++ 10 :: [111, 110, 32, 97, 44, 32, 98, 41, 59])) := by simp [tx]
    exact ⟨i, by rw [e]; exact h1, h2⟩
  | 2, _ => by
    obtain ⟨i, h1, h2⟩ := op_join hE hF
    have e : qpre ++ (tx one two 2 ++ [59]) = qpre ++ ([106, 111, 105, 110] ++ 40 :: (one ++ 10 :: (44 :: (two ++ [10, 41, 59])))) := by simp [tx]
    exact ⟨i, by rw [e]; exact h1, h2⟩
  | 3, _ => by
    obtain ⟨i, h1, h2⟩ := op_union hE hF
    have e : qpre ++ (tx one two 3 ++ [59]) = qpre ++ ([117, 110, 105, 111, 110] ++ 40 :: (one ++ 10 :: (44 :: (two ++ [10, 41, 59])))) := by simp [tx]
    exact ⟨i, by rw [e]; exact h1, h2⟩
  | 4, _ => by
    obtain ⟨i, h1, h2⟩ := op_minus hE hF
    have e : qpre ++ (tx one two 4 ++ [59]) = qpre ++ ([109, 105, 110, 117, 115] ++ 40 :: (one ++ 10 :: (44 :: (two ++ [10, 41, 59])))) := by simp [tx]
    exact ⟨i, by rw [e]; exact h1, h2⟩
  | 5, _ => by
    obtain ⟨i, h1, h2⟩ := op_rename hE
    have e : qpre ++ (tx one two 5 ++ [59]) = qpre ++ ([114, 101, 110, 97, 109, 101] ++ 40 :: (one ++ 10 :: [44, 32, 97, 32, 97, 115, 32, 98, 41, 59])) := by simp [tx]
    exact ⟨i, by rw [e]; exact h1, h2⟩
  | 6, _ => by
    obtain ⟨i, h1, h2⟩ := op_group hE
    have e : qpre ++ (tx one two 6 ++ [59]) = qpre ++ ([103, 114, 111, 117, 112] ++ 40 :: (one ++ 10 :: [111, 110, 32, 97, 32, 119, 105, 116, 104, 32, 115, 117, 109, 32, 98, 32, 97, 115, 32, 99, 41, 59])) := by simp [tx]
    exact ⟨i, by rw [e]; exact h1, h2⟩
end Go.Proofs.YtcgkaecaddpenaaGreatDoor.L8

