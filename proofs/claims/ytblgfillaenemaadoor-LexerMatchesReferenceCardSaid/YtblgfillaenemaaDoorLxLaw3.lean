/- The laws of tokens in plain words, third part: tokens that are written again, further gaps, two texts, places. -/
import Derived.Test.YtblgfillaenemaaDoorLxLaw2
namespace Go.Proofs.YtblgfillaenemaaDoor.L7

/-- A token without its offset. -/
def bare (t : Tk) : Tk := { t with at_ := 0 }
theorem bare_of (t : Int × List UInt8 × Int) (p q : Nat) : bare (tkOf t p) = bare (tkOf t q) := rfl
theorem bare_sh (q : Nat) (l : List Tk) : (l.map (sh q)).map bare = l.map bare := by
  rw [List.map_map]
  rfl
theorem lx_bare (r : List UInt8) (p q : Nat) : (lx r p).1.map bare = (lx r q).1.map bare ∧ (lx r p).2.1 = (lx r q).2.1 := by
  have h1 := lx_shift r.length r 0 p (Nat.le_refl _)
  have h2 := lx_shift r.length r 0 q (Nat.le_refl _)
  rw [Nat.zero_add] at h1 h2
  rw [h1, h2]
  simp only [bare_sh]
  exact ⟨trivial, trivial⟩

/-! ### Written again. -/
def esc7 (c : UInt8) : List UInt8 := if c = 34 ∨ c = 92 then [92, c] else if c = 10 then [92, 110] else [c]
def quo7 (s : List UInt8) : List UInt8 := 34 :: (s.flatMap esc7 ++ [34])
theorem con_quo (s z : List UInt8) : con (s.flatMap esc7 ++ 34 :: z) = (s, (s.flatMap esc7).length + 1, 0) := by
  induction s with
  | nil => exact con_end z
  | cons c s ih =>
    have hne : s.flatMap esc7 ++ 34 :: z ≠ [] := by simp
    rw [List.flatMap_cons, List.append_assoc]
    by_cases h1 : c = 34 ∨ c = 92
    · have e : esc7 c = [92, c] := if_pos h1
      have h110 : c ≠ 110 := by rintro rfl; revert h1; decide
      rw [e]
      show con (92 :: c :: (s.flatMap esc7 ++ 34 :: z)) = _
      rw [con_esc (by rcases h1 with h | h <;> simp [h]), ih, if_neg h110]
      simp
    · by_cases h2 : c = 10
      · have e : esc7 c = [92, 110] := by unfold esc7; rw [if_neg h1, if_pos h2]
        rw [e]
        show con (92 :: 110 :: (s.flatMap esc7 ++ 34 :: z)) = _
        rw [con_esc (by simp), ih, if_pos rfl, h2]
        simp
      · have e : esc7 c = [c] := by unfold esc7; rw [if_neg h1, if_neg h2]
        rw [e]
        show con (c :: (s.flatMap esc7 ++ 34 :: z)) = _
        rw [con_plain (fun q => h1 (.inl q)) h2 (fun q => h1 (.inr q)) hne, ih]
        simp
theorem tok_quo (s z : List UInt8) (h : s.length ≤ 200) : tok (quo7 s ++ z) = ((3, s, 0), (quo7 s).length, 0) := by
  have e : quo7 s ++ z = 34 :: (s.flatMap esc7 ++ 34 :: z) := by simp [quo7]
  rw [e, tok_text, con_quo]
  simp only
  rw [if_neg (by simp), if_neg (by omega)]
  simp [quo7]
/-- A token as it is written. -/
def wr7 (t : Tk) : List UInt8 := if t.kind = 3 then quo7 t.text else t.text
theorem good32 (x : List UInt8) : Good (32 :: x) := fun s h => by
  simp at h
  subst h
  decide
theorem tok_wr {r x : List UInt8} {t : Int × List UInt8 × Int} {n p : Nat} (h : tok r = (t, n, 0)) : tok (wr7 (tkOf t p) ++ 32 :: x) = (t, (wr7 (tkOf t p)).length, 0) := by
  obtain ⟨h1, h2, h3⟩ := tok_ext h
  rcases tok_shape h with ⟨a, b, c, _⟩ | ⟨a, b⟩
  · have e : wr7 (tkOf t p) = quo7 t.2.1 := if_pos a
    rw [e, tok_quo _ _ c]
    obtain ⟨k, tx, n⟩ := t
    simp only at a b
    subst a b
    rfl
  · have e : wr7 (tkOf t p) = t.2.1 := if_neg a
    rw [e, b, h3 _ (fun s hs => .inl (good32 x s hs)), List.length_take, Nat.min_eq_left h2]
theorem lx_blank (r : List UInt8) (p : Nat) : lx (32 :: r) p = lx r (p + 1) := by
  have e : gap (32 :: r) = gap r + 1 := gapC_in (by decide) (by decide) (by simp)
  rw [lx_gap (32 :: r) p, lx_gap r (p + 1), e, List.drop_succ_cons]
  congr 1
  omega
def wrAll (ts : List Tk) : List UInt8 := ts.flatMap fun t => wr7 t ++ [32]
theorem again_math : ∀ (m : Nat) (r : List UInt8) (p : Nat) (ts : List Tk), r.length ≤ m → lx r p = (ts, 0, 0) → ∀ q, ∃ us, lx (wrAll ts) q = (us, 0, 0) ∧ us.map bare = ts.map bare
  | m, r, p, ts, hm, h, q => by
    rcases lx_cases r with h1 | ⟨h1, he⟩ | ⟨h1, t, n, ht⟩
    · rw [lx_nil h1] at h
      simp only [Prod.mk.injEq] at h
      obtain ⟨rfl, _⟩ := h
      exact ⟨[], lx_nil rfl, rfl⟩
    · rw [lx_bad h1 he] at h
      simp only [Prod.mk.injEq] at h
      exact absurd h.2.1 he
    · obtain ⟨hn, hl, hx⟩ := tok_ext ht
      rw [List.length_drop] at hl
      rw [lx_tok h1 ht] at h
      obtain ⟨us, hus⟩ : ∃ us, (lx (r.drop (gap r + n)) (p + gap r + n)).1 = us := ⟨_, rfl⟩
      rw [hus] at h
      simp only [Prod.mk.injEq] at h
      obtain ⟨rfl, h2⟩ := h
      have h4 : lx (r.drop (gap r + n)) (p + gap r + n) = (us, 0, 0) := Prod.ext hus h2
      have hlen : (r.drop (gap r + n)).length < r.length := by rw [List.length_drop]; omega
      match m with
      | 0 => omega
      | m + 1 =>
        obtain ⟨vs, hv, hb⟩ := again_math m _ _ us (by omega) h4 (q + (wr7 (tkOf t (p + gap r))).length + 1)
        have e : wrAll (tkOf t (p + gap r) :: us) = wr7 (tkOf t (p + gap r)) ++ 32 :: wrAll us := by
          unfold wrAll
          rw [List.flatMap_cons, List.append_assoc]
          rfl
        refine ⟨tkOf t q :: vs, ?_, ?_⟩
        · rw [e, lx_one (tok_wr ht), lx_blank, hv]
        · rw [List.map_cons, List.map_cons, hb]
          rfl
theorem wr_len : ∀ (m : Nat) (r : List UInt8) (p : Nat) (ts : List Tk), r.length ≤ m → lx r p = (ts, 0, 0) → (∀ t ∈ ts, t.text.length ≤ r.length ∧ (t.kind = 3 → t.text.length ≤ 200))
  | m, r, p, ts, hm, h => by
    rcases lx_cases r with h1 | ⟨h1, he⟩ | ⟨h1, t, n, ht⟩
    · rw [lx_nil h1] at h
      simp only [Prod.mk.injEq] at h
      obtain ⟨rfl, _⟩ := h
      simp
    · rw [lx_bad h1 he] at h
      simp only [Prod.mk.injEq] at h
      exact absurd h.2.1 he
    · obtain ⟨hn, hl, hx⟩ := tok_ext ht
      rw [List.length_drop] at hl
      rw [lx_tok h1 ht] at h
      obtain ⟨us, hus⟩ : ∃ us, (lx (r.drop (gap r + n)) (p + gap r + n)).1 = us := ⟨_, rfl⟩
      rw [hus] at h
      simp only [Prod.mk.injEq] at h
      obtain ⟨rfl, h2⟩ := h
      have h4 : lx (r.drop (gap r + n)) (p + gap r + n) = (us, 0, 0) := Prod.ext hus h2
      have hlen : (r.drop (gap r + n)).length < r.length := by rw [List.length_drop]; omega
      match m with
      | 0 => omega
      | m + 1 =>
        have ih := wr_len m _ _ us (by omega) h4
        intro x hx
        rcases List.mem_cons.1 hx with rfl | hx
        · have key : ∀ (l s : List UInt8) (k : Nat), con l = (s, k, 0) → s.length ≤ l.length := by
            intro l s k hc
            have : ∀ (m : Nat) (l s : List UInt8) (k : Nat), l.length ≤ m → con l = (s, k, 0) → s.length ≤ l.length := by
              intro m
              induction m with
              | zero =>
                intro l s k hl hc
                have : l = [] := List.length_eq_zero_iff.1 (by omega)
                subst this
                rw [con] at hc
                simp at hc
              | succ m ihm =>
                intro l s k hl hc
                rcases con_cases hc with ⟨r, rfl, rfl, rfl⟩ | ⟨d, r, s', n', rfl, hd, hr, rfl, rfl⟩ | ⟨c, r, s', n', rfl, h1, h2, h3, hr, rfl, rfl⟩
                · simp
                · have := ihm r s' n' (by simp at hl; omega) hr
                  simp
                  omega
                · have := ihm r s' n' (by simp at hl; omega) hr
                  simp
                  omega
            exact this l.length l s k (Nat.le_refl _) hc
          rcases tok_shape ht with ⟨a, b, c, s, e, _, hc⟩ | ⟨a, b⟩
          · refine ⟨?_, fun _ => c⟩
            have h5 := key _ _ _ hc
            have h6 := congrArg List.length e
            rw [List.length_drop] at h6
            simp at h6
            show t.2.1.length ≤ r.length
            omega
          · refine ⟨?_, fun q => absurd q a⟩
            show t.2.1.length ≤ r.length
            rw [b, List.length_take, List.length_drop]
            omega
        · have := ih x hx
          exact ⟨by omega, this.2⟩

/-! ### Further gaps. -/
theorem lx_line {G : List UInt8} (hG : gap G = G.length) (v : List UInt8) (p : Nat) : lx (G ++ 10 :: v) p = lx v (p + G.length + 1) := by
  have e := gap_app_all false G (10 :: v) (gap v + 1) hG (gap_nl v)
  rw [lx_gap (G ++ 10 :: v) p, lx_gap v (p + G.length + 1), show gap (G ++ 10 :: v) = G.length + (gap v + 1) from e, List.drop_append, List.drop_eq_nil_of_le (by omega), Nat.add_sub_cancel_left, List.nil_append, List.drop_succ_cons]
  congr 1
  omega
theorem tail_gap {G : List UInt8} (hG : gap G = G.length) (cm : Bool) : gapC cm (32 :: 10 :: G) = G.length + 2 := by
  have h : ¬ (cm = false ∧ (32 : UInt8) ≠ 32 ∧ (32 : UInt8) ≠ 9) := by simp
  rw [gapC_in (by decide) (by decide) h, gapC_nl rfl, show gapC false G = G.length from hG]
/-- A text with gaps before it, behind one of its tokens, and behind it. -/
theorem gaps_math {text G : List UInt8} {ts : List Tk} (h : lx text 0 = (ts, 0, 0)) (hG : gap G = G.length) (k : Nat) (hk : k = 0 ∨ ∃ i, ∃ hi : i < ts.length, ts[i].kind ≠ 3 ∧ ts[i].at_ + (ts[i].text.length : Int) = (k : Int)) :
    k ≤ text.length ∧ ∃ us, lx (G ++ 10 :: (text.take k ++ 32 :: (G ++ 10 :: (text.drop k ++ 32 :: 10 :: G)))) 0 = (us, 0, 0) ∧ us.map bare = ts.map bare := by
  have tail : ∀ (v : List UInt8) (p : Nat) (vs : List Tk), lx v p = (vs, 0, 0) → lx (v ++ 32 :: 10 :: G) p = (vs, 0, 0) := fun v p vs hv => by
    rw [lx_app v.length v (32 :: 10 :: G) p vs (Nat.le_refl _) hv (good32 _) ⟨_, tail_gap hG⟩, lx_nil (by rw [gap, tail_gap hG]; simp)]
    simp
  have move : ∀ (v : List UInt8) (p q : Nat) (vs : List Tk), lx v p = (vs, 0, 0) → ∃ ws, lx v q = (ws, 0, 0) ∧ ws.map bare = vs.map bare := fun v p q vs hv => by
    obtain ⟨h1, h2⟩ := lx_bare v q p
    rw [hv] at h1 h2
    exact ⟨_, lx_ok h2, h1⟩
  rcases hk with rfl | ⟨i, hi, h3, hki⟩
  · refine ⟨by omega, ?_⟩
    obtain ⟨ws, hw, hb⟩ := move text 0 (0 + G.length + 1 + 1 + G.length + 1) ts h
    refine ⟨ws, ?_, hb⟩
    rw [lx_line hG, List.take_zero, List.nil_append, lx_blank, lx_line hG, List.drop_zero]
    exact tail _ _ _ hw
  · obtain ⟨k', k1, k2, k3, k4⟩ := lx_split text.length text 0 ts (Nat.le_refl _) h i hi h3
    have : k' = k := by rw [hki] at k2; omega
    subst this
    refine ⟨k1, ?_⟩
    obtain ⟨ws, hw, hb⟩ := move (text.drop k') (0 + k') (0 + k' + 1 + G.length + 1) _ k4
    have e := k3 (32 :: (G ++ 10 :: (text.drop k' ++ 32 :: 10 :: G))) (good32 _)
    rw [lx_blank, lx_line hG, tail _ _ _ hw] at e
    obtain ⟨us, hu, hb2⟩ := move _ 0 (0 + G.length + 1) _ e
    refine ⟨us, by rw [lx_line hG]; exact hu, ?_⟩
    rw [hb2, List.map_append, hb, ← List.map_append, List.take_append_drop]

/-! ### Two texts, with a line feed between them. -/
theorem parts_math (one two : List UInt8) : (lx one 0).2.1 = 0 →
    lx (one ++ 10 :: two) 0 = ((lx one 0).1 ++ (lx two (one.length + 1)).1, (lx two (one.length + 1)).2) := fun h => by
  rw [lx_app one.length one (10 :: two) 0 _ (Nat.le_refl _) (lx_ok h) (fun s hs => by simp at hs; subst hs; decide) ⟨_, gap_nl two⟩]
  have e := lx_line (G := []) rfl two (0 + one.length)
  rw [List.nil_append] at e
  rw [e, Nat.zero_add]
  rfl

/-! ### Places. -/
def Pl (text : List UInt8) : Nat → List Tk → Prop
  | e, [] => gap (text.drop e) = (text.drop e).length ∧ e ≤ text.length
  | e, t :: ts => ∃ k n : Nat, t.at_ = (k : Int) ∧ e ≤ k ∧ k < text.length ∧ gap ((text.drop e).take (k - e)) = k - e ∧ tok (text.drop k) = ((t.kind, t.text, t.n), n, 0) ∧ Pl text (k + n) ts
theorem places_math (text : List UInt8) : ∀ (ts : List Tk) (e : Nat), e ≤ text.length → lx (text.drop e) e = (ts, 0, 0) → Pl text e ts := by
  intro ts
  induction ts with
  | nil =>
    intro e he h
    refine ⟨?_, he⟩
    rcases lx_cases (text.drop e) with h1 | ⟨h1, h2⟩ | ⟨h1, t, n, ht⟩
    · exact h1
    · rw [lx_bad h1 h2] at h
      simp only [Prod.mk.injEq] at h
      exact absurd h.2.1 h2
    · rw [lx_tok h1 ht] at h
      simp at h
  | cons t ts ih =>
    intro e he h
    rcases lx_cases (text.drop e) with h1 | ⟨h1, h2⟩ | ⟨h1, u, n, ht⟩
    · rw [lx_nil h1] at h
      simp at h
    · rw [lx_bad h1 h2] at h
      simp at h
    · obtain ⟨hn, hl, _⟩ := tok_ext ht
      rw [List.length_drop] at hl
      rw [lx_tok h1 ht] at h
      rw [List.length_drop] at h1 hl
      simp only [Prod.mk.injEq, List.cons.injEq] at h
      obtain ⟨⟨rfl, h3⟩, h4⟩ := h
      refine ⟨e + gap (text.drop e), n, rfl, by omega, by omega, ?_, ?_, ?_⟩
      · rw [Nat.add_sub_cancel_left]
        exact gap_take false _
      · rw [← List.drop_drop]
        exact ht
      · refine ih _ (by omega) ?_
        have q : e + (gap (text.drop e) + n) = e + gap (text.drop e) + n := by omega
        rw [List.drop_drop, q] at h3 h4
        exact Prod.ext h3 h4
end Go.Proofs.YtblgfillaenemaaDoor.L7
