/- The program's readers by what a text begins with; the deferred function. -/
import Derived.Test.YtcgkaecaddpenaaGreatDoorLxPgC
import Derived.Test.YtcgkaecaddpenaaGreatDoorPLx
import Derived.Recover
import Derived.Tactics2
namespace Go.Proofs.YtcgkaecaddpenaaGreatDoor
open Go.RowKit
open L7 (Lt Dg In gapC gap tok con symN syms Tk tkOf)

/-- What a text begins with: a letter, a digit, a quote, a symbol, none of them. -/
def cls : Txt → Nat
  | [] => 4
  | c :: r => if Lt c = true then 0 else if Dg c = true then 1 else if c = 34 then 2 else if symN (c :: r) ≠ 0 then 3 else 4
theorem cls_cons (c : UInt8) (r : Txt) : cls (c :: r) = if Lt c = true then 0 else if Dg c = true then 1 else if c = 34 then 2 else if symN (c :: r) ≠ 0 then 3 else 4 := rfl
theorem cls_le (r : Txt) : cls r ≤ 4 := by
  unfold cls
  split
  · omega
  · repeat' split
    all_goals omega
/-- What the reader returns whose turn it is. -/
def TokPost (w : World) (R : (Int × Txt × Int) × Nat × Int) (e : Ending) (w' : World) : Prop := (R.2.2 ≠ 0 ∧ Bad w R.2.2 e w') ∨ (R.2.2 = 0 ∧ Hit w R.1 R.2.1 e w')
theorem cls_zero {c : UInt8} {r : Txt} : cls (c :: r) = 0 → Lt c = true := by
  rw [cls_cons]
  intro h
  by_cases h1 : Lt c = true
  · exact h1
  · rw [if_neg h1] at h
    repeat' split at h
    all_goals simp at h
theorem cls_pos {c : UInt8} {r : Txt} : 0 < cls (c :: r) → Lt c ≠ true := by
  rw [cls_cons]
  intro h h1
  rw [if_pos h1] at h
  omega
theorem cls_one {c : UInt8} {r : Txt} : cls (c :: r) = 1 → Lt c ≠ true ∧ Dg c = true := by
  rw [cls_cons]
  intro h
  by_cases h1 : Lt c = true
  · rw [if_pos h1] at h
    omega
  · by_cases h2 : Dg c = true
    · exact ⟨h1, h2⟩
    · rw [if_neg h1, if_neg h2] at h
      repeat' split at h
      all_goals simp at h
theorem cls_gt1 {c : UInt8} {r : Txt} : 1 < cls (c :: r) → Lt c ≠ true ∧ Dg c ≠ true := by
  rw [cls_cons]
  intro h
  refine ⟨fun h1 => ?_, fun h2 => ?_⟩
  · rw [if_pos h1] at h
    omega
  · by_cases h1 : Lt c = true
    · rw [if_pos h1] at h
      omega
    · rw [if_neg h1, if_pos h2] at h
      omega
theorem cls_two {c : UInt8} {r : Txt} : cls (c :: r) = 2 → c = 34 := by
  intro h
  have h1 := cls_gt1 (c := c) (r := r) (by omega)
  rw [cls_cons, if_neg h1.1, if_neg h1.2] at h
  by_cases h3 : c = 34
  · exact h3
  · rw [if_neg h3] at h
    split at h <;> omega
theorem cls_gt2 {c : UInt8} {r : Txt} : 2 < cls (c :: r) → Lt c ≠ true ∧ Dg c ≠ true ∧ c ≠ 34 := by
  intro h
  have h1 := cls_gt1 (c := c) (r := r) (by omega)
  refine ⟨h1.1, h1.2, fun h3 => ?_⟩
  rw [cls_cons] at h
  rw [if_neg h1.1, if_neg h1.2, if_pos h3] at h
  omega
theorem cls_three {c : UInt8} {r : Txt} : cls (c :: r) = 3 → symN (c :: r) ≠ 0 := by
  intro h
  have h1 := cls_gt2 (c := c) (r := r) (by omega)
  rw [cls_cons] at h
  rw [if_neg h1.1, if_neg h1.2.1, if_neg h1.2.2] at h
  intro q
  rw [if_neg (by simp [q])] at h
  omega
theorem cls_four {c : UInt8} {r : Txt} : cls (c :: r) = 4 → symN (c :: r) = 0 := by
  intro h
  have h1 := cls_gt2 (c := c) (r := r) (by omega)
  rw [cls_cons] at h
  rw [if_neg h1.1, if_neg h1.2.1, if_neg h1.2.2] at h
  by_cases q : symN (c :: r) = 0
  · exact q
  · rw [if_pos q] at h
    omega
theorem tok_none {r : Txt} (h0 : 0 < r.length) (h : cls r = 4) : (tok r).2.2 = 5 := by
  cases r with
  | nil => simp at h0
  | cons c r =>
    have h1 := cls_gt2 (c := c) (r := r) (by omega)
    rw [L7.tok_sym h1.1 h1.2.1 h1.2.2, if_pos (cls_four h)]
    rfl
theorem head0 {r : Txt} {c : UInt8} {x : Txt} (h : r = c :: x) (h0 : 0 < r.length) : r[0] = c := by subst h; rfl
/-- Names. -/
theorem name_tok (r : Txt) (h0 : 0 < r.length) (hl : r.length ≤ 90000) (h : cls r = 0) (w : World) : Calls Tryz.prog 23 #[str r] w (TokPost w (tok r)) := by
  obtain ⟨c, x, hr⟩ : ∃ c x, r = c :: x := by cases r with | nil => simp at h0 | cons c x => exact ⟨c, x, rfl⟩
  have hL : Lt c = true := cls_zero (by rw [← hr]; exact h)
  have ht : tok r = if 24 < (r.takeWhile In).length then L7.bad 3 else ((1, r.takeWhile In, 0), (r.takeWhile In).length, 0) := by rw [hr]; exact L7.tok_name hL
  rw [ht]
  by_cases hb : 24 < (r.takeWhile In).length
  · rw [if_pos hb]
    exact (name_bad r c h0 (head0 hr h0) (by omega) hL hb w).mono fun e w' q => .inl ⟨by decide, q⟩
  · rw [if_neg hb]
    exact (name_hit r c h0 (head0 hr h0) (by omega) hL hb w).mono fun e w' q => .inr ⟨rfl, q⟩
/-- Numbers. -/
theorem number_tok (r : Txt) (h0 : 0 < r.length) (hl : r.length ≤ 90000) (h : cls r = 1) (w : World) : Calls Tryz.prog 24 #[str r] w (TokPost w (tok r)) := by
  obtain ⟨c, x, hr⟩ : ∃ c x, r = c :: x := by cases r with | nil => simp at h0 | cons c x => exact ⟨c, x, rfl⟩
  obtain ⟨hL, hD⟩ := cls_one (c := c) (r := x) (by rw [← hr]; exact h)
  have ht : tok r = if 10 < (r.takeWhile Dg).length ∨ (∃ s, (r.dropWhile Dg).head? = some s ∧ In s = true) then L7.bad 6 else ((2, r.takeWhile Dg, (L7.num (r.takeWhile Dg) : Int)), (r.takeWhile Dg).length, 0) := by rw [hr]; exact L7.tok_num hL hD
  rw [ht]
  by_cases hb : 10 < (r.takeWhile Dg).length
  · rw [if_pos (.inl hb)]
    exact (number_long r c h0 (head0 hr h0) (by omega) hb w).mono fun e w' q => .inl ⟨by decide, q⟩
  · by_cases hm : (r.takeWhile Dg).length < (r.takeWhile In).length
    · rw [if_pos (.inr ((L7.more_iff r).1 hm))]
      exact (number_more r c h0 (head0 hr h0) (by omega) hD hb hm w).mono fun e w' q => .inl ⟨by decide, q⟩
    · rw [if_neg (fun q => q.elim hb fun q => hm ((L7.more_iff r).2 q))]
      exact (number_hit r c h0 (head0 hr h0) (by omega) hD hb hm w).mono fun e w' q => .inr ⟨rfl, q⟩
/-- Texts. -/
theorem text_tok (r : Txt) (h0 : 0 < r.length) (hl : r.length ≤ 90000) (h : cls r = 2) (w : World) : Calls Tryz.prog 25 #[str r] w (TokPost w (tok r)) := by
  obtain ⟨c, x, hr⟩ : ∃ c x, r = c :: x := by cases r with | nil => simp at h0 | cons c x => exact ⟨c, x, rfl⟩
  have hc := cls_two (c := c) (r := x) (by rw [← hr]; exact h)
  subst hc
  refine (text_any r h0 (head0 hr h0) hl w).mono fun e w' q => ?_
  subst hr
  rw [L7.tok_text]
  rw [List.drop_succ_cons, List.drop_zero] at q
  obtain ⟨q1, q2, q3⟩ := q
  by_cases hz : (con x).2.2 = 0
  · rw [if_neg (by simp [hz])]
    by_cases hb : 200 < (con x).1.length
    · rw [if_pos hb]
      exact .inl ⟨by decide, q2 hz hb⟩
    · rw [if_neg hb]
      exact .inr ⟨rfl, q3 hz hb⟩
  · rw [if_pos hz]
    exact .inl ⟨hz, q1 hz⟩
/-- Symbols. -/
theorem sym_heads {c : UInt8} {x : Txt} : ([33, 61].isPrefixOf (c :: x) = true ∨ [60, 61].isPrefixOf (c :: x) = true) ↔ (x.head? = some 61 ∧ (c = 33 ∨ c = 60)) := by
  rw [two_iff, two_iff]
  constructor
  · rintro (⟨r, h⟩ | ⟨r, h⟩)
    · injection h with h1 h2
      subst h1 h2
      exact ⟨rfl, .inl rfl⟩
    · injection h with h1 h2
      subst h1 h2
      exact ⟨rfl, .inr rfl⟩
  · rintro ⟨h1, h2⟩
    cases x with
    | nil => simp at h1
    | cons d x =>
      simp at h1
      subst h1
      rcases h2 with rfl | rfl
      · exact .inl ⟨x, rfl⟩
      · exact .inr ⟨x, rfl⟩
theorem symbol_tok (r : Txt) (h0 : 0 < r.length) (hl : r.length ≤ 90000) (h : cls r = 3) (w : World) : Calls Tryz.prog 26 #[str r] w (TokPost w (tok r)) := by
  obtain ⟨c, x, hr⟩ : ∃ c x, r = c :: x := by cases r with | nil => simp at h0 | cons c x => exact ⟨c, x, rfl⟩
  have h1 := cls_gt2 (c := c) (r := x) (by rw [← hr]; omega)
  have h3 := cls_three (c := c) (r := x) (by rw [← hr]; exact h)
  have ht : tok r = ((4, r.take (symN r), 0), symN r, 0) := by rw [hr, L7.tok_sym h1.1 h1.2.1 h1.2.2, if_neg h3]
  rw [ht]
  rcases L7.symN_cases c x with ⟨e, y, hy, hc⟩ | ⟨e, hm, hn⟩ | e
  · have hl2 : 2 ≤ r.length := by rw [hr, hy]; simp
    rw [show symN r = 2 from by rw [hr]; exact e]
    cases hp : [33, 61].isPrefixOf r
    · have hq : [60, 61].isPrefixOf r = true := by
        rcases (sym_heads (c := c) (x := x)).2 ⟨by rw [hy]; rfl, hc⟩ with q | q
        · rw [← hr, hp] at q
          simp at q
        · rw [hr]
          exact q
      exact (symbol_two_y r hp hq hl2 w).mono fun e w' q => .inr ⟨rfl, q⟩
    · exact (symbol_two_x r hp hl2 w).mono fun e w' q => .inr ⟨rfl, q⟩
  · rw [show symN r = 1 from by rw [hr]; exact e]
    have hp : [33, 61].isPrefixOf r = false := by
      cases q : [33, 61].isPrefixOf r
      · rfl
      · rw [hr] at q
        exact absurd (sym_heads.1 (.inl q)) hn
    have hq : [60, 61].isPrefixOf r = false := by
      cases q : [60, 61].isPrefixOf r
      · rfl
      · rw [hr] at q
        exact absurd (sym_heads.1 (.inr q)) hn
    exact (symbol_one r c h0 (head0 hr h0) (by omega) hp hq hm w).mono fun e w' q => .inr ⟨rfl, q⟩
  · exact absurd e h3
theorem symbol_miss (r : Txt) (h0 : 0 < r.length) (hl : r.length ≤ 90000) (h : cls r = 4) (w : World) : Calls Tryz.prog 26 #[str r] w (Miss w) := by
  obtain ⟨c, x, hr⟩ : ∃ c x, r = c :: x := by cases r with | nil => simp at h0 | cons c x => exact ⟨c, x, rfl⟩
  have h4 := cls_four (c := c) (r := x) (by rw [← hr]; exact h)
  rw [L7.symN_cons] at h4
  by_cases hn : x.head? = some 61 ∧ (c = 33 ∨ c = 60)
  · rw [if_pos hn] at h4
    omega
  · rw [if_neg hn] at h4
    have hm : c ∉ syms := fun q => by rw [if_pos q] at h4; omega
    have hp : [33, 61].isPrefixOf r = false := by
      cases q : [33, 61].isPrefixOf r
      · rfl
      · rw [hr] at q
        exact absurd (sym_heads.1 (.inl q)) hn
    have hq : [60, 61].isPrefixOf r = false := by
      cases q : [60, 61].isPrefixOf r
      · rfl
      · rw [hr] at q
        exact absurd (sym_heads.1 (.inr q)) hn
    exact symbol_none r c h0 (head0 hr h0) (by omega) hp hq hm w

/-- The table of the readers. -/
structure Kinds (w : World) (b : Nat) : Prop where
  c0 : w.cell? ⟨b, 0, none⟩ = some (fnv 23)
  c1 : w.cell? ⟨b, 1, none⟩ = some (fnv 24)
  c2 : w.cell? ⟨b, 2, none⟩ = some (fnv 25)
  c3 : w.cell? ⟨b, 3, none⟩ = some (fnv 26)
theorem Kinds.below {w w1 : World} {b : Nat} (h : Kinds w b) (hb : Below w.heap.size w w1) : Kinds w1 b := ⟨cellB hb h.c0, cellB hb h.c1, cellB hb h.c2, cellB hb h.c3⟩
/-- The k-th reader. -/
structure Reader (k F : Nat) : Prop where
  enter : ∀ args w, (callFunc F args).run Tryz.prog w = .ok (.enter F args) w
  cell : ∀ b W, Kinds W b → W.cell? ⟨b, k, none⟩ = some (fnv F)
  miss : ∀ r : Txt, 0 < r.length → r.length ≤ 90000 → k < cls r → ∀ W, Calls Tryz.prog F #[str r] W (Miss W)
  hit : ∀ r : Txt, 0 < r.length → r.length ≤ 90000 → cls r = k → ∀ W, Calls Tryz.prog F #[str r] W (TokPost W (tok r))
theorem reader_any (k : Nat) (hk : k < 4) : ∃ F, Reader k F := by
  have hd : ∀ r : Txt, 0 < r.length → ∃ c x, r = c :: x := fun r h0 => by cases r with | nil => simp at h0 | cons c x => exact ⟨c, x, rfl⟩
  match k, hk with
  | 0, _ =>
    refine ⟨23, enters_of Tryz.func23 (by kernel_rfl) rfl, fun b W h => h.c0, fun r h0 hl h W => ?_, fun r h0 hl h W => name_tok r h0 hl h W⟩
    obtain ⟨c, x, hr⟩ := hd r h0
    exact name_miss r c h0 (head0 hr h0) (by omega) (by have := cls_pos (c := c) (r := x) (by rw [← hr]; exact h); simpa using this) W
  | 1, _ =>
    refine ⟨24, enters_of Tryz.func24 (by kernel_rfl) rfl, fun b W h => h.c1, fun r h0 hl h W => ?_, fun r h0 hl h W => number_tok r h0 hl h W⟩
    obtain ⟨c, x, hr⟩ := hd r h0
    exact number_miss r c h0 (head0 hr h0) (by omega) (by have := cls_gt1 (c := c) (r := x) (by rw [← hr]; exact h); simpa using this.2) W
  | 2, _ =>
    refine ⟨25, enters_of Tryz.func25 (by kernel_rfl) rfl, fun b W h => h.c2, fun r h0 hl h W => ?_, fun r h0 hl h W => text_tok r h0 hl h W⟩
    obtain ⟨c, x, hr⟩ := hd r h0
    exact text_miss r c h0 (head0 hr h0) (cls_gt2 (c := c) (r := x) (by rw [← hr]; exact h)).2.2 W
  | 3, _ =>
    refine ⟨26, enters_of Tryz.func26 (by kernel_rfl) rfl, fun b W h => h.c3, fun r h0 hl h W => symbol_miss r h0 hl (by have := cls_le r; omega) W, fun r h0 hl h W => symbol_tok r h0 hl h W⟩

/-! ### The deferred function. -/
theorem assert_yes (er : Int) (w : World) : (Instr.typeAssert (.iface 24 (.int .i64 er)) 20 24 true).run Tryz.prog w = .ok (.tuple #[.int .i64 er, .bool true]) w := by kernel_rfl
theorem assert_nil (w : World) : (Instr.typeAssert .nilIface 20 24 true).run Tryz.prog w = .ok (.tuple #[.int .i64 0, .bool false]) w := by kernel_rfl
set_option maxRecDepth 100000 in
set_option maxHeartbeats 4000000 in
/-- It catches an error: no tokens, the error. -/
theorem catch_bad (b : Nat) (er : Int) (v x : Value) (older : List PanicEntry) (w : World) (c0 : w.cell? ⟨b, 0, none⟩ = some v) (f0 : w.frozen? ⟨b, 0, none⟩ = false) (c1 : w.cell? ⟨b + 1, 0, none⟩ = some x) (f1 : w.frozen? ⟨b + 1, 0, none⟩ = false) :
    CallsD Tryz.prog 22 #[.pointer (some ⟨b, 0, none⟩), .pointer (some ⟨b + 1, 0, none⟩)] (.panicking ({ v := .iface 24 (.int .i64 er), recovered := false } :: older)) w fun e u' w' =>
      e = .returned (.tuple #[]) ∧ u' = .panicking ({ v := .iface 24 (.int .i64 er), recovered := true } :: older) ∧ w' = (w.setCell ⟨b, 0, none⟩ (.slice none 0 0)).setCell ⟨b + 1, 0, none⟩ (.int .i64 er) := by
  refine callsD_of_wpS Tryz.func22 rfl fun c₀ cs hu => ?_
  apply wpS_seq
  apply wpS_region
  simp [wpOpsS, go_sem, recoverD, hu, Tryz.ntmps22, Exit.thenS, assert_yes]
  apply wpS_seq
  apply wpS_region
  simp [wpOpsS, go_sem, Exit.thenS]
  refine wpS_cond (t := true) (by simp [Act.eval, Array.replicate]) ?_
  simp only [if_true]
  apply wpS_region
  simp [wpOpsS, go_sem, c0, f0, c1, f1, bodyPostS, results, Tryz.results22]
set_option maxRecDepth 100000 in
set_option maxHeartbeats 4000000 in
/-- There is nothing to catch. -/
theorem catch_idle (p q : Addr) (w : World) :
    CallsD Tryz.prog 22 #[.pointer (some p), .pointer (some q)] .returning w fun e u' w' => e = .returned (.tuple #[]) ∧ u' = .returning ∧ w' = w := by
  refine callsD_of_wpS Tryz.func22 rfl fun c₀ cs hu => ?_
  apply wpS_seq
  apply wpS_region
  simp [wpOpsS, go_sem, recoverD, hu, Tryz.ntmps22, Exit.thenS, assert_nil]
  apply wpS_seq
  apply wpS_region
  simp [wpOpsS, go_sem, Exit.thenS]
  refine wpS_cond (t := false) (by simp [Act.eval, Array.replicate]) ?_
  simp only [Bool.false_eq_true, if_false]
  refine wpS_of_wp (wp_skip ?_)
  cases c₀
  simp_all [bodyPostS, results, Tryz.results22]
end Go.Proofs.YtcgkaecaddpenaaGreatDoor
