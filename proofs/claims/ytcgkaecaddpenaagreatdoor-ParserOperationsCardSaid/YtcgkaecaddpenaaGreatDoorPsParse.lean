/- The program's Parse, whatever the text. -/
import Derived.Test.YtcgkaecaddpenaaGreatDoorPsProg
import Derived.Test.YtcgkaecaddpenaaGreatDoorPLaw
import Derived.Test.YtcgkaecaddpenaaGreatDoorLxPgE
import Derived.Lib.AppendZeros
namespace Go.Proofs.YtcgkaecaddpenaaGreatDoor
open Go.RowKit
open L7 (Tk lexT tkOf gap lx)
open L8
set_option linter.unusedSimpArgs false

/-! ### What the lexer says of tokens. -/
theorem tok_good {r : List UInt8} {t : Int × List UInt8 × Int} {n : Nat} (h : L7.tok r = (t, n, 0)) : t.1 ≠ 0 ∧ 0 ≤ t.2.2 ∧ t.2.2 ≤ 9999999999 ∧ t.2.1.length ≤ 200 := by
  match r with
  | [] => rw [L7.tok] at h; exact absurd h (L7.bad_ne (by decide))
  | c :: r =>
    by_cases h1 : L7.Lt c = true
    · rw [L7.tok_name h1] at h
      split at h
      · exact absurd h (L7.bad_ne (by decide))
      · simp only [Prod.mk.injEq] at h
        obtain ⟨rfl, _⟩ := h
        exact ⟨(by decide : (1 : Int) ≠ 0), Int.le_refl _, (by decide : (0 : Int) ≤ 9999999999), by show ((c :: r).takeWhile L7.In).length ≤ 200; omega⟩
    · by_cases h2 : L7.Dg c = true
      · rw [L7.tok_num h1 h2] at h
        split at h
        · exact absurd h (L7.bad_ne (by decide))
        · rename_i hn
          simp only [Prod.mk.injEq] at h
          obtain ⟨rfl, _⟩ := h
          have hl : ((c :: r).takeWhile L7.Dg).length ≤ 10 := Nat.le_of_not_lt (fun q => hn (.inl q))
          have := L7.num_lt (l := (c :: r).takeWhile L7.Dg) (L7.mem_tw _ _) hl
          exact ⟨(by decide : (2 : Int) ≠ 0), by show (0 : Int) ≤ ((L7.num _ : Nat) : Int); omega, by show ((L7.num _ : Nat) : Int) ≤ _; omega, by show ((c :: r).takeWhile L7.Dg).length ≤ 200; omega⟩
      · by_cases h3 : c = 34
        · subst h3
          rw [L7.tok_text] at h
          split at h
          · rename_i he
            exact absurd h (L7.bad_ne he)
          · split at h
            · exact absurd h (L7.bad_ne (by decide))
            · simp only [Prod.mk.injEq] at h
              obtain ⟨rfl, _⟩ := h
              exact ⟨(by decide : (3 : Int) ≠ 0), Int.le_refl _, (by decide : (0 : Int) ≤ 9999999999), by show (L7.con r).1.length ≤ 200; omega⟩
        · rw [L7.tok_sym h1 h2 h3] at h
          split at h
          · exact absurd h (L7.bad_ne (by decide))
          · simp only [Prod.mk.injEq] at h
            obtain ⟨rfl, _⟩ := h
            have : L7.symN (c :: r) ≤ 2 := by
              rcases L7.symN_cases c r with e | e | e <;> omega
            exact ⟨(by decide : (4 : Int) ≠ 0), Int.le_refl _, (by decide : (0 : Int) ≤ 9999999999), by show ((c :: r).take _).length ≤ 200; rw [List.length_take]; omega⟩
theorem good_lx : ∀ (m : Nat) (r : List UInt8) (p : Nat), r.length ≤ m → ∀ t ∈ (lx r p).1, TkOk t
  | m, r, p, hm => by
    rcases L7.lx_cases r with h1 | ⟨h1, he⟩ | ⟨h1, t, n, ht⟩
    · rw [L7.lx_nil h1]
      exact fun t h => by cases h
    · rw [L7.lx_bad h1 he]
      exact fun t h => by cases h
    · obtain ⟨hn, hl, _⟩ := L7.tok_ext ht
      rw [List.length_drop] at hl
      rw [L7.lx_tok h1 ht]
      match m with
      | 0 => omega
      | m + 1 =>
        intro u hu
        rcases List.mem_cons.1 hu with rfl | hu
        · obtain ⟨q1, q2, q3, q4⟩ := tok_good ht
          exact ⟨q1, q2, q3, Nat.le_trans q4 (by decide)⟩
        · exact good_lx m _ _ (by rw [List.length_drop]; omega) u hu

/-! ### The tokens, with the ending behind them. -/
set_option maxRecDepth 100000 in
set_option maxHeartbeats 8000000 in
theorem grow_tok (n : Nat) (h0 : 0 < n) (hn : n ≤ 100000) (w : World) : Calls Tryz.prog 29 #[.slice none 0 0, .int .i64 (n : Int)] w
    fun e w' => ∃ v, e = .returned v ∧ w'.ownsRow w.heap.size 37 4 v 0 [] ∧ Below w.heap.size w w' := by
  obtain ⟨i0, hi, hz0, hz1, hz2⟩ := info_parts elemTok.hi
  have hG := grownCap_ge w n 0 37
  have hG2 : grownCap w n 0 37 ≤ maxLen := grownCap_le_maxLen w n 0 37 (by unfold maxLen; omega)
  have hrz : ∀ ty, (Builtin.append_ #[23, 3] ty #[.slice none 0 0, .int .i64 (n : Int)]).run Tryz.prog w = _ := fun ty =>
    Lib.run_append_nil_zeros w 23 3 ty 37 i0 _ .i64 .i64 Tryz.underlying23 Tryz.underlying3 hi hz0 n h0 (by rw [hz1]; decide) (by omega) (by rw [hz2]; omega)
  obtain ⟨g, hg⟩ : ∃ g, grownCap w n 0 37 = g := ⟨_, rfl⟩
  rw [hg] at hrz hG hG2
  obtain ⟨cs, hcs⟩ : ∃ cs, Builtin.zeroCells (Value.agg #[.int .i64 0, .string ⟨#[]⟩, .int .i64 0, .int .i64 0]).cells n ++ Builtin.zeroCells (Value.agg #[.int .i64 0, .string ⟨#[]⟩, .int .i64 0, .int .i64 0]).cells (g - n) = cs := ⟨_, rfl⟩
  rw [hcs] at hrz
  have hsz : cs.size = g * 4 := by
    rw [← hcs]
    simp only [Builtin.zeroCells, Array.size_append, Array.size_map, Array.size_range]
    show n * 4 + (g - n) * 4 = g * 4
    omega
  have h1 : ¬ ((n : Int) < 0) := by omega
  have h2 : (0 : Int) < (n : Int) := by omega
  have hw : IntKind.i64.wrap (n : Int) = n := IntWalk.i64_in _ (by omega)
  have hg0 : (0 : Int) ≤ (g : Int) := by omega
  have HO := Lib.hid (World.ownsRow_made (base := w.heap.size) (e := 37) (size := 4) w cs g (Nat.le_refl _) hG2 hsz)
  clear hsz hcs hG2 hi hz0 hz1 hz2 hg
  go_enter Tryz.func29, Tryz.ntmps29
  go_wp2_with (at_builtin; refine Lib.wpList_append_run _ rfl _ _ _ _ rfl _ _ rfl rfl _ _ (hrz _) ?_)
  go_ret
  exact ⟨_, rfl, own_heap HO.out (fun _ _ => rfl), (below_box w _).trans (below_drewN _ _ 1)⟩
set_option maxRecDepth 100000 in
set_option maxHeartbeats 8000000 in
theorem concat_tok (b b2 : Nat) (A1 : Option Addr) (n1 c1 : Nat) (xs ys : List Value) (w : World) (h0 : w.cell? ⟨b, 0, none⟩ = some (.slice A1 n1 c1)) (h1 : w.cell? ⟨b, 1, none⟩ = some (.slice (some ⟨b2, 0, none⟩) 1 1)) (hn : n1 ≤ 5000)
    (s1 : Src w A1 n1 c1 4 xs) (s2 : Src w (some ⟨b2, 0, none⟩) 1 1 4 ys) :
    Calls Tryz.prog 16 #[.slice (some ⟨b, 0, none⟩) 2 2] w
    fun e w' => ∃ v, e = .returned v ∧ w'.ownsRow w.heap.size 37 4 v (n1 + 1) (xs ++ ys) ∧ Below w.heap.size w w' := by
  have G := Lib.hid (fun W => (show Calls Tryz.prog 29 #[.slice none 0 0, .int .i64 ((n1 : Int) + 1)] W (fun e w' => ∃ v, e = .returned v ∧ w'.ownsRow W.heap.size 37 4 v 0 [] ∧ Below W.heap.size W w') from grow_tok (n1 + 1) (by omega) (by omega) W))
  have Q1 := Lib.hid s1
  have Q2 := Lib.hid s2
  have X0 := Lib.hid h0
  have X1 := Lib.hid h1
  clear s1 s2
  have j0 : IntKind.i64.wrap ((0 : Int) + (n1 : Int)) = (n1 : Int) := by rw [Int.zero_add]; exact IntWalk.i64_in _ (by omega)
  have j0' : IntKind.i64.wrap (n1 : Int) = (n1 : Int) := IntWalk.i64_in _ (by omega)
  have j1 : IntKind.i64.wrap ((n1 : Int) + 1) = (n1 : Int) + 1 := IntWalk.i64_in _ (by omega)
  have j2 : ¬ (n1 : Int) < 0 := by omega
  have j3 : ¬ (n1 : Int) + 1 < 0 := by omega
  go_enter Tryz.func16, Tryz.ntmps16
  go_wp2_with fail
  go_loopw [3, 11] (fun a i wr => wr = w ∧ ((a = .int .i64 0 ∧ i = .int .i64 0) ∨ (a = .int .i64 (n1 : Int) ∧ i = .int .i64 1) ∨ (a = .int .i64 ((n1 : Int) + 1) ∧ i = .int .i64 2))) (fun _ i _ => 2 - (intOf i).toNat)
  case atStart => exact ⟨rfl, .inl ⟨rfl, rfl⟩⟩
  case round =>
    obtain ⟨rfl, ⟨rfl, rfl⟩ | ⟨rfl, rfl⟩ | ⟨rfl, rfl⟩⟩ := hrel
    · go_wp2_with fail
      exact ⟨⟨trivial, .inr (.inl ⟨rfl, rfl⟩)⟩, by decide⟩
    · go_wp2_with fail
      exact ⟨⟨trivial, .inr (.inr ⟨rfl, rfl⟩)⟩, by decide⟩
    · go_wp2_with fail
      refine (G.out _).mono ?_
      rintro e w1 ⟨v0, rfl, ho, hb⟩
      have O1 := Lib.hid ho
      have B1 := Lib.hid hb
      have m0 := cellB hb X0.out
      have m1 := cellB hb X1.out
      clear ho hb h0 h1
      obtain ⟨wo, hwo⟩ : ∃ wo, wo = wr := ⟨_, rfl⟩
      have X0' := Lib.hid (hwo ▸ X0.out : wo.cell? ⟨b, 0, none⟩ = some (.slice A1 n1 c1))
      have X1' := Lib.hid (hwo ▸ X1.out : wo.cell? ⟨b, 1, none⟩ = some (.slice (some ⟨b2, 0, none⟩) 1 1))
      have Q1' := Lib.hid (hwo ▸ Q1.out : Src wo A1 n1 c1 4 xs)
      have Q2' := Lib.hid (hwo ▸ Q2.out : Src wo (some ⟨b2, 0, none⟩) 1 1 4 ys)
      go_wp2_with fail
      go_loopw [6, 27] (fun v i wq => Below wo.heap.size wo wq ∧ ((wq.ownsRow wo.heap.size 37 4 v 0 [] ∧ i = .int .i64 0) ∨ (wq.ownsRow wo.heap.size 37 4 v n1 xs ∧ i = .int .i64 1) ∨ (wq.ownsRow wo.heap.size 37 4 v (n1 + 1) (xs ++ ys) ∧ i = .int .i64 2))) (fun _ i _ => 2 - (intOf i).toNat)
      case atStart => exact ⟨hwo ▸ B1.out, .inl ⟨hwo ▸ O1.out, rfl⟩⟩
      case round =>
        obtain ⟨hb, ⟨ho, rfl⟩ | ⟨ho, rfl⟩ | ⟨ho, rfl⟩⟩ := hrel
        · skip
          have q0 := cellB hb X0'.out
          have S1 := Lib.hid (Q1'.out.below hb)
          have OW := Lib.hid ho
          have HB := Lib.hid hb
          have hsz := hb.size
          clear hb ho
          go_wp2_with (at_builtin; (refine wpList_app elemTok rfl (.tmp 31) (.tmp 32) rfl (base := wo.heap.size) (by rfl) OW.out (by rfl) S1.out (by omega) (by omega) ?_; intro v2 w4 hown hg hat))
          exact ⟨⟨HB.out.grown hg hsz (fun j hj => (OW.out.lt j hj).1), .inr (.inl ⟨by simpa using hown, rfl⟩)⟩, by decide⟩
        · skip
          have q0 := cellB hb X1'.out
          have S1 := Lib.hid (Q2'.out.below hb)
          have OW := Lib.hid ho
          have HB := Lib.hid hb
          have hsz := hb.size
          clear hb ho
          go_wp2_with (at_builtin; (refine wpList_app elemTok rfl (.tmp 31) (.tmp 32) rfl (base := wo.heap.size) (by rfl) OW.out (by rfl) S1.out (by omega) (by omega) ?_; intro v2 w4 hown hg hat))
          exact ⟨⟨HB.out.grown hg hsz (fun j hj => (OW.out.lt j hj).1), .inr (.inr ⟨hown, rfl⟩)⟩, by decide⟩
        · have OW := Lib.hid ho
          have HB := Lib.hid hb
          clear ho hb
          go_wp2_with fail
          go_ret
          subst hwo
          exact ⟨_, rfl, OW.out, HB.out⟩
theorem one_tokL (x : Tk) : ∀ u ∈ tokL x, u.oneCell' = true := by
  intro u hu
  simp only [tokL, List.mem_cons, List.not_mem_nil, or_false] at hu
  rcases hu with rfl | rfl | rfl | rfl <;> rfl
theorem own_pos {w : World} {base : Nat} {e : TypeId} {size n : Nat} {v : Value} {xs : List Value} (h : w.ownsRow base e size v n xs) (hn : 0 < n) : ∃ g cap, v = .slice (some ⟨g, 0, none⟩) n cap ∧ n ≤ cap ∧ base ≤ g ∧ g < w.heap.size ∧ ∀ j u, xs[j]? = some u → w.cell? ⟨g, j, none⟩ = some u := by
  have h2 := h
  rcases h.2 with ⟨rfl, h0⟩ | ⟨g, cap, cur, rfl, hb, hg, hc, _⟩
  · omega
  · refine ⟨g, cap, rfl, hc, hb, (Array.getElem?_eq_some_iff.1 hg).1, fun j u hj => ?_⟩
    have := h2.cells (g := g) rfl j u hj
    rw [add_none, Nat.zero_add] at this
    exact this
/-- The parser, as Parse makes it. -/
theorem sta_new {w2 : World} {l : List Tk} {n g cap : Nat} {T : TypeId} (hl : l.length ≤ 5000) (hg : ∀ t ∈ l, TkOk t) (hc : l.length + 1 ≤ cap) (hlt : g < w2.heap.size)
    (hx : ∀ j u, (l.flatMap tokL ++ tokL ⟨0, [], 0, n⟩)[j]? = some u → w2.cell? ⟨g, j, none⟩ = some u) :
    Sta (w2.alloc (.cells #[.slice (some ⟨g, 0, none⟩) (l.length + 1) cap, .int .i64 0] T)) ⟨w2.heap.size, g, n⟩ l 0 := by
  refine ⟨0, cap, ⟨by simp [go_sem], by simp [go_sem], by simp [go_sem], by simp [go_sem], hc, (by show g ≠ w2.heap.size; omega), hl, hg, fun i t hi k hk => ?_⟩⟩
  have e1 : l.flatMap tokL ++ tokL ⟨0, [], 0, n⟩ = (l ++ [ending n]).flatMap tokL := by rw [List.flatMap_append, List.flatMap_singleton]; rfl
  have hil : i < (l ++ [ending n]).length := (List.getElem?_eq_some_iff.1 hi).1
  have e2 : (l ++ [ending n])[i] = t := (List.getElem?_eq_some_iff.1 hi).2
  have h3 := flat_get tokL_len (l ++ [ending n]) i k hil hk
  rw [← e1, e2] at h3
  have hk2 : k < (tokL t).length := hk
  rw [List.getElem?_eq_getElem hk2] at h3
  have h4 := hx _ _ h3
  show _ = (tokL t)[k]?
  rw [List.getElem?_eq_getElem hk2, Nat.zero_add]
  exact Cell.alloc h4 _
/-- What Parse returns. -/
def ParsePost (w : World) (R : List It × Int × Int) (e : Ending) (w' : World) : Prop :=
  ∃ v, e = .returned (.tuple #[.agg #[v], .int .i64 R.2.1, .int .i64 R.2.2]) ∧ Its w.heap.size w' v R.1 ∧ Below w.heap.size w w'
set_option maxRecDepth 100000 in
set_option maxHeartbeats 8000000 in
theorem parse_any (t : Txt) (htl : t.length ≤ 100000000) (w : World) :
    Calls Tryz.prog 9 #[str t] w (ParsePost w (parseT t)) := by
  have hsz := sz t
  obtain ⟨⟨l, er, at_⟩, hlx⟩ : ∃ x, lexT t = x := ⟨_, rfl⟩
  have CL := Lib.hid (fun W => (show Calls Tryz.prog 8 #[str t] W (LexPost W (l, er, at_)) from hlx ▸ lex_any t htl W))
  obtain ⟨R, hR⟩ : ∃ R, parseT t = R := ⟨_, rfl⟩
  rw [hR]
  have HR := Lib.hid hR
  have HLX := Lib.hid hlx
  clear hR hlx
  go_enter Tryz.func9, Tryz.ntmps9
  go_wp2_with fail
  refine (CL.out _).mono ?_
  rintro e w1 ⟨v, rfl, ht, hb⟩
  have HB := Lib.hid hb
  have HT := Lib.hid ht
  obtain ⟨A1, c1, rfl⟩ : ∃ A c, v = .slice A l.length c := by obtain ⟨A, c, e, _⟩ := ht.form; exact ⟨A, c, e⟩
  have a0 := cellB hb (show (w.alloc (.cells #[.slice none 0 0] 29)).cell? ⟨w.heap.size, 0, none⟩ = some (.slice none 0 0) by simp [go_sem])
  have a1 := frozenB hb (show (w.alloc (.cells #[.slice none 0 0] 29)).cell? ⟨w.heap.size, 0, none⟩ = some (.slice none 0 0) by simp [go_sem]) (by simp [go_sem])
  have hz1 : w.heap.size + 1 ≤ w1.heap.size := by have := hb.size; simpa using this
  clear ht hb
  by_cases he : er = 0
  · subst he
    obtain ⟨k1, k2, k3, rfl⟩ := lexT_ok HLX.out
    have RP := Lib.hid (show R = endT t.length (itemsP 200 l) from HR.out.symm.trans (parse_lex HLX.out))
    have GD := Lib.hid (show ∀ x ∈ l, TkOk x from by have := good_lx t.length t 0 (Nat.le_refl _); rw [k1] at this; exact this)
    have S1 := Lib.hid ((((src_of_slc tokL_len (by decide) HT.out (fun x _ => one_tokL x) (fun b o x hx => hx)).2.below (below_box w1 (.cells #[.int .i64 0, str [], .int .i64 0, .int .i64 (t.length : Int)] 37)))).below (below_box _ (.cells #[.slice A1 l.length c1, .slice (some ⟨w1.heap.size, 0, none⟩) 1 1] 23)))
    have S2 := Lib.hid ((src_tok w1 0 0 (t.length : Int) [] 37 w1.heap.size rfl).below (below_box _ (.cells #[.slice A1 l.length c1, .slice (some ⟨w1.heap.size, 0, none⟩) 1 1] 23)))
    clear k1
    go_wp2_with fail
    refine (concat_tok (w1.heap.size + 1) w1.heap.size A1 l.length c1 (l.flatMap tokL) (tokL ⟨0, [], 0, (t.length : Int)⟩) _ (by simp [go_sem]) (by simp [go_sem]) k2 S1.out S2.out).mono ?_
    rintro e w2 ⟨v2, rfl, hown, hb2⟩
    obtain ⟨g, cap, rfl, hcap, hg1, hg2, hcell⟩ := own_pos hown (by omega)
    have hgw : w.heap.size ≤ g := by simp at hg1; omega
    have hz2 : w1.heap.size ≤ w2.heap.size := by have := hb2.size; simp at this; omega
    have b0 := cellB hb2 (Cell.alloc (Cell.alloc a0 (.cells #[.int .i64 0, str [], .int .i64 0, .int .i64 (t.length : Int)] 37)) (.cells #[.slice A1 l.length c1, .slice (some ⟨w1.heap.size, 0, none⟩) 1 1] 23))
    have HB2 := Lib.hid ((((below_box w (.cells #[.slice none 0 0] 29)).trans (HB.out.mono (by simp))).trans (((below_box w1 (.cells #[.int .i64 0, str [], .int .i64 0, .int .i64 (t.length : Int)] 37)).trans (below_box _ (.cells #[.slice A1 l.length c1, .slice (some ⟨w1.heap.size, 0, none⟩) 1 1] 23) |>.mono (by simp))).mono (by omega))).trans (hb2.mono (by simp; omega)))
    have ST := Lib.hid (sta_new (T := 67) k2 GD.out hcap hg2 hcell)
    have f0 := frozenB hb2 (Cell.alloc (Cell.alloc a0 (.cells #[.int .i64 0, str [], .int .i64 0, .int .i64 (t.length : Int)] 37)) (.cells #[.slice A1 l.length c1, .slice (some ⟨w1.heap.size, 0, none⟩) 1 1] 23)) (frozenB (below_box _ _) (Cell.alloc a0 _) (frozenB (below_box _ _) a0 a1))
    have hzz : w.heap.size < w2.heap.size := cellLt b0
    clear hown hb2 hcell a0 a1
    go_wp2_with fail
    refine (program_any _ ST.out).mono ?_
    rintro e w4 ⟨v4, rfl, hi, hn⟩
    obtain ⟨A4, c4, rfl⟩ : ∃ A c, v4 = .slice A (endT t.length (itemsP 200 l)).1.length c := by obtain ⟨A, c, e, _⟩ := hi.form; exact ⟨A, c, e⟩
    have HI := Lib.hid hi
    have HN := Lib.hid hn
    have hne : ¬ w.heap.size = w2.heap.size := by omega
    have c0 := hn.cell (g := w.heap.size) (o := 0) (Cell.alloc b0 _) hne
    have c1 := hn.frozen (g := w.heap.size) (o := 0) (Cell.alloc b0 _) (frozenB (below_box _ _) b0 f0) hne
    obtain ⟨⟨l4, er4, at4⟩, hE⟩ : ∃ x, endT t.length (itemsP 200 l) = x := ⟨_, rfl⟩
    have HE := Lib.hid hE
    simp only [hE] at c0 c1 HI ⊢
    clear hi hn hE b0 f0
    go_wp2_with fail
    refine bodyPost_ret (v := .tuple #[.agg #[.slice A4 l4.length c4], .int .i64 er4, .int .i64 at4]) (by simp [results, Tryz.results9, go_sem, c0]) rfl ?_
    rw [RP.out, HE.out]
    have hsz4 : w2.heap.size + 1 ≤ w4.heap.size := by have := HN.out.size; simpa using this
    have hI := HI.out
    simp only [World.size_alloc] at hI
    refine ⟨_, rfl, (hI.keep (w1 := w4.setCell ⟨w.heap.size, 0, none⟩ (.slice A4 l4.length c4)) (by simp) (fun b hb _ => heap_setCell_other _ _ _ _ (fun e => by have e2 : b = w.heap.size := e; omega))).lower (by omega), ?_⟩
    exact (HB2.out.trans ((below_box w2 _ |>.mono (by omega)).trans (HN.out.below (B := w.heap.size) (by simp; omega) (fun i hi e => by have e2 : i = w2.heap.size := e; omega)))).setCell (Nat.le_refl _) _
  · have d1 : (er != 0) = true := by simpa using he
    have RP := Lib.hid (show R = ([], er, at_) from HR.out.symm.trans ((parse_err (by rw [HLX.out]; exact he)).trans (by rw [HLX.out])))
    go_wp2_with fail
    refine bodyPost_ret (v := .tuple #[.agg #[.slice none 0 0], .int .i64 er, .int .i64 at_]) (by simp [results, Tryz.results9, go_sem, a0]) rfl ?_
    rw [RP.out]
    exact ⟨_, rfl, Slc.nil _, ((below_box w (.cells #[.slice none 0 0] 29)).trans (HB.out.mono (by simp))).setCell (Nat.le_refl _) _⟩
end Go.Proofs.YtcgkaecaddpenaaGreatDoor
