/- The program's second kid. -/
import Derived.Test.YtcgkaecaddpenaaGreatDoorPsPgX
import Derived.Deep.RegionLaw
namespace Go.Proofs.YtcgkaecaddpenaaGreatDoor
open Go.RowKit
open L7 (Tk)
open L8
set_option linter.unusedSimpArgs false

/-- The operation has two kids: their cells, one behind the other. -/
def isTwo (D : Nat) (a : Ex) (kd at0 : Int) (k1 c1 n1 : Value) (kb : Nat) (w : World) (cells : Array Value) (x : Ex) : Prop := ∃ b2 g2 c2 k2 cs2 n2, x = .e2 (hk kd at0) a b2 ∧ cells = (exL (hk kd at0) (.slice (some ⟨g2, 0, none⟩) 2 c2) (.slice none 0 0) (.slice none 0 0)).toArray ∧ 2 ≤ c2 ∧ kb ≤ g2 ∧
  (∀ k, k < 9 → w.cell? ⟨g2, 0 + k, none⟩ = (exL (hd a) k1 c1 n1)[k]?) ∧ (∀ k, k < 9 → w.cell? ⟨g2, 0 + 9 + k, none⟩ = (exL (hd b2) k2 cs2 n2)[k]?) ∧ ExC D w b2 k2 cs2 n2
theorem elem_ex : Elem 47 49 (.agg #[.int .i64 0, .string ⟨#[]⟩, .slice none 0 0, .slice none 0 0, .slice none 0 0, .string ⟨#[]⟩, .string ⟨#[]⟩, .int .i64 0, .int .i64 0]) 9 144 := ⟨Tryz.underlying47, by kernel_rfl, rfl, by decide, by decide⟩
def exZ : List Value := exL hz (.slice none 0 0) (.slice none 0 0) (.slice none 0 0)
theorem one_exZ : ∀ u ∈ exZ, u.oneCell' = true := by
  intro u hu
  simp only [exZ, exL, List.mem_cons, List.not_mem_nil, or_false] at hu
  rcases hu with rfl | rfl | rfl | rfl | rfl | rfl | rfl | rfl | rfl <;> rfl
theorem tch_grown3 {g q kb : Nat} {a w w1 : World} (h : Near2 g q kb a w) (hg : w.grownBy w1 (some kb)) : Near2 g q kb a w1 :=
  ⟨hg.os.trans h.os, hg.tape.trans h.tape, hg.output.trans h.output, Nat.le_trans h.size hg.size, fun i hi hs => (hg.block i (Nat.lt_of_lt_of_le hi h.size) (fun e => hs (Or.inr (Or.inr (Option.some.inj e))))).trans (h.block i hi hs)⟩
theorem Kept.grow {D : Nat} {a w w1 : World} {row : Option Nat} (h : Kept D a w) (hg : w.grownBy w1 row) (hr : ∀ j, row = some j → j < D) : Kept D a w1 :=
  ⟨Nat.le_trans h.size hg.size, fun i hi hl => (hg.block i (Nat.lt_of_lt_of_le hl h.size) (fun e => by have := hr i e.symm; omega)).trans (h.block i hi hl)⟩
theorem own_of_blk {w : World} {b : Nat} {T : TypeId} {cs : List Value} (h : Blk w b T cs.toArray) : w.ownsRow b T cs.length (.slice (some ⟨b, 0, none⟩) 1 1) 1 cs :=
  ⟨by simp, Or.inr ⟨b, 1, cs.toArray, rfl, Nat.le_refl _, h, Nat.le_refl _, by unfold maxLen; omega, by simp, by simp⟩⟩
theorem own_nine {w : World} {base g c : Nat} {T : TypeId} {l : List Value} (hl : l.length = 9) (h : w.ownsRow base T 9 (.slice (some ⟨g, 0, none⟩) 2 c) 2 (l ++ exZ)) :
    (w.cell? ⟨g, 9, none⟩ = some (.int .i64 0) ∧ w.cell? ⟨g, 10, none⟩ = some (str []) ∧ w.cell? ⟨g, 11, none⟩ = some (.slice none 0 0) ∧ w.cell? ⟨g, 12, none⟩ = some (.slice none 0 0) ∧ w.cell? ⟨g, 13, none⟩ = some (.slice none 0 0) ∧ w.cell? ⟨g, 14, none⟩ = some (str []) ∧ w.cell? ⟨g, 15, none⟩ = some (str []) ∧ w.cell? ⟨g, 16, none⟩ = some (.int .i64 0) ∧ w.cell? ⟨g, 17, none⟩ = some (.int .i64 0)) ∧
    (∀ i, w.frozen? ⟨g, i, none⟩ = false) ∧ ∀ k, k < 9 → w.cell? ⟨g, 0 + k, none⟩ = l[k]? := by
  rcases h.2 with ⟨e, _⟩ | ⟨g2, cap, cur, e, _, hh, hle, _, hsz, htk⟩
  · cases e
  · injection e with e1 _ e3
    injection e1 with e1
    injection e1 with e1
    subst e1 e3
    have hc : ∀ i, w.cell? ⟨g, i, none⟩ = cur[i]? := fun i => cell_of_row w g i cur T (0, 0) hh
    have hx : ∀ i, i < 18 → cur[i]? = (l ++ exZ)[i]? := fun i hi => by
      rw [← htk, List.getElem?_take_of_lt (by omega), Array.getElem?_toList]
    have hy : ∀ i, i < 9 → w.cell? ⟨g, 9 + i, none⟩ = exZ[i]? := fun i hi => by
      rw [hc, hx _ (by omega), List.getElem?_append_right (by omega), hl, Nat.add_sub_cancel_left]
    exact ⟨⟨hy 0 (by decide), hy 1 (by decide), hy 2 (by decide), hy 3 (by decide), hy 4 (by decide), hy 5 (by decide), hy 6 (by decide), hy 7 (by decide), hy 8 (by decide)⟩, fun i => frozen_of_row w g i cur T hh, fun k hk => by
      rw [Nat.zero_add, hc, hx _ (by omega), List.getElem?_append_left (by omega)]⟩
theorem heap_setCells {i b : Nat} (h : i ≠ b) : ∀ (vs : List Value) (o : Nat) (w : World), (w.setCells b o vs).heap[i]? = w.heap[i]?
  | [], _, _ => rfl
  | v :: r, o, w => by rw [World.setCells, heap_setCells h r]; exact heap_setCell_other w ⟨b, o, none⟩ i v h
theorem size_setCells (b : Nat) : ∀ (vs : List Value) (o : Nat) (w : World), (w.setCells b o vs).heap.size = w.heap.size ∧ (w.setCells b o vs).os = w.os ∧ (w.setCells b o vs).tape = w.tape ∧ (w.setCells b o vs).output = w.output
  | [], _, _ => ⟨rfl, rfl, rfl, rfl⟩
  | v :: r, o, w => by
    obtain ⟨h1, h2, h3, h4⟩ := size_setCells b r (o + 1) (w.setCell ⟨b, o, none⟩ v)
    rw [World.setCells]
    exact ⟨h1.trans (by simp), h2, h3, h4⟩
/-- What is behind the second kid's storing. -/
structure SecW (w4 W : World) (g4 B : Nat) (l : List Value) (v : Value) : Prop where
  os : W.os = w4.os
  tape : W.tape = w4.tape
  output : W.output = w4.output
  size : W.heap.size = w4.heap.size
  far : ∀ i, i ≠ g4 → i ≠ B → W.heap[i]? = w4.heap[i]?
  atB : W.heap[B]? = (w4.setCell ⟨B, 2, none⟩ v).heap[B]?
  low : ∀ k, k < 9 → W.cell? ⟨g4, 0 + k, none⟩ = w4.cell? ⟨g4, 0 + k, none⟩
  high : ∀ k, k < 9 → W.cell? ⟨g4, 0 + 9 + k, none⟩ = l[k]?
theorem secW_a {w4 : World} {g4 B : Nat} {l : List Value} {v : Value} (hne : g4 ≠ B) (hl : l.length = 9) (hs : ∀ j, j < 9 → (w4.cell? ⟨g4, 9 + j, none⟩).isSome = true) : SecW w4 ((w4.setCells g4 9 l).setCell ⟨B, 2, none⟩ v) g4 B l v := by
  obtain ⟨h1, h2, h3, h4⟩ := size_setCells g4 l 9 w4
  have hc : ∀ k, ((w4.setCells g4 9 l).setCell ⟨B, 2, none⟩ v).cell? ⟨g4, k, none⟩ = (w4.setCells g4 9 l).cell? ⟨g4, k, none⟩ := fun k => World.cell?_setCell_other _ _ _ _ (fun e => hne (by have e2 := congrArg Addr.block e; first | exact e2 | exact e2.symm))
  refine ⟨h2, h3, h4, by simpa using h1, fun i hi hb => (heap_setCell_other _ _ _ _ hb).trans (heap_setCells hi l 9 w4), ?_, fun k hk => ?_, fun k hk => ?_⟩
  · simp only [World.setCell, Array.getElem?_modify]
    simp only [if_true, heap_setCells (Ne.symm hne)]
  · rw [hc, World.cell?_setCells_out g4 l 9 w4 _ (fun _ _ => Or.inl (by show 0 + k < 9; omega))]
  · rw [hc, Nat.zero_add, World.cell?_setCells_in g4 l 9 w4 (by rw [hl]; exact hs) k (by omega), List.getElem?_eq_getElem (by omega)]
theorem secW_b {w4 : World} {g4 B : Nat} {l : List Value} {v : Value} (hne : g4 ≠ B) (hl : l.length = 9) (hs : ∀ j, j < 9 → (w4.cell? ⟨g4, 9 + j, none⟩).isSome = true) : SecW w4 ((w4.setCell ⟨B, 2, none⟩ v).setCells g4 9 l) g4 B l v := by
  obtain ⟨h1, h2, h3, h4⟩ := size_setCells g4 l 9 (w4.setCell ⟨B, 2, none⟩ v)
  have hc : ∀ k, (w4.setCell ⟨B, 2, none⟩ v).cell? ⟨g4, k, none⟩ = w4.cell? ⟨g4, k, none⟩ := fun k => World.cell?_setCell_other _ _ _ _ (fun e => hne (by have e2 := congrArg Addr.block e; first | exact e2 | exact e2.symm))
  refine ⟨h2, h3, h4, by simpa using h1, fun i hi hb => (heap_setCells hi l 9 _).trans (heap_setCell_other _ _ _ _ hb), heap_setCells (Ne.symm hne) l 9 _, fun k hk => ?_, fun k hk => ?_⟩
  · rw [World.cell?_setCells_out g4 l 9 _ _ (fun _ _ => Or.inl (by show 0 + k < 9; omega)), hc]
  · rw [Nat.zero_add, World.cell?_setCells_in g4 l 9 _ (by rw [hl]; intro j hj; rw [hc]; exact hs j hj) k (by omega), List.getElem?_eq_getElem (by omega)]
theorem secW_a2 {w4 : World} {g4 B : Nat} {v0 v1 v2 v3 v4 v5 v6 v7 v8 v : Value} (hne : g4 ≠ B) (hs : ∀ j, j < 9 → (w4.cell? ⟨g4, 9 + j, none⟩).isSome = true) :
    SecW w4 ((((((((((w4.setCell ⟨g4, 9, none⟩ v0).setCell ⟨g4, 10, none⟩ v1).setCell ⟨g4, 11, none⟩ v2).setCell ⟨g4, 12, none⟩ v3).setCell ⟨g4, 13, none⟩ v4).setCell ⟨g4, 14, none⟩ v5).setCell ⟨g4, 15, none⟩ v6).setCell ⟨g4, 16, none⟩ v7).setCell ⟨g4, 17, none⟩ v8).setCell ⟨B, 2, none⟩ v) g4 B [v0, v1, v2, v3, v4, v5, v6, v7, v8] v :=
  secW_a (l := [v0, v1, v2, v3, v4, v5, v6, v7, v8]) hne rfl hs
theorem secW_b2 {w4 : World} {g4 B : Nat} {v0 v1 v2 v3 v4 v5 v6 v7 v8 v : Value} (hne : g4 ≠ B) (hs : ∀ j, j < 9 → (w4.cell? ⟨g4, 9 + j, none⟩).isSome = true) :
    SecW w4 ((((((((((w4.setCell ⟨B, 2, none⟩ v).setCell ⟨g4, 9, none⟩ v0).setCell ⟨g4, 10, none⟩ v1).setCell ⟨g4, 11, none⟩ v2).setCell ⟨g4, 12, none⟩ v3).setCell ⟨g4, 13, none⟩ v4).setCell ⟨g4, 14, none⟩ v5).setCell ⟨g4, 15, none⟩ v6).setCell ⟨g4, 16, none⟩ v7).setCell ⟨g4, 17, none⟩ v8) g4 B [v0, v1, v2, v3, v4, v5, v6, v7, v8] v :=
  secW_b (l := [v0, v1, v2, v3, v4, v5, v6, v7, v8]) hne rfl hs
set_option maxHeartbeats 1000000 in
/-- What second leaves. -/
theorem second_end {p : Ps} {r2 : List Tk} {lv : Int} {B kb g4 c4 D8 A : Nat} {kd at0 : Int} {a b2 : Ex} {k1 c1 n1 k2 cs2 n2 : Value} {w w1 w8 w4 W : World} {R : Res Ex} {l : List Value} (hs : SecW w4 W g4 B l (.slice (some ⟨g4, 0, none⟩) 2 c4)) (hle : l = exL (hd b2) k2 cs2 n2)
    (hB : Blk w4 B 49 #[.int .i64 kd, str [], .slice (some ⟨kb, 0, none⟩) 1 1, .slice none 0 0, .slice none 0 0, str [], str [], .int .i64 0, .int .i64 at0])
    (hS : Sta w4 p r2 lv) (hN1 : Near2 p.g B kb w w1) (hN : Near2 p.g B kb w1 w4) (hK : Kept D8 w8 w4) (hX : ExC D8 w8 b2 k2 cs2 n2) (hg4 : kb ≤ g4) (hc4 : 2 ≤ c4) (hat : g4 = kb ∨ w8.heap.size ≤ g4) (hA8 : A ≤ w8.heap.size) (hBk : B < kb) (hpB : p.g < B) (hpb : p.b < B) (hkD : kb < D8) (hA : w.heap.size = A) (hAD : A ≤ D8)
    (qa : ∀ k, k < 9 → w4.cell? ⟨g4, 0 + k, none⟩ = (exL (hd a) k1 c1 n1)[k]?) (hR : R = .ok (.e2 (hk kd at0) a b2) r2) :
    PPostX p (S3 p.g B kb) B lv w (isTwo A a kd at0 k1 c1 n1 kb) R (.returned (.tuple #[])) W := by
  subst hle
  have hne : g4 ≠ B := by omega
  refine px_of_ok hR (cs := (exL (hk kd at0) (.slice (some ⟨g4, 0, none⟩) 2 c4) (.slice none 0 0) (.slice none 0 0)).toArray) ?_ ⟨b2, g4, c4, k2, cs2, n2, rfl, rfl, hc4, hg4, fun k hk => (hs.low k hk).trans (qa k hk), hs.high, ?_⟩ (hS.stay (hs.far _ (by omega) (by omega)) (hs.far _ (by omega) (by omega))) ?_
  · exact hs.atB.trans (hB.set_ 2 _)
  · refine (hX.stay ⟨by have := hK.size; have := hs.size; omega, fun i hi hl => (hs.far i (by omega) (by omega)).trans (hK.block i hi hl)⟩).lower hAD
  · have hq := hN1.trans hN
    exact ⟨hs.os.trans hq.os, hs.tape.trans hq.tape, hs.output.trans hq.output, by have := hq.size; have := hs.size; omega, fun i hi hS2 => (hs.far i (fun e => by rcases hat with h | h <;> first | exact hS2 (Or.inr (Or.inr (by omega))) | omega) (fun e => hS2 (Or.inr (Or.inl e)))).trans (hq.block i hi hS2)⟩
theorem opP_two {k : Int} (h : k = 4 ∨ k = 5 ∨ k = 6) (at0 : Int) (a : Ex) (e : P Ex) : opP k at0 a e = (expP [44] >>= fun _ => e >>= fun b => pure (.e2 (hk k at0) a b)) := by
  rcases h with rfl | rfl | rfl <;> rfl
set_option maxRecDepth 100000 in
set_option maxHeartbeats 8000000 in
theorem second_any {p : Ps} {r : List Tk} {lv : Int} {B kb : Nat} {at0 kd : Int} (hkd : kd = 4 ∨ kd = 5 ∨ kd = 6) (a : Ex) (k1 c1 n1 : Value) (ex : P Ex) (hEx : ∀ W r, Sta W p r lv → Calls Tryz.prog 76 #[ptr p.g] W (PPost p lv W (isEx W.heap.size) (ex r)))
    (w : World) (h : Sta w p r lv) (hg : p.g < B) (hb : p.b < B) (hBk : B < kb) (hB : Blk w B 49 #[.int .i64 kd, str [], .slice (some ⟨kb, 0, none⟩) 1 1, .slice none 0 0, .slice none 0 0, str [], str [], .int .i64 0, .int .i64 at0]) (hK : Blk w kb 49 (exL (hd a) k1 c1 n1).toArray) :
    Calls Tryz.prog 94 #[ptr p.g, .pointer (some ⟨B, 0, none⟩)] w (PPostX p (S3 p.g B kb) B lv w (isTwo w.heap.size a kd at0 k1 c1 n1 kb) (opP kd at0 a ex r)) := by
  obtain ⟨R, hR⟩ : ∃ R, opP kd at0 a ex r = R := ⟨_, rfl⟩
  rw [hR]
  rw [opP_two hkd] at hR
  have R0 := Lib.hid hR.symm
  have HEX := Lib.hid hEx
  have GB := Lib.hid (show p.g < B ∧ p.b < B ∧ B < kb from ⟨hg, hb, hBk⟩)
  obtain ⟨A, hA⟩ : ∃ A, w.heap.size = A := ⟨_, rfl⟩
  have HA := Lib.hid hA
  have G := Lib.hid (show p.g < A ∧ p.b < A ∧ B < A ∧ kb < A from by have q1 := h.lt; have q2 := h.lt2; have q3 := hB.lt; have q4 := hK.lt; rw [hA] at q1 q2 q3 q4; exact ⟨q1, q2, q3, q4⟩)
  rw [hA]
  have S0 := Lib.hid h
  have BB := Lib.hid hB
  have BK := Lib.hid hK
  clear hR hEx hg hb hBk h hB hK
  go_enter Tryz.func94, Tryz.ntmps94
  go_wp2_with fail
  refine (expect_one [44] (by decide) _ _ _ (by first | omega | (simp; omega) | simp) S0.out).mono ?_
  intro e w1 hp
  rcases h1 : expP [44] r with ⟨u1, r1⟩ | ⟨b1, r1⟩
  · obtain ⟨v1, rfl, rfl, hs, hn⟩ := ppost_ok h1 hp
    have R1 := Lib.hid (R0.out.trans (bnd_ok h1))
    have S1 := Lib.hid hs
    have BB1 := Lib.hid (BB.out.near hn (Nat.ne_of_gt GB.out.1))
    have BK1 := Lib.hid (BK.out.near hn (by have := GB.out; omega))
    have N1 := Lib.hid (show Near2 p.g B kb w w1 from hn.wider fun _ _ q => Or.inl q)
    have hz1 : A ≤ w1.heap.size := by have := hn.size; have := HA.out; omega
    have cB := fun i => BB1.out.cell i
    have cBa := fun o i => (BB1.out.alloc o).cell i
    clear hs hn hp h1
    rcases h2 : ex r1 with ⟨b2, r2⟩ | ⟨x2, r2⟩
    · have C := Lib.hid (fun W (q : Sta W p r1 lv) => (HEX.out W r1 q).mono fun e w' hp => ppost_ok h2 hp)
      have R2 := Lib.hid (R1.out.trans (bnd_ok h2))
      clear h2
      go_wp2_with fail
      go_region_law (first | (refine step_app elem_ex rfl (.tmp 10) (.tmp 14) rfl (base := kb) (by rfl) (O8.out.alloc (.cells exZ.toArray 49)) (by rfl) (src_cells w8 exZ 49 _ rfl one_exZ) (by omega) (by have := (O8.out.lt kb rfl).2; simp; omega) ?_; intro v4 w4 hown hg hat; have hr4 := Lib.hid (fun j hj => (O8.out.lt j hj).1); obtain ⟨g4, c4, rfl, hc4, hg4, hl4⟩ := own_form hown (by decide); obtain ⟨⟨q0, q1, q2, q3, q4, q5, q6, q7, q8⟩, qf, qa⟩ := own_nine (exL_len _ _ _ _) hown; have QA := Lib.hid qa; have B4 := Lib.hid ((B8.out.alloc (.cells exZ.toArray 49)).grownB hg (fun e => by have := hr4.out _ e.symm; have := GB.out.2.2; omega)); have S4 := Lib.hid ((S8.out.keep (below_box _ (.cells exZ.toArray 49))).grown hg hr4.out (by have := GB.out; omega : p.g < kb) (by have := GB.out; omega : p.b < kb)); have N4 := Lib.hid (tch_grown3 (g := p.g) (q := B) (kb := kb) ((Tch.wider (T := fun b => b = p.g ∨ b = B ∨ b = kb) N8.out (fun _ _ q => Or.inl q)).trans (Tch.of_below (below_box _ (.cells exZ.toArray 49)))) hg); have cB4 := fun i => B4.out.cell i; have fB4 := fun i => B4.out.frozen i; have m1 : (g4 = B) = False := eq_false (by have := GB.out.2.2; omega); have m2 : (B = g4) = False := eq_false (by have := GB.out.2.2; omega); have HAT := Lib.hid (show g4 = kb ∨ w8.heap.size ≤ g4 from hat.elim (fun e => .inl (Option.some.inj e)) (fun e => .inr (by have e2 := Option.some.inj e; simp at e2; omega))); have HG4 := Lib.hid hg4; have HC4 := Lib.hid hc4; have K4 := Lib.hid ((Kept.refl D8 w8).keep (below_box _ (.cells exZ.toArray 49)) |>.grow hg (fun j hj => by cases hj; exact GD8.out)); clear hown hg hat qa hg4 hc4 hl4) | (refine step_app elem_ex rfl (.tmp 10) (.tmp 14) rfl (base := kb) (by rfl) O8.out (by rfl) (SR8.out HN8.out) (by omega) (by have := (O8.out.lt kb rfl).2; omega) ?_; intro v4 w4 hown hg hat; have hr4 := Lib.hid (fun j hj => (O8.out.lt j hj).1); obtain ⟨g4, c4, rfl, hc4, hg4, hl4⟩ := own_form hown (by decide); obtain ⟨⟨q0, q1, q2, q3, q4, q5, q6, q7, q8⟩, qf, qa⟩ := own_nine (exL_len _ _ _ _) hown; have QA := Lib.hid qa; have B4 := Lib.hid (B8.out.grownB hg (fun e => by have := hr4.out _ e.symm; have := GB.out.2.2; omega)); have S4 := Lib.hid (S8.out.grown hg hr4.out (by have := GB.out; omega : p.g < kb) (by have := GB.out; omega : p.b < kb)); have N4 := Lib.hid (tch_grown3 (g := p.g) (q := B) (kb := kb) (Tch.wider (T := fun b => b = p.g ∨ b = B ∨ b = kb) N8.out (fun _ _ q => Or.inl q)) hg); have cB4 := fun i => B4.out.cell i; have fB4 := fun i => B4.out.frozen i; have m1 : (g4 = B) = False := eq_false (by have := GB.out.2.2; omega); have m2 : (B = g4) = False := eq_false (by have := GB.out.2.2; omega); have HAT := Lib.hid (show g4 = kb ∨ w8.heap.size ≤ g4 from hat.elim (fun e => .inl (Option.some.inj e)) (fun e => .inr (by have e2 := Option.some.inj e; simp at e2; omega))); have HG4 := Lib.hid hg4; have HC4 := Lib.hid hc4; have K4 := Lib.hid ((Kept.refl D8 w8).grow hg (fun j hj => by cases hj; exact GD8.out)); clear hown hg hat qa hg4 hc4 hl4) | (go_simp; go_at_call 76; refine (C.out _ (by first | exact S1.out.keep (below_drew _) | exact (S1.out.keep (below_drew _)).keep (below_box _ _) | exact (S1.out.keep (below_box _ _)).keep (below_drew _))).mono ?_; rintro e w8 ⟨v8, rfl, ⟨k2, cs2, n2, hv, hx⟩, hs, hn⟩; obtain ⟨⟨ka, kn, kc, rfl⟩, ⟨ca, cn, cc, rfl⟩, ⟨na, nn, nc, rfl⟩⟩ := hx.isSl; have hv2 : v8 = .agg #[.int .i64 (hd b2).kind, str (hd b2).table, .slice ka kn kc, .slice ca cn cc, .slice na nn nc, str (hd b2).attr, str (hd b2).as_, .int .i64 (hd b2).agg, .int .i64 (hd b2).at_] := hv; subst hv2; obtain ⟨D8, hx2, hd8⟩ : ∃ D8, ExC D8 w8 b2 (.slice ka kn kc) (.slice ca cn cc) (.slice na nn nc) ∧ w1.heap.size ≤ D8 := ⟨_, hx, by first | exact Nat.le_refl _ | simp⟩; have hn1 : Near p.g w1 w8 := (by first | exact (Tch.of_below (below_drew w1)).trans hn | exact ((Tch.of_below (below_drew w1)).trans (Tch.of_below (below_box _ _))).trans hn | exact ((Tch.of_below (below_box _ _)).trans (Tch.of_below (below_drew _))).trans hn); have S8 := Lib.hid hs; have N8 := Lib.hid hn1; have X8 := Lib.hid hx2; have B8 := Lib.hid (BB1.out.near hn1 (Nat.ne_of_gt GB.out.1)); have hK8 := BK1.out.near hn1 (by have := GB.out; omega); have O8 := Lib.hid (own_of_blk hK8); have GD8 := Lib.hid (show kb < D8 from Nat.lt_of_lt_of_le BK1.out.lt hd8); have HD8 := Lib.hid hd8; have SR8 := Lib.hid (fun (q : Near p.g (w1.drew.alloc (.cells exZ.toArray 49)) w8) => (src_cells w1.drew exZ 49 _ rfl one_exZ).keep (w1 := w8) (fun ad e j u hc => by cases e; rw [add_none] at hc ⊢; exact q.cell hc (by have := S1.out.lt; intro e2; have e3 : w1.heap.size = p.g := e2; omega))); have HN8 := Lib.hid hn; have cB8 := fun i => B8.out.cell i; have cB8a := fun o i => (B8.out.alloc o).cell i; clear hs hn hx hx2 hn1 hK8 hv hd8))
      all_goals
        have hne : g4 ≠ B := by have := GB.out.2.2; have := HG4.out; omega
        have hsm : ∀ j, j < 9 → (w4.cell? ⟨g4, 9 + j, none⟩).isSome = true := fun j hj => by
          rcases (by omega : j = 0 ∨ j = 1 ∨ j = 2 ∨ j = 3 ∨ j = 4 ∨ j = 5 ∨ j = 6 ∨ j = 7 ∨ j = 8) with rfl | rfl | rfl | rfl | rfl | rfl | rfl | rfl | rfl
          · rw [q0]; rfl
          · rw [q1]; rfl
          · rw [q2]; rfl
          · rw [q3]; rfl
          · rw [q4]; rfl
          · rw [q5]; rfl
          · rw [q6]; rfl
          · rw [q7]; rfl
          · rw [q8]; rfl
        refine bodyPost_ret (v := .tuple #[]) (by simp [results, Tryz.results94, go_sem]) rfl ?_
        have hw8 : A ≤ w8.heap.size := by have := N8.out.size; omega
        have hAD : A ≤ D8 := by have := HD8.out; omega
        have q := HA.out
        refine second_end (w1 := w1) (w8 := w8) (w4 := w4) (D8 := D8) (g4 := g4) (c4 := c4) (l := [.int .i64 (hd b2).kind, str (hd b2).table, .slice ka kn kc, .slice ca cn cc, .slice na nn nc, str (hd b2).attr, str (hd b2).as_, .int .i64 (hd b2).agg, .int .i64 (hd b2).at_]) ?_ rfl B4.out S4.out N1.out N4.out K4.out X8.out HG4.out HC4.out HAT.out hw8 GB.out.2.2 GB.out.1 GB.out.2.1 GD8.out q hAD QA.out (R2.out.trans rfl)
        first | (with_reducible exact secW_a2 hne hsm) | (with_reducible exact secW_b2 hne hsm)
    · have C := Lib.hid (fun W (q : Sta W p r1 lv) => (HEX.out W r1 q).mono fun e w' hp => ppost_bad h2 hp)
      have R2 := Lib.hid (R1.out.trans (bnd_bad h2))
      clear h2
      go_wp2_with fail
      refine wp_region_held_drew (S := fun w9 => w9.cell? ⟨B, 2, none⟩ = some (.slice (some ⟨kb, 0, none⟩) 1 1)) (by kernel_rfl) ?_ (fun hHeld => ?_)
      · try dsimp only
        go_keep
      refine wpAnyH_take (i := 0) (v := ?_) (by (simp only [List.getElem?_toArray, List.getElem?_cons_zero]; rfl)) (by kernel_rfl) (by kernel_rfl) (by kernel_rfl) (by intro _ _ _ h; exact h) (Or.inl ⟨by kernel_rfl, ?_⟩) hHeld ?_
      case refine_2 =>
        intro w hSw
        try dsimp only at hSw
        go_simp
        try with_reducible rfl
      try simp only [Act.put, List.setIfInBounds_toArray, List.set_cons_zero, List.set_cons_succ]
      refine wpAnyH_take (i := 1) (v := ?_) (by (simp only [List.getElem?_toArray, List.getElem?_cons_succ, List.getElem?_cons_zero]; rfl)) (by kernel_rfl) (by kernel_rfl) (by kernel_rfl) (by intro _ _ _ h; exact h) (Or.inl ⟨by kernel_rfl, ?_⟩) hHeld ?_
      case refine_2 =>
        intro w hSw
        try dsimp only at hSw
        go_simp
        try with_reducible rfl
      try simp only [Act.put, List.setIfInBounds_toArray, List.set_cons_zero, List.set_cons_succ]
      refine wpAnyH_take (i := 2) (v := ?_) (by (simp only [List.getElem?_toArray, List.getElem?_cons_succ, List.getElem?_cons_zero]; rfl)) (by kernel_rfl) (by kernel_rfl) (by kernel_rfl) (by intro _ _ _ h; exact h) (Or.inl ⟨by kernel_rfl, ?_⟩) hHeld ?_
      case refine_2 =>
        intro w hSw
        try dsimp only at hSw
        go_simp
        try with_reducible rfl
      try simp only [Act.put, List.setIfInBounds_toArray, List.set_cons_zero, List.set_cons_succ]
      refine wpAnyH_take (i := 3) (v := ?_) (by (simp only [List.getElem?_toArray, List.getElem?_cons_succ, List.getElem?_cons_zero]; rfl)) (by kernel_rfl) (by kernel_rfl) (by kernel_rfl) (by intro _ _ _ h; exact h) (Or.inl ⟨by kernel_rfl, ?_⟩) hHeld ?_
      case refine_2 =>
        intro w hSw
        try dsimp only at hSw
        go_simp
        try with_reducible rfl
      try simp only [Act.put, List.setIfInBounds_toArray, List.set_cons_zero, List.set_cons_succ]
      refine wpAnyH_take (i := 4) (v := ?_) (by (simp only [List.getElem?_toArray, List.getElem?_cons_succ, List.getElem?_cons_zero]; rfl)) (by kernel_rfl) (by kernel_rfl) (by kernel_rfl) (by intro _ _ _ h; exact h) (Or.inl ⟨by kernel_rfl, ?_⟩) hHeld ?_
      case refine_2 =>
        intro w hSw
        try dsimp only at hSw
        go_simp
        try with_reducible rfl
      try simp only [Act.put, List.setIfInBounds_toArray, List.set_cons_zero, List.set_cons_succ]
      refine wpAnyH_take (i := 6) (v := ?_) (by (simp only [List.getElem?_toArray, List.getElem?_cons_succ, List.getElem?_cons_zero]; rfl)) (by kernel_rfl) (by kernel_rfl) (by kernel_rfl) (by intro _ _ _ h; exact h) (Or.inl ⟨by kernel_rfl, ?_⟩) hHeld ?_
      case refine_2 =>
        intro w hSw
        try dsimp only at hSw
        go_simp
        try with_reducible rfl
      try simp only [Act.put, List.setIfInBounds_toArray, List.set_cons_zero, List.set_cons_succ]
      refine wpAnyH_ready (rs := [5, 7]) (by kernel_rfl) (by simp) ?_
      refine AllReadyH.cons (by (simp only [List.getElem?_toArray, List.getElem?_cons_succ, List.getElem?_cons_zero]; rfl)) (fun K hK => ?_) ?_
      · go_simp
        refine (C.out _ (S1.out.keep (below_drew _))).mono ?_
        rintro e w8 ⟨rfl, hn⟩
        exact ⟨rfl, px_of_bad R2.out (N1.out.trans (((Tch.of_below (below_drew w1)).trans hn).wider fun _ _ q => Or.inl q))⟩
      refine AllReadyH.cons (by (simp only [List.getElem?_toArray, List.getElem?_cons_succ, List.getElem?_cons_zero]; rfl)) (fun K hK => ?_) AllReadyH.nil
      go_simp
      clear hHeld
      refine hK.out _ _ ?_ (fun hHeld => ?_)
      · try dsimp only
        go_keep
      clear hK K
      try simp only [Act.put, List.setIfInBounds_toArray, List.set_cons_zero, List.set_cons_succ]
      refine wpAnyH_ready (rs := [5]) (by kernel_rfl) (by simp) ?_
      refine AllReadyH.cons (by (simp only [List.getElem?_toArray, List.getElem?_cons_succ, List.getElem?_cons_zero]; rfl)) (fun K hK => ?_) AllReadyH.nil
      have HW := Lib.hid (fun o => (S1.out.keep (below_drew w1)).keep (below_box w1.drew o))
      go_simp
      refine (C.out _ (by first | exact HW.out _ | exact (S1.out.keep (below_box _ _)).keep (below_drew _))).mono ?_
      rintro e w8 ⟨rfl, hn⟩
      have hn2 : Near p.g w1 w8 := by first | exact ((Tch.of_below (below_drew w1)).trans (Tch.of_below (below_box _ _))).trans hn | exact ((Tch.of_below (below_box w1 _)).trans (Tch.of_below (below_drew _))).trans hn
      exact ⟨rfl, px_of_bad R2.out (N1.out.trans (hn2.wider fun _ _ q => Or.inl q))⟩
  · obtain ⟨rfl, hn⟩ := ppost_bad h1 hp
    exact ⟨rfl, px_of_bad (R0.out.trans (bnd_bad h1)) (hn.wider fun _ _ q => Or.inl q)⟩
end Go.Proofs.YtcgkaecaddpenaaGreatDoor
