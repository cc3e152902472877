/- The program's lists. -/
import Derived.Test.YtcgkaecaddpenaaGreatDoorPsPgF
import Derived.Test.YtcgkaecaddpenaaGreatDoorPsLst
import Derived.Deep.LoopGhost
namespace Go.Proofs.YtcgkaecaddpenaaGreatDoor
open Go.RowKit
open L7 (Tk)
open L8
set_option linter.unusedSimpArgs false

def colC (a : Col) : List Value := [str a.name, .int .i64 a.kind, .int .i64 a.dflt.k, .int .i64 a.dflt.n, str a.dflt.t]
def txtC (a : Txt) : List Value := [str a]
def namC (a : Nam) : List Value := [str a.name, .int .i64 a.v.k, .int .i64 a.v.n, str a.v.t]
def vrC (a : Vr) : List Value := [str a.name, str a.table]
def cndC (a : Cnd) : List Value := [str a.left.var, str a.left.attr, .bool a.left.const, .int .i64 a.left.v.k, .int .i64 a.left.v.n, str a.left.v.t, .int .i64 a.op, str a.right.var, str a.right.attr, .bool a.right.const, .int .i64 a.right.v.k, .int .i64 a.right.v.n, str a.right.v.t, .int .i64 a.add]
/-- From block D on, nothing turns that was there. -/
structure Kept (D : Nat) (w w' : World) : Prop where
  size : w.heap.size ≤ w'.heap.size
  block : ∀ b, D ≤ b → b < w.heap.size → w'.heap[b]? = w.heap[b]?
theorem Kept.refl (D : Nat) (w : World) : Kept D w w := ⟨Nat.le_refl _, fun _ _ _ => rfl⟩
theorem Kept.trans {D : Nat} {a b c : World} (h : Kept D a b) (k : Kept D b c) : Kept D a c :=
  ⟨Nat.le_trans h.size k.size, fun i hi hl => (k.block i hi (Nat.lt_of_lt_of_le hl h.size)).trans (h.block i hi hl)⟩
theorem Kept.keep {D : Nat} {a b c : World} (h : Kept D a b) (k : Below b.heap.size b c) : Kept D a c := h.trans ⟨k.size, fun i _ hl => k.block i hl⟩
theorem Kept.set {D : Nat} {a b : World} (h : Kept D a b) {p : Addr} (hp : p.block < D) (v : Value) : Kept D a (b.setCell p v) :=
  h.trans ⟨by simp, fun i hi _ => heap_setCell_other b p i v (by omega)⟩
theorem Kept.set2 {D : Nat} {a b : World} (h : Kept D a b) {p : Addr} (hp : a.heap.size ≤ p.block) (v : Value) : Kept D a (b.setCell p v) :=
  ⟨by simpa using h.size, fun i hi hl => (heap_setCell_other b p i v (by omega)).trans (h.block i hi hl)⟩
theorem Kept.row {D c : Nat} {a b : World} (h : Kept D a b) (hc : c < D) (cs : Array Value) : Kept D a (b.setRow c cs) :=
  h.trans ⟨by simp, fun i hi _ => setRow_other b c i cs (by omega)⟩
theorem Kept.near {D g : Nat} {a b c : World} (h : Kept D a b) (hn : Near g b c) (hg : g < D) : Kept D a c :=
  h.trans ⟨hn.size, fun i hi hl => hn.block i hl (by omega)⟩
theorem Kept.lower {D E : Nat} {a b : World} (h : Kept D a b) (hD : D ≤ E) : Kept E a b := ⟨h.size, fun i hi hl => h.block i (by omega) hl⟩
/-- A slice, new from block D on, whose elements have the cells that f says. -/
structure Lst (D : Nat) {α : Type} (sz : Nat) (f : α → List Value) (w : World) (v : Value) (l : List α) : Prop where
  slc : Slc sz (fun w b o x => ∀ k, k < sz → w.cell? ⟨b, o + k, none⟩ = (f x)[k]?) w v l
  new : ∀ b o n c, v = .slice (some ⟨b, o, none⟩) n c → D ≤ b
theorem Lst.nil {D : Nat} {α : Type} {sz : Nat} {f : α → List Value} (w : World) : Lst D sz f w (.slice none 0 0) ([] : List α) := ⟨Slc.nil w, fun _ _ _ _ e => by cases e⟩
theorem Lst.lower {D E : Nat} {α : Type} {sz : Nat} {f : α → List Value} {w : World} {v : Value} {l : List α} (h : Lst D sz f w v l) (hE : E ≤ D) : Lst E sz f w v l := ⟨h.slc, fun b o n c e => Nat.le_trans hE (h.new b o n c e)⟩
theorem Lst.stay {D : Nat} {α : Type} {sz : Nat} {f : α → List Value} {w w' : World} {v : Value} {l : List α} (h : Lst D sz f w v l) (hf : ∀ x, (f x).length = sz) (hk : Kept D w w') : Lst D sz f w' v l := by
  refine ⟨?_, h.new⟩
  obtain ⟨A, cap, e, hc, hn, g⟩ := h.slc
  refine ⟨A, cap, e, hc, hn, fun i hi => ?_⟩
  obtain ⟨b, off, h1, h2⟩ := g i hi
  refine ⟨b, off, h1, fun k hk2 => ?_⟩
  have h3 := h2 k hk2
  have hD := h.new b off l.length cap (by rw [e, h1])
  have hl : k < (f l[i]).length := by rw [hf]; exact hk2
  rw [List.getElem?_eq_getElem hl] at h3
  rw [List.getElem?_eq_getElem hl]
  exact (World.cell?_of_block (a := ⟨b, off + i * sz + k, none⟩) (hk.block b hD (cellLt h3))).trans h3
theorem Lst.isSl {D : Nat} {α : Type} {sz : Nat} {f : α → List Value} {w : World} {v : Value} {l : List α} (h : Lst D sz f w v l) : IsSl v := by
  obtain ⟨A, cap, e, _⟩ := h.slc
  exact ⟨A, _, cap, e⟩
theorem lst_of_own {α : Type} {sz : Nat} {f : α → List Value} (hf : ∀ x, (f x).length = sz) {w : World} {base : Nat} {e : TypeId} {v : Value} {n : Nat} {l : List α} (hn : n = l.length) (h : w.ownsRow base e sz v n (l.flatMap f)) : Lst base sz f w v l :=
  ⟨slc_of_own hf hn h (fun _ _ _ hx => hx), fun b o n c e => by subst e; exact (h.lt b rfl).1⟩
theorem own_near {w w1 : World} {g base : Nat} {e : TypeId} {sz n : Nat} {v : Value} {xs : List Value} (h : w.ownsRow base e sz v n xs) (hn : Near g w w1) (hg : g < base) : w1.ownsRow base e sz v n xs :=
  own_heap h fun j hj => hn.block j (h.lt j hj).2 (by have := (h.lt j hj).1; omega)
theorem near_grown {g : Nat} {a w w1 : World} {row : Option Nat} (h : Near g a w) (hg : w.grownBy w1 row) (hr : ∀ j, row = some j → a.heap.size ≤ j) : Near g a w1 :=
  ⟨hg.os.trans h.os, hg.tape.trans h.tape, hg.output.trans h.output, Nat.le_trans h.size hg.size, fun i hi hs => (hg.block i (Nat.lt_of_lt_of_le hi h.size) (fun e => by have := hr i e.symm; omega)).trans (h.block i hi hs)⟩
theorem Sta.grown {w w1 : World} {p : Ps} {r : List Tk} {lv : Int} {row : Option Nat} {A : Nat} (h : Sta w p r lv) (hg : w.grownBy w1 row) (hr : ∀ j, row = some j → A ≤ j) (h1 : p.g < A) (h2 : p.b < A) : Sta w1 p r lv :=
  h.stay (hg.block _ h.lt (fun e => by have := hr _ e.symm; omega)) (hg.block _ h.lt2 (fun e => by have := hr _ e.symm; omega))
theorem src_cells (w : World) (cs : List Value) (T : TypeId) (b : Nat) (hb : w.heap.size = b) (h1 : ∀ u ∈ cs, u.oneCell' = true) : Src (w.alloc (.cells cs.toArray T)) (some ⟨b, 0, none⟩) 1 1 cs.length cs :=
  ⟨by simp, Nat.le_refl _, (fun e => by cases e), fun ad e j u hj => by
    cases e
    subst hb
    rw [add_none, Nat.zero_add]
    have := (Blk.new w T cs.toArray).cell j
    rw [this]
    simpa using hj, h1⟩
theorem own_lit (w : World) (cs : List Value) (T : TypeId) (b : Nat) (hb : w.heap.size = b) : (w.alloc (.cells cs.toArray T)).ownsRow b T cs.length (.slice (some ⟨b, 0, none⟩) 1 1) 1 cs := by
  subst hb
  refine ⟨by simp, Or.inr ⟨w.heap.size, 1, cs.toArray, rfl, Nat.le_refl _, heap_alloc_new w _, Nat.le_refl _, by unfold maxLen; omega, by simp, by simp⟩⟩
theorem len_vr (x : Vr) : (vrC x).length = 2 := rfl
theorem one_vr (x : Vr) : ∀ u ∈ vrC x, u.oneCell' = true := by
  intro u hu
  simp only [vrC, List.mem_cons, List.not_mem_nil, or_false] at hu
  rcases hu with rfl | rfl <;> rfl
theorem elem_vr : Elem 45 94 (.agg #[.string ⟨#[]⟩, .string ⟨#[]⟩]) 2 32 := ⟨Tryz.underlying45, by kernel_rfl, rfl, by decide, by decide⟩
set_option maxRecDepth 100000 in
set_option maxHeartbeats 8000000 in
theorem vr_list {p : Ps} {r : List Tk} {lv : Int} (x : Txt) (hx : x ≠ []) (w : World) (h : Sta w p r lv) :
    Calls Tryz.prog 73 #[ptr p.g, str x, .func (Fn.func 74) #[ptr p.g] #[]] w (PPost p lv w (Lst w.heap.size 2 vrC) (listP x varP FU r)) := by
  obtain ⟨R, hR⟩ : ∃ R, listP x varP FU r = R := ⟨_, rfl⟩
  rw [hR]
  have R0 := Lib.hid (show R = listP x varP (5999 + 1) r from hR.symm)
  have G := Lib.hid (And.intro h.lt h.lt2)
  have few : r.length ≤ 5000 := by obtain ⟨off, cap, h⟩ := h; exact h.few
  have S0 := Lib.hid h
  have HX := Lib.hid hx
  obtain ⟨A, hA⟩ : ∃ A, w.heap.size = A := ⟨_, rfl⟩
  have HA := Lib.hid hA
  rw [hA] at G
  clear hR h hx hA
  go_enter Tryz.func73, Tryz.ntmps73
  go_wp2_with fail
  refine (var_any _ S0.out).mono ?_
  intro e w1 hp
  rcases h1 : varP r with ⟨a1, r1⟩ | ⟨b1, r1⟩
  · obtain ⟨v1, rfl, rfl, hs, hn⟩ := ppost_ok h1 hp
    have R1 := Lib.hid (R0.out.trans (list_start h1))
    have few1 := shr_varP _ _ _ h1
    have S1 := Lib.hid (hs.keep (below_box w1 (.cells #[str a1.name, str a1.table] 94)))
    have N1 := Lib.hid (hn.trans (Tch.of_below (below_box w1 (.cells #[str a1.name, str a1.table] 94))))
    have q1 : (w1.alloc (.cells #[str a1.name, str a1.table] 94)).ownsRow A 94 2 (.slice (some ⟨w1.heap.size, 0, none⟩) 1 1) 1 (vrC a1) := own_base (own_lit w1 (vrC a1) 94 _ rfl) (by have := hn.size; have := HA.out; omega)
    have O1 := Lib.hid (show (w1.alloc (.cells #[str a1.name, str a1.table] 94)).ownsRow A 94 2 (.slice (some ⟨w1.heap.size, 0, none⟩) 1 1) 1 ([a1].flatMap vrC) from by rw [List.flatMap_singleton]; exact q1)
    clear hs hn hp h1 q1
    go_wp2_with fail
    go_loopg [7] 5999 (fun gh o wr => ∃ (acc : List Vr) (rk : List Tk), wr.ownsRow A 94 2 o acc.length (acc.flatMap vrC) ∧ rk.length ≤ gh ∧ acc.length + gh ≤ 6000 ∧ R = listT x varP acc gh rk ∧ Sta wr p rk lv ∧ Near p.g w wr)
    case atStart => exact ⟨[a1], r1, O1.out, by omega, by simp, R1.out, S1.out, N1.out⟩
    case round =>
      obtain ⟨acc, rk, hown, hrk, hacc, hR, hs, hn⟩ := hrel
      have O := Lib.hid hown
      have RK := Lib.hid hR
      have SK := Lib.hid hs
      have NK := Lib.hid hn
      clear hown hR hs hn
      obtain ⟨c2, r2, h2⟩ := acc_ok x rk
      have X2 := Lib.hid h2
      clear h2
      go_wp2_with fail
      refine (accept_any x HX.out _ SK.out).mono ?_
      intro e w2 hp
      obtain ⟨v2, rfl, rfl, hs, hn⟩ := ppost_ok X2.out hp
      have S2 := Lib.hid hs
      have N2 := Lib.hid (NK.out.trans hn)
      have O2 := Lib.hid (own_near O.out hn G.out.1)
      clear hs hn hp
      cases c2
      · have RR := Lib.hid (RK.out.trans (listT_no X2.out))
        go_wp2_with fail
        go_ret
        exact ppost_of_ok RR.out (by rw [HA.out]; exact lst_of_own len_vr rfl O2.out) S2.out N2.out
      · have hl2 := acc_len X2.out
        obtain ⟨g2, rfl⟩ : ∃ g2, gk = g2 + 1 := ⟨gk - 1, by omega⟩
        go_wp2_with fail
        refine (var_any _ S2.out).mono ?_
        intro e w3 hp
        rcases h3 : varP r2 with ⟨a2, r3⟩ | ⟨b3, r3⟩
        · obtain ⟨v3, rfl, rfl, hs, hn⟩ := ppost_ok h3 hp
          have few3 := shr_varP _ _ _ h3
          have R3 := Lib.hid (RK.out.trans (listT_yes X2.out h3))
          have S3 := Lib.hid (hs.keep (below_box w3 (.cells #[str a2.name, str a2.table] 94)))
          have N3 := Lib.hid ((N2.out.trans hn).trans (Tch.of_below (below_box w3 (.cells #[str a2.name, str a2.table] 94))))
          have O3 := Lib.hid ((own_near O2.out hn G.out.1).alloc (.cells #[str a2.name, str a2.table] 94))
          have hz : A ≤ w3.heap.size := by have := (N2.out.trans hn).size; have := HA.out; omega
          clear hs hn hp h3
          go_wp2_with (at_builtin; (refine wpList_app elem_vr rfl (.tmp 14) (.tmp 17) rfl (base := A) (by rfl) O3.out (by rfl) (src_cells w3 (vrC a2) 94 _ rfl (one_vr a2)) (by omega) (by simp; omega) ?_; intro v4 w4 hown hg hat))
          have S4 := Lib.hid (S3.out.grown hg (fun j hj => (O3.out.lt j hj).1) G.out.1 G.out.2)
          have N4 := Lib.hid (near_grown N3.out hg (fun j hj => by have := (O3.out.lt j hj).1; have := HA.out; omega))
          have O4 := Lib.hid (show w4.ownsRow A 94 2 v4 (acc ++ [a2]).length ((acc ++ [a2]).flatMap vrC) from by rw [List.length_append, List.flatMap_append, List.flatMap_singleton]; exact hown)
          clear hown hg hat
          go_wp2_with fail
          go_roundg g2
          case measure => omega
          case rel => exact ⟨acc ++ [a2], r3, O4.out, by omega, by simp; omega, R3.out, S4.out, N4.out⟩
        · obtain ⟨rfl, hn⟩ := ppost_bad h3 hp
          exact ⟨rfl, ppost_of_bad (RK.out.trans (listT_bad X2.out h3)) (N2.out.trans hn)⟩
  · obtain ⟨rfl, hn⟩ := ppost_bad h1 hp
    exact ⟨rfl, ppost_of_bad (R0.out.trans (list_start_bad h1)) hn⟩
theorem len_col (x : Col) : (colC x).length = 5 := rfl
theorem one_col (x : Col) : ∀ u ∈ colC x, u.oneCell' = true := by
  intro u hu
  simp only [colC, List.mem_cons, List.not_mem_nil, or_false] at hu
  rcases hu with rfl | rfl | rfl | rfl | rfl <;> rfl
theorem elem_col : Elem 41 89 (.agg #[.string ⟨#[]⟩, .int .i64 0, .int .i64 0, .int .i64 0, .string ⟨#[]⟩]) 5 56 := ⟨Tryz.underlying41, by kernel_rfl, rfl, by decide, by decide⟩
set_option maxRecDepth 100000 in
set_option maxHeartbeats 8000000 in
theorem col_list {p : Ps} {r : List Tk} {lv : Int} (x : Txt) (hx : x ≠ []) (w : World) (h : Sta w p r lv) :
    Calls Tryz.prog 62 #[ptr p.g, str x, .func (Fn.func 63) #[ptr p.g] #[]] w (PPost p lv w (Lst w.heap.size 5 colC) (listP x columnP FU r)) := by
  obtain ⟨R, hR⟩ : ∃ R, listP x columnP FU r = R := ⟨_, rfl⟩
  rw [hR]
  have R0 := Lib.hid (show R = listP x columnP (5999 + 1) r from hR.symm)
  have G := Lib.hid (And.intro h.lt h.lt2)
  have few : r.length ≤ 5000 := by obtain ⟨off, cap, h⟩ := h; exact h.few
  have S0 := Lib.hid h
  have HX := Lib.hid hx
  obtain ⟨A, hA⟩ : ∃ A, w.heap.size = A := ⟨_, rfl⟩
  have HA := Lib.hid hA
  rw [hA] at G
  clear hR h hx hA
  go_enter Tryz.func62, Tryz.ntmps62
  go_wp2_with fail
  refine (column_any _ S0.out).mono ?_
  intro e w1 hp
  rcases h1 : columnP r with ⟨a1, r1⟩ | ⟨b1, r1⟩
  · obtain ⟨v1, rfl, rfl, hs, hn⟩ := ppost_ok h1 hp
    have R1 := Lib.hid (R0.out.trans (list_start h1))
    have few1 := shr_columnP _ _ _ h1
    have S1 := Lib.hid (hs.keep (below_box w1 (.cells #[str a1.name, .int .i64 a1.kind, .int .i64 a1.dflt.k, .int .i64 a1.dflt.n, str a1.dflt.t] 89)))
    have N1 := Lib.hid (hn.trans (Tch.of_below (below_box w1 (.cells #[str a1.name, .int .i64 a1.kind, .int .i64 a1.dflt.k, .int .i64 a1.dflt.n, str a1.dflt.t] 89))))
    have q1 : (w1.alloc (.cells #[str a1.name, .int .i64 a1.kind, .int .i64 a1.dflt.k, .int .i64 a1.dflt.n, str a1.dflt.t] 89)).ownsRow A 89 5 (.slice (some ⟨w1.heap.size, 0, none⟩) 1 1) 1 (colC a1) := own_base (own_lit w1 (colC a1) 89 _ rfl) (by have := hn.size; have := HA.out; omega)
    have O1 := Lib.hid (show (w1.alloc (.cells #[str a1.name, .int .i64 a1.kind, .int .i64 a1.dflt.k, .int .i64 a1.dflt.n, str a1.dflt.t] 89)).ownsRow A 89 5 (.slice (some ⟨w1.heap.size, 0, none⟩) 1 1) 1 ([a1].flatMap colC) from by rw [List.flatMap_singleton]; exact q1)
    clear hs hn hp h1 q1
    go_wp2_with fail
    go_loopg [7] 5999 (fun gh o wr => ∃ (acc : List Col) (rk : List Tk), wr.ownsRow A 89 5 o acc.length (acc.flatMap colC) ∧ rk.length ≤ gh ∧ acc.length + gh ≤ 6000 ∧ R = listT x columnP acc gh rk ∧ Sta wr p rk lv ∧ Near p.g w wr)
    case atStart => exact ⟨[a1], r1, O1.out, by omega, by simp, R1.out, S1.out, N1.out⟩
    case round =>
      obtain ⟨acc, rk, hown, hrk, hacc, hR, hs, hn⟩ := hrel
      have O := Lib.hid hown
      have RK := Lib.hid hR
      have SK := Lib.hid hs
      have NK := Lib.hid hn
      clear hown hR hs hn
      obtain ⟨c2, r2, h2⟩ := acc_ok x rk
      have X2 := Lib.hid h2
      clear h2
      go_wp2_with fail
      refine (accept_any x HX.out _ SK.out).mono ?_
      intro e w2 hp
      obtain ⟨v2, rfl, rfl, hs, hn⟩ := ppost_ok X2.out hp
      have S2 := Lib.hid hs
      have N2 := Lib.hid (NK.out.trans hn)
      have O2 := Lib.hid (own_near O.out hn G.out.1)
      clear hs hn hp
      cases c2
      · have RR := Lib.hid (RK.out.trans (listT_no X2.out))
        go_wp2_with fail
        go_ret
        exact ppost_of_ok RR.out (by rw [HA.out]; exact lst_of_own len_col rfl O2.out) S2.out N2.out
      · have hl2 := acc_len X2.out
        obtain ⟨g2, rfl⟩ : ∃ g2, gk = g2 + 1 := ⟨gk - 1, by omega⟩
        go_wp2_with fail
        refine (column_any _ S2.out).mono ?_
        intro e w3 hp
        rcases h3 : columnP r2 with ⟨a2, r3⟩ | ⟨b3, r3⟩
        · obtain ⟨v3, rfl, rfl, hs, hn⟩ := ppost_ok h3 hp
          have few3 := shr_columnP _ _ _ h3
          have R3 := Lib.hid (RK.out.trans (listT_yes X2.out h3))
          have S3 := Lib.hid (hs.keep (below_box w3 (.cells #[str a2.name, .int .i64 a2.kind, .int .i64 a2.dflt.k, .int .i64 a2.dflt.n, str a2.dflt.t] 89)))
          have N3 := Lib.hid ((N2.out.trans hn).trans (Tch.of_below (below_box w3 (.cells #[str a2.name, .int .i64 a2.kind, .int .i64 a2.dflt.k, .int .i64 a2.dflt.n, str a2.dflt.t] 89))))
          have O3 := Lib.hid ((own_near O2.out hn G.out.1).alloc (.cells #[str a2.name, .int .i64 a2.kind, .int .i64 a2.dflt.k, .int .i64 a2.dflt.n, str a2.dflt.t] 89))
          have hz : A ≤ w3.heap.size := by have := (N2.out.trans hn).size; have := HA.out; omega
          clear hs hn hp h3
          go_wp2_with (at_builtin; (refine wpList_app elem_col rfl (.tmp 14) (.tmp 17) rfl (base := A) (by rfl) O3.out (by rfl) (src_cells w3 (colC a2) 89 _ rfl (one_col a2)) (by omega) (by simp; omega) ?_; intro v4 w4 hown hg hat))
          have S4 := Lib.hid (S3.out.grown hg (fun j hj => (O3.out.lt j hj).1) G.out.1 G.out.2)
          have N4 := Lib.hid (near_grown N3.out hg (fun j hj => by have := (O3.out.lt j hj).1; have := HA.out; omega))
          have O4 := Lib.hid (show w4.ownsRow A 89 5 v4 (acc ++ [a2]).length ((acc ++ [a2]).flatMap colC) from by rw [List.length_append, List.flatMap_append, List.flatMap_singleton]; exact hown)
          clear hown hg hat
          go_wp2_with fail
          go_roundg g2
          case measure => omega
          case rel => exact ⟨acc ++ [a2], r3, O4.out, by omega, by simp; omega, R3.out, S4.out, N4.out⟩
        · obtain ⟨rfl, hn⟩ := ppost_bad h3 hp
          exact ⟨rfl, ppost_of_bad (RK.out.trans (listT_bad X2.out h3)) (N2.out.trans hn)⟩
  · obtain ⟨rfl, hn⟩ := ppost_bad h1 hp
    exact ⟨rfl, ppost_of_bad (R0.out.trans (list_start_bad h1)) hn⟩
theorem len_nam (x : Nam) : (namC x).length = 4 := rfl
theorem one_nam (x : Nam) : ∀ u ∈ namC x, u.oneCell' = true := by
  intro u hu
  simp only [namC, List.mem_cons, List.not_mem_nil, or_false] at hu
  rcases hu with rfl | rfl | rfl | rfl <;> rfl
theorem elem_nam : Elem 44 91 (.agg #[.string ⟨#[]⟩, .int .i64 0, .int .i64 0, .string ⟨#[]⟩]) 4 48 := ⟨Tryz.underlying44, by kernel_rfl, rfl, by decide, by decide⟩
set_option maxRecDepth 100000 in
set_option maxHeartbeats 8000000 in
theorem nam_list {p : Ps} {r : List Tk} {lv : Int} (x : Txt) (hx : x ≠ []) (w : World) (h : Sta w p r lv) :
    Calls Tryz.prog 71 #[ptr p.g, str x, .func (Fn.func 72) #[ptr p.g] #[]] w (PPost p lv w (Lst w.heap.size 4 namC) (listP x fixedP FU r)) := by
  obtain ⟨R, hR⟩ : ∃ R, listP x fixedP FU r = R := ⟨_, rfl⟩
  rw [hR]
  have R0 := Lib.hid (show R = listP x fixedP (5999 + 1) r from hR.symm)
  have G := Lib.hid (And.intro h.lt h.lt2)
  have few : r.length ≤ 5000 := by obtain ⟨off, cap, h⟩ := h; exact h.few
  have S0 := Lib.hid h
  have HX := Lib.hid hx
  obtain ⟨A, hA⟩ : ∃ A, w.heap.size = A := ⟨_, rfl⟩
  have HA := Lib.hid hA
  rw [hA] at G
  clear hR h hx hA
  go_enter Tryz.func71, Tryz.ntmps71
  go_wp2_with fail
  refine (fixed_any _ S0.out).mono ?_
  intro e w1 hp
  rcases h1 : fixedP r with ⟨a1, r1⟩ | ⟨b1, r1⟩
  · obtain ⟨v1, rfl, rfl, hs, hn⟩ := ppost_ok h1 hp
    have R1 := Lib.hid (R0.out.trans (list_start h1))
    have few1 := shr_fixedP _ _ _ h1
    have S1 := Lib.hid (hs.keep (below_box w1 (.cells #[str a1.name, .int .i64 a1.v.k, .int .i64 a1.v.n, str a1.v.t] 91)))
    have N1 := Lib.hid (hn.trans (Tch.of_below (below_box w1 (.cells #[str a1.name, .int .i64 a1.v.k, .int .i64 a1.v.n, str a1.v.t] 91))))
    have q1 : (w1.alloc (.cells #[str a1.name, .int .i64 a1.v.k, .int .i64 a1.v.n, str a1.v.t] 91)).ownsRow A 91 4 (.slice (some ⟨w1.heap.size, 0, none⟩) 1 1) 1 (namC a1) := own_base (own_lit w1 (namC a1) 91 _ rfl) (by have := hn.size; have := HA.out; omega)
    have O1 := Lib.hid (show (w1.alloc (.cells #[str a1.name, .int .i64 a1.v.k, .int .i64 a1.v.n, str a1.v.t] 91)).ownsRow A 91 4 (.slice (some ⟨w1.heap.size, 0, none⟩) 1 1) 1 ([a1].flatMap namC) from by rw [List.flatMap_singleton]; exact q1)
    clear hs hn hp h1 q1
    go_wp2_with fail
    go_loopg [7] 5999 (fun gh o wr => ∃ (acc : List Nam) (rk : List Tk), wr.ownsRow A 91 4 o acc.length (acc.flatMap namC) ∧ rk.length ≤ gh ∧ acc.length + gh ≤ 6000 ∧ R = listT x fixedP acc gh rk ∧ Sta wr p rk lv ∧ Near p.g w wr)
    case atStart => exact ⟨[a1], r1, O1.out, by omega, by simp, R1.out, S1.out, N1.out⟩
    case round =>
      obtain ⟨acc, rk, hown, hrk, hacc, hR, hs, hn⟩ := hrel
      have O := Lib.hid hown
      have RK := Lib.hid hR
      have SK := Lib.hid hs
      have NK := Lib.hid hn
      clear hown hR hs hn
      obtain ⟨c2, r2, h2⟩ := acc_ok x rk
      have X2 := Lib.hid h2
      clear h2
      go_wp2_with fail
      refine (accept_any x HX.out _ SK.out).mono ?_
      intro e w2 hp
      obtain ⟨v2, rfl, rfl, hs, hn⟩ := ppost_ok X2.out hp
      have S2 := Lib.hid hs
      have N2 := Lib.hid (NK.out.trans hn)
      have O2 := Lib.hid (own_near O.out hn G.out.1)
      clear hs hn hp
      cases c2
      · have RR := Lib.hid (RK.out.trans (listT_no X2.out))
        go_wp2_with fail
        go_ret
        exact ppost_of_ok RR.out (by rw [HA.out]; exact lst_of_own len_nam rfl O2.out) S2.out N2.out
      · have hl2 := acc_len X2.out
        obtain ⟨g2, rfl⟩ : ∃ g2, gk = g2 + 1 := ⟨gk - 1, by omega⟩
        go_wp2_with fail
        refine (fixed_any _ S2.out).mono ?_
        intro e w3 hp
        rcases h3 : fixedP r2 with ⟨a2, r3⟩ | ⟨b3, r3⟩
        · obtain ⟨v3, rfl, rfl, hs, hn⟩ := ppost_ok h3 hp
          have few3 := shr_fixedP _ _ _ h3
          have R3 := Lib.hid (RK.out.trans (listT_yes X2.out h3))
          have S3 := Lib.hid (hs.keep (below_box w3 (.cells #[str a2.name, .int .i64 a2.v.k, .int .i64 a2.v.n, str a2.v.t] 91)))
          have N3 := Lib.hid ((N2.out.trans hn).trans (Tch.of_below (below_box w3 (.cells #[str a2.name, .int .i64 a2.v.k, .int .i64 a2.v.n, str a2.v.t] 91))))
          have O3 := Lib.hid ((own_near O2.out hn G.out.1).alloc (.cells #[str a2.name, .int .i64 a2.v.k, .int .i64 a2.v.n, str a2.v.t] 91))
          have hz : A ≤ w3.heap.size := by have := (N2.out.trans hn).size; have := HA.out; omega
          clear hs hn hp h3
          go_wp2_with (at_builtin; (refine wpList_app elem_nam rfl (.tmp 14) (.tmp 17) rfl (base := A) (by rfl) O3.out (by rfl) (src_cells w3 (namC a2) 91 _ rfl (one_nam a2)) (by omega) (by simp; omega) ?_; intro v4 w4 hown hg hat))
          have S4 := Lib.hid (S3.out.grown hg (fun j hj => (O3.out.lt j hj).1) G.out.1 G.out.2)
          have N4 := Lib.hid (near_grown N3.out hg (fun j hj => by have := (O3.out.lt j hj).1; have := HA.out; omega))
          have O4 := Lib.hid (show w4.ownsRow A 91 4 v4 (acc ++ [a2]).length ((acc ++ [a2]).flatMap namC) from by rw [List.length_append, List.flatMap_append, List.flatMap_singleton]; exact hown)
          clear hown hg hat
          go_wp2_with fail
          go_roundg g2
          case measure => omega
          case rel => exact ⟨acc ++ [a2], r3, O4.out, by omega, by simp; omega, R3.out, S4.out, N4.out⟩
        · obtain ⟨rfl, hn⟩ := ppost_bad h3 hp
          exact ⟨rfl, ppost_of_bad (RK.out.trans (listT_bad X2.out h3)) (N2.out.trans hn)⟩
  · obtain ⟨rfl, hn⟩ := ppost_bad h1 hp
    exact ⟨rfl, ppost_of_bad (R0.out.trans (list_start_bad h1)) hn⟩
theorem len_txt (x : Txt) : (txtC x).length = 1 := rfl
theorem one_txt (x : Txt) : ∀ u ∈ txtC x, u.oneCell' = true := by
  intro u hu
  simp only [txtC, List.mem_cons, List.not_mem_nil, or_false] at hu
  rcases hu with rfl <;> rfl
theorem elem_txt : Elem 42 9 (.string ⟨#[]⟩) 1 16 := ⟨Tryz.underlying42, by kernel_rfl, rfl, by decide, by decide⟩
set_option maxRecDepth 100000 in
set_option maxHeartbeats 8000000 in
theorem txt_list {p : Ps} {r : List Tk} {lv : Int} (x : Txt) (hx : x ≠ []) (w : World) (h : Sta w p r lv) :
    Calls Tryz.prog 64 #[ptr p.g, str x, .func (Fn.func 60) #[ptr p.g] #[]] w (PPost p lv w (Lst w.heap.size 1 txtC) (listP x nameP FU r)) := by
  obtain ⟨R, hR⟩ : ∃ R, listP x nameP FU r = R := ⟨_, rfl⟩
  rw [hR]
  have R0 := Lib.hid (show R = listP x nameP (5999 + 1) r from hR.symm)
  have G := Lib.hid (And.intro h.lt h.lt2)
  have few : r.length ≤ 5000 := by obtain ⟨off, cap, h⟩ := h; exact h.few
  have S0 := Lib.hid h
  have HX := Lib.hid hx
  obtain ⟨A, hA⟩ : ∃ A, w.heap.size = A := ⟨_, rfl⟩
  have HA := Lib.hid hA
  rw [hA] at G
  clear hR h hx hA
  go_enter Tryz.func64, Tryz.ntmps64
  go_wp2_with fail
  refine (name_any _ S0.out).mono ?_
  intro e w1 hp
  rcases h1 : nameP r with ⟨a1, r1⟩ | ⟨b1, r1⟩
  · obtain ⟨v1, rfl, rfl, hs, hn⟩ := ppost_ok h1 hp
    have R1 := Lib.hid (R0.out.trans (list_start h1))
    have few1 := shr_nameP _ _ _ h1
    have S1 := Lib.hid (hs.keep (below_box w1 (.cells #[str a1] 9)))
    have N1 := Lib.hid (hn.trans (Tch.of_below (below_box w1 (.cells #[str a1] 9))))
    have q1 : (w1.alloc (.cells #[str a1] 9)).ownsRow A 9 1 (.slice (some ⟨w1.heap.size, 0, none⟩) 1 1) 1 (txtC a1) := own_base (own_lit w1 (txtC a1) 9 _ rfl) (by have := hn.size; have := HA.out; omega)
    have O1 := Lib.hid (show (w1.alloc (.cells #[str a1] 9)).ownsRow A 9 1 (.slice (some ⟨w1.heap.size, 0, none⟩) 1 1) 1 ([a1].flatMap txtC) from by rw [List.flatMap_singleton]; exact q1)
    clear hs hn hp h1 q1
    go_wp2_with fail
    go_loopg [7] 5999 (fun gh o wr => ∃ (acc : List Txt) (rk : List Tk), wr.ownsRow A 9 1 o acc.length (acc.flatMap txtC) ∧ rk.length ≤ gh ∧ acc.length + gh ≤ 6000 ∧ R = listT x nameP acc gh rk ∧ Sta wr p rk lv ∧ Near p.g w wr)
    case atStart => exact ⟨[a1], r1, O1.out, by omega, by simp, R1.out, S1.out, N1.out⟩
    case round =>
      obtain ⟨acc, rk, hown, hrk, hacc, hR, hs, hn⟩ := hrel
      have O := Lib.hid hown
      have RK := Lib.hid hR
      have SK := Lib.hid hs
      have NK := Lib.hid hn
      clear hown hR hs hn
      obtain ⟨c2, r2, h2⟩ := acc_ok x rk
      have X2 := Lib.hid h2
      clear h2
      go_wp2_with fail
      refine (accept_any x HX.out _ SK.out).mono ?_
      intro e w2 hp
      obtain ⟨v2, rfl, rfl, hs, hn⟩ := ppost_ok X2.out hp
      have S2 := Lib.hid hs
      have N2 := Lib.hid (NK.out.trans hn)
      have O2 := Lib.hid (own_near O.out hn G.out.1)
      clear hs hn hp
      cases c2
      · have RR := Lib.hid (RK.out.trans (listT_no X2.out))
        go_wp2_with fail
        go_ret
        exact ppost_of_ok RR.out (by rw [HA.out]; exact lst_of_own len_txt rfl O2.out) S2.out N2.out
      · have hl2 := acc_len X2.out
        obtain ⟨g2, rfl⟩ : ∃ g2, gk = g2 + 1 := ⟨gk - 1, by omega⟩
        go_wp2_with fail
        refine (name_any _ S2.out).mono ?_
        intro e w3 hp
        rcases h3 : nameP r2 with ⟨a2, r3⟩ | ⟨b3, r3⟩
        · obtain ⟨v3, rfl, rfl, hs, hn⟩ := ppost_ok h3 hp
          have few3 := shr_nameP _ _ _ h3
          have R3 := Lib.hid (RK.out.trans (listT_yes X2.out h3))
          have S3 := Lib.hid (hs.keep (below_box w3 (.cells #[str a2] 9)))
          have N3 := Lib.hid ((N2.out.trans hn).trans (Tch.of_below (below_box w3 (.cells #[str a2] 9))))
          have O3 := Lib.hid ((own_near O2.out hn G.out.1).alloc (.cells #[str a2] 9))
          have hz : A ≤ w3.heap.size := by have := (N2.out.trans hn).size; have := HA.out; omega
          clear hs hn hp h3
          go_wp2_with (at_builtin; (refine wpList_app elem_txt rfl (.tmp 14) (.tmp 17) rfl (base := A) (by rfl) O3.out (by rfl) (src_cells w3 (txtC a2) 9 _ rfl (one_txt a2)) (by omega) (by simp; omega) ?_; intro v4 w4 hown hg hat))
          have S4 := Lib.hid (S3.out.grown hg (fun j hj => (O3.out.lt j hj).1) G.out.1 G.out.2)
          have N4 := Lib.hid (near_grown N3.out hg (fun j hj => by have := (O3.out.lt j hj).1; have := HA.out; omega))
          have O4 := Lib.hid (show w4.ownsRow A 9 1 v4 (acc ++ [a2]).length ((acc ++ [a2]).flatMap txtC) from by rw [List.length_append, List.flatMap_append, List.flatMap_singleton]; exact hown)
          clear hown hg hat
          go_wp2_with fail
          go_roundg g2
          case measure => omega
          case rel => exact ⟨acc ++ [a2], r3, O4.out, by omega, by simp; omega, R3.out, S4.out, N4.out⟩
        · obtain ⟨rfl, hn⟩ := ppost_bad h3 hp
          exact ⟨rfl, ppost_of_bad (RK.out.trans (listT_bad X2.out h3)) (N2.out.trans hn)⟩
  · obtain ⟨rfl, hn⟩ := ppost_bad h1 hp
    exact ⟨rfl, ppost_of_bad (R0.out.trans (list_start_bad h1)) hn⟩
theorem len_cnd (x : Cnd) : (cndC x).length = 14 := rfl
theorem one_cnd (x : Cnd) : ∀ u ∈ cndC x, u.oneCell' = true := by
  intro u hu
  simp only [cndC, List.mem_cons, List.not_mem_nil, or_false] at hu
  rcases hu with rfl | rfl | rfl | rfl | rfl | rfl | rfl | rfl | rfl | rfl | rfl | rfl | rfl | rfl <;> rfl
theorem elem_cnd : Elem 46 59 (.agg #[.string ⟨#[]⟩, .string ⟨#[]⟩, .bool false, .int .i64 0, .int .i64 0, .string ⟨#[]⟩, .int .i64 0, .string ⟨#[]⟩, .string ⟨#[]⟩, .bool false, .int .i64 0, .int .i64 0, .string ⟨#[]⟩, .int .i64 0]) 14 160 := ⟨Tryz.underlying46, by kernel_rfl, rfl, by decide, by decide⟩
set_option maxRecDepth 100000 in
set_option maxHeartbeats 8000000 in
theorem cnd_list {p : Ps} {r : List Tk} {lv : Int} (x : Txt) (hx : x ≠ []) (w : World) (h : Sta w p r lv) :
    Calls Tryz.prog 85 #[ptr p.g, str x, .func (Fn.func 86) #[ptr p.g] #[]] w (PPost p lv w (Lst w.heap.size 14 cndC) (listP x condP FU r)) := by
  obtain ⟨R, hR⟩ : ∃ R, listP x condP FU r = R := ⟨_, rfl⟩
  rw [hR]
  have R0 := Lib.hid (show R = listP x condP (5999 + 1) r from hR.symm)
  have G := Lib.hid (And.intro h.lt h.lt2)
  have few : r.length ≤ 5000 := by obtain ⟨off, cap, h⟩ := h; exact h.few
  have S0 := Lib.hid h
  have HX := Lib.hid hx
  obtain ⟨A, hA⟩ : ∃ A, w.heap.size = A := ⟨_, rfl⟩
  have HA := Lib.hid hA
  rw [hA] at G
  clear hR h hx hA
  go_enter Tryz.func85, Tryz.ntmps85
  go_wp2_with fail
  refine (cond_any _ S0.out).mono ?_
  intro e w1 hp
  rcases h1 : condP r with ⟨a1, r1⟩ | ⟨b1, r1⟩
  · obtain ⟨v1, rfl, rfl, hs, hn⟩ := ppost_ok h1 hp
    have R1 := Lib.hid (R0.out.trans (list_start h1))
    have few1 := shr_condP _ _ _ h1
    have S1 := Lib.hid (hs.keep (below_box w1 (.cells #[str a1.left.var, str a1.left.attr, .bool a1.left.const, .int .i64 a1.left.v.k, .int .i64 a1.left.v.n, str a1.left.v.t, .int .i64 a1.op, str a1.right.var, str a1.right.attr, .bool a1.right.const, .int .i64 a1.right.v.k, .int .i64 a1.right.v.n, str a1.right.v.t, .int .i64 a1.add] 59)))
    have N1 := Lib.hid (hn.trans (Tch.of_below (below_box w1 (.cells #[str a1.left.var, str a1.left.attr, .bool a1.left.const, .int .i64 a1.left.v.k, .int .i64 a1.left.v.n, str a1.left.v.t, .int .i64 a1.op, str a1.right.var, str a1.right.attr, .bool a1.right.const, .int .i64 a1.right.v.k, .int .i64 a1.right.v.n, str a1.right.v.t, .int .i64 a1.add] 59))))
    have q1 : (w1.alloc (.cells #[str a1.left.var, str a1.left.attr, .bool a1.left.const, .int .i64 a1.left.v.k, .int .i64 a1.left.v.n, str a1.left.v.t, .int .i64 a1.op, str a1.right.var, str a1.right.attr, .bool a1.right.const, .int .i64 a1.right.v.k, .int .i64 a1.right.v.n, str a1.right.v.t, .int .i64 a1.add] 59)).ownsRow A 59 14 (.slice (some ⟨w1.heap.size, 0, none⟩) 1 1) 1 (cndC a1) := own_base (own_lit w1 (cndC a1) 59 _ rfl) (by have := hn.size; have := HA.out; omega)
    have O1 := Lib.hid (show (w1.alloc (.cells #[str a1.left.var, str a1.left.attr, .bool a1.left.const, .int .i64 a1.left.v.k, .int .i64 a1.left.v.n, str a1.left.v.t, .int .i64 a1.op, str a1.right.var, str a1.right.attr, .bool a1.right.const, .int .i64 a1.right.v.k, .int .i64 a1.right.v.n, str a1.right.v.t, .int .i64 a1.add] 59)).ownsRow A 59 14 (.slice (some ⟨w1.heap.size, 0, none⟩) 1 1) 1 ([a1].flatMap cndC) from by rw [List.flatMap_singleton]; exact q1)
    clear hs hn hp h1 q1
    go_wp2_with fail
    go_loopg [7] 5999 (fun gh o wr => ∃ (acc : List Cnd) (rk : List Tk), wr.ownsRow A 59 14 o acc.length (acc.flatMap cndC) ∧ rk.length ≤ gh ∧ acc.length + gh ≤ 6000 ∧ R = listT x condP acc gh rk ∧ Sta wr p rk lv ∧ Near p.g w wr)
    case atStart => exact ⟨[a1], r1, O1.out, by omega, by simp, R1.out, S1.out, N1.out⟩
    case round =>
      obtain ⟨acc, rk, hown, hrk, hacc, hR, hs, hn⟩ := hrel
      have O := Lib.hid hown
      have RK := Lib.hid hR
      have SK := Lib.hid hs
      have NK := Lib.hid hn
      clear hown hR hs hn
      obtain ⟨c2, r2, h2⟩ := acc_ok x rk
      have X2 := Lib.hid h2
      clear h2
      go_wp2_with fail
      refine (accept_any x HX.out _ SK.out).mono ?_
      intro e w2 hp
      obtain ⟨v2, rfl, rfl, hs, hn⟩ := ppost_ok X2.out hp
      have S2 := Lib.hid hs
      have N2 := Lib.hid (NK.out.trans hn)
      have O2 := Lib.hid (own_near O.out hn G.out.1)
      clear hs hn hp
      cases c2
      · have RR := Lib.hid (RK.out.trans (listT_no X2.out))
        go_wp2_with fail
        go_ret
        exact ppost_of_ok RR.out (by rw [HA.out]; exact lst_of_own len_cnd rfl O2.out) S2.out N2.out
      · have hl2 := acc_len X2.out
        obtain ⟨g2, rfl⟩ : ∃ g2, gk = g2 + 1 := ⟨gk - 1, by omega⟩
        go_wp2_with fail
        refine (cond_any _ S2.out).mono ?_
        intro e w3 hp
        rcases h3 : condP r2 with ⟨a2, r3⟩ | ⟨b3, r3⟩
        · obtain ⟨v3, rfl, rfl, hs, hn⟩ := ppost_ok h3 hp
          have few3 := shr_condP _ _ _ h3
          have R3 := Lib.hid (RK.out.trans (listT_yes X2.out h3))
          have S3 := Lib.hid (hs.keep (below_box w3 (.cells #[str a2.left.var, str a2.left.attr, .bool a2.left.const, .int .i64 a2.left.v.k, .int .i64 a2.left.v.n, str a2.left.v.t, .int .i64 a2.op, str a2.right.var, str a2.right.attr, .bool a2.right.const, .int .i64 a2.right.v.k, .int .i64 a2.right.v.n, str a2.right.v.t, .int .i64 a2.add] 59)))
          have N3 := Lib.hid ((N2.out.trans hn).trans (Tch.of_below (below_box w3 (.cells #[str a2.left.var, str a2.left.attr, .bool a2.left.const, .int .i64 a2.left.v.k, .int .i64 a2.left.v.n, str a2.left.v.t, .int .i64 a2.op, str a2.right.var, str a2.right.attr, .bool a2.right.const, .int .i64 a2.right.v.k, .int .i64 a2.right.v.n, str a2.right.v.t, .int .i64 a2.add] 59))))
          have O3 := Lib.hid ((own_near O2.out hn G.out.1).alloc (.cells #[str a2.left.var, str a2.left.attr, .bool a2.left.const, .int .i64 a2.left.v.k, .int .i64 a2.left.v.n, str a2.left.v.t, .int .i64 a2.op, str a2.right.var, str a2.right.attr, .bool a2.right.const, .int .i64 a2.right.v.k, .int .i64 a2.right.v.n, str a2.right.v.t, .int .i64 a2.add] 59))
          have hz : A ≤ w3.heap.size := by have := (N2.out.trans hn).size; have := HA.out; omega
          clear hs hn hp h3
          go_wp2_with (at_builtin; (refine wpList_app elem_cnd rfl (.tmp 14) (.tmp 17) rfl (base := A) (by rfl) O3.out (by rfl) (src_cells w3 (cndC a2) 59 _ rfl (one_cnd a2)) (by omega) (by simp; omega) ?_; intro v4 w4 hown hg hat))
          have S4 := Lib.hid (S3.out.grown hg (fun j hj => (O3.out.lt j hj).1) G.out.1 G.out.2)
          have N4 := Lib.hid (near_grown N3.out hg (fun j hj => by have := (O3.out.lt j hj).1; have := HA.out; omega))
          have O4 := Lib.hid (show w4.ownsRow A 59 14 v4 (acc ++ [a2]).length ((acc ++ [a2]).flatMap cndC) from by rw [List.length_append, List.flatMap_append, List.flatMap_singleton]; exact hown)
          clear hown hg hat
          go_wp2_with fail
          go_roundg g2
          case measure => omega
          case rel => exact ⟨acc ++ [a2], r3, O4.out, by omega, by simp; omega, R3.out, S4.out, N4.out⟩
        · obtain ⟨rfl, hn⟩ := ppost_bad h3 hp
          exact ⟨rfl, ppost_of_bad (RK.out.trans (listT_bad X2.out h3)) (N2.out.trans hn)⟩
  · obtain ⟨rfl, hn⟩ := ppost_bad h1 hp
    exact ⟨rfl, ppost_of_bad (R0.out.trans (list_start_bad h1)) hn⟩
end Go.Proofs.YtcgkaecaddpenaaGreatDoor
