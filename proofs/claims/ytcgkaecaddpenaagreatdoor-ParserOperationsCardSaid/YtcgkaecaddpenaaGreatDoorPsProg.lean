/- The program's program: its deferred function, its loop. -/
import Derived.Test.YtcgkaecaddpenaaGreatDoorPsItem
import Derived.Test.YtcgkaecaddpenaaGreatDoorPLaw
import Derived.Deep.LoopGhost
import Derived.WalkMore
import Derived.Recover
import Derived.Defers
namespace Go.Proofs.YtcgkaecaddpenaaGreatDoor
open Go.RowKit
open L7 (Tk)
open L8
set_option linter.unusedSimpArgs false

/-! ### Appends of great elements. -/
structure ElemB (t e : TypeId) (z : Value) (size bytes : Nat) : Prop where
  ht : Tryz.prog.underlying t = some (.slice e)
  hi : (Tryz.prog.info? e).map (fun i => (i.zero, i.size, i.bytes)) = some (some z, size, bytes)
  hzs : z.cells.size = size
  hpos : 0 < size
  hby : bytes ≤ 1000
theorem step_appB {t e : TypeId} {z : Value} {size bytes : Nat} (E : ElemB t e z size bytes) {w : World} {ops : Array Oper} {o : Oper} {a : Act} {K : Act → World → Prop} {Q : Exit → Act → World → Prop} {G : Prop} (hgd : o.guard = none) (s x : Operand)
    (ho : o.op = .call { callee := .builtin .append, args := #[s, x], argTypes := #[t, t] }) {base : Nat} {v : Value} {n : Nat} {xs : List Value} (hs : a.eval s = v) (hown : w.ownsRow base e size v n xs)
    {ad : Addr} {m c : Nat} {news : List Value} (hx : a.eval x = .slice (some ad) m c) (hsrc : Src w (some ad) m c size news) (hl : n + m ≤ 100000) (hbase : base ≤ w.heap.size)
    (h : ∀ v' w', w'.ownsRow base e size v' (n + m) (xs ++ news) → w.grownBy w' v.ownBlock → (v'.ownBlock = v.ownBlock ∨ v'.ownBlock = some w.heap.size) → K (a.put o.dst v') w') :
    if Region.wanted o (yielded ops a.tmps) = true then Oper.wp Tryz.prog o a w K Q else G := by
  have hw : Region.wanted o (yielded ops a.tmps) = true := by simp [Region.wanted, hgd]
  rw [if_pos hw]
  obtain ⟨i0, hi, hz0, hz1, hz2⟩ := info_parts E.hi
  obtain ⟨v', w', hrun, h2, h3, _, h5⟩ := run_append_own_at (P := Tryz.prog) w base t o.type e i0 z size bytes E.ht hi hz0 hz1 hz2 E.hzs E.hpos v n xs hown ad m c news hsrc.len (hsrc.cell ad rfl) hsrc.one (by unfold maxLen; omega)
      (Nat.le_trans (Nat.mul_le_mul hl E.hby) (by omega)) hbase
  unfold Oper.wp execOp
  simp only [ho, resolve, invoke, builtin, Sem.run_bind, Sem.run_pure, Result.andThen_ok, List.map_toArray, List.map_cons, List.map_nil, hs, hx, hrun]
  exact h v' w' h2 h3 h5
theorem elemIt : ElemB 27 51 (.agg #[.int .i64 0, .string ⟨#[]⟩, .int .i64 0, .string ⟨#[]⟩, .string ⟨#[]⟩, .slice none 0 0, .slice none 0 0, .int .i64 0, .int .i64 0, .int .i64 0, .slice none 0 0, .string ⟨#[]⟩, .string ⟨#[]⟩, .slice none 0 0, .slice none 0 0, .slice none 0 0, .int .i64 0, .string ⟨#[]⟩, .slice none 0 0, .slice none 0 0, .slice none 0 0, .string ⟨#[]⟩, .string ⟨#[]⟩, .int .i64 0, .int .i64 0]) 25 408 := ⟨Tryz.underlying27, by kernel_rfl, rfl, by decide, by decide⟩

/-! ### Items in memory. -/
/-- An item's lists, laid between two sizes of the memory, beside the row v. -/
def ItS (B : Nat) (w : World) (v : Value) (i : It) (z : Sl9) : Prop :=
  ∃ (D : Nat) (w0 : World), B ≤ D ∧ ItM D w0 i z ∧ (∀ b, D ≤ b → b < w0.heap.size → w.heap[b]? = w0.heap[b]?) ∧ w0.heap.size ≤ w.heap.size ∧ ∀ j, v.ownBlock = some j → ¬ (D ≤ j ∧ j < w0.heap.size)
theorem ItS.next {B : Nat} {w w' : World} {v v' : Value} {i : It} {z : Sl9} (h : ItS B w v i z) (hs : w.heap.size ≤ w'.heap.size) (hk : ∀ b, B ≤ b → b < w.heap.size → v.ownBlock ≠ some b → w'.heap[b]? = w.heap[b]?)
    (hv : v'.ownBlock = v.ownBlock ∨ ∃ n, v'.ownBlock = some n ∧ w.heap.size ≤ n) : ItS B w' v' i z := by
  obtain ⟨D, w0, h1, h2, h3, h4, h5⟩ := h
  refine ⟨D, w0, h1, h2, fun b hb hl => (hk b (Nat.le_trans h1 hb) (Nat.lt_of_lt_of_le hl h4) (fun e => h5 b e ⟨hb, hl⟩)).trans (h3 b hb hl), Nat.le_trans h4 hs, fun j hj => ?_⟩
  rcases hv with e | ⟨n, e, hn⟩
  · exact h5 j (e ▸ hj)
  · rw [e] at hj
    cases hj
    omega
theorem ItS.itm {B : Nat} {w : World} {v : Value} {i : It} {z : Sl9} (h : ItS B w v i z) : ItM B w i z := by
  obtain ⟨D, w0, h1, h2, h3, h4, h5⟩ := h
  exact (h2.stay ⟨h4, fun b hb hl => h3 b hb hl⟩).lower h1
def rows (acc : List It) (zs : List Sl9) : List Value := (acc.zip zs).flatMap fun x => itL x.1 x.2
/-- A row of the call's own that holds items. -/
def OwnIts (B : Nat) (w : World) (v : Value) (acc : List It) : Prop :=
  ∃ zs : List Sl9, zs.length = acc.length ∧ w.ownsRow B 51 25 v acc.length (rows acc zs) ∧ ∀ x ∈ acc.zip zs, ItS B w v x.1 x.2
theorem OwnIts.lt {B : Nat} {w : World} {v : Value} {acc : List It} (h : OwnIts B w v acc) : ∀ j, v.ownBlock = some j → B ≤ j ∧ j < w.heap.size := by
  obtain ⟨zs, _, h2, _⟩ := h
  exact h2.lt
theorem OwnIts.isSl {B : Nat} {w : World} {v : Value} {acc : List It} (h : OwnIts B w v acc) : ∃ A c, v = .slice A acc.length c := by
  obtain ⟨zs, _, h2, _⟩ := h
  exact own_isSl h2
theorem OwnIts.keep {B : Nat} {w w' : World} {v : Value} {acc : List It} (h : OwnIts B w v acc) (hs : w.heap.size ≤ w'.heap.size) (hk : ∀ b, B ≤ b → b < w.heap.size → w'.heap[b]? = w.heap[b]?) : OwnIts B w' v acc := by
  obtain ⟨zs, h1, h2, h3⟩ := h
  exact ⟨zs, h1, own_heap h2 (fun j hj => hk j (h2.lt j hj).1 (h2.lt j hj).2), fun x hx => (h3 x hx).next hs (fun b hb hl _ => hk b hb hl) (.inl rfl)⟩
theorem OwnIts.push {B : Nat} {w w1 w4 : World} {v v4 : Value} {acc : List It} {i : It} {z : Sl9} {o : Obj} {zs : List Sl9} (h0 : zs.length = acc.length) (h3 : ∀ x ∈ acc.zip zs, ItS B w v x.1 x.2) (hlt : ∀ j, v.ownBlock = some j → B ≤ j ∧ j < w.heap.size) (hB : B ≤ w.heap.size)
    (hs : w.heap.size ≤ w1.heap.size) (hk : ∀ b, B ≤ b → b < w.heap.size → w1.heap[b]? = w.heap[b]?) (hi : ItM w.heap.size w1 i z)
    (hown : w4.ownsRow B 51 25 v4 (acc.length + 1) (rows acc zs ++ itL i z)) (hg : (w1.alloc o).grownBy w4 v.ownBlock) (hv : v4.ownBlock = v.ownBlock ∨ v4.ownBlock = some (w1.alloc o).heap.size) : OwnIts B w4 v4 (acc ++ [i]) := by
  have hsz : w1.heap.size ≤ w4.heap.size := Nat.le_trans (by simp) hg.size
  have hkk : ∀ b, b < w1.heap.size → v.ownBlock ≠ some b → w4.heap[b]? = w1.heap[b]? := fun b hb hne =>
    (hg.block b (by simp; omega) (fun e => hne e.symm)).trans ((below_box w1 o).block b hb)
  have hv2 : v4.ownBlock = v.ownBlock ∨ ∃ n, v4.ownBlock = some n ∧ w1.heap.size ≤ n := by
    rcases hv with e | e
    · exact .inl e
    · exact .inr ⟨_, e, by simp⟩
  have hz : (acc ++ [i]).zip (zs ++ [z]) = acc.zip zs ++ [(i, z)] := by rw [List.zip_append (by omega)]; rfl
  refine ⟨zs ++ [z], by simp [h0], ?_, fun x hx => ?_⟩
  · rw [List.length_append]
    unfold rows at hown ⊢
    rw [hz, List.flatMap_append, List.flatMap_singleton]
    exact hown
  · rw [hz] at hx
    rcases List.mem_append.1 hx with hx | hx
    · exact ((h3 x hx).next hs (fun b hb hl _ => hk b hb hl) (.inl rfl)).next hsz (fun b hb hl hne => hkk b hl hne) hv2
    · simp only [List.mem_singleton] at hx
      subst hx
      have hit : ItS B w1 v i z := ⟨w.heap.size, w1, hB, hi, fun _ _ _ => rfl, Nat.le_refl _, fun j hj q => by have := hlt j hj; omega⟩
      exact hit.next hsz (fun b hb hl hne => hkk b hl hne) hv2
/-- A slice of items, new from block D on. -/
def Its (D : Nat) (w : World) (v : Value) (l : List It) : Prop := Slc 25 (fun w b o i => D ≤ b ∧ ∃ z, (∀ k, k < 25 → w.cell? ⟨b, o + k, none⟩ = (itL i z)[k]?) ∧ ItM D w i z) w v l
theorem rows_get : ∀ (acc : List It) (zs : List Sl9), zs.length = acc.length → ∀ j (h : j < acc.length), ∃ z, (acc[j], z) ∈ acc.zip zs ∧ ∀ k, k < 25 → (rows acc zs)[j * 25 + k]? = (itL acc[j] z)[k]?
  | [], _, _, j, h => by simp at h
  | i :: acc, [], e, j, h => by simp at e
  | i :: acc, z :: zs, e, 0, h => ⟨z, by simp, fun k hk => by
      have hl : (itL i z).length = 25 := rfl
      show ((itL i z) ++ rows acc zs)[0 * 25 + k]? = _
      rw [List.getElem?_append_left (by omega), Nat.zero_mul, Nat.zero_add]
      rfl⟩
  | i :: acc, z :: zs, e, j + 1, h => by
      obtain ⟨z2, h1, h2⟩ := rows_get acc zs (by simpa using e) j (by simpa using h)
      refine ⟨z2, by simp; exact .inr h1, fun k hk => ?_⟩
      have hl : (itL i z).length = 25 := rfl
      show ((itL i z) ++ rows acc zs)[(j + 1) * 25 + k]? = _
      rw [List.getElem?_append_right (by omega), hl, show (j + 1) * 25 + k - 25 = j * 25 + k by omega, h2 k hk]
      rfl
theorem OwnIts.its {B : Nat} {w : World} {v : Value} {acc : List It} (h : OwnIts B w v acc) : Its B w v acc := by
  obtain ⟨zs, h1, h2, h3⟩ := h
  have h20 := h2
  rcases h2.2 with ⟨rfl, h0⟩ | ⟨g, cap, cur, rfl, hb, hg, hn, _⟩
  · have : acc = [] := List.eq_nil_of_length_eq_zero h0
    subst this
    exact Slc.nil w
  · refine ⟨some ⟨g, 0, none⟩, cap, rfl, hn, (fun e => by cases e), fun j hj => ⟨g, 0, rfl, ?_⟩⟩
    obtain ⟨z, q1, q2⟩ := rows_get acc zs h1 j hj
    refine ⟨hb, z, fun k hk => ?_, (h3 _ q1).itm⟩
    have hl : k < (itL acc[j] z).length := hk
    have q3 := q2 k hk
    rw [List.getElem?_eq_getElem hl] at q3 ⊢
    have := h20.cells (g := g) rfl _ _ q3
    rw [add_none, ← Nat.add_assoc] at this
    exact this
theorem Its.keep {D : Nat} {w w1 : World} {v : Value} {l : List It} (h : Its D w v l) (hs : w.heap.size ≤ w1.heap.size) (hb : ∀ b, D ≤ b → b < w.heap.size → w1.heap[b]? = w.heap[b]?) : Its D w1 v l :=
  Slc.mono h fun b o x _ ⟨hD, z, hx, hz⟩ => ⟨hD, z, fun k hk => by
    have h1 := hx k hk
    have h2 : k < (itL x z).length := hk
    rw [List.getElem?_eq_getElem h2] at h1 ⊢
    exact (World.cell?_of_block (a := ⟨b, o + k, none⟩) (hb b hD (cellLt h1))).trans h1, hz.stay ⟨hs, hb⟩⟩
theorem Its.below {D : Nat} {w w1 : World} {v : Value} {l : List It} (h : Its D w v l) (hb : Below w.heap.size w w1) : Its D w1 v l := h.keep hb.size fun b _ hl => hb.block b hl
theorem Its.lower {D E : Nat} {w : World} {v : Value} {l : List It} (h : Its D w v l) (hE : E ≤ D) : Its E w v l := by
  obtain ⟨A, cap, e, hc, hn, f⟩ := h
  refine ⟨A, cap, e, hc, hn, fun i hi => ?_⟩
  obtain ⟨b, off, h1, h2, z, h3, h4⟩ := f i hi
  exact ⟨b, off, h1, Nat.le_trans hE h2, z, h3, h4.lower hE⟩

/-! ### The deferred function. -/
theorem assert_fail (er at_ : Int) (w : World) : (Instr.typeAssert (.iface 84 (.agg #[.int .i64 er, .int .i64 at_])) 20 84 true).run Tryz.prog w = .ok (.tuple #[.agg #[.int .i64 er, .int .i64 at_], .bool true]) w := by kernel_rfl
theorem assert_none (w : World) : (Instr.typeAssert .nilIface 20 84 true).run Tryz.prog w = .ok (.tuple #[.agg #[.int .i64 0, .int .i64 0], .bool false]) w := by kernel_rfl
set_option maxRecDepth 100000 in
set_option maxHeartbeats 8000000 in
/-- There is nothing to catch. -/
theorem catch_none (p q s : Addr) (w : World) :
    CallsD Tryz.prog 30 #[.pointer (some p), .pointer (some q), .pointer (some s)] .returning w fun e u' w' => e = .returned (.tuple #[]) ∧ u' = .returning ∧ Below w.heap.size w w' := by
  refine callsD_of_wpS Tryz.func30 rfl fun c₀ cs hu => ?_
  apply wpS_seq
  apply wpS_region
  simp [wpOpsS, go_sem, recoverD, hu, Tryz.ntmps30, Exit.thenS, assert_none]
  apply wpS_seq
  apply wpS_region
  simp [wpOpsS, go_sem, Exit.thenS]
  refine wpS_cond (t := false) (by simp [Act.eval, Array.replicate]) ?_
  simp only [Bool.false_eq_true, if_false]
  refine wpS_of_wp (wp_skip ?_)
  cases c₀
  simp_all [bodyPostS, results, Tryz.results30]
  exact below_box w _
theorem cell_da {w : World} {b o : Nat} {v : Value} (ob : Obj) (h : w.cell? ⟨b, o, none⟩ = some v) : (w.alloc ob).drew.cell? ⟨b, o, none⟩ = some v := cellB (below_drewN _ _ 1) (Cell.alloc h ob)
set_option maxRecDepth 100000 in
set_option maxHeartbeats 8000000 in
/-- It catches a failure: no tree, the error, its offset. -/
theorem catch_fail (b : Nat) (er at_ : Int) (v x y : Value) (older : List PanicEntry) (w : World) (c0 : w.cell? ⟨b, 0, none⟩ = some v) (f0 : w.frozen? ⟨b, 0, none⟩ = false) (c1 : w.cell? ⟨b + 1, 0, none⟩ = some x) (f1 : w.frozen? ⟨b + 1, 0, none⟩ = false) (c2 : w.cell? ⟨b + 2, 0, none⟩ = some y) (f2 : w.frozen? ⟨b + 2, 0, none⟩ = false) :
    CallsD Tryz.prog 30 #[.pointer (some ⟨b, 0, none⟩), .pointer (some ⟨b + 1, 0, none⟩), .pointer (some ⟨b + 2, 0, none⟩)] (.panicking ({ v := .iface 84 (.agg #[.int .i64 er, .int .i64 at_]), recovered := false } :: older)) w fun e u' w' =>
      e = .returned (.tuple #[]) ∧ u' = .panicking ({ v := .iface 84 (.agg #[.int .i64 er, .int .i64 at_]), recovered := true } :: older) ∧ w'.cell? ⟨b, 0, none⟩ = some (.slice none 0 0) ∧ w'.cell? ⟨b + 1, 0, none⟩ = some (.int .i64 er) ∧ w'.cell? ⟨b + 2, 0, none⟩ = some (.int .i64 at_) ∧ Below b w w' := by
  refine callsD_of_wpS Tryz.func30 rfl fun c₀ cs hu => ?_
  apply wpS_seq
  apply wpS_region
  simp [wpOpsS, go_sem, recoverD, hu, Tryz.ntmps30, Exit.thenS, assert_fail]
  apply wpS_seq
  apply wpS_region
  simp [wpOpsS, go_sem, Exit.thenS]
  refine wpS_cond (t := true) (by simp [Act.eval, Array.replicate]) ?_
  simp only [if_true]
  have hb := cellLt c0
  have hb1 := cellLt c1
  have hb2 := cellLt c2
  have d0 := fun o => cellB (below_box w o) c0
  have d1 := fun o => cellB (below_box w o) c1
  have d2 := fun o => cellB (below_box w o) c2
  have e0 := fun o => frozenB (below_box w o) c0 f0
  have e1 := fun o => frozenB (below_box w o) c1 f1
  have e2 := fun o => frozenB (below_box w o) c2 f2
  refine wpS_of_wp ?_
  have n1 : ¬ w.heap.size = b := by omega
  have n2 : ¬ w.heap.size = b + 1 := by omega
  have n3 : ¬ w.heap.size = b + 2 := by omega
  have n4 : ¬ b = w.heap.size := by omega
  have n5 : ¬ b + 1 = w.heap.size := by omega
  have n6 : ¬ b + 2 = w.heap.size := by omega
  have hbw : b ≤ w.heap.size := by omega
  go_region
  all_goals
    refine ⟨rfl, _, rfl, .tuple #[], by simp [results, Tryz.results30, go_sem], rfl, rfl, ?_, ?_, ?_, ?_⟩
    · refine cell_da _ ?_
      simp [go_sem, c0, c1, c2]
    · refine cell_da _ ?_
      simp [go_sem, c0, c1, c2]
    · refine cell_da _ ?_
      simp [go_sem, c0, c1, c2]
    · exact ((((((Below.refl b w).setCell (by simp) _).setCell (by simp) _).setCell (by simp) _).alloc (by simpa using hbw) _)).trans (below_drewN _ _ 1)

/-! ### program. -/
/-- What the function's memory holds while it reads: the items, no error, no offset. -/
structure PI (w wr : World) (p : Ps) (acc : List It) (v : Value) : Prop where
  tk : wr.cell? ⟨w.heap.size, 0, none⟩ = some v
  tf : wr.frozen? ⟨w.heap.size, 0, none⟩ = false
  er : wr.cell? ⟨w.heap.size + 1, 0, none⟩ = some (.int .i64 0)
  ef : wr.frozen? ⟨w.heap.size + 1, 0, none⟩ = false
  at_ : wr.cell? ⟨w.heap.size + 2, 0, none⟩ = some (.int .i64 0)
  af : wr.frozen? ⟨w.heap.size + 2, 0, none⟩ = false
  own : OwnIts (w.heap.size + 3) wr v acc
  big : w.heap.size + 3 ≤ wr.heap.size
  near : Near p.g w wr
theorem PI.keep {w wr w1 : World} {p : Ps} {acc : List It} {v : Value} (h : PI w wr p acc v) (hn : Near p.g wr w1) (hg : p.g < w.heap.size) : PI w w1 p acc v := by
  have q0 : ¬ w.heap.size = p.g := by omega
  have q1 : ¬ w.heap.size + 1 = p.g := by omega
  have q2 : ¬ w.heap.size + 2 = p.g := by omega
  exact ⟨hn.cell h.tk q0, hn.frozen h.tk h.tf q0, hn.cell h.er q1, hn.frozen h.er h.ef q1, hn.cell h.at_ q2, hn.frozen h.at_ h.af q2, h.own.keep hn.size (fun b hb hl => hn.block b hl (by omega)), Nat.le_trans h.big hn.size, h.near.trans hn⟩
theorem pi_start (w : World) (p : Ps) : PI w (((w.alloc (.cells #[.slice none 0 0] 29)).alloc (.cells #[.int .i64 0] 24)).alloc (.cells #[.int .i64 0] 3)) p [] (.slice none 0 0) :=
  ⟨by simp [go_sem], by simp [go_sem], by simp [go_sem], by simp [go_sem], by simp [go_sem], by simp [go_sem], ⟨[], rfl, World.ownsRow_nil _ _ _ _, fun x hx => by cases hx⟩, by simp,
    Tch.of_below (((below_box w _).alloc (by simp) _).alloc (by simp; omega) _)⟩
theorem PI.push {w wr w1 w4 : World} {p : Ps} {acc : List It} {v v4 : Value} {i : It} {z : Sl9} {o : Obj} (h : PI w wr p acc v) (hn : Near p.g wr w1) (hg : p.g < w.heap.size) (hi : ItM wr.heap.size w1 i z)
    (hap : ∀ xs, wr.ownsRow (w.heap.size + 3) 51 25 v acc.length xs → w4.ownsRow (w.heap.size + 3) 51 25 v4 (acc.length + 1) (xs ++ itL i z)) (hgr : (w1.alloc o).grownBy w4 v.ownBlock) (hv : v4.ownBlock = v.ownBlock ∨ v4.ownBlock = some (w1.alloc o).heap.size) :
    PI w (w4.setCell ⟨w.heap.size, 0, none⟩ v4) p (acc ++ [i]) v4 := by
  have h1 := h.keep hn hg
  obtain ⟨zs, z1, z2, z3⟩ := h.own
  have hlt := h.own.lt
  have ow := OwnIts.push (i := i) (z := z) (w4 := w4) (v4 := v4) (o := o) z1 z3 hlt h.big hn.size (fun b hb hl => hn.block b hl (by omega)) hi (hap _ z2) hgr hv
  have hb : ∀ j, j < w.heap.size + 3 → j < w1.heap.size → w4.heap[j]? = w1.heap[j]? := fun j hj hl =>
    (hgr.block j (by simp; omega) (fun e => by have := hlt j e.symm; omega)).trans ((below_box w1 o).block j hl)
  have hsz : w1.heap.size ≤ w4.heap.size := Nat.le_trans (by simp) hgr.size
  have hc : ∀ b', b' < w.heap.size + 3 → ∀ {u}, w1.cell? ⟨b', 0, none⟩ = some u → w4.cell? ⟨b', 0, none⟩ = some u := fun b' q u hu => (World.cell?_of_block (a := ⟨b', 0, none⟩) (hb b' q (cellLt hu))).trans hu
  have hf : ∀ b', b' < w.heap.size + 3 → ∀ {u}, w1.cell? ⟨b', 0, none⟩ = some u → w1.frozen? ⟨b', 0, none⟩ = false → w4.frozen? ⟨b', 0, none⟩ = false := fun b' q u hu hfr => (World.frozen?_of_block (a := ⟨b', 0, none⟩) (hb b' q (cellLt hu))).trans hfr
  have hd : ∀ b', b' ≠ w.heap.size → (w4.setCell ⟨w.heap.size, 0, none⟩ v4).cell? ⟨b', 0, none⟩ = w4.cell? ⟨b', 0, none⟩ := fun b' q => World.cell?_setCell_other _ _ _ _ (fun e => by have e2 := congrArg Addr.block e; simp at e2; omega)
  have hnear : Near p.g w w4 := near_grown (h1.near.trans (Tch.of_below (below_box w1 o))) hgr (fun j hj => by have := hlt j hj; omega)
  exact ⟨World.cell?_setCell_same _ _ _ (hc _ (by omega) h1.tk), by simpa using hf _ (by omega) h1.tk h1.tf, (hd _ (by omega)).trans (hc _ (by omega) h1.er), by simpa using hf _ (by omega) h1.er h1.ef, (hd _ (by omega)).trans (hc _ (by omega) h1.at_), by simpa using hf _ (by omega) h1.at_ h1.af,
    ow.keep (by simp) (fun b hb2 hl => heap_setCell_other _ _ _ _ (by show b ≠ w.heap.size; omega)), by have := h1.big; simp; omega, hnear.set2 (Nat.le_refl _) _⟩
theorem PI.same {w wr : World} {p : Ps} {acc : List It} {v : Value} (h : PI w wr p acc v) : PI w (((wr.setCell ⟨w.heap.size, 0, none⟩ v).setCell ⟨w.heap.size + 1, 0, none⟩ (.int .i64 0)).setCell ⟨w.heap.size + 2, 0, none⟩ (.int .i64 0)) p acc v := by
  have o : ∀ (W : World) (a b : Nat) (u : Value), a ≠ b → (W.setCell ⟨b, 0, none⟩ u).cell? ⟨a, 0, none⟩ = W.cell? ⟨a, 0, none⟩ := fun W a b u q => World.cell?_setCell_other _ _ _ _ (fun e => q (by have e2 := congrArg Addr.block e; simpa using e2.symm))
  refine ⟨?_, by simpa using h.tf, ?_, by simpa using h.ef, ?_, by simpa using h.af, ?_, by simpa using h.big, ((h.near.set2 (p := ⟨w.heap.size, 0, none⟩) (Nat.le_refl _) _).set2 (p := ⟨w.heap.size + 1, 0, none⟩) (Nat.le_succ _) _).set2 (p := ⟨w.heap.size + 2, 0, none⟩) (Nat.le_add_right _ _) _⟩
  · rw [o _ _ _ _ (by omega), o _ _ _ _ (by omega)]
    exact World.cell?_setCell_same _ _ _ h.tk
  · rw [o _ _ _ _ (by omega)]
    exact World.cell?_setCell_same _ _ _ (by rw [o _ _ _ _ (by omega)]; exact h.er)
  · exact World.cell?_setCell_same _ _ _ (by rw [o _ _ _ _ (by omega), o _ _ _ _ (by omega)]; exact h.at_)
  · exact h.own.keep (by simp) (fun b hb _ => ((heap_setCell_other _ _ _ _ (fun e => by have e2 : b = w.heap.size + 2 := e; omega)).trans (heap_setCell_other _ _ _ _ (fun e => by have e2 : b = w.heap.size + 1 := e; omega))).trans (heap_setCell_other _ _ _ _ (fun e => by have e2 : b = w.heap.size := e; omega)))
theorem own_unique {w : World} {base : Nat} {e : TypeId} {size n : Nat} {v : Value} {xs ys : List Value} (h : w.ownsRow base e size v n xs) (k : w.ownsRow base e size v n ys) : ys = xs := by
  rcases h.2 with ⟨rfl, rfl⟩ | ⟨g, cap, cur, rfl, _, hg, _, _, _, hx⟩
  · have h1 := h.1
    have k1 := k.1
    rw [Nat.zero_mul] at h1 k1
    rw [List.eq_nil_of_length_eq_zero h1, List.eq_nil_of_length_eq_zero k1]
  · rcases k.2 with ⟨e1, _⟩ | ⟨g2, cap2, cur2, e1, _, hg2, _, _, _, hx2⟩
    · cases e1
    · cases e1
      rw [hg] at hg2
      cases hg2
      rw [← hx, ← hx2]
theorem it_one {D : Nat} {w : World} {i : It} {z : Sl9} (h : ItM D w i z) : ∀ u ∈ itL i z, u.oneCell' = true := by
  have := h.one
  rw [Array.all_eq_true_iff_forall_mem] at this
  exact fun u hu => this u (by simpa using hu)
theorem PI.t4 {w w8 w4 : World} {p : Ps} {acc : List It} {v : Value} {o : Obj} (h : PI w w8 p acc v) (hg : (w8.alloc o).grownBy w4 v.ownBlock) {B : World} (hlt : ∀ j, v.ownBlock = some j → w.heap.size + 3 ≤ j ∧ j < B.heap.size) :
    w4.cell? ⟨w.heap.size, 0, none⟩ = some v ∧ w4.frozen? ⟨w.heap.size, 0, none⟩ = false := by
  have hb : w4.heap[w.heap.size]? = w8.heap[w.heap.size]? := (hg.block _ (by have := h.big; simp; omega) (fun e => by have := hlt _ e.symm; omega)).trans ((below_box w8 o).block _ (by have := h.big; omega))
  exact ⟨(World.cell?_of_block (a := ⟨w.heap.size, 0, none⟩) hb).trans h.tk, (World.frozen?_of_block (a := ⟨w.heap.size, 0, none⟩) hb).trans h.tf⟩
theorem leaves_put {fn : Func} {t t2 : Array Value} {Q : Ending → World → Prop} (ht : results fn t2 = results fn t) : ∀ {ds : List Deferred} {u : FrameMode} {w : World}, Leaves Tryz.prog fn t2 Q ds u w → Leaves Tryz.prog fn t Q ds u w
  | [], .returning, _, h => by
    obtain ⟨v, h1, h2⟩ := h
    exact ⟨v, by rw [← ht]; exact h1, h2⟩
  | [], .panicking _, _, h => h
  | [], .run, _, h => h
  | d :: ds, u, w, h => by
    obtain ⟨h0, fv, cap, f, args, h1, h2, h3⟩ := h
    refine ⟨h0, fv, cap, f, args, h1, h2, ?_⟩
    exact h3.mono fun e u' w' hq => by
      cases e with
      | returned v => exact leaves_put ht hq
      | panicked c => exact leaves_put ht hq
      | outgrown => exact hq
theorem results_put (a : Act) (i : Nat) (v : Value) (hi : 5 ≤ i) : results Tryz.f17 (a.put (some i) v).tmps = results Tryz.f17 a.tmps := by
  have h2 : ¬ i = 2 := by omega
  have h3 : ¬ i = 3 := by omega
  have h4 : ¬ i = 4 := by omega
  simp [results, Tryz.results17, Act.put, h2, h3, h4]
theorem Tch.down {S : Nat → Prop} {a b c : World} (h : Tch S a b) (hb : Below a.heap.size b c) : Tch S a c :=
  ⟨hb.os.trans h.os, hb.tape.trans h.tape, hb.output.trans h.output, Nat.le_trans h.size hb.size, fun i hi hs => (hb.block i hi).trans (h.block i hi hs)⟩
/-- What program returns. -/
def ProgPost (p : Ps) (w : World) (R : Res (List It)) (e : Ending) (w' : World) : Prop :=
  ∃ v, e = .returned (.tuple #[.agg #[v], .int .i64 (endT p.n R).2.1, .int .i64 (endT p.n R).2.2]) ∧ Its w.heap.size w' v (endT p.n R).1 ∧ Near p.g w w'
theorem prog_yes {acc : List It} {k : Nat} {r r1 : List Tk} {i : It} (hr : r ≠ []) (h : itemP r = .ok i r1) : prep acc (itemsP (k + 1) r) = prep (acc ++ [i]) (itemsP k r1) := by
  rw [items_run hr, bnd_ok h]
  rcases e : itemsP k r1 with ⟨js, r2⟩ | ⟨b, r2⟩
  · rw [bnd_ok e]
    show Res.ok (acc ++ (i :: js)) r2 = Res.ok ((acc ++ [i]) ++ js) r2
    simp
  · rw [bnd_bad e]
    rfl
theorem prog_bad {acc : List It} {k : Nat} {r r1 : List Tk} {b : Bool} (hr : r ≠ []) (h : itemP r = .bad b r1) : prep acc (itemsP (k + 1) r) = .bad b r1 := by
  rw [items_run hr, bnd_bad h]
  rfl
theorem prog_end {acc : List It} {k : Nat} : prep acc (itemsP k []) = .ok acc [] := by
  rw [items_nil]
  show Res.ok (acc ++ []) [] = _
  rw [List.append_nil]
theorem prog_lim {acc : List It} {r : List Tk} (hr : r ≠ []) : prep acc (itemsP 0 r) = .bad true r := by
  show prep acc (if r = [] then Res.ok [] r else Res.bad true r) = _
  rw [if_neg hr]
  rfl
set_option maxRecDepth 100000 in
set_option maxHeartbeats 8000000 in
theorem program_any {p : Ps} {r : List Tk} (w : World) (h : Sta w p r 0) :
    Calls Tryz.prog 17 #[ptr p.g] w (ProgPost p w (itemsP 200 r)) := by
  obtain ⟨R, hR⟩ : ∃ R, itemsP 200 r = R := ⟨_, rfl⟩
  rw [hR]
  have R0 := Lib.hid (show R = prep [] (itemsP 200 r) from by rw [← hR]; rcases itemsP 200 r with ⟨a, q⟩ | ⟨b, q⟩ <;> rfl)
  have G := Lib.hid (And.intro h.lt h.lt2)
  have S0 := Lib.hid h
  have hmf : ∀ (fn : Fn) (first cap : Array Value) (w : World), (Instr.makeFunc fn first cap).run Tryz.prog w = .ok (.func fn first cap) w := fun _ _ _ _ => rfl
  clear hR h
  go_enter_defers Tryz.func17, Tryz.ntmps17
  go_wp2_with fail
  go_loopg [] 201 (fun gh wr => ∃ (acc : List It) (rk : List Tk) (v : Value), acc.length + gh = 201 ∧ 1 ≤ gh ∧ R = prep acc (itemsP (gh - 1) rk) ∧ Sta wr p rk 0 ∧ PI w wr p acc v)
  case atStart => exact ⟨[], r, .slice none 0 0, rfl, by omega, R0.out, ((S0.out.keep (below_box w _)).keep (below_box _ _)).keep (below_box _ _), pi_start w p⟩
  case round =>
    obtain ⟨acc, rk, v, hacc, hgk, hR, hs, hp⟩ := hrel
    have HP := Lib.hid hp
    have RK := Lib.hid hR
    have SK := Lib.hid hs
    have t0 := hp.tk
    have t1 := hp.tf
    have u0 := hp.er
    have u1 := hp.ef
    have x0 := hp.at_
    have x1 := hp.af
    obtain ⟨oA, oc, rfl⟩ := hp.own.isSl
    obtain ⟨off, cap, hst⟩ := hs
    have k0 := hst.c0
    have k1 := hst.head.1
    have hcap := hst.hc
    have hgood := hst.good
    clear hR hp hst
    cases rk with
    | nil =>
      have k1' : wr.cell? ⟨p.b, off, none⟩ = some (.int .i64 0) := k1
      have k0' : wr.cell? ⟨p.g, 0, none⟩ = some (.slice (some ⟨p.b, off, none⟩) 1 cap) := k0
      have hcap' : 1 ≤ cap := hcap
      clear k0 k1 hcap
      have RE := Lib.hid (RK.out.trans prog_end)
      go_wp2_with fail
      refine leaves_cons (f := 30) (args := #[.pointer (some ⟨w.heap.size, 0, none⟩), .pointer (some ⟨w.heap.size + 1, 0, none⟩), .pointer (some ⟨w.heap.size + 2, 0, none⟩)]) (by simp) (by simp [go_sem]) ?_
      refine (catch_none _ _ _ _).mono ?_
      rintro e u' w'' ⟨rfl, rfl, hbe⟩
      have z := (HP.out.same).keep (Tch.of_below hbe) G.out.1
      have c0 := z.tk
      have c1 := z.er
      have c2 := z.at_
      simp [Leaves, settle, results, Tryz.results17, go_sem, c0, c1, c2]
      rw [RE.out]
      exact ⟨_, rfl, z.own.its.lower (Nat.le_add_right _ _), z.near⟩
    | cons t rk =>
      have hkk : (t.kind != 0) = true := by
        have := (hgood t (by simp)).kind
        simpa using this
      have k1' : wr.cell? ⟨p.b, off, none⟩ = some (.int .i64 t.kind) := k1
      have hcap' : 1 ≤ cap := by have q : rk.length + 1 + 1 ≤ cap := hcap; omega
      have hlen : 0 < (t :: rk).length + 1 := by simp
      clear k1 hcap
      by_cases h200 : acc.length = 200
      · have d200 : ((acc.length : Int) == 200) = true := by rw [beq_iff_eq]; omega
        have HL := Lib.hid h200
        clear h200
        obtain rfl : gk = 1 := by have := HL.out; omega
        have RB := Lib.hid (RK.out.trans (prog_lim (by simp)))
        go_wp2_with fail
        refine (fail_post (V := fun _ _ (_ : Unit) => True) (R := Res.bad true (t :: rk)) true rfl _ SK.out).mono ?_
        rintro e w2 ⟨rfl, hn⟩
        have z := HP.out.keep hn G.out.1
        refine leaves_cons (f := 30) (args := #[.pointer (some ⟨w.heap.size, 0, none⟩), .pointer (some ⟨w.heap.size + 1, 0, none⟩), .pointer (some ⟨w.heap.size + 2, 0, none⟩)]) (by simp) (by simp [go_sem]) ?_
        refine (catch_fail w.heap.size (errOf true (t :: rk)) (atOf p.n (t :: rk)) _ (.int .i64 0) (.int .i64 0) [] _ z.tk z.tf z.er z.ef z.at_ z.af).mono ?_
        rintro e u' w'' ⟨rfl, rfl, c0, c1, c2, hbe⟩
        simp [Leaves, settle, results, Tryz.results17, go_sem, c0, c1, c2]
        rw [RB.out]
        exact ⟨_, rfl, Slc.nil _, z.near.down hbe⟩
      · have d200 : ((acc.length : Int) == 200) = false := by rw [beq_eq_false_iff_ne]; omega
        obtain ⟨g2, rfl⟩ : ∃ g2, gk = g2 + 2 := ⟨gk - 2, by omega⟩
        have RK2 := Lib.hid (show R = prep acc (itemsP (g2 + 1) (t :: rk)) from RK.out)
        have hfew : acc.length + 1 ≤ 100000 := by omega
        clear h200
        rcases h3 : itemP (t :: rk) with ⟨a3, r3⟩ | ⟨b3, r3⟩
        · have R3 := Lib.hid (RK2.out.trans (prog_yes (by simp) h3))
          have C3 := Lib.hid (fun W (q : Sta W p (t :: rk) 0) => (item_any rfl W q).mono fun e w' hp => ppost_ok h3 hp)
          obtain ⟨xs, hxs⟩ : ∃ xs, wr.ownsRow (w.heap.size + 3) 51 25 (.slice oA acc.length oc) acc.length xs := by obtain ⟨zs, _, z2, _⟩ := HP.out.own; exact ⟨_, z2⟩
          have HXU := Lib.hid (fun ys (hys : wr.ownsRow (w.heap.size + 3) 51 25 (.slice oA acc.length oc) acc.length ys) => own_unique hxs hys)
          have HXS := Lib.hid (fun (w8 : World) (hn : Near p.g wr w8) (o : Obj) => World.ownsRow.alloc (own_near hxs hn (by have := G.out; omega)) o)
          clear h3 hxs
          go_wp2_with fail
          refine wp_region_noPanic ?_
          go_region_law (first | (refine step_appB elemIt rfl (.tmp 21) (.tmp 24) rfl (base := w.heap.size + 3) (by rfl) (HXS.out w8 N8.out (.cells #[.int .i64 a3.kind, str a3.name, .int .i64 a3.at_, str a3.table, str a3.attr, .slice sA1 sn1 sc1, .slice sA2 sn2 sc2, .int .i64 a3.by_, .int .i64 a3.n, .int .i64 a3.m, .slice sA3 sn3 sc3, str a3.other, str a3.oattr, .slice sA4 sn4 sc4, .slice sA5 sn5 sc5, .slice sA6 sn6 sc6, .int .i64 (hd a3.ex).kind, str (hd a3.ex).table, .slice sA7 sn7 sc7, .slice sA8 sn8 sc8, .slice sA9 sn9 sc9, str (hd a3.ex).attr, str (hd a3.ex).as_, .int .i64 (hd a3.ex).agg, .int .i64 (hd a3.ex).at_] 51)) (by rfl) (src_cells w8 (itL a3 ⟨.slice sA1 sn1 sc1, .slice sA2 sn2 sc2, .slice sA3 sn3 sc3, .slice sA4 sn4 sc4, .slice sA5 sn5 sc5, .slice sA6 sn6 sc6, .slice sA7 sn7 sc7, .slice sA8 sn8 sc8, .slice sA9 sn9 sc9⟩) 51 _ rfl (it_one I8.out)) (by omega) (by have := P8.out.big; simp; omega) ?_; intro v4 w4 hown hg hat; obtain ⟨A4, c4, rfl⟩ := own_isSl hown; have P4 := Lib.hid (HP.out.push N8.out G.out.1 I8.out (fun ys hys => by have := HXU.out ys hys; subst this; exact hown) hg hat); have t4 := Lib.hid (P8.out.t4 hg (HP.out.own.lt)); have S4 := Lib.hid ((S8.out.keep (below_box _ (.cells #[.int .i64 a3.kind, str a3.name, .int .i64 a3.at_, str a3.table, str a3.attr, .slice sA1 sn1 sc1, .slice sA2 sn2 sc2, .int .i64 a3.by_, .int .i64 a3.n, .int .i64 a3.m, .slice sA3 sn3 sc3, str a3.other, str a3.oattr, .slice sA4 sn4 sc4, .slice sA5 sn5 sc5, .slice sA6 sn6 sc6, .int .i64 (hd a3.ex).kind, str (hd a3.ex).table, .slice sA7 sn7 sc7, .slice sA8 sn8 sc8, .slice sA9 sn9 sc9, str (hd a3.ex).attr, str (hd a3.ex).as_, .int .i64 (hd a3.ex).agg, .int .i64 (hd a3.ex).at_] 51))).grown hg (fun j hj => (HP.out.own.lt j hj).1) (by have := G.out; omega) (by have := G.out; omega)); have t5 := t4.out.1; have t6 := t4.out.2; clear hown hg hat) | (go_simp; go_at_call 32; refine (C3.out _ (SK.out.keep (below_drew _))).mono ?_; rintro e w8 ⟨v3, rfl, ⟨⟨z1, z2, z3, z4, z5, z6, z7, z8, z9⟩, hvv, hv3⟩, hs, hn⟩; have hs1 : IsSl z1 := hv3.cols.isSl; have hs2 : IsSl z2 := hv3.names.isSl; have hs3 : IsSl z3 := hv3.terms.isSl; have hs4 : IsSl z4 := hv3.fixed.isSl; have hs5 : IsSl z5 := hv3.vars.isSl; have hs6 : IsSl z6 := hv3.conds.isSl; have hs7 : IsSl z7 := hv3.ex.isSl.1; have hs8 : IsSl z8 := hv3.ex.isSl.2.1; have hs9 : IsSl z9 := hv3.ex.isSl.2.2; obtain ⟨sA1, sn1, sc1, rfl⟩ := hs1; obtain ⟨sA2, sn2, sc2, rfl⟩ := hs2; obtain ⟨sA3, sn3, sc3, rfl⟩ := hs3; obtain ⟨sA4, sn4, sc4, rfl⟩ := hs4; obtain ⟨sA5, sn5, sc5, rfl⟩ := hs5; obtain ⟨sA6, sn6, sc6, rfl⟩ := hs6; obtain ⟨sA7, sn7, sc7, rfl⟩ := hs7; obtain ⟨sA8, sn8, sc8, rfl⟩ := hs8; obtain ⟨sA9, sn9, sc9, rfl⟩ := hs9; have hv2b : v3 = .agg #[.int .i64 a3.kind, str a3.name, .int .i64 a3.at_, str a3.table, str a3.attr, .slice sA1 sn1 sc1, .slice sA2 sn2 sc2, .int .i64 a3.by_, .int .i64 a3.n, .int .i64 a3.m, .slice sA3 sn3 sc3, str a3.other, str a3.oattr, .slice sA4 sn4 sc4, .slice sA5 sn5 sc5, .slice sA6 sn6 sc6, .int .i64 (hd a3.ex).kind, str (hd a3.ex).table, .slice sA7 sn7 sc7, .slice sA8 sn8 sc8, .slice sA9 sn9 sc9, str (hd a3.ex).attr, str (hd a3.ex).as_, .int .i64 (hd a3.ex).agg, .int .i64 (hd a3.ex).at_] := hvv; subst hv2b; clear hvv; have S8 := Lib.hid hs; have N8 := Lib.hid (show Near p.g wr w8 from (Tch.of_below (below_drew wr)).trans hn); have I8 := Lib.hid (show ItM wr.heap.size w8 a3 ⟨.slice sA1 sn1 sc1, .slice sA2 sn2 sc2, .slice sA3 sn3 sc3, .slice sA4 sn4 sc4, .slice sA5 sn5 sc5, .slice sA6 sn6 sc6, .slice sA7 sn7 sc7, .slice sA8 sn8 sc8, .slice sA9 sn9 sc9⟩ from hv3); have P8 := Lib.hid (HP.out.keep N8.out G.out.1); have t8 := P8.out.tk; have t8a := fun o => Cell.alloc t8 o; clear hs hn hv3))
          all_goals
            refine NoPanic.normal ?_
            go_wp2_with fail
            go_roundg (g2 + 1)
            case measure => omega
            case rel => exact ⟨acc ++ [a3], r3, _, by simp; omega, by omega, R3.out, S4.out.cell (a := ⟨w.heap.size, 0, none⟩) G.out.1 G.out.2 _, P4.out⟩
        · have R3 := Lib.hid (RK2.out.trans (prog_bad (by simp) h3))
          have C3 := Lib.hid (fun W (q : Sta W p (t :: rk) 0) => (item_any rfl W q).mono fun e w' hp => ppost_bad h3 hp)
          clear h3
          go_wp2_with fail
          refine wp_region_held_drew (S := fun w9 => w9.cell? ⟨w.heap.size, 0, none⟩ = some (.slice oA acc.length oc)) (by kernel_rfl) ?_ (fun hHeld => ?_)
          · try dsimp only
            go_keep
          refine wpAnyH_take (i := 0) (v := ?_) (by (simp only [List.getElem?_toArray, List.getElem?_cons_zero]; rfl)) (by kernel_rfl) (by kernel_rfl) (by kernel_rfl) (by intro _ a _ h; exact leaves_put (results_put a 20 _ (by omega)) h) (Or.inl ⟨by kernel_rfl, ?_⟩) hHeld ?_
          case refine_2 =>
            intro w hSw
            try dsimp only at hSw
            go_simp
            try with_reducible rfl
          try simp only [Act.put, List.setIfInBounds_toArray, List.set_cons_zero, List.set_cons_succ]
          refine wpAnyH_take (i := 1) (v := ?_) (by (simp only [List.getElem?_toArray, List.getElem?_cons_succ, List.getElem?_cons_zero]; rfl)) (by kernel_rfl) (by kernel_rfl) (by kernel_rfl) (by intro _ a _ h; exact leaves_put (results_put a 21 _ (by omega)) h) (Or.inl ⟨by kernel_rfl, ?_⟩) hHeld ?_
          case refine_2 =>
            intro w hSw
            try dsimp only at hSw
            go_simp
            try with_reducible rfl
          try simp only [Act.put, List.setIfInBounds_toArray, List.set_cons_zero, List.set_cons_succ]
          refine wpAnyH_take (i := 2) (v := ?_) (by (simp only [List.getElem?_toArray, List.getElem?_cons_succ, List.getElem?_cons_zero]; rfl)) (by kernel_rfl) (by kernel_rfl) (by kernel_rfl) (by intro _ a _ h; exact leaves_put (results_put a 22 _ (by omega)) h) (Or.inl ⟨by kernel_rfl, ?_⟩) hHeld ?_
          case refine_2 =>
            intro w hSw
            try dsimp only at hSw
            go_simp
            try with_reducible rfl
          try simp only [Act.put, List.setIfInBounds_toArray, List.set_cons_zero, List.set_cons_succ]
          refine wpAnyH_ready (rs := [3]) (by kernel_rfl) (by simp) ?_
          refine AllReadyH.cons (by (simp only [List.getElem?_toArray, List.getElem?_cons_succ, List.getElem?_cons_zero]; rfl)) (fun K hK => ?_) AllReadyH.nil
          go_simp
          refine (C3.out _ (SK.out.keep (below_drew _))).mono ?_
          rintro e w2 ⟨rfl, hn⟩
          have z := HP.out.keep ((Tch.of_below (below_drew wr)).trans hn) G.out.1
          refine leaves_cons (f := 30) (args := #[.pointer (some ⟨w.heap.size, 0, none⟩), .pointer (some ⟨w.heap.size + 1, 0, none⟩), .pointer (some ⟨w.heap.size + 2, 0, none⟩)]) (by simp) (by simp [go_sem]) ?_
          refine (catch_fail w.heap.size (errOf b3 r3) (atOf p.n r3) _ (.int .i64 0) (.int .i64 0) [] _ z.tk z.tf z.er z.ef z.at_ z.af).mono ?_
          rintro e u' w'' ⟨rfl, rfl, c0, c1, c2, hbe⟩
          simp [Leaves, settle, results, Tryz.results17, go_sem, c0, c1, c2]
          rw [R3.out]
          exact ⟨_, rfl, Slc.nil _, z.near.down hbe⟩
end Go.Proofs.YtcgkaecaddpenaaGreatDoor
