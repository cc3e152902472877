/- Expressions and items in memory. -/
import Derived.Test.YtcgkaecaddpenaaGreatDoorPsPgM
import Derived.Deep.WholeRow
namespace Go.Proofs.YtcgkaecaddpenaaGreatDoor
open Go.RowKit
open L7 (Tk)
open L8

def hd : Ex → Hd
  | .e0 h => h
  | .e1 h _ => h
  | .e2 h _ _ => h
/-- The cells of an expression whose lists are the slices ks, cs, ns. -/
def exL (h : Hd) (ks cs ns : Value) : List Value := [.int .i64 h.kind, str h.table, ks, cs, ns, str h.attr, str h.as_, .int .i64 h.agg, .int .i64 h.at_]
/-- An expression's lists in memory, new from block D on. -/
def ExC (D : Nat) (w : World) : Ex → Value → Value → Value → Prop
  | .e0 h, ks, cs, ns => (∃ A c, ks = .slice A 0 c) ∧ Lst D 14 cndC w cs h.conds ∧ Lst D 1 txtC w ns h.names
  | .e1 h a, ks, cs, ns => (∃ b o c k1 c1 n1, ks = .slice (some ⟨b, o, none⟩) 1 c ∧ 1 ≤ c ∧ D ≤ b ∧ (∀ k, k < 9 → w.cell? ⟨b, o + k, none⟩ = (exL (hd a) k1 c1 n1)[k]?) ∧ ExC D w a k1 c1 n1) ∧ Lst D 14 cndC w cs h.conds ∧ Lst D 1 txtC w ns h.names
  | .e2 h a b2, ks, cs, ns => (∃ b o c k1 c1 n1 k2 c2 n2, ks = .slice (some ⟨b, o, none⟩) 2 c ∧ 2 ≤ c ∧ D ≤ b ∧ (∀ k, k < 9 → w.cell? ⟨b, o + k, none⟩ = (exL (hd a) k1 c1 n1)[k]?) ∧ (∀ k, k < 9 → w.cell? ⟨b, o + 9 + k, none⟩ = (exL (hd b2) k2 c2 n2)[k]?) ∧ ExC D w a k1 c1 n1 ∧ ExC D w b2 k2 c2 n2) ∧ Lst D 14 cndC w cs h.conds ∧ Lst D 1 txtC w ns h.names
theorem exL_len (h : Hd) (ks cs ns : Value) : (exL h ks cs ns).length = 9 := rfl
theorem cells_stay {D : Nat} {w w' : World} {b o n : Nat} {l : List Value} (hl : l.length = n) (hk : Kept D w w') (hb : D ≤ b) (h : ∀ k, k < n → w.cell? ⟨b, o + k, none⟩ = l[k]?) : ∀ k, k < n → w'.cell? ⟨b, o + k, none⟩ = l[k]? := fun k hk2 => by
  have h3 := h k hk2
  have hl2 : k < l.length := by omega
  rw [List.getElem?_eq_getElem hl2] at h3
  rw [List.getElem?_eq_getElem hl2]
  exact (World.cell?_of_block (a := ⟨b, o + k, none⟩) (hk.block b hb (cellLt h3))).trans h3
theorem len_cndx (x : Cnd) : (cndC x).length = 14 := rfl
theorem len_txtx (x : Txt) : (txtC x).length = 1 := rfl
theorem ExC.stay {D : Nat} {w w' : World} (hk : Kept D w w') : ∀ {e : Ex} {ks cs ns : Value}, ExC D w e ks cs ns → ExC D w' e ks cs ns := by
  intro e
  induction e with
  | e0 h => exact fun ⟨a, b, c⟩ => ⟨a, b.stay len_cndx hk, c.stay len_txtx hk⟩
  | e1 h a ih => exact fun ⟨⟨b, o, c, k1, c1, n1, e1, e2, e3, e4, e5⟩, p, q⟩ => ⟨⟨b, o, c, k1, c1, n1, e1, e2, e3, cells_stay (exL_len _ _ _ _) hk e3 e4, ih e5⟩, p.stay len_cndx hk, q.stay len_txtx hk⟩
  | e2 h a b2 ih ih2 => exact fun ⟨⟨b, o, c, k1, c1, n1, k2, c2, n2, e1, e2, e3, e4, e5, e6, e7⟩, p, q⟩ => ⟨⟨b, o, c, k1, c1, n1, k2, c2, n2, e1, e2, e3, cells_stay (exL_len _ _ _ _) hk e3 e4, cells_stay (exL_len _ _ _ _) hk e3 e5, ih e6, ih2 e7⟩, p.stay len_cndx hk, q.stay len_txtx hk⟩
theorem ExC.lower {D E : Nat} {w : World} (hE : E ≤ D) : ∀ {e : Ex} {ks cs ns : Value}, ExC D w e ks cs ns → ExC E w e ks cs ns := by
  intro e
  induction e with
  | e0 h => exact fun ⟨a, b, c⟩ => ⟨a, b.lower hE, c.lower hE⟩
  | e1 h a ih => exact fun ⟨⟨b, o, c, k1, c1, n1, e1, e2, e3, e4, e5⟩, p, q⟩ => ⟨⟨b, o, c, k1, c1, n1, e1, e2, Nat.le_trans hE e3, e4, ih e5⟩, p.lower hE, q.lower hE⟩
  | e2 h a b2 ih ih2 => exact fun ⟨⟨b, o, c, k1, c1, n1, k2, c2, n2, e1, e2, e3, e4, e5, e6, e7⟩, p, q⟩ => ⟨⟨b, o, c, k1, c1, n1, k2, c2, n2, e1, e2, Nat.le_trans hE e3, e4, e5, ih e6, ih2 e7⟩, p.lower hE, q.lower hE⟩
theorem exC_zero (D : Nat) (w : World) : ExC D w xz (.slice none 0 0) (.slice none 0 0) (.slice none 0 0) := ⟨⟨none, 0, rfl⟩, Lst.nil w, Lst.nil w⟩
theorem ExC.isSl {D : Nat} {w : World} {e : Ex} {ks cs ns : Value} (h : ExC D w e ks cs ns) : IsSl ks ∧ IsSl cs ∧ IsSl ns := by
  cases e with
  | e0 h0 =>
    obtain ⟨⟨A, c, e⟩, b, d⟩ := h
    exact ⟨⟨A, _, c, e⟩, b.isSl, d.isSl⟩
  | e1 h0 a =>
    obtain ⟨⟨b, o, c, k1, c1, n1, e1, _⟩, p, q⟩ := h
    exact ⟨⟨_, _, c, e1⟩, p.isSl, q.isSl⟩
  | e2 h0 a b2 =>
    obtain ⟨⟨b, o, c, k1, c1, n1, k2, c2, n2, e1, _⟩, p, q⟩ := h
    exact ⟨⟨_, _, c, e1⟩, p.isSl, q.isSl⟩
theorem oc_int (k : IntKind) (n : Int) : (Value.int k n).oneCell' = true := rfl
theorem oc_str (t : ByteArray) : (Value.string t).oneCell' = true := rfl
theorem oc_bool (x : Bool) : (Value.bool x).oneCell' = true := rfl
theorem oc_slice (a : Option Addr) (n c : Nat) : (Value.slice a n c).oneCell' = true := rfl
def trmC (a : Trm) : List Value := [str a.attr, .int .i64 a.ms, .int .i64 a.tol, .int .i64 a.num, .int .i64 a.den, .int .i64 a.gives, .int .i64 a.takes]
theorem len_trm (x : Trm) : (trmC x).length = 7 := rfl
/-- The slices of an item. -/
structure Sl9 where
  cols : Value
  names : Value
  terms : Value
  fixed : Value
  vars : Value
  conds : Value
  ks : Value
  cs : Value
  ns : Value
def itL (i : It) (z : Sl9) : List Value := [.int .i64 i.kind, str i.name, .int .i64 i.at_, str i.table, str i.attr, z.cols, z.names, .int .i64 i.by_, .int .i64 i.n, .int .i64 i.m, z.terms, str i.other, str i.oattr, z.fixed, z.vars, z.conds,
  .int .i64 (hd i.ex).kind, str (hd i.ex).table, z.ks, z.cs, z.ns, str (hd i.ex).attr, str (hd i.ex).as_, .int .i64 (hd i.ex).agg, .int .i64 (hd i.ex).at_]
structure ItM (D : Nat) (w : World) (i : It) (z : Sl9) : Prop where
  cols : Lst D 5 colC w z.cols i.cols
  names : Lst D 1 txtC w z.names i.names
  terms : Lst D 7 trmC w z.terms i.terms
  fixed : Lst D 4 namC w z.fixed i.fixed
  vars : Lst D 2 vrC w z.vars i.vars
  conds : Lst D 14 cndC w z.conds i.conds
  ex : ExC D w i.ex z.ks z.cs z.ns
theorem ItM.stay {D : Nat} {w w' : World} {i : It} {z : Sl9} (h : ItM D w i z) (hk : Kept D w w') : ItM D w' i z :=
  ⟨h.cols.stay len_col hk, h.names.stay len_txt hk, h.terms.stay len_trm hk, h.fixed.stay len_nam hk, h.vars.stay len_vr hk, h.conds.stay len_cnd hk, h.ex.stay hk⟩
theorem ItM.lower {D E : Nat} {w : World} {i : It} {z : Sl9} (h : ItM D w i z) (hE : E ≤ D) : ItM E w i z :=
  ⟨h.cols.lower hE, h.names.lower hE, h.terms.lower hE, h.fixed.lower hE, h.vars.lower hE, h.conds.lower hE, h.ex.lower hE⟩
theorem ItM.one {D : Nat} {w : World} {i : It} {z : Sl9} (h : ItM D w i z) : (itL i z).toArray.all (·.oneCell') = true := by
  have h1 := h.cols.isSl.one
  have h2 := h.names.isSl.one
  have h3 := h.terms.isSl.one
  have h4 := h.fixed.isSl.one
  have h5 := h.vars.isSl.one
  have h6 := h.conds.isSl.one
  have h7 := h.ex.isSl.1.one
  have h8 := h.ex.isSl.2.1.one
  have h9 := h.ex.isSl.2.2.one
  simp [itL, oc_int, oc_str, h1, h2, h3, h4, h5, h6, h7, h8, h9]
/-- An item, as a value. -/
def isIt (D : Nat) (w : World) (v : Value) (i : It) : Prop := ∃ z, v = .agg (itL i z).toArray ∧ ItM D w i z
/-- A whole block is stored right behind its making. -/
theorem wpList_store_new {ops : Array Oper} {rest : List Oper} {o : Oper} {a : Act} {w : World} {Q : Exit → Act → World → Prop} (hgd : o.guard = none) (ty : TypeId) (x y : Operand) (ho : o.op = .store ty x y) (g : Nat) (c c' : Array Value) (hg : w.heap.size = g)
    (hx : a.eval x = .pointer (some ⟨g, 0, none⟩)) (hy : a.eval y = .agg c') (hi : (Tryz.prog.info? ty).map (·.size) = some c'.size) (hold : c.size = c'.size) (h1 : c'.all (·.oneCell') = true)
    (h : wpList Tryz.prog ops Q rest (a.put o.dst undef) (w.alloc (.cells c' ty))) : wpList Tryz.prog ops Q (o :: rest) a (w.alloc (.cells c ty)) := by
  subst hg
  refine wpList_store_row hgd ty x y ho w.heap.size c' hx hy ty c (heap_alloc_new w _) hi hold h1 ?_
  rw [World.setRow_alloc_new]
  exact h
theorem infoIt : (Tryz.prog.info? 51).map (·.size) = some 25 := by kernel_rfl
theorem infoEx : (Tryz.prog.info? 49).map (·.size) = some 9 := by kernel_rfl
end Go.Proofs.YtcgkaecaddpenaaGreatDoor
