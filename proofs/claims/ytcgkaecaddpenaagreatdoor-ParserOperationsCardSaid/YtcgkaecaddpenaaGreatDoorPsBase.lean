/- The parser's memory: the tokens that are left, the level; what its functions return or panic with. -/
import Derived.Test.YtcgkaecaddpenaaGreatDoorKSlc
import Derived.Test.YtcgkaecaddpenaaGreatDoorPsMath
import Derived.Laws.EntriesVeiled
import Derived.Laws.Rows
import Derived.Laws.Tables
import Derived.Deep.MidRow
namespace Go.Proofs.YtcgkaecaddpenaaGreatDoor
open Go.RowKit
open L7 (Tk)
open L8

def tokC (t : Tk) : List Value := [.int .i64 t.kind, str t.text, .int .i64 t.n, .int .i64 t.at_]
theorem tokC_len (t : Tk) : (tokC t).length = 4 := rfl
/-- The token behind the last one of a text of n bytes. -/
def ending (n : Nat) : Tk := ⟨0, [], 0, n⟩
/-- A panic with a failure. -/
abbrev Pf (er at_ : Int) : Ending := .panicked [{ v := .iface 84 (.agg #[.int .i64 er, .int .i64 at_]), recovered := false }]
/-- What the lexer says of every token. -/
structure TkOk (t : Tk) : Prop where
  kind : t.kind ≠ 0
  lo : 0 ≤ t.n
  hi : t.n ≤ 9999999999
  len : t.text.length ≤ 100000
/-- The parser's block, that of its tokens, and the bytes of the text. -/
structure Ps where
  g : Nat
  b : Nat
  n : Nat
/-- The parser lies in block g: what is left is r, of a text of n bytes, at a level. -/
structure St (w : World) (p : Ps) (r : List Tk) (lv : Int) (off cap : Nat) : Prop where
  c0 : w.cell? ⟨p.g, 0, none⟩ = some (.slice (some ⟨p.b, off, none⟩) (r.length + 1) cap)
  c1 : w.cell? ⟨p.g, 1, none⟩ = some (.int .i64 lv)
  f0 : w.frozen? ⟨p.g, 0, none⟩ = false
  f1 : w.frozen? ⟨p.g, 1, none⟩ = false
  hc : r.length + 1 ≤ cap
  ne : p.b ≠ p.g
  few : r.length ≤ 5000
  good : ∀ t ∈ r, TkOk t
  toks : ∀ i t, (r ++ [ending p.n])[i]? = some t → ∀ k, k < 4 → w.cell? ⟨p.b, off + i * 4 + k, none⟩ = (tokC t)[k]?
/-- Only block g, and what is new, may differ. -/
abbrev Near (g : Nat) (w w' : World) : Prop := Tch (fun b => b = g) w w'
/-- The parser in memory, wherever its tokens are. -/
def Sta (w : World) (p : Ps) (r : List Tk) (lv : Int) : Prop := ∃ off cap, St w p r lv off cap
theorem St.keep {w w' : World} {p : Ps} {r : List Tk} {lv : Int} {off cap : Nat} (h : St w p r lv off cap) (hb : Below w.heap.size w w') : St w' p r lv off cap :=
  ⟨cellB hb h.c0, cellB hb h.c1, frozenB hb h.c0 h.f0, frozenB hb h.c1 h.f1, h.hc, h.ne, h.few, h.good, fun i t hi k hk => by
    have h1 := h.toks i t hi k hk
    have h2 : k < (tokC t).length := hk
    rw [List.getElem?_eq_getElem h2] at h1 ⊢
    exact cellB hb h1⟩
theorem Sta.keep {w w' : World} {p : Ps} {r : List Tk} {lv : Int} (h : Sta w p r lv) (hb : Below w.heap.size w w') : Sta w' p r lv := by
  obtain ⟨off, cap, h⟩ := h
  exact ⟨off, cap, h.keep hb⟩
/-- The first token's cells. -/
theorem St.first {w : World} {p : Ps} {t : Tk} {r : List Tk} {lv : Int} {off cap : Nat} (h : St w p (t :: r) lv off cap) :
    w.cell? ⟨p.b, off, none⟩ = some (.int .i64 t.kind) ∧ w.cell? ⟨p.b, off + 1, none⟩ = some (str t.text) ∧ w.cell? ⟨p.b, off + 2, none⟩ = some (.int .i64 t.n) ∧ w.cell? ⟨p.b, off + 3, none⟩ = some (.int .i64 t.at_) :=
  ⟨h.toks 0 t rfl 0 (by decide), h.toks 0 t rfl 1 (by decide), h.toks 0 t rfl 2 (by decide), h.toks 0 t rfl 3 (by decide)⟩
theorem St.last {w : World} {p : Ps} {lv : Int} {off cap : Nat} (h : St w p [] lv off cap) :
    w.cell? ⟨p.b, off, none⟩ = some (.int .i64 0) ∧ w.cell? ⟨p.b, off + 1, none⟩ = some (str []) ∧ w.cell? ⟨p.b, off + 2, none⟩ = some (.int .i64 0) ∧ w.cell? ⟨p.b, off + 3, none⟩ = some (.int .i64 (p.n : Int)) :=
  ⟨h.toks 0 (ending p.n) rfl 0 (by decide), h.toks 0 (ending p.n) rfl 1 (by decide), h.toks 0 (ending p.n) rfl 2 (by decide), h.toks 0 (ending p.n) rfl 3 (by decide)⟩
/-- The first token, or the ending. -/
def hdT (n : Nat) : List Tk → Tk
  | [] => ending n
  | t :: _ => t
theorem St.head {w : World} {p : Ps} {r : List Tk} {lv : Int} {off cap : Nat} (h : St w p r lv off cap) :
    w.cell? ⟨p.b, off, none⟩ = some (.int .i64 (hdT p.n r).kind) ∧ w.cell? ⟨p.b, off + 1, none⟩ = some (str (hdT p.n r).text) ∧ w.cell? ⟨p.b, off + 2, none⟩ = some (.int .i64 (hdT p.n r).n) ∧ w.cell? ⟨p.b, off + 3, none⟩ = some (.int .i64 (hdT p.n r).at_) := by
  cases r with
  | nil => exact h.last
  | cons t r => exact h.first
theorem atOf_hd (n : Nat) (r : List Tk) : atOf n r = (hdT n r).at_ := by cases r <;> rfl
theorem headW_hd (n : Nat) (r : List Tk) : headW r = wordT (hdT n r) := by cases r <;> rfl
/-- One token is read. -/
theorem St.next {w : World} {p : Ps} {t : Tk} {r : List Tk} {lv : Int} {off cap : Nat} (h : St w p (t :: r) lv off cap) :
    St (w.setCell ⟨p.g, 0, none⟩ (.slice (some ⟨p.b, off + 4, none⟩) (r.length + 1) (cap - 1))) p r lv (off + 4) (cap - 1) := by
  have hc := h.hc
  have hf := h.few
  simp only [List.length_cons] at hc hf
  refine ⟨World.cell?_setCell_same _ _ _ h.c0, (World.cell?_setCell_other _ _ _ _ (fun e => by have e2 := congrArg Addr.off e; simp at e2)).trans h.c1, by simpa using h.f0, by simpa using h.f1, by omega, h.ne, by omega, (fun t' q => h.good t' (List.mem_cons_of_mem _ q)), fun i t' hi k hk => ?_⟩
  have h1 := h.toks (i + 1) t' (by simpa using hi) k hk
  rw [show off + (i + 1) * 4 + k = off + 4 + i * 4 + k from by omega] at h1
  rw [← h1]
  exact World.cell?_setCell_other _ _ _ _ (fun e => h.ne (by have e2 := congrArg Addr.block e; simpa using e2.symm))
theorem near_set (w : World) (g o : Nat) (v : Value) : Near g w (w.setCell ⟨g, o, none⟩ v) := Tch.set (S := fun b => b = g) (Tch.refl _ w) (p := ⟨g, o, none⟩) rfl v
/-- What a function of the parser returns, or panics with. -/
def PPost {α : Type} (p : Ps) (lv : Int) (w : World) (V : World → Value → α → Prop) (R : Res α) (e : Ending) (w' : World) : Prop :=
  match R with
  | .ok a r => ∃ v, e = .returned v ∧ V w' v a ∧ Sta w' p r lv ∧ Near p.g w w'
  | .bad b r => e = Pf (errOf b r) (atOf p.n r) ∧ Near p.g w w'
theorem ppost_ok {α : Type} {p : Ps} {lv : Int} {w : World} {V : World → Value → α → Prop} {R : Res α} {a : α} {r : List Tk} (h : R = .ok a r) {e : Ending} {w' : World} (hp : PPost p lv w V R e w') :
    ∃ v, e = .returned v ∧ V w' v a ∧ Sta w' p r lv ∧ Near p.g w w' := by
  subst h
  exact hp
theorem ppost_bad {α : Type} {p : Ps} {lv : Int} {w : World} {V : World → Value → α → Prop} {R : Res α} {b : Bool} {r : List Tk} (h : R = .bad b r) {e : Ending} {w' : World} (hp : PPost p lv w V R e w') :
    e = Pf (errOf b r) (atOf p.n r) ∧ Near p.g w w' := by
  subst h
  exact hp
theorem ppost_of_ok {α : Type} {p : Ps} {lv : Int} {w : World} {V : World → Value → α → Prop} {R : Res α} {a : α} {r : List Tk} (h : R = .ok a r) {v : Value} {w' : World} (hv : V w' v a) (hs : Sta w' p r lv) (hn : Near p.g w w') : PPost p lv w V R (.returned v) w' := by
  subst h
  exact ⟨v, rfl, hv, hs, hn⟩
theorem ppost_of_bad {α : Type} {p : Ps} {lv : Int} {w : World} {V : World → Value → α → Prop} {R : Res α} {b : Bool} {r : List Tk} (h : R = .bad b r) {w' : World} (hn : Near p.g w w') : PPost p lv w V R (Pf (errOf b r) (atOf p.n r)) w' := by
  subst h
  exact ⟨rfl, hn⟩
theorem ppost_up {α : Type} {p : Ps} {lv : Int} {w w1 : World} {V : World → Value → α → Prop} {R : Res α} {e : Ending} {w' : World} (h : PPost p lv w1 V R e w') (hn : Near p.g w w1) : PPost p lv w V R e w' := by
  cases R with
  | ok a r =>
    obtain ⟨v, he, hv, hs, hk⟩ := h
    exact ⟨v, he, hv, hs, hn.trans hk⟩
  | bad b r => exact ⟨h.1, hn.trans h.2⟩
theorem ppost_mono {α : Type} {p : Ps} {lv : Int} {w : World} {V V2 : World → Value → α → Prop} {R : Res α} {e : Ending} {w' : World} (h : PPost p lv w V R e w') (hV : ∀ v a, V w' v a → V2 w' v a) : PPost p lv w V2 R e w' := by
  cases R with
  | ok a r =>
    obtain ⟨v, he, hv, hs, hk⟩ := h
    exact ⟨v, he, hV _ _ hv, hs, hk⟩
  | bad b r => exact h
/-- What is returned, as values. -/
def isStr (_ : World) (v : Value) (a : Txt) : Prop := v = str a
def isInt (_ : World) (v : Value) (a : Int) : Prop := v = .int .i64 a
def isBool (_ : World) (v : Value) (a : Bool) : Prop := v = .bool a
def isUnit (_ : World) (v : Value) (_ : Unit) : Prop := v = .tuple #[]
def isTok (_ : World) (v : Value) (t : Tk) : Prop := v = .agg #[.int .i64 t.kind, str t.text, .int .i64 t.n, .int .i64 t.at_]
def isVa (_ : World) (v : Value) (a : Va) : Prop := v = .agg #[.int .i64 a.k, .int .i64 a.n, str a.t]
/-- The parser's pointer. -/
abbrev ptr (g : Nat) : Value := .pointer (some ⟨g, 0, none⟩)
end Go.Proofs.YtcgkaecaddpenaaGreatDoor
