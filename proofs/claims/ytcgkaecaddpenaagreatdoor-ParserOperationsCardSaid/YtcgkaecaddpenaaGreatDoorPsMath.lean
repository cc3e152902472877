/- The parser in plain words: trees of programs; what is read off a list of tokens, or the error and what is left there. -/
import Derived.Test.YtcgkaecaddpenaaGreatDoorPLx
namespace Go.Proofs.YtcgkaecaddpenaaGreatDoor.L8
open L7 (Tk lexT)

abbrev Txt := List UInt8
structure Va where
  k : Int
  n : Int
  t : Txt
deriving DecidableEq
structure Col where
  name : Txt
  kind : Int
  dflt : Va
deriving DecidableEq
structure Trm where
  attr : Txt
  ms : Int
  tol : Int
  num : Int
  den : Int
  gives : Int
  takes : Int
deriving DecidableEq
structure Nam where
  name : Txt
  v : Va
deriving DecidableEq
structure Vr where
  name : Txt
  table : Txt
deriving DecidableEq
structure Opd where
  var : Txt
  attr : Txt
  const : Bool
  v : Va
deriving DecidableEq
structure Cnd where
  left : Opd
  op : Int
  right : Opd
  add : Int
deriving DecidableEq
/-- What an expression says beside its kids. -/
structure Hd where
  kind : Int
  table : Txt
  conds : List Cnd
  names : List Txt
  attr : Txt
  as_ : Txt
  agg : Int
  at_ : Int
deriving DecidableEq
inductive Ex where
  | e0 (h : Hd)
  | e1 (h : Hd) (a : Ex)
  | e2 (h : Hd) (a b : Ex)
deriving DecidableEq
structure It where
  kind : Int
  name : Txt
  at_ : Int
  table : Txt
  attr : Txt
  cols : List Col
  names : List Txt
  by_ : Int
  n : Int
  m : Int
  terms : List Trm
  other : Txt
  oattr : Txt
  fixed : List Nam
  vars : List Vr
  conds : List Cnd
  ex : Ex
deriving DecidableEq
def vz : Va := ⟨0, 0, []⟩
def hz : Hd := ⟨0, [], [], [], [], [], 0, 0⟩
def xz : Ex := .e0 hz
def iz (k : Int) (n : Txt) : It := ⟨k, n, 0, [], [], [], [], 0, 0, 0, [], [], [], [], [], [], xz⟩

/-- What was read and what is left; or whether a limit is passed, and what is left there. -/
inductive Res (α : Type) where
  | ok (a : α) (r : List Tk)
  | bad (lim : Bool) (r : List Tk)
def P (α : Type) : Type := List Tk → Res α
def pur {α : Type} (a : α) : P α := fun r => .ok a r
def bnd {α β : Type} (p : P α) (q : α → P β) : P β := fun r => match p r with
  | .ok a r1 => q a r1
  | .bad b r1 => .bad b r1
instance : Monad P where
  pure := pur
  bind := bnd
theorem bnd_ok {α β : Type} {p : P α} {q : α → P β} {r r1 : List Tk} {a : α} (h : p r = .ok a r1) : (p >>= q) r = q a r1 := by
  show bnd p q r = _
  unfold bnd
  rw [h]
theorem bnd_bad {α β : Type} {p : P α} {q : α → P β} {r r1 : List Tk} {b : Bool} (h : p r = .bad b r1) : (p >>= q) r = .bad b r1 := by
  show bnd p q r = _
  unfold bnd
  rw [h]
theorem pur_run {α : Type} (a : α) (r : List Tk) : (pure a : P α) r = .ok a r := rfl

/-- The word of a token: the text of a name or a symbol. -/
def wordT (t : Tk) : Txt := if t.kind = 1 ∨ t.kind = 4 then t.text else []
def headW : List Tk → Txt
  | [] => []
  | t :: _ => wordT t
def takeP (k : Int) : P Tk := fun r => match r with
  | [] => .bad false []
  | t :: r' => if t.kind = k then .ok t r' else .bad false (t :: r')
def nameP : P Txt := do
  let t ← takeP 1
  pure t.text
def numP : P Int := do
  let t ← takeP 2
  pure t.n
def accP (w : Txt) : P Bool := fun r => if headW r = w ∧ r ≠ [] then .ok true r.tail else .ok false r
def expP (w : Txt) : P Unit := fun r => if headW r = w ∧ r ≠ [] then .ok () r.tail else .bad false r
def peekP (w : Txt) : P Bool := fun r => .ok (decide (headW r = w)) r
def kindP (k : Int) : P Bool := fun r => .ok (decide (r.head?.map (·.kind) = some k)) r
def atP : P Int := fun r => .ok ((r.head?.map (·.at_)).getD 0) r
/-- One of some words: its number, from 1 on. -/
def oneP (l : List Txt) : P Int := fun r => if headW r ∈ l ∧ r ≠ [] then .ok ((l.idxOf (headW r) : Int) + 1) r.tail else .bad false r
def failP {α : Type} (lim : Bool) : P α := fun r => .bad lim r
/-- Elements with a word between two of them (at most f more). -/
def listP {α : Type} (w : Txt) (p : P α) : Nat → P (List α)
  | 0 => failP false
  | f + 1 => do
    let a ← p
    let c ← accP w
    if c = true then do
      let l ← listP w p f
      pure (a :: l)
    else pure [a]
def FU : Nat := 6000
def valueP : P Va := do
  let c ← kindP 3
  if c = true then do
    let t ← takeP 3
    pure ⟨1, 0, t.text⟩
  else do
  let c1 ← accP [45]
  if c1 = true then do
    let n ← numP
    pure ⟨2, -n, []⟩
  else do
  let c2 ← accP [64]
  if c2 = true then do
    let n ← numP
    pure ⟨3, n, []⟩
  else do
  let c3 ← accP [116, 114, 117, 101]
  if c3 = true then pure ⟨4, 1, []⟩ else do
  let c4 ← accP [102, 97, 108, 115, 101]
  if c4 = true then pure ⟨4, 0, []⟩ else do
  let c5 ← accP [110, 117, 108, 108]
  if c5 = true then pure vz else do
  let n ← numP
  pure ⟨2, n, []⟩
def columnP : P Col := do
  let n ← nameP
  let k ← oneP [[116, 101, 120, 116], [110, 117, 109, 98, 101, 114], [100, 97, 121], [102, 108, 97, 103]]
  let c ← accP [61]
  let v ← (if c = true then valueP else pure vz)
  pure ⟨n, k, v⟩
def termP : P Trm := do
  let a ← nameP
  let m ← oneP [[101, 113, 117, 97, 108], [101, 100, 105, 116], [106, 97, 99, 99, 97, 114, 100], [106, 97, 114, 111], [110, 101, 97, 114]]
  let tol ← (if m = 5 then numP else pure 0)
  let _ ← expP [108, 101, 97, 115, 116]
  let n ← numP
  let c ← accP [47]
  let dn ← (if c = true then numP else pure 1)
  let _ ← expP [103, 105, 118, 101, 115]
  let g ← numP
  let c2 ← accP [116, 97, 107, 101, 115]
  let tk ← (if c2 = true then numP else pure 0)
  let _ ← expP [59]
  pure ⟨a, m, tol, n, dn, g, tk⟩
def fixedP : P Nam := do
  let n ← nameP
  let _ ← expP [61]
  let v ← valueP
  pure ⟨n, v⟩
def varP : P Vr := do
  let t ← nameP
  let n ← nameP
  pure ⟨n, t⟩
/-- Names that are values as sides. -/
def isVal : Txt → Bool := fun t => decide (t ∈ [[116, 114, 117, 101], [102, 97, 108, 115, 101], [110, 117, 108, 108]])
def sideC (r : List Tk) : Bool := match r with
  | [] => true
  | t :: _ => decide (t.kind ≠ 1) || isVal t.text
def peekSide : P Bool := fun r => .ok (sideC r) r
def sideP : P Opd := do
  let c ← peekSide
  if c = true then do
    let v ← valueP
    pure ⟨[], [], true, v⟩
  else do
  let f ← nameP
  let c ← accP [46]
  if c = true then do
    let a ← nameP
    pure ⟨f, a, false, vz⟩
  else pure ⟨[], f, false, vz⟩
def condP : P Cnd := do
  let l ← sideP
  let o ← oneP [[61], [33, 61], [60], [60, 61]]
  let r ← sideP
  let c ← accP [43]
  if c = true then do
    let n ← numP
    pure ⟨l, o, r, n⟩
  else do
  let c2 ← accP [45]
  if c2 = true then do
    let n ← numP
    pure ⟨l, o, r, -n⟩
  else pure ⟨l, o, r, 0⟩
def condsP : P (List Cnd) := do
  let _ ← expP [119, 104, 101, 114, 101]
  listP [97, 110, 100] condP FU
def namesP : P (List Txt) := listP [44] nameP FU
def namesUpP (w : Txt) : P (List Txt) := do
  let _ ← expP [111, 110]
  let c ← peekP w
  if c = true then pure [] else namesP
def placeP : P (Txt × Txt) := do
  let t ← nameP
  let _ ← expP [46]
  let a ← nameP
  pure (t, a)
/-- The operations: their kinds. -/
def opsW : List Txt := [[115, 101, 108, 101, 99, 116], [112, 114, 111, 106, 101, 99, 116], [106, 111, 105, 110], [117, 110, 105, 111, 110], [109, 105, 110, 117, 115], [114, 101, 110, 97, 109, 101], [103, 114, 111, 117, 112]]
def hk (k at_ : Int) : Hd := ⟨k, [], [], [], [], [], 0, at_⟩
/-- What an operation reads behind its first kid, with the reader of its second kid. -/
def opP (k at_ : Int) (a : Ex) (e : P Ex) : P Ex :=
  if k = 2 then do
    let c ← condsP
    pure (.e1 { hk k at_ with conds := c } a)
  else if k = 3 then do
    let n ← namesUpP [41]
    pure (.e1 { hk k at_ with names := n } a)
  else if k = 7 then do
    let _ ← expP [44]
    let x ← nameP
    let _ ← expP [97, 115]
    let y ← nameP
    pure (.e1 { hk k at_ with attr := x, as_ := y } a)
  else if k = 8 then do
    let n ← namesUpP [119, 105, 116, 104]
    let _ ← expP [119, 105, 116, 104]
    let g ← oneP [[99, 111, 117, 110, 116], [115, 117, 109], [108, 101, 97, 115, 116], [103, 114, 101, 97, 116, 101, 115, 116]]
    let x ← (if g = 1 then pure [] else nameP)
    let _ ← expP [97, 115]
    let y ← nameP
    pure (.e1 { hk k at_ with names := n, attr := x, as_ := y, agg := g } a)
  else do
    let _ ← expP [44]
    let b ← e
    pure (.e2 (hk k at_) a b)
/-- Whether an operation begins: its number, from 1 on. -/
def opC : List Tk → Int
  | t :: u :: _ => if wordT t ∈ opsW ∧ wordT u = [40] then (opsW.idxOf (wordT t) : Int) + 1 else 0
  | _ => 0
/-- Reads the name of an operation and what is behind it, if one begins. -/
def opStart : P Int := fun r => if opC r = 0 then .ok 0 r else .ok (opC r) (r.drop 2)
/-- An expression, with d levels below it (none: the limit). -/
def exprP : Nat → P Ex
  | 0 => failP true
  | d + 1 => do
    let p ← atP
    let k ← opStart
    if k = 0 then do
      let n ← nameP
      pure (.e0 { hk 1 p with table := n })
    else do
      let a ← exprP d
      let x ← opP (k + 1) p a (exprP d)
      let _ ← expP [41]
      pure x
def tableP : P It := do
  let n ← nameP
  let _ ← expP [40]
  let c ← listP [44] columnP FU
  let _ ← expP [41]
  let _ ← expP [107, 101, 121]
  let l ← namesP
  let _ ← expP [59]
  pure { iz 1 n with cols := c, names := l }
def originP : P It := do
  let n ← nameP
  let _ ← expP [116, 114, 117, 115, 116]
  let x ← numP
  let _ ← expP [59]
  pure { iz 2 n with n := x }
def blockP : P It := do
  let n ← nameP
  let _ ← expP [111, 110]
  let p ← placeP
  let _ ← expP [98, 121]
  let b ← oneP [[101, 120, 97, 99, 116], [116, 111, 107, 101, 110], [112, 114, 101, 102, 105, 120], [115, 107, 101, 116, 99, 104]]
  let x ← (if 3 ≤ b then numP else pure 0)
  let y ← (if b = 4 then numP else pure 0)
  let _ ← expP [59]
  pure { iz 3 n with table := p.1, attr := p.2, by_ := b, n := x, m := y }
/-- Terms up to the bracket (at most f). -/
def termsP : Nat → P (List Trm)
  | 0 => failP false
  | f + 1 => do
    let c ← accP [125]
    if c = true then pure [] else do
    let t ← termP
    let l ← termsP f
    pure (t :: l)
def matchP : P It := do
  let n ← nameP
  let _ ← expP [111, 110]
  let t ← nameP
  let _ ← expP [97, 116]
  let x ← numP
  let _ ← expP [123]
  let l ← termsP FU
  pure { iz 4 n with table := t, n := x, terms := l }
def keepP : P It := do
  let p ← placeP
  let _ ← expP [98, 121]
  let b ← oneP [[108, 97, 116, 101, 115, 116], [109, 111, 115, 116], [116, 114, 117, 115, 116, 101, 100], [108, 111, 110, 103, 101, 115, 116], [108, 101, 97, 115, 116], [103, 114, 101, 97, 116, 101, 115, 116]]
  let _ ← expP [59]
  pure { iz 5 [] with table := p.1, attr := p.2, by_ := b }
def attrsP (k : Int) : P It := do
  let n ← nameP
  let _ ← expP [111, 110]
  let t ← nameP
  let _ ← expP [40]
  let l ← namesP
  let _ ← expP [41]
  pure { iz k n with table := t, names := l }
def uniqueP : P It := do
  let i ← attrsP 6
  let _ ← expP [59]
  pure i
def dependP : P It := do
  let i ← attrsP 7
  let _ ← expP [116, 111]
  let a ← nameP
  let c ← accP [119, 104, 101, 114, 101]
  if c = true then do
    let f ← listP [44] fixedP FU
    let _ ← expP [59]
    pure { i with attr := a, fixed := f }
  else do
  let _ ← expP [59]
  pure { i with attr := a }
def includeP : P It := do
  let n ← nameP
  let p ← placeP
  let _ ← expP [105, 110]
  let q ← placeP
  let _ ← expP [59]
  pure { iz 8 n with table := p.1, attr := p.2, other := q.1, oattr := q.2 }
def denyP : P It := do
  let n ← nameP
  let v ← listP [44] varP FU
  let c ← condsP
  let _ ← expP [59]
  pure { iz 9 n with vars := v, conds := c }
def queryP : P It := do
  let n ← nameP
  let _ ← expP [61]
  let x ← exprP 12
  let _ ← expP [59]
  pure { iz 10 n with ex := x }
def kindsW : List Txt := [[116, 97, 98, 108, 101], [115, 111, 117, 114, 99, 101], [98, 108, 111, 99, 107], [109, 97, 116, 99, 104], [107, 101, 101, 112], [117, 110, 105, 113, 117, 101], [100, 101, 112, 101, 110, 100], [105, 110, 99, 108, 117, 100, 101], [100, 101, 110, 121], [113, 117, 101, 114, 121]]
def kindP2 (k : Int) : P It :=
  if k = 1 then tableP else if k = 2 then originP else if k = 3 then blockP else if k = 4 then matchP else if k = 5 then keepP
  else if k = 6 then uniqueP else if k = 7 then dependP else if k = 8 then includeP else if k = 9 then denyP else queryP
def itemP : P It := do
  let p ← atP
  let k ← oneP kindsW
  let i ← kindP2 k
  pure { i with at_ := p }
/-- Items up to the end, at most k of them. -/
def itemsP : Nat → P (List It)
  | 0 => fun r => if r = [] then .ok [] r else .bad true r
  | k + 1 => fun r => if r = [] then .ok [] r else (do
    let i ← itemP
    let l ← itemsP k
    pure (i :: l)) r
/-- The error that stands for a failure, and its offset in a text of n bytes. -/
def errOf (lim : Bool) (r : List Tk) : Int := if r = [] then 7 else if lim = true then 3 else 4
def atOf (n : Nat) (r : List Tk) : Int := (r.head?.map (·.at_)).getD (n : Int)
def endT (n : Nat) : Res (List It) → List It × Int × Int
  | .ok l _ => (l, 0, 0)
  | .bad b r => ([], errOf b r, atOf n r)
def parseT (t : Txt) : List It × Int × Int := if (lexT t).2.1 ≠ 0 then ([], (lexT t).2) else endT t.length (itemsP 200 (lexT t).1)
end Go.Proofs.YtcgkaecaddpenaaGreatDoor.L8
