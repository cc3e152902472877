/- The iterator over the parts of a text: its contract. -/
import Derived.Test.YtendkghifcjffaaGreatDoorTSplit
namespace Go.Proofs.YtendkghifcjffaaGreatDoor.L3
open Go.RowKit Go.Shelf
attribute [local go_sem] Oper.semAt_some

/-- What a round must keep: the boxes of the text and of the number. -/
abbrev KeepP (b : Nat) (v : Value) (c : Nat) (u : Value) (W W' : World) : Prop := (Boxed W b 9 v ∧ Boxed W c 3 u) → (Boxed W' b 9 v ∧ Boxed W' c 3 u)

end Go.Proofs.YtendkghifcjffaaGreatDoor.L3
