/- An attribute, a number, a value at an index, in memory. -/
import Derived.Test.YteokcgfbhaeklaaGreatDoorScLawB
namespace Go.Proofs.YteokcgfbhaeklaaGreatDoor
open Go.RowKit
theorem attr_at {w : World} {A : Option Addr} {n cp : Nat} {l : List AttrT} (h : Attrs w (.slice A n cp) l) {k : Nat} (hk : k < l.length) :
    ∃ b o, A = some ⟨b, o, none⟩ ∧ AttrR w b (o + k * 6) l[k] := by
  obtain ⟨_, _, b, o, e, f⟩ := Slc.spot h (by omega)
  exact ⟨b, o, e, f k hk⟩
theorem int_at {w : World} {A : Option Addr} {n cp : Nat} {l : List Int} (h : Ints w (.slice A n cp) l) {k : Nat} (hk : k < l.length) :
    ∃ b o, A = some ⟨b, o, none⟩ ∧ w.cell? ⟨b, o + k, none⟩ = some (.int .i64 l[k]) := by
  obtain ⟨_, _, b, o, e, f⟩ := Slc.spot h (by omega)
  have := f k hk
  rw [Nat.mul_one] at this
  exact ⟨b, o, e, this⟩
theorem val_at {w : World} {A : Option Addr} {n cp : Nat} {l : List T3} (h : Vals w (.slice A n cp) l) {k : Nat} (hk : k < l.length) :
    ∃ b o, A = some ⟨b, o, none⟩ ∧ ValAt w b (o + k * 3) l[k] := by
  obtain ⟨_, _, b, o, e, f⟩ := Slc.spot h (by omega)
  exact ⟨b, o, e, f k hk⟩
end Go.Proofs.YteokcgfbhaeklaaGreatDoor
