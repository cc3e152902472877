/- Lists of texts in memory; the contracts of Tokens and Grams. -/
import Derived.Test.YtendkghifcjffaaGreatDoorTSort
namespace Go.Proofs.YtendkghifcjffaaGreatDoor.L3
open Go.RowKit Go.Shelf

/-- A slice whose cells hold the texts l. -/
def Strs (w : World) (v : Value) (l : List (List UInt8)) : Prop :=
  ∃ (A : Option Addr) (cap : Nat), v = .slice A l.length cap ∧ l.length ≤ cap ∧ (A = none → cap = 0) ∧ ∀ i (h : i < l.length), ∃ b off, A = some ⟨b, off, none⟩ ∧ w.cell? ⟨b, off + i, none⟩ = some (str l[i])
theorem Strs.below {w w1 : World} {v : Value} {l : List (List UInt8)} (h : Strs w v l) (hb : Below w.heap.size w w1) : Strs w1 v l := by
  obtain ⟨A, cap, e, hc, hn, f⟩ := h
  refine ⟨A, cap, e, hc, hn, fun i hi => ?_⟩
  obtain ⟨b, off, h1, h2⟩ := f i hi
  exact ⟨b, off, h1, cellB hb h2⟩
theorem strs_nil (w : World) : Strs w (.slice none 0 0) [] := ⟨none, 0, rfl, Nat.le_refl _, fun _ => rfl, fun i h => absurd h (by simp)⟩
/-- A slice that the call made is a list of texts. -/
theorem strs_of_owns {w : World} {base : Nat} {e : TypeId} {v : Value} {l : List (List UInt8)} (h : w.ownsRow base e 1 v l.length (l.map str)) : Strs w v l := by
  rcases h.2 with ⟨rfl, h0⟩ | ⟨g, cap, cur, rfl, _, hg, hle, _, hsz, htk⟩
  · have : l = [] := List.length_eq_zero_iff.1 h0
    subst this
    exact strs_nil w
  · refine ⟨_, cap, rfl, hle, (fun x => by cases x), fun i hi => ⟨g, 0, rfl, ?_⟩⟩
    have h1 : (cur.toList.take (l.length * 1))[i]? = some (str l[i]) := by rw [htk, List.getElem?_map, List.getElem?_eq_getElem hi]; rfl
    rw [List.getElem?_take_of_lt (by omega)] at h1
    rw [Array.getElem?_toList] at h1
    simp [World.cell?, hg, h1]

/-- What a function returns that has a list of texts. -/
def ListPost (w : World) (l : List (List UInt8)) (e : Ending) (w' : World) : Prop := ∃ v, e = .returned v ∧ Strs w' v l ∧ Below w.heap.size w w'

theorem tokens_any (t : List UInt8) (ht : t.length ≤ 1100) (w : World) :
    Calls Tryz.prog 55 #[str t] w (ListPost w (sortD (words t))) := by
  have C := fun w1 (h1 : w1 = w.alloc (.cells #[str t] 9)) => sortOnce_any 78 #[.pointer (some ⟨w.heap.size, 0, none⟩)] (enters_of Tryz.func78 (by kernel_rfl) rfl) (KeepB w.heap.size (str t)) (fun h k x => k (h x)) (words t).length (by have := words_len t; omega) (words t) (by have := words_len t; omega) w1
    (fun A B h x => (h.block _ (by rw [h1]; simp)).trans x) (split_stops 5 w.heap.size t ht w1 (by rw [h1]; exact Boxed.new w _ _))
  replace C := Lib.hid C
  go_enter Tryz.func55, Tryz.ntmps55
  go_wp2_with fail
  refine (split_any t _).mono ?_
  rintro e1 w1 ⟨rfl, rfl⟩
  go_wp2_with fail
  refine (C.out _ rfl).mono ?_
  rintro e2 w2 ⟨v, rfl, hrow, _, hb⟩
  have hS := Lib.hid (strs_of_owns hrow)
  have hB : Below w.heap.size w w2 := below_up ((Below.refl _ _).alloc (Nat.le_refl _) _) hb (by simp)
  clear C hrow hb
  go_wp2_with fail
  go_ret
  exact ⟨v, rfl, hS.out, hB⟩

end Go.Proofs.YtendkghifcjffaaGreatDoor.L3
