/- The contracts of slices.Clone at the five element types: a row of the call's own with the same cells; nil stays nil. -/
import Derived.Test.YteokcgfbhaeklaaGreatDoorPFind
import Derived.WalkSpells
import Derived.Test.YteokcgfbhaeklaaGreatDoorScSort
import Derived.Test.YteokcgfbhaeklaaGreatDoorScValid
namespace Go.Proofs.YteokcgfbhaeklaaGreatDoor
open Go.RowKit

/-- What Clone returns. -/
def ClonePost (w : World) (e : TypeId) (size n : Nat) (xs : List Value) (e' : Ending) (w' : World) : Prop := ∃ v, e' = .returned v ∧ w'.ownsRow w.heap.size e size v n xs ∧ Below w.heap.size w w'

set_option maxRecDepth 100000 in
set_option maxHeartbeats 1000000 in
theorem cloneS_any (A : Option Addr) (n cap : Nat) (news : List Value) (hl : n ≤ 4000) (w : World) (h : Src w A n cap 1 news) :
    Calls Tryz.prog 57 #[.slice A n cap] w (ClonePost w 9 1 n news) := by
  have q : ∀ (W : World) (a : Option Addr) (n c n' c' : Nat), (binOp .eql 51 (.slice a n c) (.slice none n' c')).run Tryz.prog W = .ok (.bool a.isNone) W := fun W a n c n' c' => Lib.run_eql_slice_nil W _ _ a n c n' c' elemStr.ht
  have H := Lib.hid h
  clear h
  cases A with
  | none =>
    have h0 : n = 0 := by have := H.out.nil rfl; have := H.out.cap; omega
    have hn : news = [] := List.eq_nil_of_length_eq_zero (by simp [H.out.len, h0])
    subst h0 hn
    go_enter Tryz.func57, Tryz.ntmps57
    go_wp2_with fail
    go_ret
    exact ⟨_, rfl, World.ownsRow_nil _ _ _ _, Below.refl _ _⟩
  | some ad =>
    go_enter Tryz.func57, Tryz.ntmps57
    go_wp2_with (at_builtin; refine wpList_app elemStr rfl (.tmp 5) (.tmp 6) rfl (base := w.heap.size) rfl (World.ownsRow_made w #[] 0 (Nat.le_refl _) (Nat.zero_le _) rfl) rfl (H.out.below (below_box w _)) (by omega) (by simp) ?_; intro v' w1 hown hg hat)
    have HO := Lib.hid (show w1.ownsRow w.heap.size 9 1 v' n news by simpa using hown)
    have HB := Lib.hid (show Below w.heap.size w w1 from (below_box w _).grown hg (by simp) (by intro k hk; cases hk; exact Nat.le_refl _))
    clear hown hg hat
    go_ret
    exact ⟨v', rfl, HO.out, HB.out⟩

set_option maxRecDepth 100000 in
set_option maxHeartbeats 1000000 in
theorem cloneI_any (A : Option Addr) (n cap : Nat) (news : List Value) (hl : n ≤ 4000) (w : World) (h : Src w A n cap 1 news) :
    Calls Tryz.prog 56 #[.slice A n cap] w (ClonePost w 3 1 n news) := by
  have q : ∀ (W : World) (a : Option Addr) (n c n' c' : Nat), (binOp .eql 42 (.slice a n c) (.slice none n' c')).run Tryz.prog W = .ok (.bool a.isNone) W := fun W a n c n' c' => Lib.run_eql_slice_nil W _ _ a n c n' c' elemInt.ht
  have H := Lib.hid h
  clear h
  cases A with
  | none =>
    have h0 : n = 0 := by have := H.out.nil rfl; have := H.out.cap; omega
    have hn : news = [] := List.eq_nil_of_length_eq_zero (by simp [H.out.len, h0])
    subst h0 hn
    go_enter Tryz.func56, Tryz.ntmps56
    go_wp2_with fail
    go_ret
    exact ⟨_, rfl, World.ownsRow_nil _ _ _ _, Below.refl _ _⟩
  | some ad =>
    go_enter Tryz.func56, Tryz.ntmps56
    go_wp2_with (at_builtin; refine wpList_app elemInt rfl (.tmp 5) (.tmp 6) rfl (base := w.heap.size) rfl (World.ownsRow_made w #[] 0 (Nat.le_refl _) (Nat.zero_le _) rfl) rfl (H.out.below (below_box w _)) (by omega) (by simp) ?_; intro v' w1 hown hg hat)
    have HO := Lib.hid (show w1.ownsRow w.heap.size 3 1 v' n news by simpa using hown)
    have HB := Lib.hid (show Below w.heap.size w w1 from (below_box w _).grown hg (by simp) (by intro k hk; cases hk; exact Nat.le_refl _))
    clear hown hg hat
    go_ret
    exact ⟨v', rfl, HO.out, HB.out⟩

set_option maxRecDepth 100000 in
set_option maxHeartbeats 1000000 in
theorem cloneV_any (A : Option Addr) (n cap : Nat) (news : List Value) (hl : n ≤ 4000) (w : World) (h : Src w A n cap 3 news) :
    Calls Tryz.prog 34 #[.slice A n cap] w (ClonePost w 26 3 n news) := by
  have q : ∀ (W : World) (a : Option Addr) (n c n' c' : Nat), (binOp .eql 29 (.slice a n c) (.slice none n' c')).run Tryz.prog W = .ok (.bool a.isNone) W := fun W a n c n' c' => Lib.run_eql_slice_nil W _ _ a n c n' c' elemVal.ht
  have H := Lib.hid h
  clear h
  cases A with
  | none =>
    have h0 : n = 0 := by have := H.out.nil rfl; have := H.out.cap; omega
    have hn : news = [] := List.eq_nil_of_length_eq_zero (by simp [H.out.len, h0])
    subst h0 hn
    go_enter Tryz.func34, Tryz.ntmps34
    go_wp2_with fail
    go_ret
    exact ⟨_, rfl, World.ownsRow_nil _ _ _ _, Below.refl _ _⟩
  | some ad =>
    go_enter Tryz.func34, Tryz.ntmps34
    go_wp2_with (at_builtin; refine wpList_app elemVal rfl (.tmp 5) (.tmp 6) rfl (base := w.heap.size) rfl (World.ownsRow_made w #[] 0 (Nat.le_refl _) (Nat.zero_le _) rfl) rfl (H.out.below (below_box w _)) (by omega) (by simp) ?_; intro v' w1 hown hg hat)
    have HO := Lib.hid (show w1.ownsRow w.heap.size 26 3 v' n news by simpa using hown)
    have HB := Lib.hid (show Below w.heap.size w w1 from (below_box w _).grown hg (by simp) (by intro k hk; cases hk; exact Nat.le_refl _))
    clear hown hg hat
    go_ret
    exact ⟨v', rfl, HO.out, HB.out⟩

set_option maxRecDepth 100000 in
set_option maxHeartbeats 1000000 in
theorem cloneA_any (A : Option Addr) (n cap : Nat) (news : List Value) (hl : n ≤ 4000) (w : World) (h : Src w A n cap 6 news) :
    Calls Tryz.prog 55 #[.slice A n cap] w (ClonePost w 53 6 n news) := by
  have q : ∀ (W : World) (a : Option Addr) (n c n' c' : Nat), (binOp .eql 41 (.slice a n c) (.slice none n' c')).run Tryz.prog W = .ok (.bool a.isNone) W := fun W a n c n' c' => Lib.run_eql_slice_nil W _ _ a n c n' c' elemAttr.ht
  have H := Lib.hid h
  clear h
  cases A with
  | none =>
    have h0 : n = 0 := by have := H.out.nil rfl; have := H.out.cap; omega
    have hn : news = [] := List.eq_nil_of_length_eq_zero (by simp [H.out.len, h0])
    subst h0 hn
    go_enter Tryz.func55, Tryz.ntmps55
    go_wp2_with fail
    go_ret
    exact ⟨_, rfl, World.ownsRow_nil _ _ _ _, Below.refl _ _⟩
  | some ad =>
    go_enter Tryz.func55, Tryz.ntmps55
    go_wp2_with (at_builtin; refine wpList_app elemAttr rfl (.tmp 5) (.tmp 6) rfl (base := w.heap.size) rfl (World.ownsRow_made w #[] 0 (Nat.le_refl _) (Nat.zero_le _) rfl) rfl (H.out.below (below_box w _)) (by omega) (by simp) ?_; intro v' w1 hown hg hat)
    have HO := Lib.hid (show w1.ownsRow w.heap.size 53 6 v' n news by simpa using hown)
    have HB := Lib.hid (show Below w.heap.size w w1 from (below_box w _).grown hg (by simp) (by intro k hk; cases hk; exact Nat.le_refl _))
    clear hown hg hat
    go_ret
    exact ⟨v', rfl, HO.out, HB.out⟩

set_option maxRecDepth 100000 in
set_option maxHeartbeats 1000000 in
theorem cloneT_any (A : Option Addr) (n cap : Nat) (news : List Value) (hl : n ≤ 4000) (w : World) (h : Src w A n cap 3 news) :
    Calls Tryz.prog 54 #[.slice A n cap] w (ClonePost w 44 3 n news) := by
  have q : ∀ (W : World) (a : Option Addr) (n c n' c' : Nat), (binOp .eql 22 (.slice a n c) (.slice none n' c')).run Tryz.prog W = .ok (.bool a.isNone) W := fun W a n c n' c' => Lib.run_eql_slice_nil W _ _ a n c n' c' elemTab.ht
  have H := Lib.hid h
  clear h
  cases A with
  | none =>
    have h0 : n = 0 := by have := H.out.nil rfl; have := H.out.cap; omega
    have hn : news = [] := List.eq_nil_of_length_eq_zero (by simp [H.out.len, h0])
    subst h0 hn
    go_enter Tryz.func54, Tryz.ntmps54
    go_wp2_with fail
    go_ret
    exact ⟨_, rfl, World.ownsRow_nil _ _ _ _, Below.refl _ _⟩
  | some ad =>
    go_enter Tryz.func54, Tryz.ntmps54
    go_wp2_with (at_builtin; refine wpList_app elemTab rfl (.tmp 5) (.tmp 6) rfl (base := w.heap.size) rfl (World.ownsRow_made w #[] 0 (Nat.le_refl _) (Nat.zero_le _) rfl) rfl (H.out.below (below_box w _)) (by omega) (by simp) ?_; intro v' w1 hown hg hat)
    have HO := Lib.hid (show w1.ownsRow w.heap.size 44 3 v' n news by simpa using hown)
    have HB := Lib.hid (show Below w.heap.size w w1 from (below_box w _).grown hg (by simp) (by intro k hk; cases hk; exact Nat.le_refl _))
    clear hown hg hat
    go_ret
    exact ⟨v', rfl, HO.out, HB.out⟩
end Go.Proofs.YteokcgfbhaeklaaGreatDoor

/- What a call may touch; rows of the call's own that are stored into; a table whose memory is the call's own. -/
namespace Go.Proofs.YteokcgfbhaeklaaGreatDoor
open Go.RowKit

/-- Nothing that was there has turned but blocks of which S speaks. -/
structure Tch (S : Nat → Prop) (w w' : World) : Prop where
  os : w'.os = w.os
  tape : w'.tape = w.tape
  output : w'.output = w.output
  size : w.heap.size ≤ w'.heap.size
  block : ∀ b, b < w.heap.size → ¬ S b → w'.heap[b]? = w.heap[b]?
theorem Tch.refl (S : Nat → Prop) (w : World) : Tch S w w := ⟨rfl, rfl, rfl, Nat.le_refl _, fun _ _ _ => rfl⟩
theorem Tch.trans {S : Nat → Prop} {a b c : World} (h : Tch S a b) (k : Tch S b c) : Tch S a c :=
  ⟨k.os.trans h.os, k.tape.trans h.tape, k.output.trans h.output, Nat.le_trans h.size k.size, fun i hi hs => (k.block i (Nat.lt_of_lt_of_le hi h.size) hs).trans (h.block i hi hs)⟩
theorem Tch.wider {S T : Nat → Prop} {a b : World} (h : Tch S a b) (k : ∀ i, i < a.heap.size → S i → T i) : Tch T a b :=
  ⟨h.os, h.tape, h.output, h.size, fun i hi hs => h.block i hi (fun x => hs (k i hi x))⟩
theorem Tch.of_below {S : Nat → Prop} {a b : World} (h : Below a.heap.size a b) : Tch S a b := ⟨h.os, h.tape, h.output, h.size, fun i hi _ => h.block i hi⟩
theorem Tch.of_grown {S : Nat → Prop} {a b : World} {row : Option Nat} (h : a.grownBy b row) (k : ∀ i, row = some i → S i) : Tch S a b :=
  ⟨h.os, h.tape, h.output, h.size, fun i hi hs => h.block i hi (fun e => hs (k i e.symm))⟩
theorem Tch.drewN (S : Nat → Prop) (w : World) (n : Nat) : Tch S w (w.drewN n) := ⟨rfl, rfl, rfl, Nat.le_refl _, fun _ _ _ => rfl⟩
theorem Tch.set {S : Nat → Prop} {a b : World} (h : Tch S a b) {p : Addr} (hp : S p.block) (v : Value) : Tch S a (b.setCell p v) :=
  ⟨h.os, h.tape, h.output, by simpa using h.size, fun i hi hs => (Below.heap_setCell b p v i (fun e => hs (by rw [e]; exact hp))).trans (h.block i hi hs)⟩
theorem Tch.below {S : Nat → Prop} {B : Nat} {a b : World} (h : Tch S a b) (hB : B ≤ a.heap.size) (k : ∀ i, i < B → ¬ S i) : Below B a b :=
  ⟨h.os, h.tape, h.output, h.size, fun i hi => h.block i (by omega) (k i hi)⟩
theorem Tch.cell {S : Nat → Prop} {a b : World} {g o : Nat} {v : Value} (h : Tch S a b) (hc : a.cell? ⟨g, o, none⟩ = some v) (hs : ¬ S g) : b.cell? ⟨g, o, none⟩ = some v := by
  rw [World.cell?_of_block (a := ⟨g, o, none⟩) (h.block g (cellLt hc) hs)]
  exact hc
theorem Tch.frozen {S : Nat → Prop} {a b : World} {g o : Nat} {v : Value} (h : Tch S a b) (hc : a.cell? ⟨g, o, none⟩ = some v) (hf : a.frozen? ⟨g, o, none⟩ = false) (hs : ¬ S g) : b.frozen? ⟨g, o, none⟩ = false := by
  rw [World.frozen?_of_block (a := ⟨g, o, none⟩) (h.block g (cellLt hc) hs)]
  exact hf

/-! ### Rows of the call's own. -/
theorem own_heap {w w' : World} {base : Nat} {e : TypeId} {size n : Nat} {v : Value} {xs : List Value} (h : w.ownsRow base e size v n xs) (hk : ∀ g, v.ownBlock = some g → w'.heap[g]? = w.heap[g]?) : w'.ownsRow base e size v n xs := by
  refine ⟨h.1, ?_⟩
  rcases h.2 with h2 | ⟨g, cap, cur, rfl, h1, h2, h3⟩
  · exact Or.inl h2
  · exact Or.inr ⟨g, cap, cur, rfl, h1, (hk g rfl).trans h2, h3⟩
theorem own_base {w : World} {base B : Nat} {e : TypeId} {size n : Nat} {v : Value} {xs : List Value} (h : w.ownsRow base e size v n xs) (hB : B ≤ base) : w.ownsRow B e size v n xs := by
  refine ⟨h.1, ?_⟩
  rcases h.2 with h2 | ⟨g, cap, cur, rfl, h1, h2⟩
  · exact Or.inl h2
  · exact Or.inr ⟨g, cap, cur, rfl, by omega, h2⟩
/-- Two rows of different element types have no block in common. -/
theorem own_ne {w : World} {b1 b2 : Nat} {e1 e2 : TypeId} {s1 s2 n1 n2 : Nat} {v1 v2 : Value} {x1 x2 : List Value} (h1 : w.ownsRow b1 e1 s1 v1 n1 x1) (h2 : w.ownsRow b2 e2 s2 v2 n2 x2) (he : e1 ≠ e2) (g : Nat) (h : v1.ownBlock = some g) : v2.ownBlock ≠ some g := by
  intro k
  rcases h1.2 with ⟨rfl, _⟩ | ⟨g1, _, cur1, rfl, _, hh1, _⟩
  · simp [Value.ownBlock] at h
  · rcases h2.2 with ⟨rfl, _⟩ | ⟨g2, _, cur2, rfl, _, hh2, _⟩
    · simp [Value.ownBlock] at k
    · have e1' : g1 = g := by simpa [Value.ownBlock] using h
      have e2' : g2 = g := by simpa [Value.ownBlock] using k
      subst e1'
      subst e2'
      rw [hh1] at hh2
      injection hh2 with hh2
      injection hh2 with _ ht
      exact he ht
theorem own_isSl {w : World} {base : Nat} {e : TypeId} {size n : Nat} {v : Value} {xs : List Value} (h : w.ownsRow base e size v n xs) : ∃ A c, v = .slice A n c := by
  rcases h.2 with ⟨rfl, rfl⟩ | ⟨g, cap, cur, rfl, _⟩
  · exact ⟨_, _, rfl⟩
  · exact ⟨_, _, rfl⟩
theorem own_form {w : World} {base : Nat} {e : TypeId} {size n : Nat} {v : Value} {xs : List Value} (h : w.ownsRow base e size v n xs) (hn : 0 < n) : ∃ g c, v = .slice (some ⟨g, 0, none⟩) n c ∧ n ≤ c ∧ base ≤ g ∧ g < w.heap.size := by
  rcases h.2 with ⟨_, h0⟩ | ⟨g, cap, cur, rfl, h1, h2, h3, _⟩
  · omega
  · exact ⟨g, cap, rfl, h3, h1, (Array.getElem?_eq_some_iff.1 h2).1⟩
theorem flat_set {α : Type} {sz : Nat} {f : α → List Value} (hf : ∀ x, (f x).length = sz) : ∀ (l : List α) (i k : Nat) (hi : i < l.length) (u : Value) (x : α), k < sz → (f l[i]).set k u = f x → (l.flatMap f).set (i * sz + k) u = (l.set i x).flatMap f
  | [], i, k, hi, _, _, _, _ => by simp at hi
  | y :: l, 0, k, _, u, x, hk, h => by
    rw [List.flatMap_cons, Nat.zero_mul, Nat.zero_add, List.set_append_left _ _ (by rw [hf]; exact hk)]
    simp only [List.getElem_cons_zero] at h
    rw [h]
    rfl
  | y :: l, i + 1, k, hi, u, x, hk, h => by
    rw [List.flatMap_cons, List.set_append_right _ _ (by rw [hf, Nat.succ_mul]; omega), hf, show (i + 1) * sz + k - sz = i * sz + k by rw [Nat.succ_mul]; omega]
    rw [flat_set hf l i k (by simpa using hi) u x hk (by simpa using h)]
    rfl

/-- A table whose attributes, former names and key lie in blocks of the call's own from lo to hi. -/
structure OwnT (w : World) (lo hi : Nat) (p : TabT × Value × Value) (qs : List (AttrT × Value)) : Prop where
  fst : qs.map Prod.fst = p.1.attrs
  attrs : w.ownsRow lo 53 6 p.2.1 qs.length (qs.flatMap attrC)
  attrsHi : ∀ k, p.2.1.ownBlock = some k → k < hi
  key : w.ownsRow lo 3 1 p.2.2 p.1.key.length (p.1.key.flatMap intC)
  keyHi : ∀ k, p.2.2.ownBlock = some k → k < hi
  was : ∀ q ∈ qs, OwnS w lo q.2 q.1.was
  wasHi : ∀ q ∈ qs, ∀ k, q.2.ownBlock = some k → k < hi
  apart : qs.Pairwise fun a b => ∀ k, a.2.ownBlock = some k → b.2.ownBlock ≠ some k
theorem OwnT.keep {w w' : World} {lo hi : Nat} {p : TabT × Value × Value} {qs : List (AttrT × Value)} (h : OwnT w lo hi p qs) (hk : ∀ b, lo ≤ b → b < hi → w'.heap[b]? = w.heap[b]?) : OwnT w' lo hi p qs :=
  { h with
    attrs := own_heap h.attrs (fun g e => hk g (h.attrs.lt g e).1 (h.attrsHi g e))
    key := own_heap h.key (fun g e => hk g (h.key.lt g e).1 (h.keyHi g e))
    was := fun q hq => own_heap (h.was q hq) (fun g e => hk g ((h.was q hq).lt g e).1 (h.wasHi q hq g e)) }
/-- Such a table can be read. -/
theorem OwnT.reads {w : World} {lo hi : Nat} {p : TabT × Value × Value} {qs : List (AttrT × Value)} (h : OwnT w lo hi p qs) : Attrs w p.2.1 p.1.attrs ∧ Ints w p.2.2 p.1.key :=
  ⟨by rw [← h.fst]; exact attrs_shut (attrs_of_own rfl h.attrs) (fun q hq => strs_of_own (h.was q hq)), ints_of_own rfl h.key⟩
end Go.Proofs.YteokcgfbhaeklaaGreatDoor

/- The contract of clone: a copy of a schema, all of whose memory is the call's own. -/
namespace Go.Proofs.YteokcgfbhaeklaaGreatDoor
open Go.RowKit

/-- A schema whose tables lie in the row g, each with blocks of its own. -/
structure OwnSch (w : World) (base g cap : Nat) (s : List TabT) (ps : List (TabT × Value × Value)) (c : Nat → Nat) : Prop where
  fst : ps.map Prod.fst = s
  row : w.ownsRow base 44 3 (.slice (some ⟨g, 0, none⟩) s.length cap) s.length (ps.flatMap tabC)
  lo : g < c 0
  up : ∀ j, c j ≤ c (j + 1)
  hi : c s.length ≤ w.heap.size
  own : ∀ j (hj : j < ps.length), ∃ qs, OwnT w (c j) (c (j + 1)) ps[j] qs
/-- What clone returns. -/
def ClonedPost (w : World) (s : List TabT) (e : Ending) (w' : World) : Prop :=
  ∃ g cap ps c, e = .returned (.agg #[.slice (some ⟨g, 0, none⟩) s.length cap]) ∧ OwnSch w' w.heap.size g cap s ps c ∧ Below w.heap.size w w'
def ext (c : Nat → Nat) (k n : Nat) : Nat → Nat := fun j => if j ≤ k then c j else n
theorem ext_le {c : Nat → Nat} {k n j : Nat} (h : j ≤ k) : ext c k n j = c j := if_pos h
theorem ext_gt {c : Nat → Nat} {k n j : Nat} (h : k < j) : ext c k n j = n := if_neg (by omega)
theorem ext_up {c : Nat → Nat} {k n : Nat} (h : ∀ j, c j ≤ c (j + 1)) (hn : c k ≤ n) (j : Nat) : ext c k n j ≤ ext c k n (j + 1) := by
  rcases Nat.lt_trichotomy j k with q | q | q
  · rw [ext_le (by omega), ext_le (by omega)]; exact h j
  · subst q; rw [ext_le (Nat.le_refl _), ext_gt (by omega)]; exact hn
  · rw [ext_gt q, ext_gt (by omega)]; exact Nat.le_refl _
theorem up_le {c : Nat → Nat} (h : ∀ j, c j ≤ c (j + 1)) : ∀ i d : Nat, c i ≤ c (i + d)
  | _, 0 => Nat.le_refl _
  | i, d + 1 => Nat.le_trans (up_le h i d) (h (i + d))
theorem up_mono {c : Nat → Nat} (h : ∀ j, c j ≤ c (j + 1)) {i j : Nat} (hij : i ≤ j) : c i ≤ c j := by
  have := up_le h i (j - i)
  rwa [show i + (j - i) = j by omega] at this

theorem OwnSch.keep {w w' : World} {base g cap : Nat} {s : List TabT} {ps : List (TabT × Value × Value)} {c : Nat → Nat} (h : OwnSch w base g cap s ps c) (hz : w.heap.size ≤ w'.heap.size) (hk : ∀ b, g ≤ b → w'.heap[b]? = w.heap[b]?) : OwnSch w' base g cap s ps c :=
  { h with
    row := own_heap h.row (fun q e => by cases e; exact hk g (Nat.le_refl _))
    hi := Nat.le_trans h.hi hz
    own := fun j hj => by
      obtain ⟨qs, hq⟩ := h.own j hj
      exact ⟨qs, hq.keep fun b h1 _ => hk b (by
        have h0 := up_mono h.up (Nat.zero_le j)
        have := h.lo
        omega)⟩ }
/-- What the inner loop knows: the first m former names are copied. -/
structure Inner (w w3 : World) (lo ga capa : Nat) (l : List AttrT) (qs : List (AttrT × Value)) (m : Nat) : Prop where
  fst : qs.map Prod.fst = l
  row : w3.ownsRow lo 53 6 (.slice (some ⟨ga, 0, none⟩) l.length capa) l.length (qs.flatMap attrC)
  old : ∀ j (hj : j < qs.length), m ≤ j → Strs w qs[j].2 qs[j].1.was
  new : ∀ j (hj : j < qs.length), j < m → OwnS w3 lo qs[j].2 qs[j].1.was
  apart : ∀ i j (hi : i < qs.length) (hj : j < qs.length), i < j → j < m → ∀ k, qs[i].2.ownBlock = some k → qs[j].2.ownBlock ≠ some k
theorem Inner.len {w w3 : World} {lo ga capa : Nat} {l : List AttrT} {qs : List (AttrT × Value)} {m : Nat} (h : Inner w w3 lo ga capa l qs m) : qs.length = l.length := by
  rw [← h.fst, List.length_map]
/-- One round of the inner loop: w3 before, wc behind the call of Clone, u what it returned. -/
theorem Inner.step {w w3 wc : World} {lo ga capa : Nat} {l : List AttrT} {qs : List (AttrT × Value)} {m : Nat} (h : Inner w w3 lo ga capa l qs m) (hm : m < qs.length) {u : Value} (hlo : lo ≤ w3.heap.size)
    (hb : Below w3.heap.size w3 wc) (hu : OwnS wc w3.heap.size u qs[m].1.was) : Inner w (wc.setCell ⟨ga, m * 6 + 2, none⟩ u) lo ga capa l (qs.set m (qs[m].1, u)) (m + 1) := by
  have hga : ga < w3.heap.size := by
    rcases h.row.2 with ⟨e, _⟩ | ⟨g, _, _, e, _, hh, _⟩
    · cases e
    · cases e; exact (Array.getElem?_eq_some_iff.1 hh).1
  have hrow : wc.ownsRow lo 53 6 (.slice (some ⟨ga, 0, none⟩) l.length capa) l.length (qs.flatMap attrC) := own_heap h.row (fun g e => by cases e; exact hb.block ga hga)
  have hu' : OwnS wc lo u qs[m].1.was := own_base hu hlo
  have hset := hrow.stored (m * 6 + 2) u
  have keep : ∀ {x : Value} {t : List Txt}, OwnS wc lo x t → OwnS (wc.setCell ⟨ga, m * 6 + 2, none⟩ u) lo x t := fun {x t} hx => hx.kept hset.2 (Or.inr (fun e => own_ne hx hrow (by decide) ga e rfl))
  have hlen : (qs.set m (qs[m].1, u)).length = qs.length := by simp
  have hle := h.len
  refine ⟨?_, ?_, fun j hj hmj => ?_, fun j hj hjm => ?_, fun i j hi hj hij hjm k hk => ?_⟩
  · rw [← h.fst]
    apply List.ext_getElem
    · simp
    · intro i h1 h2
      simp only [List.getElem_map, List.getElem_set]
      split
      · rename_i e; subst e; rfl
      · rfl
  · have := hset.1
    rw [flat_set attrC_len qs m 2 hm u (qs[m].1, u) (by decide) rfl] at this
    exact this
  · rw [List.getElem_set_ne (by omega)]
    exact h.old j (by simpa using hj) (by omega)
  · by_cases e : j = m
    · subst e
      rw [List.getElem_set_self]
      exact keep hu'
    · rw [List.getElem_set_ne (by omega)]
      have hn := h.new j (by simpa using hj) (by omega)
      exact keep (own_heap hn (fun g e => hb.block g (hn.lt g e).2))
  · have hjq : j < qs.length := by simpa using hj
    have hiq : i < qs.length := by simpa using hi
    rw [List.getElem_set_ne (by omega)] at hk
    have hn := h.new i hiq (by omega)
    by_cases e : j = m
    · subst e
      rw [List.getElem_set_self]
      intro q
      have := (hu.lt k q).1
      have := (hn.lt k hk).2
      omega
    · rw [List.getElem_set_ne (by omega)]
      exact h.apart i j hiq hjq hij (by omega) k hk
/-- Behind the inner loop the table is the call's own. -/
theorem Inner.done {w w3 : World} {lo ga capa : Nat} {l : List AttrT} {qs : List (AttrT × Value)} (h : Inner w w3 lo ga capa l qs l.length) {t : TabT} {vk : Value} (ht : t.attrs = l) (hk : w3.ownsRow lo 3 1 vk t.key.length (t.key.flatMap intC)) :
    OwnT w3 lo w3.heap.size (t, .slice (some ⟨ga, 0, none⟩) l.length capa, vk) qs := by
  have hl := h.len
  refine ⟨h.fst.trans ht.symm, by rw [hl]; exact h.row, fun k e => ?_, hk, fun k e => (hk.lt k e).2, fun q hq => ?_, fun q hq k e => ?_, ?_⟩
  · exact (h.row.lt k e).2
  · obtain ⟨j, hj, rfl⟩ := List.getElem_of_mem hq
    exact h.new j hj (by omega)
  · obtain ⟨j, hj, rfl⟩ := List.getElem_of_mem hq
    exact ((h.new j hj (by omega)).lt k e).2
  · rw [List.pairwise_iff_getElem]
    intro i j hi hj hij
    exact h.apart i j hi hj hij (by omega)
/-- What the outer loop knows: the first k tables are copied. -/
structure Outer (w wr : World) (base g cap : Nat) (s : List TabT) (ps : List (TabT × Value × Value)) (c : Nat → Nat) (k : Nat) : Prop where
  fst : ps.map Prod.fst = s
  row : wr.ownsRow base 44 3 (.slice (some ⟨g, 0, none⟩) s.length cap) s.length (ps.flatMap tabC)
  old : ∀ j (hj : j < ps.length), k ≤ j → Attrs w ps[j].2.1 ps[j].1.attrs ∧ Ints w ps[j].2.2 ps[j].1.key
  lo : g < c 0
  up : ∀ j, c j ≤ c (j + 1)
  hi : c k ≤ wr.heap.size
  own : ∀ j (hj : j < ps.length), j < k → ∃ qs, OwnT wr (c j) (c (j + 1)) ps[j] qs
theorem Outer.len {w wr : World} {base g cap : Nat} {s : List TabT} {ps : List (TabT × Value × Value)} {c : Nat → Nat} {k : Nat} (h : Outer w wr base g cap s ps c k) : ps.length = s.length := by
  rw [← h.fst, List.length_map]
theorem fst_set {α β : Type} {l : List (α × β)} {k : Nat} (hk : k < l.length) (u : β) : (l.set k (l[k].1, u)).map Prod.fst = l.map Prod.fst := by
  apply List.ext_getElem
  · simp
  · intro i h1 h2
    simp only [List.getElem_map, List.getElem_set]
    split
    · rename_i e; subst e; rfl
    · rfl
theorem Outer.step {w wr w3 : World} {base g cap : Nat} {s : List TabT} {ps : List (TabT × Value × Value)} {c : Nat → Nat} {k : Nat} (h : Outer w wr base g cap s ps c k) (hk : k < ps.length) {va vk : Value} {qs : List (AttrT × Value)}
    (hrow : w3.ownsRow base 44 3 (.slice (some ⟨g, 0, none⟩) s.length cap) s.length ((ps.set k (ps[k].1, va, vk)).flatMap tabC)) (ht : Tch (fun b => b = g ∨ wr.heap.size ≤ b) wr w3) (ho : OwnT w3 wr.heap.size w3.heap.size (ps[k].1, va, vk) qs) :
    Outer w w3 base g cap s (ps.set k (ps[k].1, va, vk)) (ext c k w3.heap.size) (k + 1) := by
  have hsz := ht.size
  have hhi := h.hi
  refine ⟨(fst_set hk _).trans h.fst, hrow, fun j hj hkj => ?_, by rw [ext_le (Nat.zero_le _)]; exact h.lo, ext_up h.up (by omega), by rw [ext_gt (by omega)]; exact Nat.le_refl _, fun j hj hjk => ?_⟩
  · rw [List.getElem_set_ne (by omega)]
    exact h.old j (by simpa using hj) (by omega)
  · by_cases e : j = k
    · subst e
      rw [List.getElem_set_self, ext_le (Nat.le_refl _), ext_gt (by omega)]
      exact ⟨qs, { ho with attrs := own_base ho.attrs hhi, key := own_base ho.key hhi, was := fun q hq => own_base (ho.was q hq) hhi }⟩
    · rw [List.getElem_set_ne (by omega), ext_le (by omega), ext_le (by omega)]
      obtain ⟨qs', h'⟩ := h.own j (by simpa using hj) (by omega)
      refine ⟨qs', h'.keep fun b h1 h2 => ?_⟩
      have m1 := up_mono h.up (show 0 ≤ j by omega)
      have m2 := up_mono h.up (show j + 1 ≤ k by omega)
      have := h.lo
      exact ht.block b (by omega) (by omega)

set_option maxRecDepth 100000 in
set_option maxHeartbeats 4000000 in
theorem clone_any (s : List TabT) (v : Value) (hm : Mid s) (h0 : 0 < s.length) (hne : ∀ t ∈ s, 0 < t.attrs.length ∧ 0 < t.key.length) (w : World) (h : Tabs w v s) :
    Calls Tryz.prog 32 #[.agg #[v]] w (ClonedPost w s) := by
  obtain ⟨ps, hps, hP, hPs⟩ := h.open
  have hpl : ps.length = s.length := by rw [← hps, List.length_map]
  obtain ⟨A, cap, rfl, hcap⟩ := h.form
  have hsrc := src_tabs hP (fun p hp => ⟨(hPs p hp).1.isSl, (hPs p hp).2.isSl⟩)
  have HS := Lib.hid hsrc.2
  have HP := Lib.hid hps
  have HPS := Lib.hid hPs
  have HM := Lib.hid hm
  have HNE := Lib.hid hne
  have HL := Lib.hid hpl
  have hl24 : s.length ≤ 24 := hm.1
  clear h hP hsrc hps hPs hm hne hpl
  go_enter Tryz.func32, Tryz.ntmps32
  go_wp2_with fail
  refine (cloneT_any A s.length cap (ps.flatMap tabC) (by omega) _ (HS.out.below ((below_box w _).alloc (by simp) _))).mono ?_
  rintro e w1 ⟨v1, rfl, hown, hb⟩
  obtain ⟨g, cap1, rfl, hc1, hg1, hg2⟩ := own_form hown h0
  have hg1' : w.heap.size + 2 ≤ g := by simpa using hg1
  have HO := Lib.hid (own_base (B := w.heap.size) hown (by simp; omega))
  have HB := Lib.hid (below_up ((below_box w _).alloc (by simp) _) hb (by simp; omega))
  have hsz1 : w.heap.size + 2 ≤ w1.heap.size := by have := hb.size; simpa using this
  have r1 : w1.cell? ⟨w.heap.size + 1, 0, none⟩ = some (.slice none 0 0) := cellB hb (by simp [go_sem])
  have r1f : w1.frozen? ⟨w.heap.size + 1, 0, none⟩ = false := frozenB (v := .slice none 0 0) hb (by simp [go_sem]) (by simp [go_sem])
  clear hown hb hg1
  go_wp2_with fail
  go_loopw [14] (fun i wr => ∃ (k : Nat) (ps : List (TabT × Value × Value)) (c : Nat → Nat), k ≤ s.length ∧ i = .int .i64 (k : Int) ∧ Outer w wr w.heap.size g cap1 s ps c k ∧ Tch (fun b => b = g ∨ w1.heap.size < b) (w1.alloc (.cells #[.slice (some ⟨g, 0, none⟩) s.length cap1] 24)) wr) (fun i _ => s.length - (intOf i).toNat)
  case atStart =>
    refine ⟨0, ps, fun _ => w1.heap.size + 1, by omega, by simp, ⟨HP.out, HO.out.alloc _, fun j hj _ => HPS.out _ (List.getElem_mem hj), by omega, fun _ => Nat.le_refl _, by simp, fun j _ hj => by omega⟩, Tch.refl _ _⟩
  case round =>
    clear HO HS HP HPS HL
    obtain ⟨k, ps, c, hk, rfl, ho, ht⟩ := hrel
    obtain ⟨wo, rfl⟩ : ∃ wo, wo = wr := ⟨_, rfl⟩
    have HO := Lib.hid ho
    have HT := Lib.hid ht
    have HL := Lib.hid ho.len
    have x0 : wo.cell? ⟨w1.heap.size, 0, none⟩ = some (.slice (some ⟨g, 0, none⟩) s.length cap1) := ht.cell (by simp [go_sem]) (by omega)
    have hszr : w1.heap.size + 1 ≤ wo.heap.size := by have := ht.size; simpa using this
    have HBr : Hid (Below w.heap.size w wo) := Lib.hid (HB.out.trans ((below_box w1 _).mono (by omega) |>.trans (ht.below (by simp; omega) (by intro i hi; omega))))
    clear ho ht
    by_cases hlt : k < s.length
    · have hkp : k < ps.length := by have := HL.out; omega
      obtain ⟨⟨t, va, vk⟩, hpk⟩ : ∃ p, ps[k] = p := ⟨_, rfl⟩
      have HPK := Lib.hid hpk
      have hold := HO.out.old k hkp (Nat.le_refl _)
      rw [hpk] at hold
      replace hold : Attrs w va t.attrs ∧ Ints w vk t.key := hold
      have htm : t ∈ s := by
        have := HO.out.fst
        rw [← this]
        exact List.mem_map.2 ⟨ps[k], List.getElem_mem hkp, by rw [hpk]⟩
      have HMT := Lib.hid (HM.out.2 t htm)
      have HNT := Lib.hid (HNE.out t htm)
      have hcells : ∀ j, j < 3 → wo.cell? ⟨g, k * 3 + j, none⟩ = (tabC (t, va, vk))[j]? := fun j hj => by
        rw [HO.out.row.cellAt _ (by omega), flat_get tabC_len ps k j hkp hj, hpk]
      obtain ⟨qs, hqs, hQ, hQs⟩ := hold.1.open
      have hql : qs.length = t.attrs.length := by rw [← hqs, List.length_map]
      obtain ⟨Aa, capa, rfl, hca⟩ := hold.1.form
      obtain ⟨Ak, capk, rfl, hck⟩ := hold.2.form
      have HSA := Lib.hid ((src_attrs hQ (fun q hq => (hQs q hq).isSl)).2.below HBr.out)
      have HSK := Lib.hid (src_ints hold.2).2
      have HQ := Lib.hid hqs
      have HQS := Lib.hid hQs
      have HQL := Lib.hid hql
      have y1 : wo.cell? ⟨g, k * 3 + 1, none⟩ = some (.slice Aa t.attrs.length capa) := hcells 1 (by decide)
      have i1 : (0 : Int) ≤ (k : Int) := by omega
      have i2 : (k : Int) < (s.length : Int) := by omega
      have HC := Lib.hid hcells
      clear hold hcells hQ hQs hqs hql hpk
      go_wp2_with fail
      refine (cloneA_any Aa t.attrs.length capa (qs.flatMap attrC) (by have := HMT.out.1; omega) _ HSA.out).mono ?_
      rintro e wA ⟨va', rfl, hoA, hbA⟩
      obtain ⟨ga, capa', rfl, _, hga1, hga2⟩ := own_form hoA HNT.out.1
      have HOA := Lib.hid hoA
      have HBA := Lib.hid hbA
      have HRA : Hid (wA.ownsRow w.heap.size 44 3 (.slice (some ⟨g, 0, none⟩) s.length cap1) s.length (ps.flatMap tabC)) := Lib.hid (own_heap HO.out.row (fun q e => by cases e; exact hbA.block g (by omega)))
      have y1a : wA.cell? ⟨g, k * 3 + 1, none⟩ = some (.slice Aa t.attrs.length capa) := cellB hbA y1
      have y1f : wA.frozen? ⟨g, k * 3 + 1, none⟩ = false := HRA.out.frozenAt _
      have y2 : wA.cell? ⟨g, k * 3 + 2, none⟩ = some (.slice Ak t.key.length capk) := cellB hbA (HC.out 2 (by decide))
      clear hoA hbA y1
      have HBA1 : Hid (Below w.heap.size w (wA.setCell ⟨g, k * 3 + 1, none⟩ (.slice (some ⟨ga, 0, none⟩) t.attrs.length capa'))) := Lib.hid ((HBr.out.trans (HBA.out.mono HBr.out.size)).setCell (p := ⟨g, k * 3 + 1, none⟩) (by show w.heap.size ≤ g; omega) _)
      have HS1 := Lib.hid (HRA.out.stored (k * 3 + 1) (.slice (some ⟨ga, 0, none⟩) t.attrs.length capa'))
      have HE1 := Lib.hid (flat_set tabC_len ps k 1 hkp (.slice (some ⟨ga, 0, none⟩) t.attrs.length capa') (t, .slice (some ⟨ga, 0, none⟩) t.attrs.length capa', .slice Ak t.key.length capk) (by decide) (by rw [HPK.out]; rfl))
      have hszA : wo.heap.size ≤ wA.heap.size := HBA.out.size
      go_wp2_with fail
      refine (cloneI_any Ak t.key.length capk (t.key.flatMap intC) (by have := HMT.out.2.1; omega) _ (HSK.out.below HBA1.out)).mono ?_
      rintro e wB0 ⟨vk', rfl, hoK, hbK⟩
      obtain ⟨gk, capk', rfl, _, hgk1, hgk2⟩ := own_form hoK HNT.out.2
      have hgk1' : wA.heap.size ≤ gk := by simpa using hgk1
      have HBK : Hid (Below wA.heap.size (wA.setCell ⟨g, k * 3 + 1, none⟩ (.slice (some ⟨ga, 0, none⟩) t.attrs.length capa')) wB0) := Lib.hid (by simpa using hbK)
      have hszB : wA.heap.size ≤ wB0.heap.size := by have := HBK.out.size; simpa using this
      have HOK := Lib.hid hoK
      have HRB : Hid (wB0.ownsRow w.heap.size 44 3 (.slice (some ⟨g, 0, none⟩) s.length cap1) s.length ((ps.set k (t, .slice (some ⟨ga, 0, none⟩) t.attrs.length capa', .slice Ak t.key.length capk)).flatMap tabC)) := Lib.hid (by
        have := HS1.out.1
        rw [HE1.out] at this
        exact own_heap this (fun q e => by cases e; exact HBK.out.block g (by omega)))
      have hkp1 : k < (ps.set k (t, .slice (some ⟨ga, 0, none⟩) t.attrs.length capa', .slice Ak t.key.length capk)).length := by simpa using hkp
      have y3 : wB0.cell? ⟨g, k * 3 + 1, none⟩ = some (.slice (some ⟨ga, 0, none⟩) t.attrs.length capa') := by
        rw [HRB.out.cellAt _ (by omega), flat_get tabC_len _ k 1 hkp1 (by decide), List.getElem_set_self]; rfl
      have y2a : wB0.cell? ⟨g, k * 3 + 2, none⟩ = some (.slice Ak t.key.length capk) := by
        rw [HRB.out.cellAt _ (by omega), flat_get tabC_len _ k 2 hkp1 (by decide), List.getElem_set_self]; rfl
      have y2f : wB0.frozen? ⟨g, k * 3 + 2, none⟩ = false := HRB.out.frozenAt _
      have HS2 := Lib.hid (HRB.out.stored (k * 3 + 2) (.slice (some ⟨gk, 0, none⟩) t.key.length capk'))
      have HE2 := Lib.hid (flat_set tabC_len _ k 2 hkp1 (.slice (some ⟨gk, 0, none⟩) t.key.length capk') (t, .slice (some ⟨ga, 0, none⟩) t.attrs.length capa', .slice (some ⟨gk, 0, none⟩) t.key.length capk') (by decide) (by rw [List.getElem_set_self]; rfl))
      clear hoK hbK y1a y1f y2 hkp1 hgk1
      go_wp2_with fail
      obtain ⟨wB, hwB⟩ : ∃ W, wB0.setCell ⟨g, k * 3 + 2, none⟩ (.slice (some ⟨gk, 0, none⟩) t.key.length capk') = W := ⟨_, rfl⟩
      rw [hwB]
      have HRW : Hid (wB.ownsRow w.heap.size 44 3 (.slice (some ⟨g, 0, none⟩) s.length cap1) s.length ((ps.set k (t, .slice (some ⟨ga, 0, none⟩) t.attrs.length capa', .slice (some ⟨gk, 0, none⟩) t.key.length capk')).flatMap tabC)) := Lib.hid (by
        have := HS2.out.1
        rw [HE2.out, List.set_set, hwB] at this
        exact this)
      have hszW : wB.heap.size = wB0.heap.size := by rw [← hwB]; simp
      have HOA2 : Hid (wB.ownsRow wo.heap.size 53 6 (.slice (some ⟨ga, 0, none⟩) t.attrs.length capa') t.attrs.length (qs.flatMap attrC)) := Lib.hid (by
        refine own_heap HOA.out (fun q e => ?_)
        cases e
        rw [← hwB, Below.heap_setCell _ _ _ _ (by show ga ≠ g; omega), HBK.out.block ga (by omega), Below.heap_setCell _ _ _ _ (by show ga ≠ g; omega)])
      have HOK2 : Hid (wB.ownsRow wo.heap.size 3 1 (.slice (some ⟨gk, 0, none⟩) t.key.length capk') t.key.length (t.key.flatMap intC)) := Lib.hid (by
        refine own_base (own_heap HOK.out (fun q e => ?_)) (by simpa using hszA)
        cases e
        rw [← hwB, Below.heap_setCell _ _ _ _ (by show gk ≠ g; omega)])
      have HTW : Hid (Tch (fun b => b = g ∨ wo.heap.size ≤ b) wo wB) := Lib.hid (by
        have t1 : Tch (fun b => b = g ∨ wo.heap.size ≤ b) wo wA := Tch.of_below HBA.out
        have t2 := t1.set (p := ⟨g, k * 3 + 1, none⟩) (Or.inl rfl) (.slice (some ⟨ga, 0, none⟩) t.attrs.length capa')
        have t3 : Tch (fun b => b = g ∨ wo.heap.size ≤ b) wo wB0 := t2.trans (Tch.of_below (by simpa using HBK.out))
        rw [← hwB]
        exact t3.set (p := ⟨g, k * 3 + 2, none⟩) (Or.inl rfl) _)
      have y4 : wB.cell? ⟨g, k * 3 + 1, none⟩ = some (.slice (some ⟨ga, 0, none⟩) t.attrs.length capa') := by
        rw [HRW.out.cellAt _ (by omega), flat_get tabC_len _ k 1 (by simpa using hkp) (by decide), List.getElem_set_self]; rfl
      have hgaB : ga < wB.heap.size := by omega
      clear hwB y3 y2a y2f
      go_loopw [42] (fun i w3 => ∃ (m : Nat) (qs : List (AttrT × Value)), m ≤ t.attrs.length ∧ i = .int .i64 (m : Int) ∧ Inner w w3 wo.heap.size ga capa' t.attrs qs m ∧ Tch (fun b => b = ga ∨ wB.heap.size ≤ b) wB w3) (fun i _ => t.attrs.length - (intOf i).toNat)
      case atStart => exact ⟨0, qs, by omega, by simp, ⟨HQ.out, HOA2.out, fun j hj _ => HQS.out _ (List.getElem_mem hj), fun j _ hj => by omega, fun i j _ _ _ hj => by omega⟩, Tch.refl _ _⟩
      case round =>
        clear HQ HQS HQL
        obtain ⟨m, qs, hm, rfl, hin, htw⟩ := hrel
        have HI := Lib.hid hin
        have HTI := Lib.hid htw
        have hql := hin.len
        have hszi : wB.heap.size ≤ wr.heap.size := htw.size
        have z1 : wr.cell? ⟨g, k * 3 + 1, none⟩ = some (.slice (some ⟨ga, 0, none⟩) t.attrs.length capa') := htw.cell y4 (by omega)
        clear hin htw
        by_cases hmt : m < t.attrs.length
        · have hmq : m < qs.length := by omega
          obtain ⟨⟨a, wv⟩, hqm⟩ : ∃ q, qs[m] = q := ⟨_, rfl⟩
          have HQM := Lib.hid hqm
          have hstr := HI.out.old m hmq (Nat.le_refl _)
          rw [hqm] at hstr
          replace hstr : Strs w wv a.was := hstr
          obtain ⟨Aw, capw, rfl, hcw⟩ : ∃ A cap, wv = .slice A a.was.length cap ∧ a.was.length ≤ cap := by
            obtain ⟨A, cap, e, hc, _⟩ := hstr
            exact ⟨A, cap, e, hc⟩
          have hal : a.was.length ≤ 24 := HMT.out.2.2 a (by
            have := HI.out.fst
            rw [← this]
            exact List.mem_map.2 ⟨qs[m], List.getElem_mem hmq, by rw [hqm]⟩)
          have HBw : Hid (Below w.heap.size w wr) := Lib.hid (HBr.out.trans (((HTW.out.trans (HTI.out.wider (fun b hb h => by omega))).below (B := w.heap.size) (by omega) (fun i hi => by omega))))
          have z2 : wr.cell? ⟨ga, m * 6 + 2, none⟩ = some (.slice Aw a.was.length capw) := by
            rw [HI.out.row.cellAt _ (by omega), flat_get attrC_len qs m 2 hmq (by decide), hqm]; rfl
          have z2f : wr.frozen? ⟨ga, m * 6 + 2, none⟩ = false := HI.out.row.frozenAt _
          have HC1 := Lib.hid (fun W (hW : Below w.heap.size w W) => cloneS_any Aw a.was.length capw (a.was.map str) (by omega) W (src_strs (hstr.below hW)).2)
          have j1 : (0 : Int) ≤ (m : Int) := by omega
          have htl : t.attrs.length ≤ 24 := HMT.out.1
          have j2 : (m : Int) < (t.attrs.length : Int) := by omega
          clear hstr hqm
          go_wp2_with fail
          go_region_with (first | (go_at_call 57; refine (HC1.out _ (HBw.out.trans (below_drewN _ _ 1))).mono ?_; rintro e wc ⟨u, rfl, hou, hbc⟩; have hbc1 := (below_drewN wr.heap.size wr 1).trans (by simpa using hbc); have HCU := Lib.hid hou; have HCB := Lib.hid hbc1; clear hou hbc; have p0 := cellB hbc1 z1; have p1 := cellB hbc1 z2; have p2 := frozenB hbc1 z2 z2f; clear hbc1; obtain ⟨Au, cu, rfl⟩ := own_isSl HCU.out))
          all_goals
            have HU : Hid (OwnS wc wr.heap.size (.slice Au a.was.length cu) qs[m].1.was) := Lib.hid (by rw [HQM.out]; exact HCU.out)
            have HST := Lib.hid (HI.out.step hmq (by have := HTW.out.size; omega) HCB.out HU.out)
            have HTN := Lib.hid (HTI.out.trans ((Tch.of_below (S := fun b => b = ga ∨ wB.heap.size ≤ b) HCB.out).set (p := ⟨ga, m * 6 + 2, none⟩) (Or.inl rfl) (.slice Au a.was.length cu)))
            clear p0 p1 p2 z1 z2 z2f HCU HCB HC1
            go_wp2_with fail
            go_roundw
            case rel => exact ⟨m + 1, _, by omega, by simp, HST.out, HTN.out⟩
            case measure => simp [intOf]; omega
        · have HOT : Hid (OwnT wr wo.heap.size wr.heap.size (t, .slice (some ⟨ga, 0, none⟩) t.attrs.length capa', .slice (some ⟨gk, 0, none⟩) t.key.length capk') qs) := Lib.hid (by
            have hk2 : wr.ownsRow wo.heap.size 3 1 (.slice (some ⟨gk, 0, none⟩) t.key.length capk') t.key.length (t.key.flatMap intC) := by
              have hne := own_ne HOK2.out HOA2.out (by decide) gk rfl
              refine own_heap HOK2.out (fun q e => ?_)
              cases e
              exact HTI.out.block gk (HOK2.out.lt gk rfl).2 (fun h => by
                rcases h with h | h
                · exact hne (by rw [h]; rfl)
                · have := (HOK2.out.lt gk rfl).2; omega)
            have hi := HI.out
            rw [show m = t.attrs.length by omega] at hi
            exact hi.done rfl hk2)
          have HRW2 : Hid (wr.ownsRow w.heap.size 44 3 (.slice (some ⟨g, 0, none⟩) s.length cap1) s.length ((ps.set k (ps[k].1, .slice (some ⟨ga, 0, none⟩) t.attrs.length capa', .slice (some ⟨gk, 0, none⟩) t.key.length capk')).flatMap tabC)) := Lib.hid (by
            rw [HPK.out]
            refine own_heap HRW.out (fun q e => ?_)
            cases e
            exact HTI.out.block g (HRW.out.lt g rfl).2 (fun h => by omega))
          have HTE : Hid (Tch (fun b => b = g ∨ wo.heap.size ≤ b) wo wr) := Lib.hid (HTW.out.trans (HTI.out.wider (fun b hb h => by
            rcases h with h | h
            · subst h; exact Or.inr (by simpa using hga1)
            · exact Or.inr (by omega))))
          have HN := Lib.hid (HO.out.step hkp HRW2.out HTE.out (by rw [HPK.out]; exact HOT.out))
          have HTN := Lib.hid (HT.out.trans (HTE.out.wider (fun b hb h => by omega)))
          clear z1
          go_wp2_with fail
          go_roundw
          case rel => exact ⟨k + 1, _, _, by omega, by simp, HN.out, HTN.out⟩
          case measure => simp [intOf]; omega
    · have HF : Hid (OwnSch wo w.heap.size g cap1 s ps c) := Lib.hid (by
        have ho := HO.out
        have hk' : k = s.length := by omega
        subst hk'
        exact ⟨ho.fst, ho.row, ho.lo, ho.up, ho.hi, fun j hj => ho.own j hj (by have := ho.len; omega)⟩)
      have rr : wo.cell? ⟨w.heap.size + 1, 0, none⟩ = some (.slice none 0 0) := HT.out.cell (Cell.alloc r1 _) (by omega)
      have rrf : wo.frozen? ⟨w.heap.size + 1, 0, none⟩ = false := HT.out.frozen (v := .slice none 0 0) (Cell.alloc r1 _) (frozenB (below_box w1 _) r1 r1f) (by omega)
      go_wp2_with fail
      refine bodyPost_ret (v := .agg #[.slice (some ⟨g, 0, none⟩) s.length cap1]) (by simp [results, Tryz.results32, go_sem, rr]) rfl ⟨g, cap1, ps, c, rfl, ?_, HBr.out.setCell (p := ⟨w.heap.size + 1, 0, none⟩) (by show w.heap.size ≤ w.heap.size + 1; omega) _⟩
      exact HF.out.keep (by simp) (fun b hb => Below.heap_setCell _ _ _ _ (by show b ≠ w.heap.size + 1; omega))
end Go.Proofs.YteokcgfbhaeklaaGreatDoor

