/- Words of layer 5 on worlds: lists of numbers and of texts; what the library's functions return. -/
import Derived.Test.YtoifcfocffcmcaaDoorKBase
import Derived.Test.YtoifcfocffcmcaaDoorSkMath
import Derived.Test.YtoifcfocffcmcaaDoorShelf
import Derived.Laws.AppendOwnNone
import Derived.Lib.SmallJoins
namespace Go.Proofs.YtoifcfocffcmcaaDoor
open Go.RowKit

/-- A slice whose cells hold the numbers l. -/
def Ints (w : World) (v : Value) (l : List Int) : Prop :=
  ∃ (A : Option Addr) (cap : Nat), v = .slice A l.length cap ∧ l.length ≤ cap ∧ (A = none → cap = 0) ∧ ∀ i (h : i < l.length), ∃ b off, A = some ⟨b, off, none⟩ ∧ w.cell? ⟨b, off + i, none⟩ = some (.int .i64 l[i])
theorem Ints.below {w w1 : World} {v : Value} {l : List Int} (h : Ints w v l) (hb : Below w.heap.size w w1) : Ints w1 v l := by
  obtain ⟨A, cap, e, hc, hn, f⟩ := h
  refine ⟨A, cap, e, hc, hn, fun i hi => ?_⟩
  obtain ⟨b, off, h1, h2⟩ := f i hi
  exact ⟨b, off, h1, cellB hb h2⟩
theorem ints_nil (w : World) : Ints w (.slice none 0 0) [] := ⟨none, 0, rfl, Nat.le_refl _, fun _ => rfl, fun i h => absurd h (by simp)⟩
/-- A list of numbers that is not empty: its block. -/
theorem Ints.block {w : World} {v : Value} {l : List Int} (h : Ints w v l) (hl : 0 < l.length) : ∃ b off cap, v = .slice (some ⟨b, off, none⟩) l.length cap ∧ l.length ≤ cap ∧ ∀ i (h : i < l.length), w.cell? ⟨b, off + i, none⟩ = some (.int .i64 l[i]) := by
  obtain ⟨A, cap, e, hc, hn, f⟩ := h
  obtain ⟨b, off, rfl, _⟩ := f 0 hl
  refine ⟨b, off, cap, e, hc, fun i hi => ?_⟩
  obtain ⟨b', off', e', h2⟩ := f i hi
  cases e'
  exact h2
theorem Ints.spot {w : World} {A : Option Addr} {n cap : Nat} {l : List Int} (h : Ints w (.slice A n cap) l) (hl : 0 < l.length) : n = l.length ∧ n ≤ cap ∧ ∃ b off, A = some ⟨b, off, none⟩ ∧ ∀ i (h : i < l.length), w.cell? ⟨b, off + i, none⟩ = some (.int .i64 l[i]) := by
  obtain ⟨b, off, cap', e, hc, hx⟩ := h.block hl
  injection e with e1 e2 e3
  exact ⟨e2, by omega, b, off, e1, hx⟩
theorem Ints.size {w : World} {A : Option Addr} {n cap : Nat} {l : List Int} (h : Ints w (.slice A n cap) l) : n = l.length ∧ n ≤ cap := by
  obtain ⟨A', cap', e, hc, _⟩ := h
  injection e with e1 e2 e3
  exact ⟨e2, by omega⟩
theorem Strs.size {w : World} {A : Option Addr} {n cap : Nat} {l : List (List UInt8)} (h : Strs w (.slice A n cap) l) : n = l.length ∧ n ≤ cap := by
  obtain ⟨A', cap', e, hc, _⟩ := h
  injection e with e1 e2 e3
  exact ⟨e2, by omega⟩
theorem Strs.block {w : World} {v : Value} {l : List (List UInt8)} (h : Strs w v l) (hl : 0 < l.length) : ∃ b off cap, v = .slice (some ⟨b, off, none⟩) l.length cap ∧ l.length ≤ cap ∧ ∀ i (h : i < l.length), w.cell? ⟨b, off + i, none⟩ = some (str l[i]) := by
  obtain ⟨A, cap, e, hc, hn, f⟩ := h
  obtain ⟨b, off, rfl, _⟩ := f 0 hl
  refine ⟨b, off, cap, e, hc, fun i hi => ?_⟩
  obtain ⟨b', off', e', h2⟩ := f i hi
  cases e'
  exact h2
theorem Strs.spot {w : World} {A : Option Addr} {n cap : Nat} {l : List (List UInt8)} (h : Strs w (.slice A n cap) l) (hl : 0 < l.length) : n = l.length ∧ n ≤ cap ∧ ∃ b off, A = some ⟨b, off, none⟩ ∧ ∀ i (h : i < l.length), w.cell? ⟨b, off + i, none⟩ = some (str l[i]) := by
  obtain ⟨b, off, cap', e, hc, hx⟩ := h.block hl
  injection e with e1 e2 e3
  exact ⟨e2, by omega, b, off, e1, hx⟩
/-- A part of a list. -/
theorem Ints.part {w : World} {b off : Nat} {l : List Int} (hc : ∀ i (h : i < l.length), w.cell? ⟨b, off + i, none⟩ = some (.int .i64 l[i])) {s n c : Nat} (h : s + n ≤ l.length) (hn : n ≤ c) :
    Ints w (.slice (some ⟨b, off + s, none⟩) n c) ((l.drop s).take n) := by
  have e : ((l.drop s).take n).length = n := by simp; omega
  refine ⟨_, c, by rw [e], by rw [e]; exact hn, (fun h => by cases h), fun i hi => ⟨b, off + s, rfl, ?_⟩⟩
  rw [e] at hi
  rw [Nat.add_assoc, hc (s + i) (by omega)]
  simp
/-- What a function returns that has a list of numbers and an error. -/
def ListPost (w : World) (r : List Int × Int) (e : Ending) (w' : World) : Prop := ∃ v, e = .returned (.tuple #[v, .int .i64 r.2]) ∧ Ints w' v r.1 ∧ Below w.heap.size w w'
def KeysPost (w : World) (r : List (List UInt8) × Int) (e : Ending) (w' : World) : Prop := ∃ v, e = .returned (.tuple #[v, .int .i64 r.2]) ∧ Strs w' v r.1 ∧ Below w.heap.size w w'
/-- A slice of numbers, of texts, that the call made. -/
abbrev OwnI (w : World) (base : Nat) (v : Value) (l : List Int) : Prop := w.ownsRow base 3 1 v l.length (l.map (Value.int .i64))
abbrev OwnS (w : World) (base : Nat) (v : Value) (l : List (List UInt8)) : Prop := w.ownsRow base 9 1 v l.length (l.map str)
theorem infoStr : (Tryd.prog.info? 9).map (fun i => (i.zero, i.size, i.bytes)) = some (some (.string ⟨#[]⟩), 1, 16) := by kernel_rfl
theorem strs_of_owns {w : World} {base : Nat} {e : TypeId} {v : Value} {l : List (List UInt8)} (h : w.ownsRow base e 1 v l.length (l.map str)) : Strs w v l := by
  rcases h.2 with ⟨rfl, h0⟩ | ⟨g, cap, cur, rfl, _, hg, hle, _, hsz, htk⟩
  · have : l = [] := List.length_eq_zero_iff.1 h0
    subst this
    exact strs_nil w
  · refine ⟨_, cap, rfl, hle, (fun x => by cases x), fun i hi => ⟨g, 0, rfl, ?_⟩⟩
    have h1 : (cur.toList.take (l.length * 1))[i]? = some (str l[i]) := by rw [htk, List.getElem?_map, List.getElem?_eq_getElem hi]; rfl
    rw [List.getElem?_take_of_lt (by omega)] at h1
    rw [Array.getElem?_toList] at h1
    simp [World.cell?, hg, h1]
theorem ints_of_owns {w : World} {base : Nat} {e : TypeId} {v : Value} {l : List Int} (h : w.ownsRow base e 1 v l.length (l.map (Value.int .i64))) : Ints w v l := by
  rcases h.2 with ⟨rfl, h0⟩ | ⟨g, cap, cur, rfl, _, hg, hle, _, hsz, htk⟩
  · have : l = [] := List.length_eq_zero_iff.1 h0
    subst this
    exact ints_nil w
  · refine ⟨_, cap, rfl, hle, (fun x => by cases x), fun i hi => ⟨g, 0, rfl, ?_⟩⟩
    have h1 : (cur.toList.take (l.length * 1))[i]? = some ((Value.int .i64) l[i]) := by rw [htk, List.getElem?_map, List.getElem?_eq_getElem hi]; rfl
    rw [List.getElem?_take_of_lt (by omega)] at h1
    rw [Array.getElem?_toList] at h1
    simp [World.cell?, hg, h1]
theorem below_grown {base : Nat} {e : TypeId} {w w1 w2 : World} {v : Value} {n : Nat} {xs : List Value} (hb : Below base w w1) (hB : base ≤ w1.heap.size) (ho : w1.ownsRow base e 1 v n xs) (hg : w1.grownBy w2 v.ownBlock) : Below base w w2 :=
  hb.grown hg hB (fun k e => by
    rcases ho.2 with ⟨rfl, _⟩ | ⟨g, cap, cur, rfl, hbg, _⟩
    · cases e
    · have : g = k := Option.some.inj e
      omega)
theorem add_none (b off n : Nat) : (⟨b, off, none⟩ : Addr).add n = ⟨b, off + n, none⟩ := by
  unfold Addr.add
  split
  · rename_i h
    subst h
    rfl
  · rfl
/-- append(s, x...), where s is of the call's own and x any list of texts. -/
theorem wp_append {w : World} {ops : Array Oper} {rest : List Oper} {o : Oper} {a : Act} {Q : Exit → Act → World → Prop} (hgd : o.guard = none) (s x : Operand)
    (ho : o.op = .call { callee := .builtin .append, args := #[s, x], argTypes := #[22, 22] }) (base : Nat) (v : Value) (l : List (List UInt8)) (hs : a.eval s = v) (hown : OwnS w base v l)
    (u : Value) (m : List (List UInt8)) (hx : a.eval x = u) (hu : Strs w u m) (hlen : l.length + m.length ≤ 1000000) (hbase : base ≤ w.heap.size)
    (h : ∀ v' w', OwnS w' base v' (l ++ m) → w.grownBy w' v.ownBlock → wpList Tryd.prog ops Q rest (a.put o.dst v') w') : wpList Tryd.prog ops Q (o :: rest) a w := by
  obtain ⟨i0, hi, hz0, hz1, hz2⟩ := info_parts infoStr
  obtain ⟨A, cap, rfl, hcap, hn, hc⟩ := hu
  cases A with
  | none =>
    have h0 := hn rfl
    subst h0
    have hm : m = [] := List.length_eq_zero_iff.1 (by omega)
    subst hm
    refine wpList_append_own_none hgd s x 22 ho base 9 i0 1 Tryd.underlying22 hi v l.length _ hs hown hx (h v w ?_ ⟨rfl, rfl, rfl, Nat.le_refl _, fun _ _ _ => rfl⟩)
    rw [List.append_nil]
    exact hown
  | some ad =>
    refine wpList_append_own w hgd s x 22 ho base 9 i0 (.string ⟨#[]⟩) 1 16 Tryd.underlying22 hi hz0 hz1 hz2 rfl (by decide) v l.length _ hs hown ad m.length cap (m.map str) hx (by simp) (fun j u hj => ?_) (fun u hu => ?_) (by unfold maxLen; omega) (by omega) hbase (fun v' w' h1 h2 _ => h v' w' ?_ h2)
    · rw [List.getElem?_map] at hj
      cases hm : m[j]? with
      | none => rw [hm] at hj; cases hj
      | some t =>
        rw [hm] at hj
        cases hj
        obtain ⟨hlt, he⟩ := List.getElem?_eq_some_iff.1 hm
        obtain ⟨b, off, e, h2⟩ := hc j hlt
        cases e
        rw [he] at h2
        rw [add_none]
        exact h2
    · obtain ⟨t, _, rfl⟩ := List.mem_map.1 hu
      rfl
    · unfold OwnS
      rw [List.length_append, List.map_append]
      exact h1

/-- append(s, x...), where s is of the call's own and x any list of numbers. -/
theorem wp_appendI {w : World} {ops : Array Oper} {rest : List Oper} {o : Oper} {a : Act} {Q : Exit → Act → World → Prop} (hgd : o.guard = none) (s x : Operand)
    (ho : o.op = .call { callee := .builtin .append, args := #[s, x], argTypes := #[23, 23] }) (base : Nat) (v : Value) (l : List Int) (hs : a.eval s = v) (hown : OwnI w base v l)
    (u : Value) (m : List Int) (hx : a.eval x = u) (hu : Ints w u m) (hlen : l.length + m.length ≤ 1000000) (hbase : base ≤ w.heap.size)
    (h : ∀ v' w', OwnI w' base v' (l ++ m) → w.grownBy w' v.ownBlock → wpList Tryd.prog ops Q rest (a.put o.dst v') w') : wpList Tryd.prog ops Q (o :: rest) a w := by
  obtain ⟨i0, hi, hz0, hz1, hz2⟩ := info_parts infoInt
  obtain ⟨A, cap, rfl, hcap, hn, hc⟩ := hu
  cases A with
  | none =>
    have h0 := hn rfl
    subst h0
    have hm : m = [] := List.length_eq_zero_iff.1 (by omega)
    subst hm
    refine wpList_append_own_none hgd s x 23 ho base 3 i0 1 Tryd.underlying23 hi v l.length _ hs hown hx (h v w ?_ ⟨rfl, rfl, rfl, Nat.le_refl _, fun _ _ _ => rfl⟩)
    rw [List.append_nil]
    exact hown
  | some ad =>
    refine wpList_append_own w hgd s x 23 ho base 3 i0 (.int .i64 0) 1 8 Tryd.underlying23 hi hz0 hz1 hz2 rfl (by decide) v l.length _ hs hown ad m.length cap (m.map (Value.int .i64)) hx (by simp) (fun j u hj => ?_) (fun u hu => ?_) (by unfold maxLen; omega) (by omega) hbase (fun v' w' h1 h2 _ => h v' w' ?_ h2)
    · rw [List.getElem?_map] at hj
      cases hm : m[j]? with
      | none => rw [hm] at hj; cases hj
      | some t =>
        rw [hm] at hj
        cases hj
        obtain ⟨hlt, he⟩ := List.getElem?_eq_some_iff.1 hm
        obtain ⟨b, off, e, h2⟩ := hc j hlt
        cases e
        rw [he] at h2
        rw [add_none]
        exact h2
    · obtain ⟨t, _, rfl⟩ := List.mem_map.1 hu
      rfl
    · unfold OwnI
      rw [List.length_append, List.map_append]
      exact h1

/-! ### Block g holds the values that f gives from 0 to n - 1. -/
def Row (w : World) (T : TypeId) (g n : Nat) (f : Nat → Value) : Prop := w.heap[g]? = some (.cells ((List.range n).map f).toArray T)
theorem Row.cell {w : World} {T : TypeId} {g n : Nat} {f : Nat → Value} (h : Row w T g n f) {k : Nat} (hk : k < n) : w.cell? ⟨g, k, none⟩ = some (f k) := by
  unfold Row at h
  simp [World.cell?, h, hk]
theorem Row.free {w : World} {T : TypeId} {g n : Nat} {f : Nat → Value} (h : Row w T g n f) (k : Nat) : w.frozen? ⟨g, k, none⟩ = false := by
  unfold Row at h
  simp [World.frozen?, h]
theorem Row.lt {w : World} {T : TypeId} {g n : Nat} {f : Nat → Value} (h : Row w T g n f) : g < w.heap.size := (Array.getElem?_eq_some_iff.1 h).1
theorem Row.below {w w1 : World} {T : TypeId} {g n : Nat} {f : Nat → Value} (h : Row w T g n f) (hb : Below w.heap.size w w1) : Row w1 T g n f :=
  (hb.block g (Array.getElem?_eq_some_iff.1 h).1).trans h
theorem Row.congr {w : World} {T : TypeId} {g n : Nat} {f f' : Nat → Value} (h : Row w T g n f) (e : ∀ k < n, f k = f' k) : Row w T g n f' := by
  have : (List.range n).map f = (List.range n).map f' := List.map_congr_left (fun k hk => e k (by simpa using hk))
  unfold Row at *
  rw [h, this]
theorem Row.set {w : World} {T : TypeId} {g n : Nat} {f : Nat → Value} (h : Row w T g n f) (k : Nat) (v : Value) : Row (w.setCell ⟨g, k, none⟩ v) T g n (fun x => if x = k then v else f x) := by
  have e : ((List.range n).map f).set k v = (List.range n).map (fun x => if x = k then v else f x) := by
    apply List.ext_getElem
    · simp
    · intro i h1 h2
      rw [List.getElem_set]
      simp only [List.getElem_map, List.getElem_range]
      by_cases q : k = i
      · rw [if_pos q, if_pos q.symm]
      · rw [if_neg q, if_neg (fun z => q z.symm)]
  unfold Row at *
  rw [← e]
  simp [World.setCell, Array.getElem?_modify, h]
/-- The first j of the values of a list, and z for the others. -/
def fillT (l : List Value) (z : Value) (j k : Nat) : Value := if k < j then l.getD k z else z
theorem Row.fill {w : World} {T : TypeId} {g n : Nat} {l : List Value} {z : Value} {j : Nat} (h : Row w T g n (fillT l z j)) (hj : j < l.length) : Row (w.setCell ⟨g, j, none⟩ l[j]) T g n (fillT l z (j + 1)) := by
  refine (h.set j l[j]).congr (fun k _ => ?_)
  unfold fillT
  by_cases q : k = j
  · subst q
    rw [if_pos rfl, if_pos (by omega)]
    simp [List.getD, hj]
  · rw [if_neg q]
    by_cases q2 : k < j
    · rw [if_pos q2, if_pos (by omega)]
    · rw [if_neg q2, if_neg (by omega)]
theorem row_made {w : World} {base g n T : Nat} {z : Value} (l : List Value) (h : w.ownsRow base T 1 (.slice (some ⟨g, 0, none⟩) n n) n (madeCells #[z] n).toList) : Row w T g n (fillT l z 0) ∧ base ≤ g := by
  have h1 := made_list h
  refine ⟨?_, h1.2⟩
  have e : (List.range n).map (fillT l z 0) = List.replicate n z := by
    apply List.ext_getElem
    · simp
    · intro i h1 h2
      simp [fillT]
  unfold Row
  rw [h1.1, e]
theorem Row.ints {w : World} {T : TypeId} {g n : Nat} {l : List Int} {z : Value} (h : Row w T g n (fillT (l.map (Value.int .i64)) z n)) (hl : l.length = n) : Ints w (.slice (some ⟨g, 0, none⟩) n n) l := by
  subst hl
  refine ⟨_, l.length, rfl, Nat.le_refl _, (fun e => by cases e), fun i hi => ⟨g, 0, rfl, ?_⟩⟩
  rw [Nat.zero_add, h.cell hi]
  simp [fillT, hi, List.getD]
theorem Row.strs {w : World} {T : TypeId} {g n : Nat} {l : List (List UInt8)} {z : Value} (h : Row w T g n (fillT (l.map str) z n)) (hl : l.length = n) : Strs w (.slice (some ⟨g, 0, none⟩) n n) l := by
  subst hl
  refine ⟨_, l.length, rfl, Nat.le_refl _, (fun e => by cases e), fun i hi => ⟨g, 0, rfl, ?_⟩⟩
  rw [Nat.zero_add, h.cell hi]
  simp [fillT, hi, List.getD]

/-! ### The library's contracts. -/
theorem extra156 : Builder.Extra Tryd.prog Tryd.lays156_ren where
  sizeBuilder := by kernel_rfl
  liesBuilder := by kernel_rfl
  t5 := Tryd.underlying5
  a5 := Tryd.isAgg5
  z5 := Tryd.sizeOf5
  v5 := Tryd.zeroValue5
  infoByte := by kernel_rfl
  cellsByte := by kernel_rfl
  sizeByte := by kernel_rfl
  neB5 := by decide
theorem min_any (l : List Int) (v : Value) (w : World) (h0 : 0 < l.length) (hl : l.length ≤ 4000) (h : Ints w v l) :
    Calls Tryd.prog 36 #[v] w fun e w' => e = .returned (.int .i64 (Lib.minOf l)) ∧ w' = w := by
  obtain ⟨b, off, cap, rfl, hc, hx⟩ := h.block h0
  have C := Any.slices_Min_int Tryd.lays114 b off l.length cap l w h0 (Nat.le_refl _) (by omega) (fun j hj => by rw [hx j hj]; simp [List.getD, hj])
  rw [List.take_length] at C
  exact C
theorem max_any (l : List Int) (v : Value) (w : World) (h0 : 0 < l.length) (hl : l.length ≤ 4000) (h : Ints w v l) :
    Calls Tryd.prog 39 #[v] w fun e w' => e = .returned (.int .i64 (Lib.maxOf l)) ∧ w' = w := by
  obtain ⟨b, off, cap, rfl, hc, hx⟩ := h.block h0
  have C := Any.slices_Max_int Tryd.lays113 b off l.length cap l w h0 (Nat.le_refl _) (by omega) (fun j hj => by rw [hx j hj]; simp [List.getD, hj])
  rw [List.take_length] at C
  exact C
theorem clone_any (l : List Int) (v : Value) (w : World) (h0 : 0 < l.length) (hl : l.length ≤ 4000) (h : Ints w v l) :
    Calls Tryd.prog 27 #[v] w fun e w' => ∃ v', e = .returned v' ∧ Ints w' v' l ∧ Below w.heap.size w w' := by
  obtain ⟨b, off, cap, rfl, hc, hx⟩ := h.block h0
  have C := Any.slices_Clone_int Tryd.laysNm215 b off l.length cap l w (Nat.le_refl _) (by omega) (fun j hj => by rw [hx j hj]; simp [List.getD, hj])
  rw [List.take_length] at C
  refine C.mono ?_
  rintro e w' ⟨v', rfl, ho, _, hb⟩
  exact ⟨v', rfl, ints_of_owns ho, hb⟩
/-- What the package-level variables of the library hold. -/
def Tab (w : World) : Prop := ∃ t z, w.heap[0]? = some (.cells (Lib.pow10Tab.map fun z => Value.int .u64 z).toArray t z)
theorem Tab.below {w w1 : World} (h : Tab w) (hb : Below w.heap.size w w1) : Tab w1 := by
  obtain ⟨t, z, ht⟩ := h
  exact ⟨t, z, by rw [hb.block _ (Array.getElem?_eq_some_iff.1 ht).1, ht]⟩
theorem Tab.alloc {w : World} (h : Tab w) (o : Obj) : Tab (w.alloc o) := h.below ((Below.refl _ _).alloc (Nat.le_refl _) _)
theorem Tab.tabIs {w : World} (h : Tab w) {name : String} (hn : Tryd.prog.globalNamed name = some 0) : Lib.TabIs Tryd.prog w name .u64 Lib.pow10Tab := by
  obtain ⟨t, z, ht⟩ := h
  unfold Lib.TabIs World.var?
  rw [hn]
  simp only [Option.bind_some]
  rw [ht]
theorem below_grow (B : Nat) (w : World) (hB : B ≤ w.heap.size) (os : Array Obj) : Below B w (Go.Sort.grow w os) := by
  refine ⟨rfl, rfl, rfl, ?_, fun k hk => ?_⟩
  · simp [Go.Sort.grow]
  · simp only [Go.Sort.grow]
    rw [Array.getElem?_append_left (by omega)]
/-- strconv.Itoa. -/
theorem itoa_any (n : Int) (h0 : -9223372036854775808 ≤ n) (h1 : n ≤ 9223372036854775807) (w : World) (h : Tab w) :
    Calls Tryd.prog 40 #[.int .i64 n] w fun e w' => e = .returned (str (Lib.itoa n)) ∧ Below w.heap.size w w' := by
  refine (Any.strconv_Itoa Tryd.laysM171 n h0 h1 w (h.tabIs (by kernel_rfl))).mono ?_
  rintro e w' ⟨rfl, k, os, rfl⟩
  exact ⟨rfl, (below_drewN _ w k).trans (below_grow w.heap.size (w.drewN k) (Nat.le_refl _) os)⟩
/-- strings.Join of some texts. -/
theorem join_any (l : List (List UInt8)) (sep : List UInt8) (v : Value) (w : World) (h0 : 0 < l.length) (hl : l.length ≤ 4000) (hj : (Lib.join l sep).length ≤ 1000000) (h : Strs w v l) :
    Calls Tryd.prog 41 #[v, str sep] w fun e w' => e = .returned (str (Lib.join l sep)) ∧ Below w.heap.size w w' := by
  obtain ⟨b, off, cap, rfl, hc, hx⟩ := h.block h0
  have e0 : (l.map (fun x => (⟨x.toArray⟩ : ByteArray))).map (·.data.toList) = l := by rw [List.map_map]; exact List.map_id'' (fun _ => rfl) l
  have C := Any.strings_Join Tryd.lays156 extra156 b off cap (l.map (fun x => (⟨x.toArray⟩ : ByteArray))) ⟨sep.toArray⟩ w (fun j x hj => by
      rw [List.getElem?_map] at hj
      cases hm : l[j]? with
      | none => rw [hm] at hj; cases hj
      | some t =>
        rw [hm] at hj
        cases hj
        obtain ⟨hlt, he⟩ := List.getElem?_eq_some_iff.1 hm
        rw [hx j hlt, he]) (cellLt (by have := hx 0 h0; exact this)) (by simp; omega) (by simpa using hc) (by rw [e0]; show (Lib.join l sep).length ≤ _; omega)
  rw [e0, List.length_map] at C
  exact C
end Go.Proofs.YtoifcfocffcmcaaDoor
