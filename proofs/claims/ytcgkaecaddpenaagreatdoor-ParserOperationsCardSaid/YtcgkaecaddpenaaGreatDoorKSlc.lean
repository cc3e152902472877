/- Slices of structs in memory, whatever the struct: what they hold, what is appended, what may be touched. For every layer from 7 on. -/
import Derived.Test.YtcgkaecaddpenaaGreatDoorKBase
import Derived.ShutString
import Derived.Lib.SlicesS
import Derived.Maps.AppendAt
import Derived.Laws.OwnMore
import Derived.Laws.AppendOwnNone
import Derived.Deep.RegionLaw
import Derived.Deep.AppendLies
import Derived.Deep.Cut
import Derived.Lib.SmallJoins
namespace Go.Proofs.YtcgkaecaddpenaaGreatDoor
open Go.RowKit

abbrev Txt := List UInt8
/-- A slice whose elements, of sz cells each, are the list l, each as R says. -/
def Slc {α : Type} (sz : Nat) (R : World → Nat → Nat → α → Prop) (w : World) (v : Value) (l : List α) : Prop :=
  ∃ (A : Option Addr) (cap : Nat), v = .slice A l.length cap ∧ l.length ≤ cap ∧ (A = none → cap = 0) ∧ ∀ i (h : i < l.length), ∃ b off, A = some ⟨b, off, none⟩ ∧ R w b (off + i * sz) l[i]
theorem Slc.nil {α : Type} {sz : Nat} {R : World → Nat → Nat → α → Prop} (w : World) : Slc sz R w (.slice none 0 0) [] :=
  ⟨none, 0, rfl, Nat.le_refl _, fun _ => rfl, fun i h => absurd h (by simp)⟩
theorem Slc.mono {α : Type} {sz : Nat} {R : World → Nat → Nat → α → Prop} {w w1 : World} {v : Value} {l : List α} (h : Slc sz R w v l) (hR : ∀ b o x, x ∈ l → R w b o x → R w1 b o x) : Slc sz R w1 v l := by
  obtain ⟨A, cap, e, hc, hn, f⟩ := h
  refine ⟨A, cap, e, hc, hn, fun i hi => ?_⟩
  obtain ⟨b, off, h1, h2⟩ := f i hi
  exact ⟨b, off, h1, hR _ _ _ (List.getElem_mem hi) h2⟩
theorem Slc.size {α : Type} {sz : Nat} {R : World → Nat → Nat → α → Prop} {w : World} {A : Option Addr} {n cap : Nat} {l : List α} (h : Slc sz R w (.slice A n cap) l) : n = l.length ∧ n ≤ cap ∧ (A = none → cap = 0) := by
  obtain ⟨A', cap', e, hc, hn, _⟩ := h
  injection e with e1 e2 e3
  subst e1 e3
  exact ⟨e2, by omega, hn⟩
/-- A list that is not empty: its block. -/
theorem Slc.spot {α : Type} {sz : Nat} {R : World → Nat → Nat → α → Prop} {w : World} {A : Option Addr} {n cap : Nat} {l : List α} (h : Slc sz R w (.slice A n cap) l) (hl : 0 < l.length) :
    n = l.length ∧ n ≤ cap ∧ ∃ b off, A = some ⟨b, off, none⟩ ∧ ∀ i (h : i < l.length), R w b (off + i * sz) l[i] := by
  obtain ⟨A', cap', e, hc, hn, f⟩ := h
  injection e with e1 e2 e3
  subst e1 e3
  obtain ⟨b, off, rfl, _⟩ := f 0 hl
  refine ⟨e2, by omega, b, off, rfl, fun i hi => ?_⟩
  obtain ⟨b', off', e', h2⟩ := f i hi
  cases e'
  exact h2
theorem Slc.form {α : Type} {sz : Nat} {R : World → Nat → Nat → α → Prop} {w : World} {v : Value} {l : List α} (h : Slc sz R w v l) : ∃ A cap, v = .slice A l.length cap ∧ l.length ≤ cap := by
  obtain ⟨A, cap, e, hc, _⟩ := h
  exact ⟨A, cap, e, hc⟩
def BoolPost (w : World) (r : Bool) (e : Ending) (w' : World) : Prop := e = .returned (.bool r) ∧ Below w.heap.size w w'
def IntPost (w : World) (r : Int) (e : Ending) (w' : World) : Prop := e = .returned (.int .i64 r) ∧ Below w.heap.size w w'
theorem Cell.alloc {w : World} {b o : Nat} {v : Value} (h : w.cell? ⟨b, o, none⟩ = some v) (ob : Obj) : (w.alloc ob).cell? ⟨b, o, none⟩ = some v :=
  cellB ((Below.refl _ _).alloc (Nat.le_refl _) _) h

/-- What append asks of an element type. -/
structure Elem (t e : TypeId) (z : Value) (size bytes : Nat) : Prop where
  ht : Tryz.prog.underlying t = some (.slice e)
  hi : (Tryz.prog.info? e).map (fun i => (i.zero, i.size, i.bytes)) = some (some z, size, bytes)
  hzs : z.cells.size = size
  hpos : 0 < size
  hby : bytes ≤ 200
/-- A list that is to be appended: its cells. -/
structure Src (w : World) (B : Option Addr) (m c : Nat) (size : Nat) (news : List Value) : Prop where
  len : news.length = m * size
  cap : m ≤ c
  nil : B = none → c = 0
  cell : ∀ ad, B = some ad → ∀ j u, news[j]? = some u → w.cell? (ad.add j) = some u
  one : ∀ u ∈ news, u.oneCell' = true
theorem Src.keep {w w1 : World} {B : Option Addr} {m c size : Nat} {news : List Value} (h : Src w B m c size news) (hk : ∀ ad, B = some ad → ∀ j u, w.cell? (ad.add j) = some u → w1.cell? (ad.add j) = some u) : Src w1 B m c size news :=
  ⟨h.len, h.cap, h.nil, fun ad e j u hj => hk ad e j u (h.cell ad e j u hj), h.one⟩
theorem cellBA {w w1 : World} {a : Addr} {v : Value} (hb : Below w.heap.size w w1) (hc : w.cell? a = some v) : w1.cell? a = some v := by
  refine (hb.cell (p := a) ?_).trans hc
  rcases Nat.lt_or_ge a.block w.heap.size with h | h
  · exact h
  · simp [World.cell?, Array.getElem?_eq_none h] at hc
theorem Src.below {w w1 : World} {B : Option Addr} {m c size : Nat} {news : List Value} (h : Src w B m c size news) (hb : Below w.heap.size w w1) : Src w1 B m c size news :=
  h.keep fun _ _ _ _ hc => cellBA hb hc
theorem run_app {t e : TypeId} {z : Value} {size bytes : Nat} (E : Elem t e z size bytes) {w : World} {base ty : Nat} {v : Value} {n : Nat} {xs : List Value} (hown : w.ownsRow base e size v n xs)
    {B : Option Addr} {m c : Nat} {news : List Value} (hs : Src w B m c size news) (hl : n + m ≤ 100000) (hbase : base ≤ w.heap.size) :
    ∃ v' w', (Builtin.append_ #[t, t] ty #[v, .slice B m c]).run Tryz.prog w = .ok v' w' ∧ w'.ownsRow base e size v' (n + m) (xs ++ news) ∧ w.grownBy w' v.ownBlock ∧ (v'.ownBlock = v.ownBlock ∨ v'.ownBlock = some w.heap.size) := by
  obtain ⟨i0, hi, hz0, hz1, hz2⟩ := info_parts E.hi
  cases B with
  | none =>
    have h0 := hs.nil rfl
    have hc := hs.cap
    subst h0
    obtain rfl : m = 0 := by omega
    have hn : news = [] := List.eq_nil_of_length_eq_zero (by simpa using hs.len)
    subst hn
    exact ⟨v, w, run_append_owned_none w base t ty e i0 size E.ht hi v n xs hown, by simpa using hown, World.grownBy.refl w _, Or.inl rfl⟩
  | some ad =>
    obtain ⟨v', w', h1, h2, h3, _, h5⟩ := run_append_own_at (P := Tryz.prog) w base t ty e i0 z size bytes E.ht hi hz0 hz1 hz2 E.hzs E.hpos v n xs hown ad m c news hs.len (hs.cell ad rfl) hs.one (by unfold maxLen; omega)
      (Nat.le_trans (Nat.mul_le_mul hl E.hby) (by omega)) hbase
    exact ⟨v', w', h1, h2, h3, h5⟩
theorem wp_app {t e : TypeId} {z : Value} {size bytes : Nat} (E : Elem t e z size bytes) {w : World} {o : Oper} {a : Act} {K : Act → World → Prop} {Q : Exit → Act → World → Prop} (s x : Operand)
    (ho : o.op = .call { callee := .builtin .append, args := #[s, x], argTypes := #[t, t] }) {base : Nat} {v : Value} {n : Nat} {xs : List Value} (hs : a.eval s = v) (hown : w.ownsRow base e size v n xs)
    {B : Option Addr} {m c : Nat} {news : List Value} (hx : a.eval x = .slice B m c) (hsrc : Src w B m c size news) (hl : n + m ≤ 100000) (hbase : base ≤ w.heap.size)
    (h : ∀ v' w', w'.ownsRow base e size v' (n + m) (xs ++ news) → w.grownBy w' v.ownBlock → (v'.ownBlock = v.ownBlock ∨ v'.ownBlock = some w.heap.size) → K (a.put o.dst v') w') : o.wp Tryz.prog a w K Q := by
  obtain ⟨v', w', hrun, h2, h3, h4⟩ := run_app E (ty := o.type) hown hsrc hl hbase
  unfold Oper.wp execOp
  simp only [ho, resolve, invoke, builtin, Sem.run_bind, Sem.run_pure, Result.andThen_ok, List.map_toArray, List.map_cons, List.map_nil, hs, hx, hrun]
  exact h v' w' h2 h3 h4
theorem wpList_app {t e : TypeId} {z : Value} {size bytes : Nat} (E : Elem t e z size bytes) {w : World} {ops : Array Oper} {rest : List Oper} {o : Oper} {a : Act} {Q : Exit → Act → World → Prop} (hgd : o.guard = none) (s x : Operand)
    (ho : o.op = .call { callee := .builtin .append, args := #[s, x], argTypes := #[t, t] }) {base : Nat} {v : Value} {n : Nat} {xs : List Value} (hs : a.eval s = v) (hown : w.ownsRow base e size v n xs)
    {B : Option Addr} {m c : Nat} {news : List Value} (hx : a.eval x = .slice B m c) (hsrc : Src w B m c size news) (hl : n + m ≤ 100000) (hbase : base ≤ w.heap.size)
    (h : ∀ v' w', w'.ownsRow base e size v' (n + m) (xs ++ news) → w.grownBy w' v.ownBlock → (v'.ownBlock = v.ownBlock ∨ v'.ownBlock = some w.heap.size) → wpList Tryz.prog ops Q rest (a.put o.dst v') w') : wpList Tryz.prog ops Q (o :: rest) a w :=
  wpList_plain hgd fun _ hK => wp_app E s x ho hs hown hx hsrc hl hbase fun v' w' h2 h3 h4 => hK _ _ (h v' w' h2 h3 h4)
theorem step_app {t e : TypeId} {z : Value} {size bytes : Nat} (E : Elem t e z size bytes) {w : World} {ops : Array Oper} {o : Oper} {a : Act} {K : Act → World → Prop} {Q : Exit → Act → World → Prop} {G : Prop} (hgd : o.guard = none) (s x : Operand)
    (ho : o.op = .call { callee := .builtin .append, args := #[s, x], argTypes := #[t, t] }) {base : Nat} {v : Value} {n : Nat} {xs : List Value} (hs : a.eval s = v) (hown : w.ownsRow base e size v n xs)
    {B : Option Addr} {m c : Nat} {news : List Value} (hx : a.eval x = .slice B m c) (hsrc : Src w B m c size news) (hl : n + m ≤ 100000) (hbase : base ≤ w.heap.size)
    (h : ∀ v' w', w'.ownsRow base e size v' (n + m) (xs ++ news) → w.grownBy w' v.ownBlock → (v'.ownBlock = v.ownBlock ∨ v'.ownBlock = some w.heap.size) → K (a.put o.dst v') w') :
    if Region.wanted o (yielded ops a.tmps) = true then Oper.wp Tryz.prog o a w K Q else G := by
  have hw : Region.wanted o (yielded ops a.tmps) = true := by simp [Region.wanted, hgd]
  rw [if_pos hw]
  exact wp_app E s x ho hs hown hx hsrc hl hbase h
theorem elemStr : Elem 42 9 (.string ⟨#[]⟩) 1 16 := ⟨Tryz.underlying42, by kernel_rfl, rfl, by decide, by decide⟩
theorem elemInt : Elem 32 3 (.int .i64 0) 1 8 := ⟨Tryz.underlying32, by kernel_rfl, rfl, by decide, by decide⟩
/-! ### Elements laid flat. -/
theorem flat_len {α : Type} {sz : Nat} {f : α → List Value} (hf : ∀ x, (f x).length = sz) : ∀ l : List α, (l.flatMap f).length = l.length * sz
  | [] => by simp
  | x :: l => by rw [List.flatMap_cons, List.length_append, flat_len hf l, hf, List.length_cons, Nat.succ_mul]; omega
theorem flat_get {α : Type} {sz : Nat} {f : α → List Value} (hf : ∀ x, (f x).length = sz) : ∀ (l : List α) (i k : Nat) (hi : i < l.length), k < sz → (l.flatMap f)[i * sz + k]? = (f l[i])[k]?
  | [], i, k, hi, _ => by simp at hi
  | x :: l, 0, k, _, hk => by
    rw [List.flatMap_cons, Nat.zero_mul, Nat.zero_add, List.getElem?_append_left (by rw [hf]; exact hk)]
    rfl
  | x :: l, i + 1, k, hi, hk => by
    rw [List.flatMap_cons, List.getElem?_append_right (by rw [hf, Nat.succ_mul]; omega), hf, show (i + 1) * sz + k - sz = i * sz + k by rw [Nat.succ_mul]; omega]
    exact flat_get hf l i k (by simpa using hi) hk
theorem add_none (b off n : Nat) : (⟨b, off, none⟩ : Addr).add n = ⟨b, off + n, none⟩ := by
  unfold Addr.add
  split
  · rename_i h
    subst h
    rfl
  · rfl
/-- A slice of elements, whose cells f tells. -/
theorem src_of_slc {α : Type} {sz : Nat} {R : World → Nat → Nat → α → Prop} {f : α → List Value} (hf : ∀ x, (f x).length = sz) (hs : 0 < sz)
    {w : World} {A : Option Addr} {n cap : Nat} {l : List α} (h : Slc sz R w (.slice A n cap) l) (h1 : ∀ x ∈ l, ∀ u ∈ f x, u.oneCell' = true) (hR : ∀ b o x, R w b o x → ∀ k, k < sz → w.cell? ⟨b, o + k, none⟩ = (f x)[k]?) : n = l.length ∧ Src w A n cap sz (l.flatMap f) := by
  obtain ⟨e, hc, hn⟩ := h.size
  obtain ⟨A', cap', e', _, _, hx⟩ := h
  injection e' with e1 e2 e3
  subst e1 e3
  refine ⟨e, by rw [flat_len hf, e], hc, hn, fun ad ea j u hj => ?_, fun u hu => ?_⟩
  · have hjl : j < l.length * sz := by
      have := (List.getElem?_eq_some_iff.1 hj).1
      rwa [flat_len hf] at this
    have hi : j / sz < l.length := Nat.div_lt_of_lt_mul (by rw [Nat.mul_comm]; exact hjl)
    have hk : j % sz < sz := Nat.mod_lt _ hs
    have hjd : j / sz * sz + j % sz = j := by rw [Nat.mul_comm]; exact Nat.div_add_mod j sz
    obtain ⟨b, off, eb, hr⟩ := hx (j / sz) hi
    rw [ea] at eb
    cases eb
    have h2 := hR _ _ _ hr (j % sz) hk
    rw [Nat.add_assoc, hjd] at h2
    rw [add_none, h2, ← flat_get hf l _ _ hi hk, hjd]
    exact hj
  · obtain ⟨x, hm, hx⟩ := List.mem_flatMap.1 hu
    exact h1 x hm u hx
/-- A row of the call's own is a slice of elements. -/
theorem slc_of_own {α : Type} {sz : Nat} {R : World → Nat → Nat → α → Prop} {f : α → List Value} (hf : ∀ x, (f x).length = sz) {w : World} {base : Nat} {e : TypeId} {v : Value} {n : Nat} {l : List α}
    (hn : n = l.length) (h : w.ownsRow base e sz v n (l.flatMap f)) (hR : ∀ b o x, (∀ k, k < sz → w.cell? ⟨b, o + k, none⟩ = (f x)[k]?) → R w b o x) : Slc sz R w v l := by
  subst hn
  rcases h.2 with ⟨rfl, h0⟩ | ⟨g, cap, cur, rfl, _, hg, hle, _, hsz, htk⟩
  · have : l = [] := List.length_eq_zero_iff.1 h0
    subst this
    exact Slc.nil w
  · refine ⟨_, cap, rfl, hle, (fun x => by cases x), fun i hi => ⟨g, 0, rfl, hR _ _ _ fun k hk => ?_⟩⟩
    have hlt : i * sz + k < l.length * sz := by
      have : (i + 1) * sz ≤ l.length * sz := Nat.mul_le_mul_right _ hi
      rw [Nat.succ_mul] at this
      omega
    have h1 : (cur.toList.take (l.length * sz))[i * sz + k]? = (f l[i])[k]? := by rw [htk, flat_get hf l i k hi hk]
    rw [List.getElem?_take_of_lt hlt, Array.getElem?_toList] at h1
    rw [Nat.zero_add]
    simp [World.cell?, hg, h1]
def Ints (w : World) (v : Value) (l : List Int) : Prop := Slc 1 (fun w b o x => w.cell? ⟨b, o, none⟩ = some (.int .i64 x)) w v l
theorem Ints.below {w w1 : World} {v : Value} {l : List Int} (h : Ints w v l) (hb : Below w.heap.size w w1) : Ints w1 v l := Slc.mono h fun _ _ _ _ hx => cellB hb hx
/-- A slice of values, of attributes, of tables; a schema. -/
def intC (x : Int) : List Value := [.int .i64 x]
theorem intC_len (x : Int) : (intC x).length = 1 := rfl
/-- A slice value. -/
def IsSl (v : Value) : Prop := ∃ A n c, v = .slice A n c
theorem IsSl.one {v : Value} (h : IsSl v) : v.oneCell' = true := by obtain ⟨A, n, c, rfl⟩ := h; rfl
theorem Strs.isSl {w : World} {v : Value} {l : List Txt} (h : Strs w v l) : IsSl v := by obtain ⟨A, c, e, _⟩ := h; exact ⟨A, _, c, e⟩
theorem src_ints {w : World} {A : Option Addr} {n cap : Nat} {l : List Int} (h : Ints w (.slice A n cap) l) : n = l.length ∧ Src w A n cap 1 (l.flatMap intC) :=
  src_of_slc intC_len (by decide) h (fun x _ u hu => by simp [intC] at hu; subst hu; rfl) (fun b o x hx k hk => by
    obtain rfl : k = 0 := by omega
    exact hx)
theorem ints_of_own {w : World} {base : Nat} {e : TypeId} {v : Value} {n : Nat} {l : List Int} (hn : n = l.length) (h : w.ownsRow base e 1 v n (l.flatMap intC)) : Ints w v l :=
  slc_of_own intC_len hn h (fun b o x hx => hx 0 (by decide))
theorem src_strs {w : World} {A : Option Addr} {n cap : Nat} {l : List Txt} (h : Strs w (.slice A n cap) l) : n = l.length ∧ Src w A n cap 1 (l.map str) := by
  obtain ⟨A', cap', e', hc, hn, hx⟩ := h
  injection e' with e1 e2 e3
  subst e1 e3
  refine ⟨e2, by rw [List.length_map, e2, Nat.mul_one], by omega, hn, fun ad ea j u hj => ?_, fun u hu => ?_⟩
  · have hjl : j < l.length := by
      have := (List.getElem?_eq_some_iff.1 hj).1
      rwa [List.length_map] at this
    obtain ⟨b, off, eb, h2⟩ := hx j hjl
    rw [ea] at eb
    cases eb
    rw [List.getElem?_map, List.getElem?_eq_getElem hjl] at hj
    cases hj
    rw [add_none]
    exact h2
  · obtain ⟨t, _, rfl⟩ := List.mem_map.1 hu
    rfl
/-! ### What may be touched. -/
structure Tch (S : Nat → Prop) (w w' : World) : Prop where
  os : w'.os = w.os
  tape : w'.tape = w.tape
  output : w'.output = w.output
  size : w.heap.size ≤ w'.heap.size
  block : ∀ b, b < w.heap.size → ¬ S b → w'.heap[b]? = w.heap[b]?
theorem Tch.refl (S : Nat → Prop) (w : World) : Tch S w w := ⟨rfl, rfl, rfl, Nat.le_refl _, fun _ _ _ => rfl⟩
theorem Tch.trans {S : Nat → Prop} {a b c : World} (h : Tch S a b) (k : Tch S b c) : Tch S a c :=
  ⟨k.os.trans h.os, k.tape.trans h.tape, k.output.trans h.output, Nat.le_trans h.size k.size, fun i hi hs => (k.block i (Nat.lt_of_lt_of_le hi h.size) hs).trans (h.block i hi hs)⟩
theorem Tch.wider {S T : Nat → Prop} {a b : World} (h : Tch S a b) (k : ∀ i, i < a.heap.size → S i → T i) : Tch T a b :=
  ⟨h.os, h.tape, h.output, h.size, fun i hi hs => h.block i hi (fun x => hs (k i hi x))⟩
theorem Tch.of_below {S : Nat → Prop} {a b : World} (h : Below a.heap.size a b) : Tch S a b := ⟨h.os, h.tape, h.output, h.size, fun i hi _ => h.block i hi⟩
theorem Tch.of_grown {S : Nat → Prop} {a b : World} {row : Option Nat} (h : a.grownBy b row) (k : ∀ i, row = some i → S i) : Tch S a b :=
  ⟨h.os, h.tape, h.output, h.size, fun i hi hs => h.block i hi (fun e => hs (k i e.symm))⟩
theorem Tch.drewN (S : Nat → Prop) (w : World) (n : Nat) : Tch S w (w.drewN n) := ⟨rfl, rfl, rfl, Nat.le_refl _, fun _ _ _ => rfl⟩
theorem Tch.set {S : Nat → Prop} {a b : World} (h : Tch S a b) {p : Addr} (hp : S p.block) (v : Value) : Tch S a (b.setCell p v) :=
  ⟨h.os, h.tape, h.output, by simpa using h.size, fun i hi hs => (Below.heap_setCell b p v i (fun e => hs (by rw [e]; exact hp))).trans (h.block i hi hs)⟩
theorem Tch.below {S : Nat → Prop} {B : Nat} {a b : World} (h : Tch S a b) (hB : B ≤ a.heap.size) (k : ∀ i, i < B → ¬ S i) : Below B a b :=
  ⟨h.os, h.tape, h.output, h.size, fun i hi => h.block i (by omega) (k i hi)⟩
theorem Tch.cell {S : Nat → Prop} {a b : World} {g o : Nat} {v : Value} (h : Tch S a b) (hc : a.cell? ⟨g, o, none⟩ = some v) (hs : ¬ S g) : b.cell? ⟨g, o, none⟩ = some v := by
  rw [World.cell?_of_block (a := ⟨g, o, none⟩) (h.block g (cellLt hc) hs)]
  exact hc
theorem Tch.frozen {S : Nat → Prop} {a b : World} {g o : Nat} {v : Value} (h : Tch S a b) (hc : a.cell? ⟨g, o, none⟩ = some v) (hf : a.frozen? ⟨g, o, none⟩ = false) (hs : ¬ S g) : b.frozen? ⟨g, o, none⟩ = false := by
  rw [World.frozen?_of_block (a := ⟨g, o, none⟩) (h.block g (cellLt hc) hs)]
  exact hf

/-! ### Rows of the call's own. -/
theorem own_heap {w w' : World} {base : Nat} {e : TypeId} {size n : Nat} {v : Value} {xs : List Value} (h : w.ownsRow base e size v n xs) (hk : ∀ g, v.ownBlock = some g → w'.heap[g]? = w.heap[g]?) : w'.ownsRow base e size v n xs := by
  refine ⟨h.1, ?_⟩
  rcases h.2 with h2 | ⟨g, cap, cur, rfl, h1, h2, h3⟩
  · exact Or.inl h2
  · exact Or.inr ⟨g, cap, cur, rfl, h1, (hk g rfl).trans h2, h3⟩
theorem own_base {w : World} {base B : Nat} {e : TypeId} {size n : Nat} {v : Value} {xs : List Value} (h : w.ownsRow base e size v n xs) (hB : B ≤ base) : w.ownsRow B e size v n xs := by
  refine ⟨h.1, ?_⟩
  rcases h.2 with h2 | ⟨g, cap, cur, rfl, h1, h2⟩
  · exact Or.inl h2
  · exact Or.inr ⟨g, cap, cur, rfl, by omega, h2⟩
/-- Two rows of different element types have no block in common. -/
theorem own_ne {w : World} {b1 b2 : Nat} {e1 e2 : TypeId} {s1 s2 n1 n2 : Nat} {v1 v2 : Value} {x1 x2 : List Value} (h1 : w.ownsRow b1 e1 s1 v1 n1 x1) (h2 : w.ownsRow b2 e2 s2 v2 n2 x2) (he : e1 ≠ e2) (g : Nat) (h : v1.ownBlock = some g) : v2.ownBlock ≠ some g := by
  intro k
  rcases h1.2 with ⟨rfl, _⟩ | ⟨g1, _, cur1, rfl, _, hh1, _⟩
  · simp [Value.ownBlock] at h
  · rcases h2.2 with ⟨rfl, _⟩ | ⟨g2, _, cur2, rfl, _, hh2, _⟩
    · simp [Value.ownBlock] at k
    · have e1' : g1 = g := by simpa [Value.ownBlock] using h
      have e2' : g2 = g := by simpa [Value.ownBlock] using k
      subst e1'
      subst e2'
      rw [hh1] at hh2
      injection hh2 with hh2
      injection hh2 with _ ht
      exact he ht
theorem own_isSl {w : World} {base : Nat} {e : TypeId} {size n : Nat} {v : Value} {xs : List Value} (h : w.ownsRow base e size v n xs) : ∃ A c, v = .slice A n c := by
  rcases h.2 with ⟨rfl, rfl⟩ | ⟨g, cap, cur, rfl, _⟩
  · exact ⟨_, _, rfl⟩
  · exact ⟨_, _, rfl⟩
theorem own_form {w : World} {base : Nat} {e : TypeId} {size n : Nat} {v : Value} {xs : List Value} (h : w.ownsRow base e size v n xs) (hn : 0 < n) : ∃ g c, v = .slice (some ⟨g, 0, none⟩) n c ∧ n ≤ c ∧ base ≤ g ∧ g < w.heap.size := by
  rcases h.2 with ⟨_, h0⟩ | ⟨g, cap, cur, rfl, h1, h2, h3, _⟩
  · omega
  · exact ⟨g, cap, rfl, h3, h1, (Array.getElem?_eq_some_iff.1 h2).1⟩
theorem flat_set {α : Type} {sz : Nat} {f : α → List Value} (hf : ∀ x, (f x).length = sz) : ∀ (l : List α) (i k : Nat) (hi : i < l.length) (u : Value) (x : α), k < sz → (f l[i]).set k u = f x → (l.flatMap f).set (i * sz + k) u = (l.set i x).flatMap f
  | [], i, k, hi, _, _, _, _ => by simp at hi
  | y :: l, 0, k, _, u, x, hk, h => by
    rw [List.flatMap_cons, Nat.zero_mul, Nat.zero_add, List.set_append_left _ _ (by rw [hf]; exact hk)]
    simp only [List.getElem_cons_zero] at h
    rw [h]
    rfl
  | y :: l, i + 1, k, hi, u, x, hk, h => by
    rw [List.flatMap_cons, List.set_append_right _ _ (by rw [hf, Nat.succ_mul]; omega), hf, show (i + 1) * sz + k - sz = i * sz + k by rw [Nat.succ_mul]; omega]
    rw [flat_set hf l i k (by simpa using hi) u x hk (by simpa using h)]
    rfl

theorem elemByte : Elem 101 5 (.int .u8 0) 1 1 := ⟨Tryz.underlying101, by kernel_rfl, rfl, by decide, by decide⟩
theorem cell_new1 (w : World) (x : Value) (t : TypeId) : (w.alloc (.cells #[x] t)).cell? ⟨w.heap.size, 0, none⟩ = some x := by simp [go_sem]
theorem src_one {w : World} {b : Nat} {x : Value} (hc : w.cell? ⟨b, 0, none⟩ = some x) (h : x.oneCell' = true) : Src w (some ⟨b, 0, none⟩) 1 1 1 [x] :=
  ⟨rfl, Nat.le_refl _, (fun e => by cases e), fun ad e j u hj => by
    cases e
    cases j with
    | zero =>
      simp at hj
      subst hj
      exact hc
    | succ j => simp at hj, fun u hu => by simp at hu; subst hu; exact h⟩
/-- What is behind an append to a row of the call's own. -/
theorem below_app {B : Nat} {w wr w1 : World} {o : Obj} {v : Value} {n : Nat} {xs : List Value} {T : TypeId} {sz : Nat} (hb : Below B w wr) (hB : B ≤ wr.heap.size) (hown : wr.ownsRow B T sz v n xs) (hg : (wr.alloc o).grownBy w1 v.ownBlock) : Below B w w1 :=
  (hb.alloc hB o).grown hg (by simp; omega) (fun j hj => (hown.lt j hj).1)
end Go.Proofs.YtcgkaecaddpenaaGreatDoor
