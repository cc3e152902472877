/- A start that fits the row's list, the same for every law of the seat; how schemas, changes and rows that come in are opened. -/
import Derived.Test.YteokcgfbhaeklaaGreatDoorPBase
import Derived.Test.YteokcgfbhaeklaaGreatDoorPVA
import Derived.Lib.LaidTab
import Derived.Stop.LaidErr
import Derived.Test.YteokcgfbhaeklaaGreatDoorCards
import Derived.Test.YteokcgfbhaeklaaGreatDoorTie
import Derived.Lay
import Derived.Lib.SmallJoins
import Derived.Deep.DeepHandedRow
import Derived.Deep.DeepWitnessRowRef
import Derived.Deep.Slices
import Derived.LaidLaws
import Derived.JoinedCond
namespace Go.Proofs.YteokcgfbhaeklaaGreatDoor
open Go.RowKit Go.ChangeShapes Go.WideShapes Go.ChangeAt Go.Joins

theorem own : ownKnob Tryz.prog.godebug = none := by kernel_rfl

/-! A start that fits: the variables hold what the text lays. -/
noncomputable def laidWorld (os : Os) : World := World.laidAll Tryz.prog os Rows.schemaChangesRow.laid
theorem laid_met (os : Os) (args : Array Value) : laidMet Tryz.prog Rows.schemaChangesRow.laid ((laidWorld os).forCall (fun _ _ => 0) ⟨#[], args, []⟩).memory :=
  laidMet_laidAll _ (by kernel_rfl) (by kernel_rfl)
theorem laid_shaped (os : Os) (args : Array Value) : ((laidWorld os).forCall (fun _ _ => 0) ⟨#[], args, []⟩).Shaped Tryz.prog :=
  World.shaped_of_ZipB (by kernel_rfl) (by kernel_rfl)
/-- A start, with these arguments, that fits the row. -/
theorem witness {H : Type} {enc : TypeId × Value → H} {os : Os} {f : FuncId} {fn : Func} {s : OpenSpec} {conds : List PathCond} {apart : Bool} {laid : List (String × DataW Unit)} (args : Array Value)
    (hok : Input.okWideB Tryz.checked.prog ((laidWorld os).forCall (fun _ _ => 0) ⟨#[], args, []⟩) f ⟨#[], args, []⟩ = true)
    (hrow : s.preRow enc Tryz.checked.prog fn conds apart laid ((laidWorld os).forCall (fun _ _ => 0) ⟨#[], args, []⟩).memory args) :
    ∃ (w : World) (tape : Tape) (i : Input), w.os = os ∧ (w.forCall tape i).Shaped Tryz.checked.prog ∧ i.vars = [] ∧ Input.okWide Tryz.checked.prog (w.forCall tape i) .any w.heap.size f i ∧
      s.preRow enc Tryz.checked.prog fn conds apart laid (w.forCall tape i).memory i.args ∧ ({} : Assume).holds Tryz.checked.prog (lone (Frame.enter Tryz.checked.prog f i.args .normal) [] (w.forCall tape i)) :=
  ⟨laidWorld os, fun _ _ => 0, ⟨#[], args, []⟩, World.laidAll_os _ _ _, laid_shaped os args, (Input.okWide_of_okWideB (base := 0) hok).1, (Input.okWide_of_okWideB hok).2, hrow, by
    simp only [Assume.holds]
    exact ⟨by simp, by simp, fun _ => Modest.zero, by simp, by simp⟩⟩
theorem laidOut : laidOutB Tryz.prog = true := by kernel_rfl
theorem cellsStr : Tryz.prog.cellsOf 9 = 1 := by kernel_rfl
theorem cellsInt : Tryz.prog.cellsOf 3 = 1 := by kernel_rfl
theorem cellsStrs : Tryz.prog.cellsOf 51 = 1 := by kernel_rfl
theorem cellsInts : Tryz.prog.cellsOf 42 = 1 := by kernel_rfl
theorem cellsValue : Tryz.prog.cellsOf 26 = 3 := by kernel_rfl
theorem cellsAttr : Tryz.prog.cellsOf 53 = 6 := by kernel_rfl
theorem cellsAttrs : Tryz.prog.cellsOf 41 = 1 := by kernel_rfl
theorem cellsTable : Tryz.prog.cellsOf 44 = 3 := by kernel_rfl
theorem cellsTables : Tryz.prog.cellsOf 22 = 1 := by kernel_rfl
theorem cellsSchema : Tryz.prog.cellsOf 24 = 1 := by kernel_rfl
theorem cellsChange : Tryz.prog.cellsOf 28 = 8 := by kernel_rfl
/-- A byte that came in. -/
theorem byte_of {n : Int} (h : (Lit.int .u8 n).wf = true) : ∃ c : UInt8, n = (c.toNat : Int) := by
  have h1 : 0 ≤ n ∧ n ≤ 255 := by simpa [Lit.wf, IntKind.min, IntKind.max, IntKind.signed, IntKind.bits] using h
  refine ⟨UInt8.ofNat n.toNat, ?_⟩
  have h2 : (UInt8.ofNat n.toNat).toNat = n.toNat := by
    rw [UInt8.toNat_ofNat']
    omega
  rw [h2]
  omega
theorem wf_i64 {n : Int} (h : (Lit.int .i64 n).wf = true) : -9223372036854775808 ≤ n ∧ n ≤ 9223372036854775807 := by
  simpa [Lit.wf, IntKind.min, IntKind.max, IntKind.signed, IntKind.bits] using h
/-- A text as the list of its bytes. -/
theorem str_list (s : ByteArray) : ∃ l : List UInt8, s = ⟨l.toArray⟩ := ⟨s.data.toList, by cases s; simp⟩
theorem add_none' (b off n : Nat) : (⟨b, off, none⟩ : Addr).add n = ⟨b, off + n, none⟩ := by
  unfold Addr.add
  split
  · rename_i h
    subst h
    rfl
  · rfl

/-! ### Slices that came in, opened. -/
/-- A slice whose elements, of sz cells each, can be opened one by one. -/
theorem slice_trod {H : Type} {enc : TypeId × Value → H} {W : World} {α : Type} (dflt : α) {T E : TypeId} {sz : Nat} (hT : Tryz.prog.underlying T = some (.slice E)) (hE : Tryz.prog.cellsOf E = sz) (hsz : 0 < sz)
    (R : World → Nat → Nat → α → Prop)
    (rd : ∀ (cs : List Value) (m : Nat) (y : DataW H × List MemPlace), cs.length = sz → DataW.trod enc Tryz.prog W 0 (fun _ => true) true m E cs = some y → ∃ q : α, ∀ b off, (∀ j (h : j < cs.length), W.cell? ⟨b, off + j, none⟩ = some cs[j]) → R W b off q)
    {c : Value} {n : Nat} {y : DataW H × List MemPlace} (hf : DataW.trod enc Tryz.prog W 0 (fun _ => true) true n T [c] = some y) : ∃ l : List α, Slc sz R W c l := by
  rcases Go.Deep.open_slice hT hf with ⟨hcs, _⟩ | ⟨a, len, cap, m, k, D, Pl, hcs, _, hl, _, hmm, _, hi⟩
  · simp at hcs
    subst hcs
    exact ⟨[], Slc.nil W⟩
  · simp at hcs
    subst hcs
    rw [hE] at hi
    have each : ∀ i, ∃ q : α, i < len → ∃ b off, some a = some ⟨b, off, none⟩ ∧ R W b (off + i * sz) q := by
      intro i
      by_cases hlt : i < len
      · obtain ⟨b, off, spot⟩ := a
        have hspot : spot = none := by
          obtain ⟨cs0, z0, _⟩ := hi 0 (by simp at hmm; omega)
          obtain ⟨_, zl, zc⟩ := World.cells?_some z0
          have := zc 0 (by omega)
          rw [List.getElem?_eq_getElem (by omega)] at this
          simpa [Addr.add] using World.cell?_spot this
        subst hspot
        obtain ⟨cs', h1, h2⟩ := hi i (by simp at hmm; omega)
        obtain ⟨_, hlen, hcell⟩ := World.cells?_some h1
        obtain ⟨q, hq⟩ := rd cs' _ _ hlen h2
        refine ⟨q, fun _ => ⟨b, off, rfl, hq b (off + i * sz) fun j hj => ?_⟩⟩
        have cj := hcell j (by omega)
        rw [add_none', add_none', List.getElem?_eq_getElem hj] at cj
        exact cj
      · exact ⟨dflt, fun g => absurd g hlt⟩
    obtain ⟨f, hq⟩ := Classical.skolem.1 each
    refine ⟨(List.range len).map f, some a, cap, by rw [List.length_map, List.length_range], by rw [List.length_map, List.length_range]; exact hl, (fun e => by cases e), fun i h => ?_⟩
    have hlt : i < len := by simpa using h
    have e : ((List.range len).map f)[i] = f i := by simp
    rw [e]
    exact hq i hlt
theorem list1 {cs : List Value} (h : cs.length = 1) : ∃ a, cs = [a] := by
  match cs, h with
  | [a], _ => exact ⟨a, rfl⟩
theorem list3 {cs : List Value} (h : cs.length = 3) : ∃ a b c, cs = [a, b, c] := by
  match cs, h with
  | [a, b, c], _ => exact ⟨a, b, c, rfl⟩
theorem list6 {cs : List Value} (h : cs.length = 6) : ∃ a b c d e f, cs = [a, b, c, d, e, f] := by
  match cs, h with
  | [a, b, c, d, e, f], _ => exact ⟨a, b, c, d, e, f, rfl⟩
theorem list8 {cs : List Value} (h : cs.length = 8) : ∃ a b c d e f g i, cs = [a, b, c, d, e, f, g, i] := by
  match cs, h with
  | [a, b, c, d, e, f, g, i], _ => exact ⟨a, b, c, d, e, f, g, i, rfl⟩

set_option maxRecDepth 100000 in
theorem strs_trod {H : Type} {enc : TypeId × Value → H} {W : World} {c : Value} {n : Nat} {y : DataW H × List MemPlace} (hf : DataW.trod enc Tryz.prog W 0 (fun _ => true) true n 51 [c] = some y) : ∃ l : List Txt, Strs W c l := by
  obtain ⟨l, A, cap, h1, h2, h3, h4⟩ := slice_trod (α := Txt) [] Tryz.underlying51 cellsStr (by decide) (fun w b o x => w.cell? ⟨b, o, none⟩ = some (str x)) (fun cs m y hl h => by
    obtain ⟨v, rfl⟩ := list1 hl
    obtain ⟨s, e, _, _⟩ := DataW.trod_string Tryz.underlying9 h
    simp at e
    subst e
    obtain ⟨t, rfl⟩ := str_list s
    exact ⟨t, fun b off hc => hc 0 (by simp)⟩) hf
  refine ⟨l, A, cap, h1, h2, h3, fun i hi => ?_⟩
  obtain ⟨b, off, e, hc⟩ := h4 i hi
  rw [Nat.mul_one] at hc
  exact ⟨b, off, e, hc⟩
set_option maxRecDepth 100000 in
theorem ints_trod {H : Type} {enc : TypeId × Value → H} {W : World} {c : Value} {n : Nat} {y : DataW H × List MemPlace} (hf : DataW.trod enc Tryz.prog W 0 (fun _ => true) true n 42 [c] = some y) : ∃ l : List Int, Ints W c l :=
  slice_trod (α := Int) 0 Tryz.underlying42 cellsInt (by decide) _ (fun cs m y hl h => by
    obtain ⟨v, rfl⟩ := list1 hl
    obtain ⟨t, e, _, _⟩ := DataW.trod_int Tryz.underlying3 h
    simp at e
    subst e
    exact ⟨t, fun b off hc => hc 0 (by simp)⟩) hf
set_option maxRecDepth 100000 in
/-- A value's three cells, read. -/
theorem value_trod {H : Type} {enc : TypeId × Value → H} {W : World} {n : Nat} {cs : List Value} {y : DataW H × List MemPlace} (hl : cs.length = 3) (h : DataW.trod enc Tryz.prog W 0 (fun _ => true) true n 26 cs = some y) :
    ∃ q : T3, cs = [.int .i64 q.1, .int .i64 q.2.1, str q.2.2] := by
  obtain ⟨xs, m, _, _, _, hxl, hf⟩ := DataW.trod_struct Tryz.underlying26 h
  obtain ⟨v0, v1, v2, rfl⟩ := list3 hl
  have hl3 : xs.length = 3 := hxl
  have g0 := hf 0 _ rfl
  have g1 := hf 1 _ rfl
  have g2 := hf 2 _ rfl
  rw [List.getElem?_eq_getElem (by omega)] at g0 g1 g2
  simp [cellsInt, cellsStr] at g0 g1 g2
  obtain ⟨a, e0, _, _⟩ := DataW.trod_int Tryz.underlying3 g0
  obtain ⟨b, e1, _, _⟩ := DataW.trod_int Tryz.underlying3 g1
  obtain ⟨s, e2, _, _⟩ := DataW.trod_string Tryz.underlying9 g2
  simp at e0 e1 e2
  subst e0 e1 e2
  obtain ⟨t, rfl⟩ := str_list s
  exact ⟨(a, b, t), rfl⟩
set_option maxRecDepth 100000 in
theorem vals_trod {H : Type} {enc : TypeId × Value → H} {W : World} {c : Value} {n : Nat} {y : DataW H × List MemPlace} (hf : DataW.trod enc Tryz.prog W 0 (fun _ => true) true n 29 [c] = some y) : ∃ l : List T3, Vals W c l :=
  slice_trod (α := T3) z3 Tryz.underlying29 cellsValue (by decide) _ (fun cs m y hl h => by
    obtain ⟨q, rfl⟩ := value_trod hl h
    exact ⟨q, fun b off hc => ⟨hc 0 (by simp), hc 1 (by simp), hc 2 (by simp)⟩⟩) hf
set_option maxRecDepth 100000 in
theorem attrs_trod {H : Type} {enc : TypeId × Value → H} {W : World} {c : Value} {n : Nat} {y : DataW H × List MemPlace} (hf : DataW.trod enc Tryz.prog W 0 (fun _ => true) true n 41 [c] = some y) : ∃ l : List AttrT, Attrs W c l :=
  slice_trod (α := AttrT) ⟨[], 0, [], z3⟩ Tryz.underlying41 cellsAttr (by decide) _ (fun cs m y hl h => by
    obtain ⟨xs, m, _, _, _, hxl, hf⟩ := DataW.trod_struct Tryz.underlying53 h
    obtain ⟨v0, v1, v2, v3, v4, v5, rfl⟩ := list6 hl
    have hl4 : xs.length = 4 := hxl
    have g0 := hf 0 _ rfl
    have g1 := hf 1 _ rfl
    have g2 := hf 2 _ rfl
    have g3 := hf 3 _ rfl
    rw [List.getElem?_eq_getElem (by omega)] at g0 g1 g2 g3
    simp [cellsInt, cellsStr, cellsStrs, cellsValue] at g0 g1 g2 g3
    obtain ⟨s, e0, _, _⟩ := DataW.trod_string Tryz.underlying9 g0
    obtain ⟨k, e1, _, _⟩ := DataW.trod_int Tryz.underlying3 g1
    obtain ⟨ws, hws⟩ := strs_trod g2
    obtain ⟨q, e3⟩ := value_trod (by simp) g3
    simp at e0 e1 e3
    obtain ⟨rfl, rfl, rfl⟩ := e3
    subst e0 e1
    obtain ⟨t, rfl⟩ := str_list s
    exact ⟨⟨t, k, ws, q⟩, fun b off hc => ⟨v2, ⟨hc 0 (by simp), hc 1 (by simp), hc 2 (by simp), hc 3 (by simp), hc 4 (by simp), hc 5 (by simp)⟩, hws⟩⟩) hf
set_option maxRecDepth 100000 in
theorem tabs_trod {H : Type} {enc : TypeId × Value → H} {W : World} {c : Value} {n : Nat} {y : DataW H × List MemPlace} (hf : DataW.trod enc Tryz.prog W 0 (fun _ => true) true n 22 [c] = some y) : ∃ l : List TabT, Tabs W c l :=
  slice_trod (α := TabT) ⟨[], [], []⟩ Tryz.underlying22 cellsTable (by decide) _ (fun cs m y hl h => by
    obtain ⟨xs, m, _, _, _, hxl, hf⟩ := DataW.trod_struct Tryz.underlying44 h
    obtain ⟨v0, v1, v2, rfl⟩ := list3 hl
    have hl3 : xs.length = 3 := hxl
    have g0 := hf 0 _ rfl
    have g1 := hf 1 _ rfl
    have g2 := hf 2 _ rfl
    rw [List.getElem?_eq_getElem (by omega)] at g0 g1 g2
    simp [cellsStr, cellsAttrs, cellsInts] at g0 g1 g2
    obtain ⟨s, e0, _, _⟩ := DataW.trod_string Tryz.underlying9 g0
    obtain ⟨la, hla⟩ := attrs_trod g1
    obtain ⟨lk, hlk⟩ := ints_trod g2
    simp at e0
    subst e0
    obtain ⟨t, rfl⟩ := str_list s
    exact ⟨⟨t, la, lk⟩, fun b off hc => ⟨v1, v2, ⟨hc 0 (by simp), hc 1 (by simp), hc 2 (by simp)⟩, hla, hlk⟩⟩) hf

/-! ### Arguments, opened. -/
theorem array1 {cs : Array Value} (h : cs.size = 1) : ∃ a, cs = #[a] := by
  obtain ⟨l⟩ := cs
  obtain ⟨a, rfl⟩ := list1 (cs := l) h
  exact ⟨a, rfl⟩
theorem array8 {cs : Array Value} (h : cs.size = 8) : ∃ a b c d e f g i, cs = #[a, b, c, d, e, f, g, i] := by
  obtain ⟨l⟩ := cs
  obtain ⟨a, b, c, d, e, f, g, i, rfl⟩ := list8 (cs := l) h
  exact ⟨a, b, c, d, e, f, g, i, rfl⟩
set_option maxRecDepth 100000 in
theorem open_vals {H : Type} {enc : TypeId × Value → H} {W : World} {base : Nat} {v : Value} {d : DataW H} {p : List MemPlace} (hok : Value.okWide Tryz.prog W .any base 29 v) (h : DataW.Trod enc Tryz.prog W 0 (fun _ => true) true 29 v d p) :
    ∃ l : List T3, Vals W v l := by
  obtain ⟨A, len, cap, rfl⟩ := okWide_slice Tryz.underlying29 hok
  obtain ⟨fuel, hf⟩ := h
  exact vals_trod (c := .slice A len cap) hf
set_option maxRecDepth 100000 in
theorem open_schema {H : Type} {enc : TypeId × Value → H} {W : World} {base : Nat} {v : Value} {d : DataW H} {p : List MemPlace} (hok : Value.okWide Tryz.prog W .any base 24 v) (h : DataW.Trod enc Tryz.prog W 0 (fun _ => true) true 24 v d p) :
    ∃ (z : Value) (l : List TabT), v = .agg #[z] ∧ Tabs W z l := by
  obtain ⟨cs, rfl, hsz⟩ := okWide_struct Tryz.underlying24 hok
  obtain ⟨z, rfl⟩ := array1 (hsz.trans cellsSchema)
  obtain ⟨fuel, hf⟩ := h
  obtain ⟨xs, n, _, _, _, hlen, hx⟩ := DataW.trod_struct Tryz.underlying24 hf
  have hl : xs.length = 1 := hlen
  have g0 := hx 0 _ rfl
  rw [List.getElem?_eq_getElem (by omega)] at g0
  simp [Value.cells, cellsTables] at g0
  obtain ⟨l, hl⟩ := tabs_trod g0
  exact ⟨z, l, rfl, hl⟩
set_option maxRecDepth 100000 in
theorem open_change {H : Type} {enc : TypeId × Value → H} {W : World} {base : Nat} {v : Value} {d : DataW H} {p : List MemPlace} (hok : Value.okWide Tryz.prog W .any base 28 v) (h : DataW.Trod enc Tryz.prog W 0 (fun _ => true) true 28 v d p) :
    ∃ c : ChgT, v = Cv c := by
  obtain ⟨cs, rfl, hsz⟩ := okWide_struct Tryz.underlying28 hok
  obtain ⟨c0, c1, c2, c3, c4, c5, c6, c7, rfl⟩ := array8 (hsz.trans cellsChange)
  obtain ⟨fuel, hf⟩ := h
  obtain ⟨xs, n, _, _, _, hlen, hx⟩ := DataW.trod_struct Tryz.underlying28 hf
  have hl : xs.length = 6 := hlen
  have g0 := hx 0 _ rfl
  have g1 := hx 1 _ rfl
  have g2 := hx 2 _ rfl
  have g3 := hx 3 _ rfl
  have g4 := hx 4 _ rfl
  have g5 := hx 5 _ rfl
  rw [List.getElem?_eq_getElem (by omega)] at g0 g1 g2 g3 g4 g5
  simp [Value.cells, cellsStr, cellsInt, cellsValue] at g0 g1 g2 g3 g4 g5
  obtain ⟨k, e0, _, _⟩ := DataW.trod_int Tryz.underlying3 g0
  obtain ⟨s1, e1, _, _⟩ := DataW.trod_string Tryz.underlying9 g1
  obtain ⟨s2, e2, _, _⟩ := DataW.trod_string Tryz.underlying9 g2
  obtain ⟨s3, e3, _, _⟩ := DataW.trod_string Tryz.underlying9 g3
  obtain ⟨to, e4, _, _⟩ := DataW.trod_int Tryz.underlying3 g4
  obtain ⟨q, e5⟩ := value_trod (by simp) g5
  simp at e0 e1 e2 e3 e4 e5
  obtain ⟨rfl, rfl, rfl⟩ := e5
  subst e0 e1 e2 e3 e4
  obtain ⟨l1, rfl⟩ := str_list s1
  obtain ⟨l2, rfl⟩ := str_list s2
  obtain ⟨l3, rfl⟩ := str_list s3
  exact ⟨⟨k, l1, l2, l3, to, q⟩, rfl⟩

/-! ### What the row's list gives. -/
theorem gPow : Tryz.prog.globalNamed (Tryz.prog.globals[0]!).name = some 0 := by kernel_rfl
theorem gPowType : (Tryz.prog.globals[0]?).map (·.type) = some 155 := by kernel_rfl
theorem cellsPow : Tryz.prog.cellsOf 155 = 20 := by kernel_rfl
theorem cellsU64 : Tryz.prog.cellsOf 117 = 1 := by kernel_rfl
theorem gES : Tryz.prog.globalNamed (Tryz.prog.globals[1]!).name = some 1 := by kernel_rfl
theorem gESType : (Tryz.prog.globals[1]?).map (·.type) = some 135 := by kernel_rfl
theorem gER : Tryz.prog.globalNamed (Tryz.prog.globals[2]!).name = some 2 := by kernel_rfl
theorem gERType : (Tryz.prog.globals[2]?).map (·.type) = some 135 := by kernel_rfl
theorem cellsES : Tryz.prog.cellsOf 174 = 1 := by kernel_rfl
theorem rowES (u : TypeId) (h : Tryz.prog.typeName? 3 u = Tryz.prog.typeName? 3 172) : u = 172 :=
  typeName_ptr_named (nm := "errors.errorString") (by kernel_rfl) (by kernel_rfl) (by decide) u (h.trans (by kernel_rfl))
theorem env_of_laid {W : World} (h : laidMetH Tryz.prog Rows.schemaChangesRow.laid W) : L2.Env W := by
  have hL : laidMet Tryz.prog Rows.schemaChangesRow.laid W := h
  have h1 := hL.tail
  have h2 := h1.tail
  have h3 := h2.tail
  have h4 := h3.tail
  have tab := Lib.tabIs_of_head (k := .u64) (zs := Lib.pow10Tab) gPow gPowType Tryz.underlying155 Tryz.underlying117 cellsU64 cellsPow h2
  obtain ⟨a0, s0, v0, -, -, -⟩ := laid_sentinel h3 gER gERType Tryz.underlying135 (fun u hu => rowES u (hu.trans (by kernel_rfl))) Tryz.underlying172 Tryz.underlying174 rfl rfl Tryz.underlying9 cellsES cellsStr
  obtain ⟨a1, s1, v1, -, -, -⟩ := laid_sentinel h4 gES gESType Tryz.underlying135 (fun u hu => rowES u (hu.trans (by kernel_rfl))) Tryz.underlying172 Tryz.underlying174 rfl rfl Tryz.underlying9 cellsES cellsStr
  refine ⟨⟨172, .pointer (some a1), ?_⟩, ⟨172, .pointer (some a0), ?_⟩, ?_⟩
  · have h0 := World.var?_cell gES v1 0; simpa using h0
  · have h0 := World.var?_cell gER v0 0; simpa using h0
  · unfold Lib.TabIs World.var? at tab
    rw [gPow] at tab
    simp only [Option.bind_some] at tab
    split at tab
    · rename_i cs t z hh
      cases tab
      exact ⟨t, z, hh⟩
    · cases tab
end Go.Proofs.YteokcgfbhaeklaaGreatDoor
