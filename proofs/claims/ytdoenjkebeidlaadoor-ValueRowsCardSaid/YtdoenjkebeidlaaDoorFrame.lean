/- What the row's list gives, and a start that fits: the same for every law of the seat. -/
import Derived.Test.YtdoenjkebeidlaaDoorCards
import Derived.Test.YtdoenjkebeidlaaDoorTie
import Derived.Test.YtdoenjkebeidlaaDoorEnv
import Derived.Deep.DeepHandedRow
import Derived.Deep.DeepWitnessRowRef
import Derived.Lib.LaidTab
import Derived.Stop.LaidErr
import Derived.LaidLaws
import Derived.JoinedCond
namespace Go.Proofs.YtdoenjkebeidlaaDoor
open Go.RowKit Go.ChangeShapes Go.WideShapes Go.ChangeAt Go.Joins

theorem own : ownKnob Tryd.prog.godebug = none := by kernel_rfl
theorem gPow : Tryd.prog.globalNamed (Tryd.prog.globals[2]!).name = some 2 := by kernel_rfl
theorem gPowType : (Tryd.prog.globals[2]?).map (·.type) = some 94 := by kernel_rfl
theorem cellsPow : Tryd.prog.cellsOf 94 = 20 := by kernel_rfl
theorem cellsU64 : Tryd.prog.cellsOf 68 = 1 := by kernel_rfl
theorem gES : Tryd.prog.globalNamed (Tryd.prog.globals[0]!).name = some 0 := by kernel_rfl
theorem gESType : (Tryd.prog.globals[0]?).map (·.type) = some 65 := by kernel_rfl
theorem gER : Tryd.prog.globalNamed (Tryd.prog.globals[1]!).name = some 1 := by kernel_rfl
theorem gERType : (Tryd.prog.globals[1]?).map (·.type) = some 65 := by kernel_rfl
theorem cellsES : Tryd.prog.cellsOf 103 = 1 := by kernel_rfl
theorem cellsStr : Tryd.prog.cellsOf 9 = 1 := by kernel_rfl
theorem cellsValue : Tryd.prog.cellsOf 23 = 3 := by kernel_rfl
theorem cellsInt : Tryd.prog.cellsOf 3 = 1 := by kernel_rfl
theorem rowES (u : TypeId) (h : Tryd.prog.typeName? 3 u = Tryd.prog.typeName? 3 101) : u = 101 :=
  typeName_ptr_named (nm := "errors.errorString") (by kernel_rfl) (by kernel_rfl) (by decide) u (h.trans (by kernel_rfl))

/-- WHAT THE ROW's LIST GIVES. -/
theorem env_of_laid {W : World} (h : laidMetH Tryd.prog Rows.valueShiftsRow.laid W) (_hs : W.ShapedOpen Tryd.prog) : Env W := by
  have hL : laidMet Tryd.prog Rows.valueShiftsRow.laid W := h
  have h1 := hL.tail
  have h2 := h1.tail
  have h3 := h2.tail
  have h4 := h3.tail
  have tab := Lib.tabIs_of_head (k := .u64) (zs := Lib.pow10Tab) gPow gPowType Tryd.underlying94 Tryd.underlying68 cellsU64 cellsPow h2
  obtain ⟨a0, s0, v0, -, -, -⟩ := laid_sentinel h3 gER gERType Tryd.underlying65 (fun u hu => rowES u (hu.trans (by kernel_rfl))) Tryd.underlying101 Tryd.underlying103 rfl rfl Tryd.underlying9 cellsES cellsStr
  obtain ⟨a1, s1, v1, -, -, -⟩ := laid_sentinel h4 gES gESType Tryd.underlying65 (fun u hu => rowES u (hu.trans (by kernel_rfl))) Tryd.underlying101 Tryd.underlying103 rfl rfl Tryd.underlying9 cellsES cellsStr
  refine ⟨⟨101, .pointer (some a1), ?_⟩, ⟨101, .pointer (some a0), ?_⟩, ?_⟩
  · have h0 := World.var?_cell gES v1 0; simpa using h0
  · have h0 := World.var?_cell gER v0 0; simpa using h0
  · unfold Lib.TabIs World.var? at tab
    rw [gPow] at tab
    simp only [Option.bind_some] at tab
    split at tab
    · rename_i cs t z hh
      cases tab
      exact ⟨t, z, hh⟩
    · cases tab

/-! A start that fits: the settled world with two blocks more, each an errors.errorString; the variables hold what their initialisers lay. -/
noncomputable def low : Nat := (World.holding Tryd.prog default ⟨#[], #[], []⟩).heap.size
/-- The cells that a datum of integers spells. -/
def tabCells (l : List Int) (k : IntKind) : Array Value := (l.map fun z => Value.int k z).toArray
def tab32 : List Int := [0, 1, 28, 2, 29, 14, 24, 3, 30, 22, 20, 15, 25, 17, 4, 8, 31, 27, 13, 23, 21, 19, 16, 7, 26, 12, 18, 6, 11, 5, 10, 9]
def tab64 : List Int := [0, 1, 56, 2, 57, 49, 28, 3, 61, 58, 42, 50, 38, 29, 17, 4, 62, 47, 59, 36, 45, 43, 51, 22, 53, 39, 33, 30, 24, 18, 12, 5, 63, 55, 48, 27, 60, 41, 37, 16, 46, 35, 44, 21, 52, 32, 23, 11, 54, 26, 40, 15, 34, 20, 31, 10, 25, 14, 19, 9, 13, 8, 7, 6]
/-- An object with other cells. -/
def recell (cs : Array Value) : Obj → Obj
  | .cells _ t frozen => .cells cs t frozen
  | o => o
noncomputable def laidWorld (os : Os) : World :=
  let w0 := World.holding Tryd.prog os ⟨#[.cells #[.string ⟨#[105, 110, 118, 97, 108, 105, 100, 32, 115, 121, 110, 116, 97, 120]⟩] 103, .cells #[.string ⟨#[118, 97, 108, 117, 101, 32, 111, 117, 116, 32, 111, 102, 32, 114, 97, 110, 103, 101]⟩] 103], #[], []⟩
  { w0 with heap := ((((w0.heap.modify 0 (recell #[.iface 101 (.pointer (some ⟨low, 0, none⟩))])).modify 1 (recell #[.iface 101 (.pointer (some ⟨low + 1, 0, none⟩))])).modify 2 (recell (tabCells Lib.pow10Tab .u64))).modify 3 (recell (tabCells tab32 .u8))).modify 4 (recell (tabCells tab64 .u8)) }
theorem laid_met (os : Os) (args : Array Value) : laidMet Tryd.prog Rows.valueShiftsRow.laid ((laidWorld os).forCall (fun _ _ => 0) ⟨#[], args, []⟩).memory :=
  laidMet_of_run' 8 (by kernel_rfl) (by kernel_rfl)

set_option maxRecDepth 100000 in
/-- A value that came in, opened: two ints in their bounds, and a text. -/
theorem open_value {H : Type} {enc : TypeId × Value → H} {W : World} {base : Nat} {v : Value} {d : DataW H} {p : List MemPlace} (hok : Value.okWide Tryd.prog W .any base 23 v) (h : DataW.Trod enc Tryd.prog W 0 (fun _ => true) true 23 v d p) :
    ∃ (k n : Int) (t : List UInt8), v = V k n t ∧ d = .agg [.lit (.int .i64 k), .lit (.int .i64 n), .lit (.string t)] ∧ p = [] ∧ (Lit.int .i64 k).wf = true ∧ (Lit.int .i64 n).wf = true ∧ t.length ≤ maxLen := by
  obtain ⟨c0, c1, c2, y0, y1, y2, m, rfl, rfl, rfl, hy0, hy1, hy2⟩ := open_agg3 Tryd.underlying23 (by kernel_rfl) cellsValue hok h
  obtain ⟨a, e0, rfl, wa⟩ := DataW.trod_int Tryd.underlying3 hy0
  obtain ⟨b, e1, rfl, wb⟩ := DataW.trod_int Tryd.underlying3 hy1
  obtain ⟨s, e2, rfl, hs⟩ := DataW.trod_string Tryd.underlying9 hy2
  simp at e0 e1 e2
  subst e0 e1 e2
  obtain ⟨l, rfl⟩ : ∃ l : List UInt8, s = ⟨l.toArray⟩ := ⟨s.data.toList, by cases s; simp⟩
  exact ⟨a, b, l, rfl, rfl, rfl, wa, wb, hs⟩
theorem shut_value' {H : Type} {enc : TypeId × Value → H} {a b : Int} {s : ByteArray} (wa : (Lit.int .i64 a).wf = true) (wb : (Lit.int .i64 b).wf = true) (hs : s.size ≤ maxLen) (W' : World) (sp : Nat → Bool) :
    DataW.Trod enc Tryd.prog W' 0 sp true 23 (.agg #[.int .i64 a, .int .i64 b, .string s]) (.agg [.lit (.int .i64 a), .lit (.int .i64 b), .lit (.string s.data.toList)]) [] :=
  shut_agg3 (y0 := (.lit (.int .i64 a), [])) (y1 := (.lit (.int .i64 b), [])) (y2 := (.lit (.string s.data.toList), [])) Tryd.underlying23 (by kernel_rfl) cellsValue ⟨1, by simp [DataW.trod, Tryd.underlying3, wa]⟩ ⟨1, by simp [DataW.trod, Tryd.underlying3, wb]⟩ ⟨1, by simp [DataW.trod, Tryd.underlying9, hs]⟩
/-- .. and shut. -/
theorem shut_value {H : Type} {enc : TypeId × Value → H} {k n : Int} {t : List UInt8} (wa : (Lit.int .i64 k).wf = true) (wb : (Lit.int .i64 n).wf = true) (ht : t.length ≤ maxLen) (W' : World) (sp : Nat → Bool) :
    DataW.Trod enc Tryd.prog W' 0 sp true 23 (V k n t) (.agg [.lit (.int .i64 k), .lit (.int .i64 n), .lit (.string t)]) [] :=
  shut_value' (s := ⟨t.toArray⟩) wa wb ht W' sp
/-- A text as the list of its bytes. -/
theorem str_list (s : ByteArray) : ∃ l : List UInt8, s = ⟨l.toArray⟩ := ⟨s.data.toList, by cases s; simp⟩
end Go.Proofs.YtdoenjkebeidlaaDoor
