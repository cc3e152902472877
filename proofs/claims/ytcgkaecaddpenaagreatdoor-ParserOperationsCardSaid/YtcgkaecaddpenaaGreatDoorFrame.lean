/- A start that fits the row's list, the same for every law of the seat; what the list gives. -/
import Derived.Test.YtcgkaecaddpenaaGreatDoorPV
import Derived.Lib.LaidTab
import Derived.Stop.LaidErr
import Derived.Test.YtcgkaecaddpenaaGreatDoorCards
import Derived.Test.YtcgkaecaddpenaaGreatDoorTie
import Derived.Lay
import Derived.Lib.SmallJoins
import Derived.Deep.DeepHandedRow
import Derived.Deep.DeepWitnessRowRef
import Derived.Deep.Slices
import Derived.LaidLaws
import Derived.JoinedCond
namespace Go.Proofs.YtcgkaecaddpenaaGreatDoor
open Go.RowKit Go.ChangeShapes Go.WideShapes Go.ChangeAt Go.Joins

theorem own : ownKnob Tryz.prog.godebug = none := by kernel_rfl

/-! A start that fits: the variables hold what the text lays. -/
noncomputable def laidWorld (os : Os) : World := World.laidAll Tryz.prog os Rows.parserJoinsRow.laid
theorem laid_met (os : Os) (args : Array Value) : laidMet Tryz.prog Rows.parserJoinsRow.laid ((laidWorld os).forCall (fun _ _ => 0) ⟨#[], args, []⟩).memory :=
  laidMet_laidAll _ (by kernel_rfl) (by kernel_rfl)
theorem laid_shaped (os : Os) (args : Array Value) : ((laidWorld os).forCall (fun _ _ => 0) ⟨#[], args, []⟩).Shaped Tryz.prog :=
  World.shaped_of_ZipB (by kernel_rfl) (by kernel_rfl)
/-- A start, with these arguments, that fits the row. -/
theorem witness {H : Type} {enc : TypeId × Value → H} {os : Os} {f : FuncId} {fn : Func} {s : OpenSpec} {conds : List PathCond} {apart : Bool} {laid : List (String × DataW Unit)} (args : Array Value)
    (hok : Input.okWideB Tryz.checked.prog ((laidWorld os).forCall (fun _ _ => 0) ⟨#[], args, []⟩) f ⟨#[], args, []⟩ = true)
    (hrow : s.preRow enc Tryz.checked.prog fn conds apart laid ((laidWorld os).forCall (fun _ _ => 0) ⟨#[], args, []⟩).memory args) :
    ∃ (w : World) (tape : Tape) (i : Input), w.os = os ∧ (w.forCall tape i).Shaped Tryz.checked.prog ∧ i.vars = [] ∧ Input.okWide Tryz.checked.prog (w.forCall tape i) .any w.heap.size f i ∧
      s.preRow enc Tryz.checked.prog fn conds apart laid (w.forCall tape i).memory i.args ∧ ({} : Assume).holds Tryz.checked.prog (lone (Frame.enter Tryz.checked.prog f i.args .normal) [] (w.forCall tape i)) :=
  ⟨laidWorld os, fun _ _ => 0, ⟨#[], args, []⟩, World.laidAll_os _ _ _, laid_shaped os args, (Input.okWide_of_okWideB (base := 0) hok).1, (Input.okWide_of_okWideB hok).2, hrow, by
    simp only [Assume.holds]
    exact ⟨by simp, by simp, fun _ => Modest.zero, by simp, by simp⟩⟩
/-- A text as the list of its bytes. -/
theorem str_list (s : ByteArray) : ∃ l : List UInt8, s = ⟨l.toArray⟩ := ⟨s.data.toList, by cases s; simp⟩
/-- A number that came in, without a sign. -/
theorem nat_of16 {n : Int} (h : (Lit.int .u16 n).wf = true) : ∃ a : Nat, n = (a : Int) ∧ a < 65536 := by
  have h1 : 0 ≤ n ∧ n ≤ 65535 := by simpa [Lit.wf, IntKind.min, IntKind.max, IntKind.signed, IntKind.bits] using h
  exact ⟨n.toNat, by omega, by omega⟩
theorem nat_of32 {n : Int} (h : (Lit.int .u32 n).wf = true) : ∃ a : Nat, n = (a : Int) ∧ a < 4294967296 := by
  have h1 : 0 ≤ n ∧ n ≤ 4294967295 := by simpa [Lit.wf, IntKind.min, IntKind.max, IntKind.signed, IntKind.bits] using h
  exact ⟨n.toNat, by omega, by omega⟩
theorem gPow : Tryz.prog.globalNamed (Tryz.prog.globals[3]!).name = some 3 := by kernel_rfl
theorem gPowType : (Tryz.prog.globals[3]?).map (·.type) = some 169 := by kernel_rfl
theorem cellsPow : Tryz.prog.cellsOf 169 = 20 := by kernel_rfl
theorem cellsU64 : Tryz.prog.cellsOf 146 = 1 := by kernel_rfl
theorem gES : Tryz.prog.globalNamed (Tryz.prog.globals[0]!).name = some 0 := by kernel_rfl
theorem gESType : (Tryz.prog.globals[0]?).map (·.type) = some 98 := by kernel_rfl
theorem gER : Tryz.prog.globalNamed (Tryz.prog.globals[1]!).name = some 1 := by kernel_rfl
theorem gERType : (Tryz.prog.globals[1]?).map (·.type) = some 98 := by kernel_rfl
theorem cellsES : Tryz.prog.cellsOf 157 = 1 := by kernel_rfl
theorem cellsStr : Tryz.prog.cellsOf 9 = 1 := by kernel_rfl
theorem rowES (u : TypeId) (h : Tryz.prog.typeName? 3 u = Tryz.prog.typeName? 3 155) : u = 155 :=
  typeName_ptr_named (nm := "errors.errorString") (by kernel_rfl) (by kernel_rfl) (by decide) u (h.trans (by kernel_rfl))
theorem env_of_laid {W : World} (h : laidMetH Tryz.prog Rows.parserJoinsRow.laid W) : L2.Env W := by
  have hL : laidMet Tryz.prog Rows.parserJoinsRow.laid W := h
  have h1 := hL.tail
  have h2 := h1.tail
  have h3 := h2.tail
  have h4 := h3.tail
  have tab := Lib.tabIs_of_head (k := .u64) (zs := Lib.pow10Tab) gPow gPowType Tryz.underlying169 Tryz.underlying146 cellsU64 cellsPow h2
  obtain ⟨a0, s0, v0, -, -, -⟩ := laid_sentinel h3 gER gERType Tryz.underlying98 (fun u hu => rowES u (hu.trans (by kernel_rfl))) Tryz.underlying155 Tryz.underlying157 rfl rfl Tryz.underlying9 cellsES cellsStr
  obtain ⟨a1, s1, v1, -, -, -⟩ := laid_sentinel h4 gES gESType Tryz.underlying98 (fun u hu => rowES u (hu.trans (by kernel_rfl))) Tryz.underlying155 Tryz.underlying157 rfl rfl Tryz.underlying9 cellsES cellsStr
  refine ⟨⟨155, .pointer (some a1), ?_⟩, ⟨155, .pointer (some a0), ?_⟩, ?_⟩
  · have h0 := World.var?_cell gES v1 0; simpa using h0
  · have h0 := World.var?_cell gER v0 0; simpa using h0
  · unfold Lib.TabIs World.var? at tab
    rw [gPow] at tab
    simp only [Option.bind_some] at tab
    split at tab
    · rename_i cs t z hh
      cases tab
      exact ⟨t, z, hh⟩
    · cases tab
end Go.Proofs.YtcgkaecaddpenaaGreatDoor
