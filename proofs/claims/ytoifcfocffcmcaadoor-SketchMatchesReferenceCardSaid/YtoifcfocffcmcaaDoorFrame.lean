/- A start that fits the row's list, the same for every law of the seat; how arguments are opened. -/
import Derived.Test.YtoifcfocffcmcaaDoorSkBase
import Derived.Lib.LaidTab
import Derived.Stop.LaidErr
import Derived.Test.YtoifcfocffcmcaaDoorCards
import Derived.Test.YtoifcfocffcmcaaDoorTie
import Derived.Lay
import Derived.Lib.SmallJoins
import Derived.Deep.DeepHandedRow
import Derived.Deep.Slices
import Derived.LaidLaws
import Derived.JoinedCond
namespace Go.Proofs.YtoifcfocffcmcaaDoor
open Go.RowKit Go.ChangeShapes Go.WideShapes Go.ChangeAt Go.Joins

theorem own : ownKnob Tryd.prog.godebug = none := by kernel_rfl

/-! A start that fits: the variables hold what the text lays. -/
noncomputable def laidWorld (os : Os) : World := World.laidAll Tryd.prog os Rows.sketchHashesRow.laid
theorem laid_met (os : Os) (args : Array Value) : laidMet Tryd.prog Rows.sketchHashesRow.laid ((laidWorld os).forCall (fun _ _ => 0) ⟨#[], args, []⟩).memory :=
  laidMet_laidAll _ (by kernel_rfl) (by kernel_rfl)
theorem laid_shaped (os : Os) (args : Array Value) : ((laidWorld os).forCall (fun _ _ => 0) ⟨#[], args, []⟩).Shaped Tryd.prog :=
  World.shaped_of_ZipB (by kernel_rfl) (by kernel_rfl)
/-- A start, with these arguments, that fits the row. -/
theorem witness {H : Type} {enc : TypeId × Value → H} {os : Os} {f : FuncId} {fn : Func} {s : OpenSpec} {conds : List PathCond} {apart : Bool} {laid : List (String × DataW Unit)} (args : Array Value)
    (hok : Input.okWideB Tryd.checked.prog ((laidWorld os).forCall (fun _ _ => 0) ⟨#[], args, []⟩) f ⟨#[], args, []⟩ = true)
    (hrow : s.preRow enc Tryd.checked.prog fn conds apart laid ((laidWorld os).forCall (fun _ _ => 0) ⟨#[], args, []⟩).memory args) :
    ∃ (w : World) (tape : Tape) (i : Input), w.os = os ∧ (w.forCall tape i).Shaped Tryd.checked.prog ∧ i.vars = [] ∧ Input.okWide Tryd.checked.prog (w.forCall tape i) .any w.heap.size f i ∧
      s.preRow enc Tryd.checked.prog fn conds apart laid (w.forCall tape i).memory i.args ∧ ({} : Assume).holds Tryd.checked.prog (lone (Frame.enter Tryd.checked.prog f i.args .normal) [] (w.forCall tape i)) :=
  ⟨laidWorld os, fun _ _ => 0, ⟨#[], args, []⟩, World.laidAll_os _ _ _, laid_shaped os args, (Input.okWide_of_okWideB (base := 0) hok).1, (Input.okWide_of_okWideB hok).2, hrow, by
    simp only [Assume.holds]
    exact ⟨by simp, by simp, fun _ => Modest.zero, by simp, by simp⟩⟩
theorem laidOut : laidOutB Tryd.prog = true := by kernel_rfl
theorem cellsStr : Tryd.prog.cellsOf 9 = 1 := by kernel_rfl
theorem cellsInt : Tryd.prog.cellsOf 3 = 1 := by kernel_rfl
theorem cellsStrs : Tryd.prog.cellsOf 22 = 1 := by kernel_rfl
theorem cellsInts : Tryd.prog.cellsOf 23 = 1 := by kernel_rfl
/-- A byte that came in. -/
theorem byte_of {n : Int} (h : (Lit.int .u8 n).wf = true) : ∃ c : UInt8, n = (c.toNat : Int) := by
  have h1 : 0 ≤ n ∧ n ≤ 255 := by simpa [Lit.wf, IntKind.min, IntKind.max, IntKind.signed, IntKind.bits] using h
  refine ⟨UInt8.ofNat n.toNat, ?_⟩
  have h2 : (UInt8.ofNat n.toNat).toNat = n.toNat := by
    rw [UInt8.toNat_ofNat']
    omega
  rw [h2]
  omega
theorem wf_i64 {n : Int} (h : (Lit.int .i64 n).wf = true) : -9223372036854775808 ≤ n ∧ n ≤ 9223372036854775807 := by
  simpa [Lit.wf, IntKind.min, IntKind.max, IntKind.signed, IntKind.bits] using h
theorem wf_i32 {n : Int} (h : (Lit.int .i32 n).wf = true) : -2147483648 ≤ n ∧ n ≤ 2147483647 := by
  simpa [Lit.wf, IntKind.min, IntKind.max, IntKind.signed, IntKind.bits] using h
theorem wf_u32 {n : Int} (h : (Lit.int .u32 n).wf = true) : 0 ≤ n ∧ n ≤ 4294967295 := by
  simpa [Lit.wf, IntKind.min, IntKind.max, IntKind.signed, IntKind.bits] using h
/-- A text as the list of its bytes. -/
theorem str_list (s : ByteArray) : ∃ l : List UInt8, s = ⟨l.toArray⟩ := ⟨s.data.toList, by cases s; simp⟩

theorem add_none' (b off n : Nat) : (⟨b, off, none⟩ : Addr).add n = ⟨b, off + n, none⟩ := by
  unfold Addr.add
  split
  · rename_i h
    subst h
    rfl
  · rfl
set_option maxRecDepth 100000 in
/-- A list of texts that came in, opened. -/
theorem strs_trod {H : Type} {enc : TypeId × Value → H} {W : World} {c : Value} {n : Nat} {y : DataW H × List MemPlace} (hf : DataW.trod enc Tryd.prog W 0 (fun _ => true) true n 22 [c] = some y) :
    ∃ l : List (List UInt8), Strs W c l := by
  rcases Go.Deep.open_slice Tryd.underlying22 hf with ⟨hcs, _⟩ | ⟨a, len, cap, m, k, D, Pl, hcs, _, hl, hlc, hmm, _, hi⟩
  · simp at hcs
    subst hcs
    exact ⟨[], strs_nil W⟩
  · simp at hcs
    subst hcs
    rw [cellsStr] at hi
    have each : ∀ i, ∃ q : List UInt8, i < len → ∃ b off, some a = some ⟨b, off, none⟩ ∧ W.cell? ⟨b, off + i, none⟩ = some (str q) := by
      intro i
      by_cases hlt : i < len
      · obtain ⟨cs', h1, h2⟩ := hi i (by simp at hmm; omega)
        obtain ⟨_, hlen, hcell⟩ := World.cells?_some h1
        have c0 := hcell 0 (by omega)
        match cs', hlen with
        | [u], _ =>
          obtain ⟨s, e, _, _⟩ := DataW.trod_string Tryd.underlying9 h2
          simp at e
          subst e
          obtain ⟨t, rfl⟩ := str_list s
          obtain ⟨b, off, spot⟩ := a
          have hspot : spot = none := by
            obtain ⟨cs0, z0, _⟩ := hi 0 (by simp at hmm; omega)
            obtain ⟨_, zl, zc⟩ := World.cells?_some z0
            have := zc 0 (by omega)
            rw [List.getElem?_eq_getElem (by omega)] at this
            simpa [Addr.add] using World.cell?_spot this
          subst hspot
          rw [add_none', add_none', Nat.mul_one] at c0
          exact ⟨t, fun _ => ⟨b, off, rfl, c0⟩⟩
      · exact ⟨[], fun g => absurd g hlt⟩
    obtain ⟨f, hq⟩ := Classical.skolem.1 each
    refine ⟨(List.range len).map f, some a, cap, by rw [List.length_map, List.length_range], by rw [List.length_map, List.length_range]; exact hl, (fun e => by cases e), fun i h => ?_⟩
    have hlt : i < len := by simpa using h
    have e : ((List.range len).map f)[i] = f i := by simp
    rw [e]
    exact hq i hlt
set_option maxRecDepth 100000 in
theorem open_strs {H : Type} {enc : TypeId × Value → H} {W : World} {base : Nat} {v : Value} {d : DataW H} {p : List MemPlace} (hok : Value.okWide Tryd.prog W .any base 22 v) (h : DataW.Trod enc Tryd.prog W 0 (fun _ => true) true 22 v d p) :
    ∃ l : List (List UInt8), Strs W v l := by
  obtain ⟨A, len, cap, rfl⟩ := okWide_slice Tryd.underlying22 hok
  obtain ⟨fuel, hf⟩ := h
  exact strs_trod (c := .slice A len cap) hf
set_option maxRecDepth 100000 in
/-- A list of numbers that came in, opened. -/
theorem ints_trod {H : Type} {enc : TypeId × Value → H} {W : World} {c : Value} {n : Nat} {y : DataW H × List MemPlace} (hf : DataW.trod enc Tryd.prog W 0 (fun _ => true) true n 23 [c] = some y) :
    ∃ l : List Int, Ints W c l := by
  rcases Go.Deep.open_slice Tryd.underlying23 hf with ⟨hcs, _⟩ | ⟨a, len, cap, m, k, D, Pl, hcs, _, hl, hlc, hmm, _, hi⟩
  · simp at hcs
    subst hcs
    exact ⟨[], ints_nil W⟩
  · simp at hcs
    subst hcs
    rw [cellsInt] at hi
    have each : ∀ i, ∃ q : Int, i < len → ∃ b off, some a = some ⟨b, off, none⟩ ∧ W.cell? ⟨b, off + i, none⟩ = some (.int .i64 q) := by
      intro i
      by_cases hlt : i < len
      · obtain ⟨cs', h1, h2⟩ := hi i (by simp at hmm; omega)
        obtain ⟨_, hlen, hcell⟩ := World.cells?_some h1
        have c0 := hcell 0 (by omega)
        match cs', hlen with
        | [u], _ =>
          obtain ⟨t, e, _, _⟩ := DataW.trod_int Tryd.underlying3 h2
          simp at e
          subst e
          obtain ⟨b, off, spot⟩ := a
          have hspot : spot = none := by
            obtain ⟨cs0, z0, _⟩ := hi 0 (by simp at hmm; omega)
            obtain ⟨_, zl, zc⟩ := World.cells?_some z0
            have := zc 0 (by omega)
            rw [List.getElem?_eq_getElem (by omega)] at this
            simpa [Addr.add] using World.cell?_spot this
          subst hspot
          rw [add_none', add_none', Nat.mul_one] at c0
          exact ⟨t, fun _ => ⟨b, off, rfl, c0⟩⟩
      · exact ⟨0, fun g => absurd g hlt⟩
    obtain ⟨f, hq⟩ := Classical.skolem.1 each
    refine ⟨(List.range len).map f, some a, cap, by rw [List.length_map, List.length_range], by rw [List.length_map, List.length_range]; exact hl, (fun e => by cases e), fun i h => ?_⟩
    have hlt : i < len := by simpa using h
    have e : ((List.range len).map f)[i] = f i := by simp
    rw [e]
    exact hq i hlt
set_option maxRecDepth 100000 in
theorem open_ints {H : Type} {enc : TypeId × Value → H} {W : World} {base : Nat} {v : Value} {d : DataW H} {p : List MemPlace} (hok : Value.okWide Tryd.prog W .any base 23 v) (h : DataW.Trod enc Tryd.prog W 0 (fun _ => true) true 23 v d p) :
    ∃ l : List Int, Ints W v l := by
  obtain ⟨A, len, cap, rfl⟩ := okWide_slice Tryd.underlying23 hok
  obtain ⟨fuel, hf⟩ := h
  exact ints_trod (c := .slice A len cap) hf
/-! What the row's list gives. -/
theorem gPow : Tryd.prog.globalNamed (Tryd.prog.globals[0]!).name = some 0 := by kernel_rfl
theorem gPowType : (Tryd.prog.globals[0]?).map (·.type) = some 82 := by kernel_rfl
theorem cellsPow : Tryd.prog.cellsOf 82 = 20 := by kernel_rfl
theorem cellsU64 : Tryd.prog.cellsOf 55 = 1 := by kernel_rfl
theorem tab_of_laid {W : World} (h : laidMetH Tryd.prog Rows.sketchHashesRow.laid W) : Tab W := by
  have hL : laidMet Tryd.prog Rows.sketchHashesRow.laid W := h
  have h1 := hL.tail
  have h2 := h1.tail
  have tab := Lib.tabIs_of_head (k := .u64) (zs := Lib.pow10Tab) gPow gPowType Tryd.underlying82 Tryd.underlying55 cellsU64 cellsPow h2
  unfold Lib.TabIs World.var? at tab
  rw [gPow] at tab
  simp only [Option.bind_some] at tab
  split at tab
  · rename_i cs t z hh
    cases tab
    exact ⟨t, z, hh⟩
  · cases tab
end Go.Proofs.YtoifcfocffcmcaaDoor
