/- The contract of methods: the table of the measures. -/
import Derived.Test.YtendkghifcjffaaGreatDoorMJaroS
import Derived.Test.YtendkghifcjffaaGreatDoorMSet
import Derived.Laws.EntriesVeiled
namespace Go.Proofs.YtendkghifcjffaaGreatDoor
open Go.RowKit

/-- A function value that captured nothing. -/
abbrev fnv (f : Nat) : Value := .func (Fn.func f) #[] #[]
abbrev M1 : Value := .agg #[fnv 49, fnv 50]
abbrev M2 : Value := .agg #[fnv 51, fnv 52]
abbrev M3 : Value := .agg #[fnv 51, fnv 54]
abbrev M4 : Value := .agg #[fnv 51, fnv 56]
abbrev M5 (b : Nat) : Value := .agg #[fnv 57, .func (Fn.func 58) #[] #[.pointer (some ⟨b, 0, none⟩)]]
abbrev MZ : Value := .agg #[.nilFunc, .nilFunc]
abbrev dn (n : Int) : DataW Unit := .lit (.int .i64 n)
open Classical in
/-- How an element of the table reads: by its number. -/
noncomputable def rdM (b : Nat) (v : Value) : Option (DataW Unit × List MemPlace) :=
  if v = M1 then some (dn 1, []) else if v = M2 then some (dn 2, []) else if v = M3 then some (dn 3, []) else if v = M4 then some (dn 4, []) else if v = M5 b then some (dn 5, []) else if v = MZ then some (.nil, []) else none
theorem rd1 (b : Nat) : rdM b M1 = some (dn 1, []) := by unfold rdM; rw [if_pos rfl]
theorem rd2 (b : Nat) : rdM b M2 = some (dn 2, []) := by unfold rdM; rw [if_neg (by simp), if_pos rfl]
theorem rd3 (b : Nat) : rdM b M3 = some (dn 3, []) := by unfold rdM; rw [if_neg (by simp), if_neg (by simp), if_pos rfl]
theorem rd4 (b : Nat) : rdM b M4 = some (dn 4, []) := by unfold rdM; rw [if_neg (by simp), if_neg (by simp), if_neg (by simp), if_pos rfl]
theorem rd5 (b : Nat) : rdM b (M5 b) = some (dn 5, []) := by unfold rdM; rw [if_neg (by simp), if_neg (by simp), if_neg (by simp), if_neg (by simp), if_pos rfl]
theorem rdZ (b : Nat) : rdM b MZ = some (.nil, []) := by unfold rdM; rw [if_neg (by simp), if_neg (by simp), if_neg (by simp), if_neg (by simp), if_neg (by simp), if_pos rfl]
theorem rd_inv {b : Nat} {v : Value} {D : DataW Unit} {ps : List MemPlace} (h : rdM b v = some (D, ps)) :
    (D = dn 1 ∧ v = M1) ∨ (D = dn 2 ∧ v = M2) ∨ (D = dn 3 ∧ v = M3) ∨ (D = dn 4 ∧ v = M4) ∨ (D = dn 5 ∧ v = M5 b) ∨ (D = .nil ∧ v = MZ) := by
  unfold rdM at h
  split at h
  · cases h; exact .inl ⟨rfl, by assumption⟩
  split at h
  · cases h; exact .inr (.inl ⟨rfl, by assumption⟩)
  split at h
  · cases h; exact .inr (.inr (.inl ⟨rfl, by assumption⟩))
  split at h
  · cases h; exact .inr (.inr (.inr (.inl ⟨rfl, by assumption⟩)))
  split at h
  · cases h; exact .inr (.inr (.inr (.inr (.inl ⟨rfl, by assumption⟩))))
  split at h
  · cases h; exact .inr (.inr (.inr (.inr (.inr ⟨rfl, by assumption⟩))))
  · cases h
/-- The table, as a map. -/
def mD : DataW Unit := (((((DataW.map []).put (.int .i64 1) (dn 1)).put (.int .i64 2) (dn 2)).put (.int .i64 3) (dn 3)).put (.int .i64 4) (dn 4)).put (.int .i64 5) (dn 5)
theorem mD_at (n : Int) (h1 : 1 ≤ n) (h2 : n ≤ 5) : Maps.has mD (.int .i64 n) = true ∧ mD.atKey (.int .i64 n) .nil = dn n := by
  rcases (by omega : n = 1 ∨ n = 2 ∨ n = 3 ∨ n = 4 ∨ n = 5) with rfl | rfl | rfl | rfl | rfl <;> exact ⟨rfl, rfl⟩
theorem int_ne {n m : Int} (h : n ≠ m) : (Lit.int .i64 n) ≠ (Lit.int .i64 m) := fun e => h (by cases e; rfl)
theorem mD_not (n : Int) (h : n < 1 ∨ 5 < n) : Maps.has mD (.int .i64 n) = false := by
  unfold mD
  rw [Maps.has_put_other (int_ne (by omega)), Maps.has_put_other (int_ne (by omega)), Maps.has_put_other (int_ne (by omega)), Maps.has_put_other (int_ne (by omega)), Maps.has_put_other (int_ne (by omega))]
  rfl
abbrev OwnT (w : World) (b c n : Nat) (D : DataW Unit) : Prop := w.ownsMap Tryz.prog 3 (rdM b) c n D
theorem key_int (n : Int) (h : (Lit.int .i64 n).wf = true) : keyOf Tryz.prog 3 (.int .i64 n) = some (.int .i64 n) := Maps.keyOf_int_mk Tryz.underlying3 h

set_option maxRecDepth 100000 in
theorem methods_any (t : Int) (w : World) : Calls Tryz.prog 33 #[.int .i64 t] w fun e w' => e = .returned (.map (some (w.heap.size + 1))) ∧ OwnT w' w.heap.size (w.heap.size + 1) 5 mD ∧ w'.cell? ⟨w.heap.size, 0, none⟩ = some (.int .i64 t) ∧ Below w.heap.size w w' := by
  have hmm := @run_makeMap Tryz.prog
  have o0 : OwnT ((w.alloc (Obj.cells #[Value.int IntKind.i64 t] 3)).alloc (Obj.map #[] 0)) w.heap.size (w.heap.size + 1) 0 (.map []) := by
    have := World.ownsMap_made (w.alloc (Obj.cells #[Value.int IntKind.i64 t] 3)) Tryz.prog 3 (rdM w.heap.size)
    rw [World.size_alloc] at this
    exact this
  have K := Maps.int_keyed Tryz.underlying3
  obtain ⟨w1, h1, o1, t1⟩ := o0.store K Tryz.underlying59 (by unfold maxLen; omega) (key_int 1 (by decide)) (rd1 _)
  obtain ⟨w2, h2, o2, t2⟩ := o1.store K Tryz.underlying59 (by unfold maxLen; omega) (key_int 2 (by decide)) (rd2 _)
  obtain ⟨w3, h3, o3, t3⟩ := o2.store K Tryz.underlying59 (by unfold maxLen; omega) (key_int 3 (by decide)) (rd3 _)
  obtain ⟨w4, h4, o4, t4⟩ := o3.store K Tryz.underlying59 (by unfold maxLen; omega) (key_int 4 (by decide)) (rd4 _)
  obtain ⟨w5, h5, o5, t5⟩ := o4.store K Tryz.underlying59 (by unfold maxLen; omega) (key_int 5 (by decide)) (rd5 _)
  have HO := Lib.hid o5
  have HT := Lib.hid ((((t1.trans t2).trans t3).trans t4).trans t5)
  clear o0 o1 o2 o3 o4 o5 t1 t2 t3 t4 t5
  go_enter Tryz.func33, Tryz.ntmps33
  go_wp2_with fail
  go_ret
  have hc : ((w.alloc (Obj.cells #[Value.int IntKind.i64 t] 3)).alloc (Obj.map #[] 0)).cell? ⟨w.heap.size, 0, none⟩ = some (.int .i64 t) := by simp [go_sem]
  refine ⟨rfl, HO.out, ?_, ?_⟩
  · have e := HT.out.grown.block w.heap.size (cellLt hc) (by simp)
    unfold World.cell? at hc ⊢
    rw [e]
    exact hc
  · exact below_turned (((Below.refl _ _).alloc (Nat.le_refl _) _).alloc (by simp) _) (by omega) (by simp <;> omega) HT.out
end Go.Proofs.YtendkghifcjffaaGreatDoor
