/- The program's table of operations. -/
import Derived.Test.YtcgkaecaddpenaaGreatDoorPsPgY
namespace Go.Proofs.YtcgkaecaddpenaaGreatDoor
open Go.RowKit
open L7 (Tk)
open L8
set_option linter.unusedSimpArgs false

def opVs (g : Nat) : List Value := [.agg #[.int .i64 0, .nilFunc], .agg #[.int .i64 2, .func (Fn.func 92) #[ptr g] #[]], .agg #[.int .i64 3, .func (Fn.func 93) #[ptr g] #[]], .agg #[.int .i64 4, .func (Fn.func 94) #[ptr g] #[]], .agg #[.int .i64 5, .func (Fn.func 94) #[ptr g] #[]], .agg #[.int .i64 6, .func (Fn.func 94) #[ptr g] #[]], .agg #[.int .i64 7, .func (Fn.func 95) #[ptr g] #[]], .agg #[.int .i64 8, .func (Fn.func 96) #[ptr g] #[]]]
theorem opVs_nodup (g : Nat) : (opVs g).Nodup := by simp [opVs]
theorem zeroOp (W : World) : (zeroValue 141).run Tryz.prog W = .ok (.agg #[.int .i64 0, .nilFunc]) W := by kernel_rfl
theorem opsW_nodup : opsW.Nodup := by decide
set_option maxRecDepth 100000 in
set_option maxHeartbeats 8000000 in
theorem operations_any (g : Nat) (w : World) : Calls Tryz.prog 87 #[ptr g] w (fun e w' => e = .returned (.map (some w.heap.size)) ∧ Tab w' (opVs g) w.heap.size opsW ∧ Below w.heap.size w w') := by
  obtain ⟨f, f0, hu, ht, hb⟩ := tab_chain w (opVs g) (opVs_nodup g) opsW opsW_nodup (by decide) (by decide) rfl Tryz.underlying143 (e := 141) 7 (by decide)
  have u0 : (Instr.mapUpdate 143 (.map (some w.heap.size)) (str [115, 101, 108, 101, 99, 116]) (.agg #[.int .i64 2, .func (Fn.func 92) #[ptr g] #[]])).run Tryz.prog (f 0) = .ok () (f 1) := hu 0 _ _ (by decide) rfl rfl
  have u1 : (Instr.mapUpdate 143 (.map (some w.heap.size)) (str [112, 114, 111, 106, 101, 99, 116]) (.agg #[.int .i64 3, .func (Fn.func 93) #[ptr g] #[]])).run Tryz.prog (f 1) = .ok () (f 2) := hu 1 _ _ (by decide) rfl rfl
  have u2 : (Instr.mapUpdate 143 (.map (some w.heap.size)) (str [106, 111, 105, 110]) (.agg #[.int .i64 4, .func (Fn.func 94) #[ptr g] #[]])).run Tryz.prog (f 2) = .ok () (f 3) := hu 2 _ _ (by decide) rfl rfl
  have u3 : (Instr.mapUpdate 143 (.map (some w.heap.size)) (str [117, 110, 105, 111, 110]) (.agg #[.int .i64 5, .func (Fn.func 94) #[ptr g] #[]])).run Tryz.prog (f 3) = .ok () (f 4) := hu 3 _ _ (by decide) rfl rfl
  have u4 : (Instr.mapUpdate 143 (.map (some w.heap.size)) (str [109, 105, 110, 117, 115]) (.agg #[.int .i64 6, .func (Fn.func 94) #[ptr g] #[]])).run Tryz.prog (f 4) = .ok () (f 5) := hu 4 _ _ (by decide) rfl rfl
  have u5 : (Instr.mapUpdate 143 (.map (some w.heap.size)) (str [114, 101, 110, 97, 109, 101]) (.agg #[.int .i64 7, .func (Fn.func 95) #[ptr g] #[]])).run Tryz.prog (f 5) = .ok () (f 6) := hu 5 _ _ (by decide) rfl rfl
  have u6 : (Instr.mapUpdate 143 (.map (some w.heap.size)) (str [103, 114, 111, 117, 112]) (.agg #[.int .i64 8, .func (Fn.func 96) #[ptr g] #[]])).run Tryz.prog (f 6) = .ok () (f 7) := hu 6 _ _ (by decide) rfl rfl
  rw [f0] at u0
  obtain ⟨m1, e1⟩ : ∃ x, f 1 = x := ⟨_, rfl⟩
  rw [e1] at u0 u1
  obtain ⟨m2, e2⟩ : ∃ x, f 2 = x := ⟨_, rfl⟩
  rw [e2] at u1 u2
  obtain ⟨m3, e3⟩ : ∃ x, f 3 = x := ⟨_, rfl⟩
  rw [e3] at u2 u3
  obtain ⟨m4, e4⟩ : ∃ x, f 4 = x := ⟨_, rfl⟩
  rw [e4] at u3 u4
  obtain ⟨m5, e5⟩ : ∃ x, f 5 = x := ⟨_, rfl⟩
  rw [e5] at u4 u5
  obtain ⟨m6, e6⟩ : ∃ x, f 6 = x := ⟨_, rfl⟩
  rw [e6] at u5 u6
  obtain ⟨m7, e7⟩ : ∃ x, f 7 = x := ⟨_, rfl⟩
  rw [e7] at u6 ht hb
  have HT := Lib.hid (show Tab m7 (opVs g) w.heap.size opsW from ht)
  have HB := Lib.hid hb
  have hmm := @run_makeMap Tryz.prog
  clear f0 hu ht hb e1 e2 e3 e4 e5 e6 e7
  go_enter Tryz.func87, Tryz.ntmps87
  go_wp2_with fail
  go_ret
  exact ⟨rfl, HT.out, HB.out⟩
/-- What the table says of a word. -/
theorem op_look {w : World} {g m : Nat} (h : Tab w (opVs g) m opsW) (x : Txt) (hl : x.length ≤ 200000) :
    (∀ i, opsW[i]? = some x → ∃ v, (opVs g)[i + 1]? = some v ∧ (Instr.lookup 143 (.map (some m)) (str x) true).run Tryz.prog w = .ok (.tuple #[v, .bool true]) w) ∧
    (x ∉ opsW → (Instr.lookup 143 (.map (some m)) (str x) true).run Tryz.prog w = .ok (.tuple #[.agg #[.int .i64 0, .nilFunc], .bool false]) w) :=
  tab_look h Tryz.underlying143 (opVs_nodup g) (zeroOp w) rfl x hl
end Go.Proofs.YtcgkaecaddpenaaGreatDoor
