/- The iterator over the parts of a text: its contract. -/
import Derived.Test.YtfpegkdbimkhdaaDoorSplit
namespace Go.Proofs.YtfpegkdbimkhdaaDoor
open Go.RowKit Go.Shelf
attribute [local go_sem] Oper.semAt_some

/-- What a round must keep: the boxes of the text and of the number. -/
abbrev KeepP (b : Nat) (v : Value) (c : Nat) (u : Value) (W W' : World) : Prop := (Boxed W b 9 v ∧ Boxed W c 3 u) → (Boxed W' b 9 v ∧ Boxed W' c 3 u)

set_option maxRecDepth 100000 in
set_option maxHeartbeats 1600000 in
theorem parts1_in (n : Nat) (l Bn Bk : Nat) (t : List UInt8) (k : Nat) (hk1 : 1 ≤ k) (ht : t.length ≤ 1100) (J Jx : List Wd → World → Prop) (W : World) (hJ : AbidesFrom W.heap.size J)
    (hY : ∀ pre x W1, J pre W1 → pre.length < (parts t k).length → YieldAt Fence.wide (n - 1) Tryd.prog l (encW x) W1 fun e W' =>
      (e = .returned (.bool true) ∧ J (pre ++ [x]) W' ∧ KeepP Bn (str t) Bk (.int .i64 (k : Int)) W1 W') ∨ (e = .returned (.bool false) ∧ Jx (pre ++ [x]) W'))
    (hbx : Boxed W Bn 9 (str t)) (hbk : Boxed W Bk 3 (.int .i64 (k : Int))) (h0 : J [] W) :
    CallsIn Fence.wide n Tryd.prog 39 #[.func (.yield l) #[] #[], .pointer (some ⟨Bn, 0, none⟩), .pointer (some ⟨Bk, 0, none⟩)] W fun e W' => (∃ v, e = .returned v) ∧
      ((∃ ys : List Wd, ys.map (·.1) = parts t k ∧ J ys W') ∨ (∃ pre : List Wd, True ∧ Jx pre W')) := by
  have HJ := Lib.hid hJ
  have HY := Lib.hid hY
  clear hJ hY
  have hc := hbx.cell
  have hd := hbk.cell
  refine callsIn_of_wp Tryd.func39 rfl trivial ?_ rfl
  simp only [Tryd.ntmps39, List.size_toArray, List.length_cons, List.length_nil, Nat.reduceAdd, Nat.reduceSub, Array.replicate_succ, Array.replicate_zero, List.push_toArray, List.append_toArray, List.nil_append, List.cons_append]
  cases t with
  | nil =>
    gi_wp2_with fail
    refine bodyPost_ret (results_none rfl _ _ _) rfl ?_
    exact ⟨⟨_, rfl⟩, .inl ⟨[], rfl, h0⟩⟩
  | cons a r =>
    obtain ⟨t, hT⟩ : ∃ t, a :: r = t := ⟨_, rfl⟩
    have ht0 : 0 < t.length := by rw [← hT]; simp
    have hne : t ≠ [] := by rw [← hT]; simp
    rw [hT] at hc ht hbx
    have HB := Lib.hid hbx
    have HK := Lib.hid hbk
    rw [hT] at HY
    rw [hT]
    clear hT hbx hbk
    obtain ⟨L, hL⟩ : ∃ L, min k t.length = L := ⟨_, rfl⟩
    have hL1 : 1 ≤ L := by omega
    have hL2 : L ≤ t.length := by omega
    have HP := Lib.hid (parts_eq (k := k) hne)
    have HL := Lib.hid hL
    clear hL hne
    have hmin : min (k : Int) (t.length : Int) = (L : Int) := by have := HL.out; omega
    have hem : t.isEmpty = false := by cases t with
      | nil => simp at ht0
      | cons x y => rfl
    gi_wp2_with fail
    gi_loopw [5] (fun j wr => ∃ (pre : List Wd) (i : Nat), j = .int .i64 ((L + i : Nat) : Int) ∧ i ≤ t.length + 1 - L ∧ Boxed wr Bn 9 (str t) ∧ Boxed wr Bk 3 (.int .i64 (k : Int)) ∧ J pre wr ∧ pre.map (·.1) = partsTo t L i)
      (fun j _ => t.length + 2 - (intOf j).toNat)
    case atStart => exact ⟨[], 0, by simp, by omega, HB.out, HK.out, h0, rfl⟩
    case round =>
      obtain ⟨pre, i, rfl, hi, hb, hbk, hJs, hp⟩ := hrel
      have hc1 := hb.cell
      have HPI := Lib.hid hp
      clear hp hc hd
      by_cases hle : L + i ≤ t.length
      · have hsub : ((L + i : Nat) : Int) - (L : Int) = (i : Int) := by omega
        obtain ⟨fn, tmps, assign, body, hy, hR⟩ := HY.out pre ⟨(t.drop i).take L, by simp; omega⟩ wr hJs (by
          have e := congrArg List.length HPI.out
          rw [partsTo_len, List.length_map] at e
          rw [HP.out, partsTo_len, e, HL.out]; omega)
        have hx : (⟨t.toArray⟩ : ByteArray).extract i (L + i) = ⟨((t.drop i).take L).toArray⟩ := by rw [ext_eq, Nat.add_sub_cancel]
        gi_wp2_with fail
        refine ⟨(by intro h; cases h), hR.mono ?_⟩
        rintro e3 w3 (⟨rfl, hJ3, hk3⟩ | ⟨rfl, hJx3⟩)
        · obtain ⟨hb3, hk4⟩ := hk3 ⟨hb, hbk⟩
          have hc3 := hb3.cell
          gi_wp2_with fail
          go_roundw
          case rel => exact ⟨pre ++ [⟨(t.drop i).take L, by simp; omega⟩], i + 1, by simp; omega, by omega, hb3, hk4, hJ3, by rw [List.map_append, HPI.out]; rfl⟩
          case measure => simp [intOf]; omega
        · gi_wp2_with fail
          refine bodyPost_ret (results_none rfl _ _ _) rfl ?_
          exact ⟨⟨_, rfl⟩, .inr ⟨_, trivial, hJx3⟩⟩
      · gi_wp2_with fail
        go_end0
        exact ⟨⟨_, rfl⟩, .inl ⟨pre, by rw [HPI.out, HP.out, HL.out, show i = t.length + 1 - L by omega], hJs⟩⟩

/-- parts hands back the iterator over the parts, and lays the boxes of the text and of the number. -/
theorem parts_any (t : List UInt8) (k : Int) (w : World) :
    Calls Tryd.prog 31 #[str t, .int .i64 k] w fun e w' => e = .returned (.func (.func 39) #[] #[.pointer (some ⟨w.heap.size, 0, none⟩), .pointer (some ⟨w.heap.size + 1, 0, none⟩)]) ∧ w' = (w.alloc (.cells #[str t] 9)).alloc (.cells #[.int .i64 k] 3) := by
  go_enter Tryd.func31, Tryd.ntmps31
  go_wp2_with fail
  go_ret
  exact ⟨rfl, rfl⟩

theorem parts_stops (n : Nat) (Bn Bk : Nat) (t : List UInt8) (k : Nat) (hk1 : 1 ≤ k) (ht : t.length ≤ 1100) (w : World) (hbx : Boxed w Bn 9 (str t)) (hbk : Boxed w Bk 3 (.int .i64 (k : Int))) :
    SeqStopsK Fence.wide n Tryd.prog 39 #[.pointer (some ⟨Bn, 0, none⟩), .pointer (some ⟨Bk, 0, none⟩)] encW (KeepP Bn (str t) Bk (.int .i64 (k : Int))) (fun ys => ys.map (·.1) = parts t k) (fun _ => True) (parts t k).length w := fun l J Jx W hW hJ _ hY h0 =>
  parts1_in n l Bn Bk t k hk1 ht J Jx W hJ hY (hbx.kept (grown_of_below hW none) (by simp)) (hbk.kept (grown_of_below hW none) (by simp)) h0
end Go.Proofs.YtfpegkdbimkhdaaDoor
