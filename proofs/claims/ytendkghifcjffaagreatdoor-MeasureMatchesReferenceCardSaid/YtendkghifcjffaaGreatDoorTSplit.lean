/- The iterator over the words of a text: its contract. -/
import Derived.RangeFuncNested
import Derived.RangeFuncBound
import Derived.RangeFuncBox
import Derived.RangeFuncCalls
import Derived.RangeFuncLeaves
import Derived.Shelf.Abstract
import Derived.Shelf.RegionOpen
import Derived.OwnWalkIn
import Derived.TacticsInMore
import Derived.LoopNIn
import Derived.LoopIn
import Derived.Test.YtendkghifcjffaaGreatDoorTWord
namespace Go.Proofs.YtendkghifcjffaaGreatDoor.L3
open Go.RowKit Go.Shelf
attribute [local go_sem] Oper.semAt_some

/-- A text of at most 1100 bytes. -/
abbrev Wd := { x : List UInt8 // x.length ≤ 1100 }
abbrev encW (x : Wd) : Array Value := #[str x.1]
/-- What a round must keep: the box of the text. -/
abbrev KeepB (b : Nat) (v : Value) (W W' : World) : Prop := Boxed W b 9 v → Boxed W' b 9 v
theorem ext_eq (l : List UInt8) (i j : Nat) : (⟨l.toArray⟩ : ByteArray).extract i j = ⟨((l.drop i).take (j - i)).toArray⟩ := by
  apply ByteArray.ext
  simp

set_option maxRecDepth 100000 in
set_option maxHeartbeats 1600000 in
theorem split1_in (n : Nat) (l Bn : Nat) (t : List UInt8) (ht : t.length ≤ 1100) (J Jx : List Wd → World → Prop) (W : World) (hJ : AbidesFrom W.heap.size J)
    (hY : ∀ pre x W1, J pre W1 → pre.length < (words t).length → YieldAt Fence.wide (n - 1) Tryz.prog l (encW x) W1 fun e W' =>
      (e = .returned (.bool true) ∧ J (pre ++ [x]) W' ∧ KeepB Bn (str t) W1 W') ∨ (e = .returned (.bool false) ∧ Jx (pre ++ [x]) W'))
    (hbx : Boxed W Bn 9 (str t)) (h0 : J [] W) :
    CallsIn Fence.wide n Tryz.prog 78 #[.func (.yield l) #[] #[], .pointer (some ⟨Bn, 0, none⟩)] W fun e W' => (∃ v, e = .returned v) ∧
      ((∃ ys : List Wd, ys.map (·.1) = words t ∧ J ys W') ∨ (∃ pre : List Wd, True ∧ Jx pre W')) := by
  refine callsIn_of_wp Tryz.func78 rfl trivial ?_ rfl
  simp only [Tryz.ntmps78, List.size_toArray, List.length_cons, List.length_nil, Nat.reduceAdd, Nat.reduceSub, Array.replicate_succ, Array.replicate_zero, List.push_toArray, List.append_toArray, List.nil_append, List.cons_append]
  gi_wp2_with fail
  gi_loopw [3, 4] (fun i j wr => ∃ (pre : List Wd) (s e : Nat), i = .int .i64 (s : Int) ∧ j = .int .i64 (e : Int) ∧ s ≤ e ∧ e ≤ t.length + 1 ∧ WS t s e ∧ Boxed wr Bn 9 (str t) ∧ J pre wr ∧
      (e ≤ t.length → At t (pre.map (·.1)) s e) ∧ (e = t.length + 1 → pre.map (·.1) = words t))
    (fun _ j _ => t.length + 2 - (intOf j).toNat)
  case atStart => exact ⟨[], 0, 0, by simp, by simp, by omega, by omega, WS.self t 0, hbx, h0, fun _ => At.start t, by omega⟩
  case round =>
    obtain ⟨pre, s, e, rfl, rfl, hse, hel, hws, hb, hJs, hat, hfin⟩ := hrel
    have hc := hb.cell
    by_cases hle : e ≤ t.length
    · have HA := Lib.hid (hat hle)
      have HF := Lib.hid hfin
      have HJ := Lib.hid hJ
      have HY := Lib.hid hY
      clear hat hfin hJ hY
      have HL := Lib.hid hws
      clear hws
      have FIN := Lib.hid (fun (w1 : World) (h1 : Below wr.heap.size wr w1) => HJ.out pre wr w1 none hJs (grown_of_below h1 none) (fun r x => by cases x))
      by_cases hlt : e < t.length
      · have hix : ∀ (h : e < (ByteArray.mk t.toArray).size), (⟨t.toArray⟩ : ByteArray)[e]'h = t[e] := fun _ => rfl
        cases hw : isW t[e]
        · by_cases hs : s < e
          · have C : Calls Tryz.prog 80 #[str ((t.drop s).take (e - s))] (wr.alloc (.cells #[.int .u8 (t[e].toNat : Int)] 5)) fun x w' => x = .returned (str (mid t s e)) ∧ Below (wr.alloc (.cells #[.int .u8 (t[e].toNat : Int)] 5)).heap.size (wr.alloc (.cells #[.int .u8 (t[e].toNat : Int)] 5)) w' := lower_any _ (by simp; omega) HL.out.ascii _
            have hN := Lib.hid (HA.out.give hs hlt hw)
            have CH := Lib.hid C
            clear C
            gi_wp2_with fail
            refine ⟨trivial, (by intro h; cases h), (callsIn_wide.2 (inWord_any t[e] wr)).mono ?_⟩
            rintro e1 w1 ⟨rfl, rfl⟩
            rw [hw]
            have hc1 := (hb.alloc (.cells #[.int .u8 (t[e].toNat : Int)] 5)).cell
            gi_wp2_with fail
            refine ⟨trivial, (by intro h; cases h), ?_⟩
            rw [ext_eq]
            refine (callsIn_wide.2 CH.out).mono ?_
            rintro e2 w2 ⟨rfl, hb2⟩
            have hB2 := Lib.hid (below_up ((Below.refl _ _).alloc (Nat.le_refl _) _) hb2 (by simp))
            clear hb2 CH
            obtain ⟨fn, tmps, assign, body, hy, hR⟩ := HY.out pre ⟨mid t s e, by rw [mid_len hle]; omega⟩ w2 (FIN.out w2 hB2.out) (by have := HA.out.lt hs hle; simpa using this)
            have hb2 := hb.kept (grown_of_below hB2.out none) (by simp)
            have hc2 := hb2.cell
            gi_wp2_with fail
            refine ⟨(by intro h; cases h), hR.mono ?_⟩
            rintro e3 w3 (⟨rfl, hJ3, hk3⟩ | ⟨rfl, hJx3⟩)
            · have hb3 := hk3 hb2
              have hc3 := hb3.cell
              gi_wp2_with fail
              go_roundw
              case rel => exact ⟨pre ++ [⟨mid t s e, by rw [mid_len hle]; omega⟩], e + 1, e + 1, by simp, by simp, by omega, by omega, WS.self _ _, hb3, hJ3, fun _ => by rw [List.map_append]; exact hN.out, by omega⟩
              case measure => simp [intOf]; omega
            · gi_wp2_with fail
              refine bodyPost_ret (results_none rfl _ _ _) rfl ?_
              exact ⟨⟨_, rfl⟩, .inr ⟨_, trivial, hJx3⟩⟩
          · obtain rfl : s = e := by omega
            have hN := Lib.hid (HA.out.skip hlt hw)
            gi_wp2_with fail
            refine ⟨trivial, (by intro h; cases h), (callsIn_wide.2 (inWord_any t[s] wr)).mono ?_⟩
            rintro e1 w1 ⟨rfl, rfl⟩
            rw [hw]
            have hc1 := (hb.alloc (.cells #[.int .u8 (t[s].toNat : Int)] 5)).cell
            gi_wp2_with fail
            refine ⟨trivial, ?_⟩
            gi_wp2_with fail
            refine ⟨(fun _ h => by cases h), ?_⟩
            gi_wp2_with fail
            go_roundw
            case rel => exact ⟨pre, s + 1, s + 1, by simp, by simp, by omega, by omega, WS.self _ _, hb.alloc _, FIN.out _ ((Below.refl _ _).alloc (Nat.le_refl _) _), fun _ => hN.out, by omega⟩
            case measure => simp [intOf]; omega
        · have hA2 := Lib.hid (HA.out.word hse hlt hw)
          gi_wp2_with fail
          refine ⟨trivial, (by intro h; cases h), (callsIn_wide.2 (inWord_any t[e] wr)).mono ?_⟩
          rintro e1 w1 ⟨rfl, rfl⟩
          rw [hw]
          gi_wp2_with fail
          go_roundw
          case rel => exact ⟨pre, s, e + 1, rfl, by simp, by omega, by omega, HL.out.snoc hse hlt hw, hb.alloc _, HJ.out pre wr _ none hJs (World.grownBy_alloc wr _ none) (fun r x => by cases x), fun _ => hA2.out, by omega⟩
          case measure => simp [intOf]; omega
      · have HE := Lib.hid (show e = t.length by omega)
        by_cases hs : s < e
        · have C : Calls Tryz.prog 80 #[str ((t.drop s).take (e - s))] wr fun x w' => x = .returned (str (mid t s e)) ∧ Below wr.heap.size wr w' := lower_any _ (by simp; omega) HL.out.ascii _
          have hN := Lib.hid (HA.out.last HE.out hs)
          have CH := Lib.hid C
          clear C
          gi_wp2_with fail
          refine ⟨trivial, ?_⟩
          gi_wp2_with fail
          refine ⟨trivial, (by intro h; cases h), ?_⟩
          rw [ext_eq]
          refine (callsIn_wide.2 CH.out).mono ?_
          rintro e2 w2 ⟨rfl, hb2⟩
          have hB2 := Lib.hid (below_up (Below.refl _ _) hb2 (Nat.le_refl _))
          clear hb2 CH
          obtain ⟨fn, tmps, assign, body, hy, hR⟩ := HY.out pre ⟨mid t s e, by rw [mid_len hle]; omega⟩ w2 (FIN.out w2 hB2.out) (by have := HA.out.lt hs hle; simpa using this)
          have hb2 := hb.kept (grown_of_below hB2.out none) (by simp)
          have hc2 := hb2.cell
          gi_wp2_with fail
          refine ⟨(by intro h; cases h), hR.mono ?_⟩
          rintro e3 w3 (⟨rfl, hJ3, hk3⟩ | ⟨rfl, hJx3⟩)
          · have hb3 := hk3 hb2
            have hc3 := hb3.cell
            gi_wp2_with fail
            go_roundw
            case rel => exact ⟨pre ++ [⟨mid t s e, by rw [mid_len hle]; omega⟩], e + 1, e + 1, by simp, by simp, by omega, by omega, WS.self _ _, hb3, hJ3, by omega, fun _ => by rw [List.map_append]; exact hN.out.symm⟩
            case measure => simp [intOf]; omega
          · gi_wp2_with fail
            refine bodyPost_ret (results_none rfl _ _ _) rfl ?_
            exact ⟨⟨_, rfl⟩, .inr ⟨_, trivial, hJx3⟩⟩
        · obtain rfl : s = e := by omega
          have hN := Lib.hid (HA.out.done HE.out)
          gi_wp2_with fail
          refine ⟨trivial, ?_⟩
          gi_wp2_with fail
          refine ⟨trivial, ?_⟩
          gi_wp2_with fail
          refine ⟨(fun _ h => by cases h), ?_⟩
          gi_wp2_with fail
          go_roundw
          case rel => exact ⟨pre, s + 1, s + 1, by simp, by simp, by omega, by omega, WS.self _ _, hb, hJs, by omega, fun _ => hN.out.symm⟩
          case measure => simp [intOf]; omega
    · gi_wp2_with fail
      go_end0
      exact ⟨⟨_, rfl⟩, .inl ⟨pre, hfin (by omega), hJs⟩⟩

/-- split hands back the iterator over the words, and lays the text's box. -/
theorem split_any (t : List UInt8) (w : World) :
    Calls Tryz.prog 67 #[str t] w fun e w' => e = .returned (.func (.func 78) #[] #[.pointer (some ⟨w.heap.size, 0, none⟩)]) ∧ w' = w.alloc (.cells #[str t] 9) := by
  go_enter Tryz.func67, Tryz.ntmps67
  go_wp2_with fail
  go_ret
  exact ⟨rfl, rfl⟩

theorem split_stops (n : Nat) (Bn : Nat) (t : List UInt8) (ht : t.length ≤ 1100) (w : World) (hbx : Boxed w Bn 9 (str t)) :
    SeqStopsK Fence.wide n Tryz.prog 78 #[.pointer (some ⟨Bn, 0, none⟩)] encW (KeepB Bn (str t)) (fun ys => ys.map (·.1) = words t) (fun _ => True) (words t).length w := fun l J Jx W hW hJ _ hY h0 =>
  split1_in n l Bn t ht J Jx W hJ hY (hbx.kept (grown_of_below hW none) (by simp)) h0
end Go.Proofs.YtendkghifcjffaaGreatDoor.L3
