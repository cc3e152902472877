/- WordsCase in plain words: a text in upper case, with other bytes between its words. -/
import Derived.Test.YtfpegkdbimkhdaaDoorHead
import Derived.Laws.BytesArg
import Derived.Laws.IdiomStrings
namespace Go.Proofs.YtfpegkdbimkhdaaDoor
open Go.RowKit

/-- A byte as a value. -/
abbrev byteV (c : UInt8) : Value := .int .u8 (c.toNat : Int)
/-- A slice of bytes that the call made. -/
abbrev OwnB (w : World) (base : Nat) (v : Value) (l : List UInt8) : Prop := w.ownsRow base 5 1 v l.length (l.map byteV)
theorem infoByte : (Tryd.prog.info? 5).map (fun i => (i.zero, i.size, i.bytes)) = some (some (.int .u8 0), 1, 1) := by kernel_rfl
theorem ownB_nil (w : World) (base : Nat) : OwnB w base (.slice none 0 0) [] := ⟨rfl, Or.inl ⟨rfl, rfl⟩⟩
theorem ownB_slice {w : World} {base : Nat} {v : Value} {l : List UInt8} (h : OwnB w base v l) : ∃ A cap, v = .slice A l.length cap := by
  rcases h.2 with ⟨rfl, h0⟩ | ⟨g, cap, cur, rfl, _⟩
  · exact ⟨none, 0, by rw [h0]⟩
  · exact ⟨_, cap, rfl⟩
theorem ownB_below {w w1 : World} {base : Nat} {v : Value} {l : List UInt8} (h : OwnB w base v l) (hb : Below w.heap.size w w1) : OwnB w1 base v l := h.kept (grown_of_below hb none) (by cases v.ownBlock <;> simp)
theorem belowB_grown {base : Nat} {w w1 w2 : World} {v : Value} {n : Nat} {xs : List Value} (hb : Below base w w1) (hB : base ≤ w1.heap.size) (ho : w1.ownsRow base 5 1 v n xs) (hg : w1.grownBy w2 v.ownBlock) : Below base w w2 :=
  hb.grown hg hB (fun k e => by
    rcases ho.2 with ⟨rfl, _⟩ | ⟨g, cap, cur, rfl, hbg, _⟩
    · cases e
    · have : g = k := Option.some.inj e
      omega)
/-- append(s, c): one byte more. -/
theorem wp_push {c : UInt8} {w : World} {ops : Array Oper} {rest : List Oper} {o : Oper} {a : Act} {Q : Exit → Act → World → Prop} (hgd : o.guard = none) (s x : Operand)
    (ho : o.op = .call { callee := .builtin .append, args := #[s, x], argTypes := #[32, 32] }) (base : Nat) (v : Value) (l : List UInt8) (hs : a.eval s = v) (hown : OwnB (w.alloc (.cells #[byteV c] 5)) base v l)
    (hx : a.eval x = .slice (some ⟨w.heap.size, 0, none⟩) 1 1) (hlen : l.length ≤ 1000000) (hbase : base ≤ w.heap.size)
    (h : ∀ v' w', OwnB w' base v' (l ++ [c]) → (w.alloc (.cells #[byteV c] 5)).grownBy w' v.ownBlock → wpList Tryd.prog ops Q rest (a.put o.dst v') w') : wpList Tryd.prog ops Q (o :: rest) a (w.alloc (.cells #[byteV c] 5)) := by
  obtain ⟨i0, hi, hz0, hz1, hz2⟩ := info_parts infoByte
  refine wpList_append_own _ hgd s x 32 ho base 5 i0 (.int .u8 0) 1 1 Tryd.underlying32 hi hz0 hz1 hz2 rfl (by decide) v l.length _ hs hown ⟨w.heap.size, 0, none⟩ 1 1 [byteV c] hx (by simp) (fun j u hj => ?_) (fun u hu => ?_) (by unfold maxLen; omega) (by omega) (by simp; omega) (fun v' w' h1 h2 _ => h v' w' ?_ h2)
  · have hj0 : j = 0 := by
      have := (List.getElem?_eq_some_iff.1 hj).1
      simpa using this
    subst hj0
    cases hj
    rw [add_none]
    exact cell_box (heap_alloc_new w _)
  · obtain rfl : u = byteV c := by simpa using hu
    rfl
  · unfold OwnB
    rw [List.length_append, List.map_append]
    exact h1
/-- The bytes as a text. -/
theorem conv_own {w : World} {base : Nat} {v : Value} {l : List UInt8} (h : OwnB w base v l) : (convert 32 9 v).run Tryd.prog w = .ok (str l) w := by
  rcases h.2 with ⟨rfl, h0⟩ | ⟨g, cap, cur, rfl, _, hg, hle, _, hsz, htk⟩
  · have : l = [] := List.length_eq_zero_iff.1 h0
    subst this
    exact run_convert_bytes_nil w 32 5 Tryd.underlying32 Tryd.underlying5 0 0 9 Tryd.underlying9
  · refine run_convert_bytes_back w _ _ 5 ⟨g, 0, none⟩ cap l Tryd.underlying32 Tryd.underlying5 Tryd.underlying9 (fun j hj => ?_)
    have h1 : (cur.toList.take (l.length * 1))[j]? = some (byteV l[j]) := by rw [htk, List.getElem?_map, List.getElem?_eq_getElem hj]; rfl
    rw [List.getElem?_take_of_lt (by omega)] at h1
    rw [Array.getElem?_toList] at h1
    rw [add_none]
    simp [World.cell?, hg, h1]
theorem case_low (b c : UInt8) (h : isW c = true) (h1 : 97 ≤ c.toNat) (h2 : c.toNat ≤ 122) : ((caseB b c).toNat : Int) = (c.toNat : Int) - 32 := by
  have e : caseB b c = c - 32 := by unfold caseB; rw [if_pos h, if_pos ⟨h1, h2⟩]
  rw [e]
  have k : (c - 32).toNat = c.toNat - 32 := by
    rw [UInt8.toNat_sub_of_le _ _ (by rw [UInt8.le_iff_toNat_le]; exact Nat.le_trans (by decide) h1)]
    rfl
  rw [k]
  omega
theorem case_other (b c : UInt8) (h : isW c = true) (h1 : ¬ (97 ≤ c.toNat ∧ c.toNat ≤ 122)) : caseB b c = c := by unfold caseB; rw [if_pos h, if_neg h1]
theorem take_case {b : UInt8} {t : List UInt8} {k : Nat} (h : k < t.length) : (t.take (k + 1)).map (caseB b) = (t.take k).map (caseB b) ++ [caseB b t[k]] := by
  rw [List.take_succ_eq_append_getElem h, List.map_append]
  rfl

set_option maxRecDepth 100000 in
theorem case_l1 (t : List UInt8) (b : UInt8) (w : World) (h : 500 < t.length) : Calls Tryd.prog 9 #[str t, .int .u8 (b.toNat : Int)] w fun e w' => e = .returned (.bool true) ∧ Below w.heap.size w w' := by
  go_enter Tryd.func9, Tryd.ntmps9
  go_wp2_with fail
  refine (head_any _).mono ?_
  rintro e1 w1 ⟨rfl, hb⟩
  have HB1 := Lib.hid hb
  clear hb
  go_wp2_with fail
  go_ret
  exact ⟨rfl, HB1.out⟩

set_option maxRecDepth 100000 in
theorem case_l2 (t : List UInt8) (b : UInt8) (w : World) (g : t.length ≤ 500) (hw : isW b = true) : Calls Tryd.prog 9 #[str t, .int .u8 (b.toNat : Int)] w fun e w' => e = .returned (.bool true) ∧ Below w.heap.size w w' := by
  have C := Lib.hid (fun W => lower_ref b W)
  rw [show lowR b = low b from lowR_w hw] at C
  have hp := low_pos hw
  obtain ⟨m, hm⟩ : ∃ m, (low b).toNat = m := ⟨_, rfl⟩
  rw [hm] at C hp
  have hne : ((m : Int) != 0) = true := by simp; omega
  clear hm hp
  go_enter Tryd.func9, Tryd.ntmps9
  go_wp2_with fail
  refine (head_any _).mono ?_
  rintro e1 w1 ⟨rfl, hb⟩
  have HB1 := Lib.hid hb
  clear hb
  go_wp2_with fail
  refine (C.out _).mono ?_
  rintro e2 w2 ⟨rfl, rfl⟩
  go_wp2_with fail
  go_ret
  exact ⟨rfl, HB1.out⟩

set_option maxRecDepth 100000 in
set_option maxHeartbeats 4000000 in
theorem case_main (t : List UInt8) (b : UInt8) (w : World) (ht : t.length ≤ 500) (hw : isW b = false) : Calls Tryd.prog 9 #[str t, .int .u8 (b.toNat : Int)] w fun e w' => e = .returned (.bool true) ∧ Below w.heap.size w w' := by
  have C := Lib.hid (fun W => lower_ref b W)
  rw [show lowR b = 0 from lowR_s hw] at C
  have HT := Lib.hid (show t.length ≤ 1100 by omega)
  have HF := Lib.hid (foldT_case hw t)
  have HD := Lib.hid (words_case hw t)
  have HL := Lib.hid (show (sortD (words t)).length ≤ 4000 by have := sortD_len (words t); have := words_len t; omega)
  clear hw
  go_enter Tryd.func9, Tryd.ntmps9
  go_wp2_with fail
  refine (head_any _).mono ?_
  rintro e1 w1 ⟨rfl, hb⟩
  have HB1 := Lib.hid hb
  clear hb
  go_wp2_with fail
  refine (C.out _).mono ?_
  rintro e2 w2 ⟨rfl, rfl⟩
  go_wp2_with fail
  go_loopw [6, 7] (fun v i wr => ∃ (k : Nat), OwnB wr w.heap.size v ((t.take k).map (caseB b)) ∧ i = .int .i64 (k : Int) ∧ k ≤ t.length ∧ Below w.heap.size w wr) (fun _ i _ => t.length + 1 - (intOf i).toNat)
  case atStart => exact ⟨0, ownB_nil _ _, by simp, by omega, HB1.out⟩
  case round =>
    obtain ⟨k, hown, rfl, hk, hbr⟩ := hrel
    have HB := Lib.hid hbr
    have HO := Lib.hid hown
    obtain ⟨l, hl⟩ : ∃ l, (t.take k).map (caseB b) = l := ⟨_, rfl⟩
    rw [hl] at HO hown
    have HLN := Lib.hid (show l.length = k by rw [← hl, List.length_map, List.length_take]; omega)
    obtain ⟨A, ca, rfl⟩ := ownB_slice hown
    clear hown hbr
    by_cases hlt : k < t.length
    · have hix : ∀ (h : k < (ByteArray.mk t.toArray).size), (⟨t.toArray⟩ : ByteArray)[k]'h = t[k] := fun _ => rfl
      have HN := Lib.hid (take_case (b := b) hlt)
      rw [hl] at HN
      clear hl
      have C2 := Lib.hid (fun W => lower_ref t[k] W)
      cases hw : isW t[k]
      · rw [show lowR t[k] = 0 from lowR_s hw] at C2
        rw [caseB_s b t[k] hw] at HN
        clear hw
        go_wp2_with fail
        refine (C2.out _).mono ?_
        rintro e3 w2 ⟨rfl, rfl⟩
        go_wp2_with (at_builtin; refine wp_push rfl _ _ rfl w.heap.size _ _ rfl (HO.out.alloc _) rfl (by have := HLN.out; omega) HB.out.size ?_)
        intro v' w3 ho hg
        have HO3 := Lib.hid ho
        have HB3 := Lib.hid (belowB_grown (HB.out.alloc HB.out.size _) (by have := HB.out.size; simp; omega) (HO.out.alloc _) hg)
        clear ho hg
        go_wp2_with fail
        go_roundw
        case rel => exact ⟨k + 1, by rw [HN.out]; exact HO3.out, by simp, by omega, HB3.out⟩
        case measure => simp [intOf]; omega
      · rw [show lowR t[k] = low t[k] from lowR_w hw] at C2
        have hp := low_pos hw
        obtain ⟨m, hm⟩ : ∃ m, (low t[k]).toNat = m := ⟨_, rfl⟩
        rw [hm] at C2 hp
        have heq : ((m : Int) == 0) = false := by simp; omega
        clear hm hp
        by_cases hlo : 97 ≤ t[k].toNat ∧ t[k].toNat ≤ 122
        · have hcl := case_low b t[k] hw hlo.1 hlo.2
          obtain ⟨h1, h2⟩ := hlo
          obtain ⟨d, hd⟩ : ∃ d, caseB b t[k] = d := ⟨_, rfl⟩
          rw [hd] at HN hcl
          have hcl2 : (t[k].toNat : Int) - 32 = (d.toNat : Int) := hcl.symm
          clear hd hw hcl
          go_wp2_with fail
          refine (C2.out _).mono ?_
          rintro e3 w2 ⟨rfl, rfl⟩
          go_wp2_with (at_builtin; refine wp_push rfl _ _ rfl w.heap.size _ _ rfl (HO.out.alloc _) rfl (by have := HLN.out; omega) HB.out.size ?_)
          intro v' w3 ho hg
          have HO3 := Lib.hid ho
          have HB3 := Lib.hid (belowB_grown (HB.out.alloc HB.out.size _) (by have := HB.out.size; simp; omega) (HO.out.alloc _) hg)
          clear ho hg
          go_wp2_with fail
          go_roundw
          case rel => exact ⟨k + 1, by rw [HN.out]; exact HO3.out, by simp, by omega, HB3.out⟩
          case measure => simp [intOf]; omega
        · rw [case_other b t[k] hw hlo] at HN
          clear hw
          rcases (show t[k].toNat < 97 ∨ 122 < t[k].toNat by omega) with h1 | h1
          · clear hlo
            go_wp2_with fail
            refine (C2.out _).mono ?_
            rintro e3 w2 ⟨rfl, rfl⟩
            go_wp2_with (at_builtin; refine wp_push rfl _ _ rfl w.heap.size _ _ rfl (HO.out.alloc _) rfl (by have := HLN.out; omega) HB.out.size ?_)
            intro v' w3 ho hg
            have HO3 := Lib.hid ho
            have HB3 := Lib.hid (belowB_grown (HB.out.alloc HB.out.size _) (by have := HB.out.size; simp; omega) (HO.out.alloc _) hg)
            clear ho hg
            go_wp2_with fail
            go_roundw
            case rel => exact ⟨k + 1, by rw [HN.out]; exact HO3.out, by simp, by omega, HB3.out⟩
            case measure => simp [intOf]; omega
          · have h2 : 97 ≤ t[k].toNat := by omega
            clear hlo
            go_wp2_with fail
            refine (C2.out _).mono ?_
            rintro e3 w2 ⟨rfl, rfl⟩
            go_wp2_with (at_builtin; refine wp_push rfl _ _ rfl w.heap.size _ _ rfl (HO.out.alloc _) rfl (by have := HLN.out; omega) HB.out.size ?_)
            intro v' w3 ho hg
            have HO3 := Lib.hid ho
            have HB3 := Lib.hid (belowB_grown (HB.out.alloc HB.out.size _) (by have := HB.out.size; simp; omega) (HO.out.alloc _) hg)
            clear ho hg
            go_wp2_with fail
            go_roundw
            case rel => exact ⟨k + 1, by rw [HN.out]; exact HO3.out, by simp, by omega, HB3.out⟩
            case measure => simp [intOf]; omega
    · have HK : Hid (t.map (caseB b) = l) := Lib.hid (by rw [← hl, List.take_of_length_le (by omega)])
      rw [HK.out] at HF HD
      have HZL := Lib.hid (show l.length ≤ 1100 by rw [← hl, List.length_map, List.length_take]; omega)
      clear hl
      have hcv := conv_own HO.out
      have D := Lib.hid (fold_any l HZL.out)
      rw [HF.out] at D
      go_wp2_with fail
      refine (D.out _).mono ?_
      rintro e3 w3 ⟨rfl, hb⟩
      have HO3 := Lib.hid (ownB_below HO.out hb)
      have HB3 := Lib.hid (below_up HB.out hb HB.out.size)
      clear hb hcv D
      go_wp2_with fail
      refine (fold_any t HT.out _).mono ?_
      rintro e4 w4 ⟨rfl, hb⟩
      have hcv := conv_own (ownB_below HO3.out hb)
      have HB4 := Lib.hid (below_up HB3.out hb HB3.out.size)
      clear hb
      have D := Lib.hid (tokens_any l HZL.out)
      rw [HD.out] at D
      go_wp2_with fail
      refine (D.out _).mono ?_
      rintro e5 w5 ⟨v5, rfl, hs, hb⟩
      have HS5 := Lib.hid hs
      have HB5 := Lib.hid (below_up HB4.out hb HB4.out.size)
      clear hs hb D hcv
      go_wp2_with fail
      refine (tokens_any t HT.out _).mono ?_
      rintro e6 w6 ⟨v6, rfl, hs, hb⟩
      have HS6 := Lib.hid hs
      have HK6 := Lib.hid (HS5.out.below hb)
      have HB6 := Lib.hid (below_up HB5.out hb HB5.out.size)
      clear hs hb
      go_wp2_with fail
      refine (same_ref _ _ v5 v6 _ HL.out HK6.out HS6.out).mono ?_
      rintro e7 w7 ⟨rfl, hb⟩
      have HB7 := Lib.hid (below_up HB6.out hb HB6.out.size)
      clear hb
      go_wp2_with fail
      go_ret
      exact ⟨rfl, HB7.out⟩

theorem caselaw_any (t : List UInt8) (b : UInt8) (w : World) : Calls Tryd.prog 9 #[str t, .int .u8 (b.toNat : Int)] w fun e w' => e = .returned (.bool true) ∧ Below w.heap.size w w' := by
  by_cases h1 : 500 < t.length
  · exact case_l1 t b w h1
  cases hw : isW b
  · exact case_main t b w (by omega) hw
  · exact case_l2 t b w (by omega) hw
end Go.Proofs.YtfpegkdbimkhdaaDoor
