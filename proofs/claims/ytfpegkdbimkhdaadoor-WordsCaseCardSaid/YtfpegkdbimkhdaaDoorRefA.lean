/- The reference's small functions: Lower, Increasing, Same, In; an append of texts. -/
import Derived.Test.YtfpegkdbimkhdaaDoorCommon
import Derived.Test.YtfpegkdbimkhdaaDoorMathW
import Derived.Laws.AppendOwnNone
namespace Go.Proofs.YtfpegkdbimkhdaaDoor
open Go.RowKit

/-- A slice of texts that the call made. -/
abbrev OwnS (w : World) (base : Nat) (v : Value) (l : List (List UInt8)) : Prop := w.ownsRow base 9 1 v l.length (l.map str)
theorem infoStr : (Tryd.prog.info? 9).map (fun i => (i.zero, i.size, i.bytes)) = some (some (.string ⟨#[]⟩), 1, 16) := by kernel_rfl
theorem below_grown {base : Nat} {w w1 w2 : World} {v : Value} {n : Nat} {xs : List Value} (hb : Below base w w1) (hB : base ≤ w1.heap.size) (ho : w1.ownsRow base 9 1 v n xs) (hg : w1.grownBy w2 v.ownBlock) : Below base w w2 :=
  hb.grown hg hB (fun k e => by
    rcases ho.2 with ⟨rfl, _⟩ | ⟨g, cap, cur, rfl, hbg, _⟩
    · cases e
    · have : g = k := Option.some.inj e
      omega)
theorem add_none (b off n : Nat) : (⟨b, off, none⟩ : Addr).add n = ⟨b, off + n, none⟩ := by
  unfold Addr.add
  split
  · rename_i h
    subst h
    rfl
  · rfl
/-- append(s, x...), where s is of the call's own and x any list of texts. -/
theorem wp_append {w : World} {ops : Array Oper} {rest : List Oper} {o : Oper} {a : Act} {Q : Exit → Act → World → Prop} (hgd : o.guard = none) (s x : Operand)
    (ho : o.op = .call { callee := .builtin .append, args := #[s, x], argTypes := #[22, 22] }) (base : Nat) (v : Value) (l : List (List UInt8)) (hs : a.eval s = v) (hown : OwnS w base v l)
    (u : Value) (m : List (List UInt8)) (hx : a.eval x = u) (hu : Strs w u m) (hlen : l.length + m.length ≤ 1000000) (hbase : base ≤ w.heap.size)
    (h : ∀ v' w', OwnS w' base v' (l ++ m) → w.grownBy w' v.ownBlock → wpList Tryd.prog ops Q rest (a.put o.dst v') w') : wpList Tryd.prog ops Q (o :: rest) a w := by
  obtain ⟨i0, hi, hz0, hz1, hz2⟩ := info_parts infoStr
  obtain ⟨A, cap, rfl, hcap, hn, hc⟩ := hu
  cases A with
  | none =>
    have h0 := hn rfl
    subst h0
    have hm : m = [] := List.length_eq_zero_iff.1 (by omega)
    subst hm
    refine wpList_append_own_none hgd s x 22 ho base 9 i0 1 Tryd.underlying22 hi v l.length _ hs hown hx (h v w ?_ ⟨rfl, rfl, rfl, Nat.le_refl _, fun _ _ _ => rfl⟩)
    rw [List.append_nil]
    exact hown
  | some ad =>
    refine wpList_append_own w hgd s x 22 ho base 9 i0 (.string ⟨#[]⟩) 1 16 Tryd.underlying22 hi hz0 hz1 hz2 rfl (by decide) v l.length _ hs hown ad m.length cap (m.map str) hx (by simp) (fun j u hj => ?_) (fun u hu => ?_) (by unfold maxLen; omega) (by omega) hbase (fun v' w' h1 h2 _ => h v' w' ?_ h2)
    · rw [List.getElem?_map] at hj
      cases hm : m[j]? with
      | none => rw [hm] at hj; cases hj
      | some t =>
        rw [hm] at hj
        cases hj
        obtain ⟨hlt, he⟩ := List.getElem?_eq_some_iff.1 hm
        obtain ⟨b, off, e, h2⟩ := hc j hlt
        cases e
        rw [he] at h2
        rw [add_none]
        exact h2
    · obtain ⟨t, _, rfl⟩ := List.mem_map.1 hu
      rfl
    · unfold OwnS
      rw [List.length_append, List.map_append]
      exact h1

theorem strs_one (w : World) (x : List UInt8) (T : TypeId) : Strs (w.alloc (.cells #[str x] T)) (.slice (some ⟨w.heap.size, 0, none⟩) 1 1) [x] :=
  ⟨_, 1, rfl, Nat.le_refl _, (fun e => by cases e), fun i hi => ⟨_, 0, rfl, by
    obtain rfl : i = 0 := by simpa using hi
    exact cell_box (heap_alloc_new w _)⟩⟩

/-! ### Lower, Same, In, Increasing. -/
/-- A letter in lower case, a digit; 0 for other bytes. -/
def lowR (c : UInt8) : UInt8 := if isW c then low c else 0
theorem lowR_w {c : UInt8} (h : isW c = true) : lowR c = low c := if_pos h
theorem lowR_s {c : UInt8} (h : isW c = false) : lowR c = 0 := if_neg (by rw [h]; decide)
theorem lowR_nat (c : UInt8) : (lowR c).toNat = if 65 ≤ c.toNat ∧ c.toNat ≤ 90 then c.toNat + 32 else if (97 ≤ c.toNat ∧ c.toNat ≤ 122) ∨ (48 ≤ c.toNat ∧ c.toNat ≤ 57) then c.toNat else 0 :=
  u8_all (p := fun c => (lowR c).toNat = if 65 ≤ c.toNat ∧ c.toNat ≤ 90 then c.toNat + 32 else if (97 ≤ c.toNat ∧ c.toNat ≤ 122) ∨ (48 ≤ c.toNat ∧ c.toNat ≤ 57) then c.toNat else 0) (by decide +kernel) c
theorem low_pos {c : UInt8} (h : isW c = true) : 0 < (low c).toNat ∧ (low c).toNat < 128 := u8_all (p := fun c => isW c = true → 0 < (low c).toNat ∧ (low c).toNat < 128) (by decide +kernel) c h

theorem lower_ref (c : UInt8) (w : World) : Calls Tryd.prog 20 #[.int .u8 (c.toNat : Int)] w fun e w' => e = .returned (.int .u8 ((lowR c).toNat : Int)) ∧ w' = w := by
  have hc := c.toNat_lt
  have hr := lowR_nat c
  obtain ⟨r, hR⟩ : ∃ r, (lowR c).toNat = r := ⟨_, rfl⟩
  rw [hR] at hr
  rw [hR]
  clear hR
  obtain ⟨m, hm⟩ : ∃ m, c.toNat = m := ⟨_, rfl⟩
  rw [hm] at hc hr
  rw [hm]
  clear hm
  rcases (show m < 48 ∨ (48 ≤ m ∧ m ≤ 57) ∨ (57 < m ∧ m < 65) ∨ (65 ≤ m ∧ m ≤ 90) ∨ (90 < m ∧ m < 97) ∨ (97 ≤ m ∧ m ≤ 122) ∨ 122 < m by omega) with h | h | h | h | h | h | h
  · have HR := Lib.hid (show r = 0 by rw [hr, if_neg (by omega), if_neg (by omega)])
    clear hr
    go_enter Tryd.func20, Tryd.ntmps20
    go_wp2_with fail
    go_ret
    exact ⟨ret_int (by have := HR.out; omega), rfl⟩
  · have HR := Lib.hid (show r = m by rw [hr, if_neg (by omega), if_pos (by omega)])
    clear hr
    obtain ⟨h1, h2⟩ := h
    go_enter Tryd.func20, Tryd.ntmps20
    go_wp2_with fail
    go_ret
    exact ⟨ret_int (by have := HR.out; omega), rfl⟩
  · have HR := Lib.hid (show r = 0 by rw [hr, if_neg (by omega), if_neg (by omega)])
    clear hr
    obtain ⟨h1, h2⟩ := h
    go_enter Tryd.func20, Tryd.ntmps20
    go_wp2_with fail
    go_ret
    exact ⟨ret_int (by have := HR.out; omega), rfl⟩
  · have HR := Lib.hid (show r = m + 32 by rw [hr, if_pos (by omega)])
    clear hr
    obtain ⟨h1, h2⟩ := h
    go_enter Tryd.func20, Tryd.ntmps20
    go_wp2_with fail
    go_ret
    exact ⟨ret_int (by have := HR.out; omega), rfl⟩
  · have HR := Lib.hid (show r = 0 by rw [hr, if_neg (by omega), if_neg (by omega)])
    clear hr
    obtain ⟨h1, h2⟩ := h
    go_enter Tryd.func20, Tryd.ntmps20
    go_wp2_with fail
    go_ret
    exact ⟨ret_int (by have := HR.out; omega), rfl⟩
  · have HR := Lib.hid (show r = m by rw [hr, if_neg (by omega), if_pos (by omega)])
    clear hr
    obtain ⟨h1, h2⟩ := h
    go_enter Tryd.func20, Tryd.ntmps20
    go_wp2_with fail
    go_ret
    exact ⟨ret_int (by have := HR.out; omega), rfl⟩
  · have HR := Lib.hid (show r = 0 by rw [hr, if_neg (by omega), if_neg (by omega)])
    clear hr
    go_enter Tryd.func20, Tryd.ntmps20
    go_wp2_with fail
    go_ret
    exact ⟨ret_int (by have := HR.out; omega), rfl⟩

set_option maxHeartbeats 1600000 in
theorem increasing_ref (l : List (List UInt8)) (v : Value) (w : World) (hl : l.length ≤ 4000) (hs : Strs w v l) :
    Calls Tryd.prog 24 #[v] w fun e w' => e = .returned (.bool (incB l)) ∧ Below w.heap.size w w' := by
  have HS := Lib.hid hs
  obtain ⟨A, cap, rfl, hcap, _, _⟩ := hs
  go_enter Tryd.func24, Tryd.ntmps24
  go_wp2_with fail
  go_loopw [3] (fun i wr => ∃ j : Nat, i = .int .i64 ((j + 1 : Nat) : Int) ∧ incB l = incB (l.drop j) ∧ j ≤ l.length ∧ Below w.heap.size w wr) (fun i _ => l.length + 1 - (intOf i).toNat)
  case atStart => exact ⟨0, by simp, rfl, by omega, Below.refl _ _⟩
  case round =>
    obtain ⟨j, rfl, hi, hj, hb⟩ := hrel
    have HI := Lib.hid hi
    have HB := Lib.hid hb
    clear hi hb
    by_cases hlt : j + 1 < l.length
    · obtain ⟨A', cap', e, _, _, hc⟩ := HS.out.below HB.out
      cases e
      obtain ⟨b, off, rfl, c0⟩ := hc j (by omega)
      obtain ⟨b', off', e, c1⟩ := hc (j + 1) hlt
      cases e
      clear hc
      obtain ⟨c, hcc⟩ : ∃ c, Op.bytesLess l[j] l[j + 1] = c := ⟨_, rfl⟩
      have HN := Lib.hid (show incB l = (c && incB (l.drop (j + 1))) from by rw [HI.out, incB_step hlt, ← bytesLess_eq, hcc])
      have e1 : ((j + 1 : Nat) : Int) - 1 = (j : Int) := by omega
      go_wp2_with fail
      go_region
      cases c
      · go_wp2_with fail
        go_ret
        exact ⟨bool_ret (by rw [HN.out]; rfl), HB.out.drew⟩
      · go_wp2_with fail
        go_roundw
        case rel => exact ⟨j + 1, by simp, by rw [HN.out]; rfl, by omega, HB.out.drew⟩
        case measure => simp [intOf]; omega
    · go_wp2_with fail
      go_ret
      exact ⟨bool_ret (by rw [HI.out, incB_end (by omega)]), HB.out⟩

/-- A list from place i on. -/
theorem drop_cons {l : List (List UInt8)} {i : Nat} (h : i < l.length) : l.drop i = l[i] :: l.drop (i + 1) := List.drop_eq_getElem_cons h

set_option maxHeartbeats 1600000 in
theorem in_ref (l : List (List UInt8)) (x : List UInt8) (v : Value) (w : World) (hl : l.length ≤ 4000) (hs : Strs w v l) :
    Calls Tryd.prog 23 #[v, str x] w fun e w' => e = .returned (.bool (decide (x ∈ l))) ∧ Below w.heap.size w w' := by
  have HS := Lib.hid hs
  obtain ⟨A, cap, rfl, hcap, _, _⟩ := hs
  go_enter Tryd.func23, Tryd.ntmps23
  go_wp2_with fail
  go_loopw [5] (fun i wr => ∃ j : Nat, i = .int .i64 (j : Int) ∧ (x ∈ l ↔ x ∈ l.drop j) ∧ j ≤ l.length ∧ Below w.heap.size w wr) (fun i _ => l.length + 1 - (intOf i).toNat)
  case atStart => exact ⟨0, by simp, Iff.rfl, by omega, Below.refl _ _⟩
  case round =>
    obtain ⟨j, rfl, hi, hj, hb⟩ := hrel
    have HI := Lib.hid hi
    have HB := Lib.hid hb
    clear hi hb
    by_cases hlt : j < l.length
    · obtain ⟨A', cap', e, _, _, hc⟩ := HS.out.below HB.out
      cases e
      obtain ⟨b, off, rfl, c0⟩ := hc j (by omega)
      clear hc
      have HN := Lib.hid (show x ∈ l ↔ x = l[j] ∨ x ∈ l.drop (j + 1) from by rw [HI.out, drop_cons hlt, List.mem_cons])
      go_wp2_with fail
      · have g : (l[j] == x) = true := by assumption
        have e : l[j] = x := by simpa using g
        go_ret
        exact ⟨bool_ret (by symm; rw [decide_eq_true_eq, HN.out]; exact Or.inl e.symm), HB.out⟩
      · have g : (l[j] == x) = false := by assumption
        have e : l[j] ≠ x := by simpa using g
        go_roundw
        case rel => exact ⟨j + 1, by simp, by rw [HN.out]; exact ⟨fun k => k.resolve_left (fun z => e z.symm), Or.inr⟩, by omega, HB.out⟩
        case measure => simp [intOf]; omega
    · go_wp2_with fail
      go_ret
      exact ⟨bool_ret (by symm; rw [decide_eq_false_iff_not, HI.out, List.drop_eq_nil_of_le (by omega)]; simp), HB.out⟩

set_option maxHeartbeats 1600000 in
theorem same_ref (xs ys : List (List UInt8)) (v u : Value) (w : World) (hl : xs.length ≤ 4000) (hs : Strs w v xs) (hs2 : Strs w u ys) :
    Calls Tryd.prog 13 #[v, u] w fun e w' => e = .returned (.bool (decide (xs = ys))) ∧ Below w.heap.size w w' := by
  have HS := Lib.hid hs
  have HU := Lib.hid hs2
  obtain ⟨A, cap, rfl, hcap, _, _⟩ := hs
  obtain ⟨B, cbp, rfl, hcbp, _, _⟩ := hs2
  by_cases hne : xs.length = ys.length
  · have HE := Lib.hid hne
    go_enter Tryd.func13, Tryd.ntmps13
    go_wp2_with fail
    go_loopw [5] (fun i wr => ∃ j : Nat, i = .int .i64 (j : Int) ∧ (xs = ys ↔ xs.drop j = ys.drop j) ∧ j ≤ xs.length ∧ Below w.heap.size w wr) (fun i _ => xs.length + 1 - (intOf i).toNat)
    case atStart => exact ⟨0, by simp, by simp, by omega, Below.refl _ _⟩
    case round =>
      obtain ⟨j, rfl, hi, hj, hb⟩ := hrel
      have HI := Lib.hid hi
      have HB := Lib.hid hb
      clear hi hb
      by_cases hlt : j < xs.length
      · obtain ⟨A', cap', e, _, _, hc⟩ := HS.out.below HB.out
        cases e
        obtain ⟨b, off, rfl, c0⟩ := hc j (by omega)
        clear hc
        have hlt2 : j < ys.length := by omega
        obtain ⟨B', cbp', e, _, _, hc⟩ := HU.out.below HB.out
        cases e
        obtain ⟨b', off', rfl, c1⟩ := hc j (by omega)
        clear hc
        have HN := Lib.hid (show xs = ys ↔ xs[j] = ys[j] ∧ xs.drop (j + 1) = ys.drop (j + 1) from by rw [HI.out, drop_cons hlt, drop_cons hlt2, List.cons.injEq])
        go_wp2_with fail
        go_region
        go_wp2_with fail
        · have g : (!xs[j] == ys[j]) = true := by assumption
          have e : xs[j] ≠ ys[j] := by simpa using g
          go_ret
          exact ⟨bool_ret (by symm; rw [decide_eq_false_iff_not, HN.out]; exact fun k => e k.1), HB.out.drew⟩
        · have g : (!xs[j] == ys[j]) = false := by assumption
          have e : xs[j] = ys[j] := by simpa using g
          go_roundw
          case rel => exact ⟨j + 1, by simp, by rw [HN.out]; exact ⟨fun k => k.2, fun k => ⟨e, k⟩⟩, by omega, HB.out.drew⟩
          case measure => simp [intOf]; omega
      · go_wp2_with fail
        go_ret
        exact ⟨bool_ret (by symm; rw [decide_eq_true_eq, HI.out, List.drop_eq_nil_of_le (by omega), List.drop_eq_nil_of_le (by omega)]), HB.out⟩
  · go_enter Tryd.func13, Tryd.ntmps13
    go_wp2_with fail
    go_ret
    exact ⟨bool_ret (by symm; rw [decide_eq_false_iff_not]; intro e; exact hne (by rw [e])), Below.refl _ _⟩
end Go.Proofs.YtfpegkdbimkhdaaDoor
