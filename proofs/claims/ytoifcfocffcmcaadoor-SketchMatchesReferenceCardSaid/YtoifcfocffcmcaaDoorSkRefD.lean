/- The reference's Union. -/
import Derived.Test.YtoifcfocffcmcaaDoorSkRefB
import Derived.Test.YtoifcfocffcmcaaDoorSkRefC
import Derived.Deep.RegionLaw
import Derived.Deep.AppendLies
namespace Go.Proofs.YtoifcfocffcmcaaDoor
open Go.RowKit

theorem own_emptyI (w : World) (base : Nat) (hb : base ≤ w.heap.size) : (w.alloc (.cells #[] 3)).ownsRow base 3 1 (.slice (some ⟨w.heap.size, 0, none⟩) 0 0) 0 [] :=
  World.ownsRow_made w #[] 0 hb (by unfold maxLen; omega) rfl
/-- The sign of a sketch's first number tells whether it is empty. -/
theorem emp_first {s : List Int} (h : isSk s = true) (h0 : 0 < s.length) : (emp s = true ↔ s[0] < 0) ∧ -1 ≤ s[0] := by
  unfold emp
  rw [headD_get h0, decide_eq_true_eq]
  obtain ⟨_, _, h3 | h3⟩ := isSk_ok h
  · have := h3 s[0] (List.getElem_mem _); omega
  · have := h3 s[0] (List.getElem_mem _); omega
/-- append(s, x), s of the call's own, in a region that draws its order. -/
theorem step_appI {w : World} {ops : Array Oper} {o : Oper} {a : Act} {K : Act → World → Prop} {Q : Exit → Act → World → Prop} {E : Prop} (hgd : o.guard = none) (s y : Operand)
    (ho : o.op = .call { callee := .builtin .append, args := #[s, y], argTypes := #[23, 23] }) (base : Nat) (v : Value) (l : List Int) (hs : a.eval s = v) (hown : OwnI w base v l)
    (b : Nat) (x : Int) (hx : a.eval y = .slice (some ⟨b, 0, none⟩) 1 1) (hc : w.cell? ⟨b, 0, none⟩ = some (.int .i64 x)) (hl : l.length ≤ 100000) (hb : base ≤ w.heap.size)
    (h : ∀ v' w', OwnI w' base v' (l ++ [x]) → w.grownBy w' v.ownBlock → K (a.put o.dst v') w') :
    if Region.wanted o (yielded ops a.tmps) = true then Oper.wp Tryd.prog o a w K Q else E := by
  obtain ⟨i0, hi, hz0, hz1, hz2⟩ := info_parts infoInt
  refine step_append_lies w hgd s y 23 ho base 3 i0 (.int .i64 0) 1 8 Tryd.underlying23 hi hz0 hz1 hz2 rfl (by decide) v l.length _ hs hown ⟨b, 0, none⟩ 1 1 [.int .i64 x] hx rfl (fun j u hj => ?_) (fun u hu => ?_) (by decide) (by unfold maxLen; omega) (by omega) hb _ rfl (fun g cap w' h1 h2 _ _ => h _ w' ?_ h2)
  · cases j with
    | zero => cases hj; exact hc
    | succ j => cases hj
  · simp at hu; subst hu; rfl
  · unfold OwnI
    rw [List.length_append, List.map_append]
    exact h1
theorem alike_parts (a b : List Int) : alike a b = (isSk a && (isSk b && decide (a.length = b.length))) := rfl

set_option maxHeartbeats 3200000 in
theorem union_ref (a b : List Int) (v u : Value) (w : World) (ha : a.length ≤ 4000) (hb : b.length ≤ 4000) (h : Ints w v a) (k : Ints w u b) :
    Calls Tryd.prog 15 #[v, u] w (ListPost w (unionT a b)) := by
  have HA := Lib.hid h
  have HK := Lib.hid k
  have HVA := Lib.hid (valid_ref a v w ha h)
  have HVB := Lib.hid (fun W (hw : Below w.heap.size w W) => valid_ref b u W hb (k.below hw))
  have HE := alike_parts a b
  obtain ⟨A, cap, ev, hca, _⟩ := h
  obtain ⟨B, cbp, eu, hcb, _⟩ := k
  subst ev eu
  cases hal : alike a b
  · have e : unionT a b = ([], 1) := by unfold unionT; rw [hal]; rfl
    rw [e]
    rw [hal] at HE
    cases sa : isSk a
    · rw [sa] at HVA
      clear HE e
      go_enter Tryd.func15, Tryd.ntmps15
      go_wp2_with fail
      refine HVA.out.mono ?_
      rintro e w1 ⟨rfl, hb1⟩
      go_wp2_with fail
      go_returns
      exact ⟨_, rfl, ints_nil _, hb1⟩
    cases sb : isSk b
    · rw [sa] at HVA
      rw [sb] at HVB
      clear HE e
      go_enter Tryd.func15, Tryd.ntmps15
      go_wp2_with fail
      refine HVA.out.mono ?_
      rintro e w1 ⟨rfl, hb1⟩
      go_wp2_with fail
      refine (HVB.out _ hb1).mono ?_
      rintro e w2 ⟨rfl, hb2⟩
      go_wp2_with fail
      go_returns
      exact ⟨_, rfl, ints_nil _, below_up hb1 hb2 hb1.size⟩
    · have hne : a.length ≠ b.length := by
        rw [sa, sb] at HE
        simpa using HE.symm
      have hb1 : ((a.length : Int) != (b.length : Int)) = true := by rw [bne_iff_ne]; omega
      rw [sa] at HVA
      rw [sb] at HVB
      clear HE e
      go_enter Tryd.func15, Tryd.ntmps15
      go_wp2_with fail
      refine HVA.out.mono ?_
      rintro e w1 ⟨rfl, hb1⟩
      go_wp2_with fail
      refine (HVB.out _ hb1).mono ?_
      rintro e w2 ⟨rfl, hb2⟩
      go_wp2_with fail
      go_returns
      exact ⟨_, rfl, ints_nil _, below_up hb1 hb2 hb1.size⟩
  · obtain ⟨sa, sb, hlen⟩ := alike_yes hal
    obtain ⟨la, _⟩ := isSk_len sa
    obtain ⟨lb, _⟩ := isSk_len sb
    have e : unionT a b = (uniS a b, 0) := by unfold unionT; rw [hal]; rfl
    rw [e]
    rw [sa] at HVA
    rw [sb] at HVB
    obtain ⟨ea, ea1⟩ := emp_first sa la
    obtain ⟨eb, eb1⟩ := emp_first sb lb
    obtain ⟨-, -, b1, o1, rfl, x1⟩ := HA.out.spot la
    obtain ⟨-, -, b2, o2, rfl, x2⟩ := HK.out.spot lb
    have y1 := x1 0 la
    have y2 := x2 0 lb
    rw [Nat.add_zero] at y1 y2
    have HX1 := Lib.hid x1
    have HX2 := Lib.hid x2
    have HC1 := Lib.hid y1
    have HC2 := Lib.hid y2
    clear x1 x2 y1 y2
    obtain ⟨n, hn⟩ : ∃ n, a.length = n := ⟨_, rfl⟩
    have hnb : b.length = n := by omega
    obtain ⟨fa, hfa⟩ : ∃ f, a[0]'la = f := ⟨_, rfl⟩
    obtain ⟨fb, hfb⟩ : ∃ f, b[0]'lb = f := ⟨_, rfl⟩
    rw [hfa] at HC1 ea ea1
    rw [hfb] at HC2 eb eb1
    have HN := Lib.hid hn
    have HNB := Lib.hid hnb
    rw [hn] at HA HVA hca la ha
    rw [hnb] at HK HVB hcb lb hb
    rw [hn, hnb]
    clear HE e hal sa sb hfa hfb hlen hn hnb
    by_cases ga : fa < 0
    · have HU := Lib.hid (show uniS a b = b by unfold uniS; rw [if_pos (ea.2 ga)])
      clear ea eb
      go_enter Tryd.func15, Tryd.ntmps15
      go_wp2_with fail
      refine HVA.out.mono ?_
      rintro e w1 ⟨rfl, hb1⟩
      go_wp2_with fail
      refine (HVB.out _ hb1).mono ?_
      rintro e w2 ⟨rfl, hb2⟩
      have HW := Lib.hid (below_up hb1 hb2 hb1.size)
      clear hb1 hb2
      have c1 := cellB HW.out HC1.out
      have HO := Lib.hid (own_emptyI w2 w2.heap.size (Nat.le_refl _))
      go_wp2_with (at_builtin; refine wp_appendI rfl _ _ rfl w2.heap.size _ [] rfl HO.out _ b rfl ((HK.out.below HW.out).below (below_box _ _)) (by have := HNB.out; simp; omega) (by simp) ?_)
      intro v' w3 hown hg
      have HB := Lib.hid (below_grown (below_box w2 (.cells #[] 3)) (by simp) HO.out hg)
      have HI := Lib.hid (ints_of_owns hown)
      clear hown hg
      go_wp2_with fail
      go_returns
      exact ⟨_, rfl, by rw [HU.out]; exact HI.out, below_up HW.out HB.out HW.out.size⟩
    by_cases gb : fb < 0
    · have HU := Lib.hid (show uniS a b = a by unfold uniS; rw [if_neg (fun e => ga (ea.1 e)), if_pos (eb.2 gb)])
      clear ea eb
      go_enter Tryd.func15, Tryd.ntmps15
      go_wp2_with fail
      refine HVA.out.mono ?_
      rintro e w1 ⟨rfl, hb1⟩
      go_wp2_with fail
      refine (HVB.out _ hb1).mono ?_
      rintro e w2 ⟨rfl, hb2⟩
      have HW := Lib.hid (below_up hb1 hb2 hb1.size)
      clear hb1 hb2
      have c1 := cellB HW.out HC1.out
      have c2 := cellB HW.out HC2.out
      have HO := Lib.hid (own_emptyI w2 w2.heap.size (Nat.le_refl _))
      go_wp2_with (at_builtin; refine wp_appendI rfl _ _ rfl w2.heap.size _ [] rfl HO.out _ a rfl ((HA.out.below HW.out).below (below_box _ _)) (by have := HN.out; simp; omega) (by simp) ?_)
      intro v' w3 hown hg
      have HB := Lib.hid (below_grown (below_box w2 (.cells #[] 3)) (by simp) HO.out hg)
      have HI := Lib.hid (ints_of_owns hown)
      clear hown hg
      go_wp2_with fail
      go_returns
      exact ⟨_, rfl, by rw [HU.out]; exact HI.out, below_up HW.out HB.out HW.out.size⟩
    have HU := Lib.hid (show uniS a b = List.zipWith min a b by unfold uniS; rw [if_neg (fun e => ga (ea.1 e)), if_neg (fun e => gb (eb.1 e))])
    clear ea eb
    go_enter Tryd.func15, Tryd.ntmps15
    go_wp2_with fail
    refine HVA.out.mono ?_
    rintro e w1 ⟨rfl, hb1⟩
    go_wp2_with fail
    refine (HVB.out _ hb1).mono ?_
    rintro e w2 ⟨rfl, hb2⟩
    have HW := Lib.hid (below_up hb1 hb2 hb1.size)
    clear hb1 hb2
    have c1 := cellB HW.out HC1.out
    have c2 := cellB HW.out HC2.out
    go_wp2_with fail
    clear c1 c2
    go_loopw [6, 7] (fun z x wr => ∃ j : Nat, x = .int .i64 (j : Int) ∧ j ≤ n ∧ OwnI wr w.heap.size z ((List.zipWith min a b).take j) ∧ Below w.heap.size w wr) (fun _ x _ => n + 1 - (intOf x).toNat)
    case atStart => exact ⟨0, by simp, by omega, World.ownsRow_nil _ _ _ _, HW.out⟩
    case round =>
      clear HW
      obtain ⟨j, rfl, hj, ho, hbw⟩ := hrel
      have HO := Lib.hid ho
      have HW := Lib.hid hbw
      clear ho hbw
      by_cases hlt : j < n
      · have c1 := cellB HW.out (HX1.out j (by have := HN.out; omega))
        have c2 := cellB HW.out (HX2.out j (by have := HNB.out; omega))
        have HZ := zip_more (a := a) (b := b) (j := j) (by have := HN.out; omega) (by have := HNB.out; omega)
        obtain ⟨x, hx⟩ : ∃ x, a[j]'(by have := HN.out; omega) = x := ⟨_, rfl⟩
        obtain ⟨y, hy⟩ : ∃ y, b[j]'(by have := HNB.out; omega) = y := ⟨_, rfl⟩
        rw [hx] at c1 HZ
        rw [hy] at c2 HZ
        obtain ⟨z, hz⟩ : ∃ z, min x y = z := ⟨_, rfl⟩
        rw [hz] at HZ
        obtain ⟨V, hV⟩ : ∃ V, (List.zipWith min a b).take j = V := ⟨_, rfl⟩
        have HVL := Lib.hid (show V.length ≤ 4000 by rw [← hV]; simp; omega)
        rw [hV] at HO HZ
        have HZ' := Lib.hid HZ
        clear hx hy HZ hV
        go_wp2_with fail
        have HO1 := Lib.hid (owns_kept (HO.out.alloc (.cells #[.int .i64 z] 3)) (below_drewN _ _ 1))
        have HW1 := Lib.hid (dN (HW.out.alloc HW.out.size (.cells #[.int .i64 z] 3)) 1)
        have C1 : ((wr.alloc (.cells #[.int .i64 z] 3)).drew).cell? ⟨wr.heap.size, 0, none⟩ = some (.int .i64 z) := by simp [go_sem]
        go_region_law (refine step_appI rfl (.tmp 43) (.tmp 53) rfl w.heap.size _ V (by simp [Act.eval]) HO1.out wr.heap.size z (by simp [Act.eval]) C1 (by have := HVL.out; omega) HW1.out.size ?_; intro v' w3 hown' hg')
        all_goals
          have HB2 := Lib.hid (below_grown HW1.out HW1.out.size HO1.out hg')
          have HO2 := Lib.hid hown'
          clear hown' hg'
          go_wp2_with fail
          go_roundw
          case rel => exact ⟨j + 1, by simp, by omega, by rw [HZ'.out]; exact HO2.out, HB2.out⟩
          case measure => simp [intOf]; omega
      · have hjn : j = n := by omega
        subst hjn
        rw [List.take_of_length_le (by simp; have := HN.out; have := HNB.out; omega)] at HO
        go_wp2_with fail
        go_returns
        exact ⟨_, rfl, by rw [HU.out]; exact ints_of_owns HO.out, HW.out⟩
end Go.Proofs.YtoifcfocffcmcaaDoor
