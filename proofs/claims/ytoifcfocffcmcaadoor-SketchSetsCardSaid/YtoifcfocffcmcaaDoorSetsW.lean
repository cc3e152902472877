/- SketchSets in plain words. -/
import Derived.Test.YtoifcfocffcmcaaDoorSkOne
namespace Go.Proofs.YtoifcfocffcmcaaDoor
open Go.RowKit

theorem take_back (toks : List (List UInt8)) {j k l : Nat} (hj : j < l) (hk : k < toks.length) (hkl : k + 1 + j = l) (hl : toks.length = l) : toks.reverse.take (j + 1) = toks.reverse.take j ++ [toks[k]] := by
  rw [List.take_succ_eq_append_getElem (by simp; omega), List.getElem_reverse]
  congr 2
  simp only [show toks.length - 1 - j = k by omega]
theorem owns_below {w w1 : World} {base n : Nat} {e : TypeId} {v : Value} {xs : List Value} (h : w.ownsRow base e 1 v n xs) (hb : Below w.heap.size w w1) : w1.ownsRow base e 1 v n xs :=
  h.kept (grown_of_below hb none) (by cases v.ownBlock with | none => exact Or.inl rfl | some k => exact Or.inr (by simp))
theorem Ints.kept {w w1 : World} {v : Value} {l : List Int} {row : Option Nat} (h : Ints w v l) (hg : w.grownBy w1 row) (hn : ∀ a n c, v = .slice (some a) n c → row ≠ some a.block) : Ints w1 v l := by
  obtain ⟨A, cap, e, hc, hz, f⟩ := h
  refine ⟨A, cap, e, hc, hz, fun i hi => ?_⟩
  obtain ⟨b, off, h1, h2⟩ := f i hi
  refine ⟨b, off, h1, ?_⟩
  have hr := hn ⟨b, off, none⟩ l.length cap (by rw [e, h1])
  have hk := hg.block b (cellLt h2) (fun x => hr x.symm)
  unfold World.cell? at h2 ⊢
  rw [hk]
  exact h2

set_option maxHeartbeats 1600000 in
theorem sets_law (toks : List (List UInt8)) (c : UInt8) (v : Value) (w : World) (ht : Tab w) (h : Strs w v toks) :
    Calls Tryd.prog 4 #[v, .int .u8 (c.toNat : Int)] w fun e w' => e = .returned (.bool true) ∧ Below w.heap.size w w' := by
  have HA := Lib.hid h
  have HF := Lib.hid (fun W (hw : Below w.heap.size w W) => few_any toks v W (h.below hw))
  cases hf : fewB toks
  · rw [hf] at HF
    go_enter Tryd.func4, Tryd.ntmps4
    go_wp2_with fail
    refine (head_any w ht).mono ?_
    rintro e w1 ⟨rfl, hb⟩
    go_wp2_with fail
    refine (HF.out _ hb).mono ?_
    rintro e w2 ⟨rfl, rfl⟩
    go_wp2_with fail
    go_ret
    exact ⟨rfl, hb⟩
  obtain ⟨h40, h100⟩ := fewB_yes hf
  rw [hf] at HF
  by_cases hne : toks = []
  · subst hne
    obtain ⟨A, cap, rfl, _⟩ := h
    go_enter Tryd.func4, Tryd.ntmps4
    go_wp2_with fail
    refine (head_any w ht).mono ?_
    rintro e w1 ⟨rfl, hb⟩
    go_wp2_with fail
    refine (HF.out _ hb).mono ?_
    rintro e w2 ⟨rfl, rfl⟩
    go_wp2_with fail
    go_ret
    exact ⟨rfl, hb⟩
  have hp : 0 < toks.length := List.length_pos_iff.2 hne
  obtain ⟨n, n1, n2, hn⟩ := mod64 c
  have hcl : c.toNat < 256 := c.toNat_lt
  obtain ⟨b, off, cap, rfl, hca, hx⟩ := h.block hp
  have HX := Lib.hid hx
  have HM := Lib.hid (fun W (hw : Below w.heap.size w W) => make_new toks (n : Int) _ W (by omega) (fun t ht => by have := h100 t ht; omega) (HA.out.below hw))
  rw [make_ok toks n1 n2] at HM
  have hmem : toks[0] ∈ toks := List.getElem_mem _
  have HB := Lib.hid (fun (u : Value) (W : World) (hu : Strs W u (toks.reverse ++ [toks[0]])) => make_any (toks.reverse ++ [toks[0]]) (n : Int) u W (by simp; omega) (fun t ht => by
    simp only [List.mem_append, List.mem_reverse, List.mem_singleton] at ht
    rcases ht with ht | rfl
    · have := h100 t ht; omega
    · have := h100 _ hmem; omega) hu)
  rw [make_ok _ n1 n2, sk_back toks _ hmem n] at HB
  have HL := Lib.hid (sk_len toks n)
  clear h hx hf h100 hne hmem
  obtain ⟨l, hl⟩ : ∃ l, toks.length = l := ⟨_, rfl⟩
  have HLE := Lib.hid hl
  rw [hl] at HA HM HF hp h40 hca
  rw [hl]
  clear hl
  have hl0 : ((l : Int) == 0) = false := by rw [beq_eq_false_iff_ne]; omega
  go_enter Tryd.func4, Tryd.ntmps4
  go_wp2_with fail
  refine (head_any w ht).mono ?_
  rintro e w1 ⟨rfl, hb⟩
  go_wp2_with fail
  refine (HF.out _ hb).mono ?_
  rintro e w2 ⟨rfl, rfl⟩
  go_wp2_with fail
  go_loopw [7, 8] (fun u x wr => ∃ j : Nat, x = .int .i64 (j : Int) ∧ j ≤ l ∧ OwnS wr w.heap.size u (toks.reverse.take j) ∧ Below w.heap.size w wr) (fun _ x _ => l + 1 - (intOf x).toNat)
  case atStart => exact ⟨0, by simp, by omega, World.ownsRow_nil _ _ _ _, hb⟩
  case round =>
    clear hb
    obtain ⟨j, rfl, hj, ho, hbw⟩ := hrel
    have HO := Lib.hid ho
    have HW := Lib.hid hbw
    clear ho hbw
    by_cases hlt : j < l
    · obtain ⟨k, hk⟩ : ∃ k : Nat, k + 1 + j = l := ⟨l - 1 - j, by omega⟩
      have e1 : (l : Int) - 1 - (j : Int) = (k : Int) := by omega
      have c0 := cellB HW.out (HX.out k (by have := HLE.out; omega))
      have hz := take_back toks hlt (by have := HLE.out; omega) (show k + 1 + j = l by omega) HLE.out
      obtain ⟨x, hx⟩ : ∃ x, toks[k]'(by have := HLE.out; omega) = x := ⟨_, rfl⟩
      rw [hx] at c0 hz
      have HZ := Lib.hid hz
      clear hx hz
      go_wp2_with (at_builtin; refine wp_append rfl _ _ rfl w.heap.size _ (toks.reverse.take j) rfl (HO.out.alloc _) _ [x] rfl (strs_one _ x _) (by simp; omega) (by have := HW.out.size; simp; omega) ?_)
      intro v' w3 hown' hg'
      have HB2 := Lib.hid (below_grown (HW.out.alloc HW.out.size _) (by have := HW.out.size; simp; omega) (HO.out.alloc _) hg')
      have HO2 := Lib.hid hown'
      clear hown' hg'
      go_wp2_with fail
      go_roundw
      case rel => exact ⟨j + 1, by simp, by omega, by rw [HZ.out]; exact HO2.out, HB2.out⟩
      case measure => simp [intOf]; omega
    · have hjl : j = l := by omega
      subst hjl
      have ht : toks.reverse.take j = toks.reverse := List.take_of_length_le (by simp [HLE.out])
      rw [ht] at HO
      clear ht
      go_wp2_with fail
      refine (HM.out _ HW.out).mono ?_
      rintro e w3 ⟨va, rfl, hva, hb3, hfr⟩
      have hlt := HO.out.lt
      have HO := Lib.hid (owns_below HO.out hb3)
      have HVA := Lib.hid hva
      have HW3 := Lib.hid (below_up HW.out hb3 HW.out.size)
      have c0 := cellB HW3.out (HX.out 0 (by have := HLE.out; omega))
      obtain ⟨x, hx⟩ : ∃ x, toks[0]'(by have := HLE.out; omega) = x := ⟨_, rfl⟩
      rw [show toks[0]'(by have := HLE.out; omega) = x from hx] at c0 HB
      rw [Nat.add_zero] at c0
      clear hb3 hx hva
      go_wp2_with (at_builtin; refine wp_append rfl _ _ rfl w.heap.size _ toks.reverse rfl (HO.out.alloc _) _ [x] rfl (strs_one _ x _) (by simp; have := HLE.out; omega) (by have := HW3.out.size; simp; omega) ?_)
      intro v' w4 hown' hg'
      have HB4 := Lib.hid (below_grown (HW3.out.alloc HW3.out.size _) (by have := HW3.out.size; simp; omega) (HO.out.alloc _) hg')
      have HS := Lib.hid (strs_of_owns hown')
      have HVA := Lib.hid ((HVA.out.below (below_box _ _)).kept hg' (fun a n c e h => by have h1 := hfr a n c e; have h2 := (hlt _ h).2; omega))
      clear hown' hg'
      go_wp2_with fail
      refine (HB.out _ _ HS.out).mono ?_
      rintro e w5 ⟨vb, rfl, hvb, hb5⟩
      have HVA := Lib.hid (HVA.out.below hb5)
      have HW5 := Lib.hid (below_up HB4.out hb5 HB4.out.size)
      have HI := Lib.hid (fun W (hw : Below w5.heap.size w5 W) => ints_ref_q (sk toks n) (sk toks n) va vb W (by rw [HL.out]; omega) (HVA.out.below hw) (hvb.below hw))
      rw [decide_eq_true rfl] at HI
      obtain ⟨A, ca, hva, _⟩ := HVA.out
      rw [HL.out] at hva
      subst hva
      clear hb5 hvb
      go_wp2_with fail
      refine (HI.out _ (Below.refl _ _)).mono ?_
      rintro e w6 ⟨rfl, q, rfl⟩
      go_wp2_with fail
      go_ret
      exact ⟨rfl, dN HW5.out q⟩
end Go.Proofs.YtoifcfocffcmcaaDoor
