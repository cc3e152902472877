/- SketchEstimates in plain words. -/
import Derived.Test.YtoifcfocffcmcaaDoorSkHead
namespace Go.Proofs.YtoifcfocffcmcaaDoor
open Go.RowKit

theorem alike_comm (a b : List Int) : alike a b = alike b a := by
  unfold alike
  by_cases h : a.length = b.length
  · rw [h]; cases isSk a <;> cases isSk b <;> rfl
  · rw [decide_eq_false h, decide_eq_false (fun e => h e.symm)]; cases isSk a <;> cases isSk b <;> rfl
theorem est_comm (a b : List Int) : estT a b = estT b a := by
  unfold estT
  rw [alike_comm a b]
  by_cases h : alike b a = true
  · have hl := (alike_yes h).2.2
    rw [if_pos h, if_pos h, ← hl]
    unfold eqN
    rw [eqK_comm, hl]
  · rw [if_neg h, if_neg h]
/-- What an estimate is: from 0 to 1, the denominator divides the number of elements; 1 exactly for equal sketches. -/
theorem est_facts {a b : List Int} (h : alike a b = true) : ∃ n d : Nat, estT a b = ((n : Int), (d : Int), 0) ∧ 0 < d ∧ n ≤ d ∧ d ≤ 64 ∧ (a.length : Int) % (d : Int) = 0 ∧ ((n = 1 ∧ d = 1) ↔ a = b) := by
  obtain ⟨sa, sb, hl⟩ := alike_yes h
  obtain ⟨l1, l2⟩ := isSk_len sa
  have hle : eqN a b ≤ a.length := eqK_le a b a.length
  have hall : eqN a b = a.length ↔ a = b := by
    unfold eqN
    rw [eqK_all]
    constructor
    · intro hk
      apply List.ext_getElem hl
      intro i h1 h2
      have := hk i h1
      simpa [List.getD, h1, h2] using this
    · rintro rfl k _
      rfl
  obtain ⟨m, hm⟩ : ∃ m, a.length = m := ⟨_, rfl⟩
  obtain ⟨q, hq⟩ : ∃ q, eqN a b = q := ⟨_, rfl⟩
  rw [hm] at l1 l2 hle hall
  rw [hq] at hle hall
  obtain ⟨g, hg⟩ : ∃ g, Nat.gcd q m = g := ⟨_, rfl⟩
  have gp : 0 < g := by rw [← hg]; exact Nat.gcd_pos_of_pos_right _ l1
  obtain ⟨u, hu⟩ : ∃ u, q = g * u := by rw [← hg]; exact Nat.gcd_dvd_left q m
  obtain ⟨v, hv⟩ : ∃ v, m = g * v := by rw [← hg]; exact Nat.gcd_dvd_right q m
  have eu : q / g = u := by rw [hu]; exact Nat.mul_div_cancel_left u gp
  have ev : m / g = v := by rw [hv]; exact Nat.mul_div_cancel_left v gp
  have hvm : v ≤ m := by rw [hv]; exact Nat.le_mul_of_pos_left v gp
  have huv : u ≤ v := by
    have : g * u ≤ g * v := by omega
    exact Nat.le_of_mul_le_mul_left this gp
  have hv1 : 1 ≤ v := by
    rcases Nat.eq_zero_or_pos v with h0 | h0
    · subst h0; omega
    · exact h0
  refine ⟨u, v, ?_, hv1, huv, by omega, ?_, ?_⟩
  · unfold estT
    rw [if_pos h, hq, hm]
    unfold L1.mk
    rw [if_neg (by omega)]
    simp only [Int.natAbs_natCast, hg, eu, ev]
    rw [if_pos (by omega), if_pos (by omega)]
  · rw [hm, hv]
    simp
  · rw [← hall, hu, hv]
    constructor
    · rintro ⟨h1, h2⟩
      rw [h1, h2]
    · intro e
      have e2 : u = v := Nat.eq_of_mul_eq_mul_left gp e
      subst e2
      have e3 : q = m := by rw [hu, hv]
      rw [e3, Nat.gcd_self] at hg
      have : u = 1 := by
        rw [← ev, hg]
        exact Nat.div_self (by omega)
      exact ⟨this, this⟩

theorem est_no {a b : List Int} (h : alike a b = false) : estT a b = (0, 0, 1) := by unfold estT; rw [h]; rfl

set_option maxHeartbeats 1600000 in
theorem estimates_law (a b : List Int) (v u : Value) (w : World) (ht : Tab w) (h : Ints w v a) (k : Ints w u b) :
    Calls Tryd.prog 6 #[v, u] w fun e w' => e = .returned (.bool true) ∧ Below w.heap.size w w' := by
  have HA := Lib.hid h
  have HK := Lib.hid k
  obtain ⟨A, cap, ev, hca, _⟩ := h
  obtain ⟨B, cbp, eu, hcb, _⟩ := k
  subst ev eu
  obtain ⟨n, hn⟩ : ∃ n, a.length = n := ⟨_, rfl⟩
  obtain ⟨m, hm⟩ : ∃ m, b.length = m := ⟨_, rfl⟩
  have HN := Lib.hid hn
  have HM := Lib.hid hm
  rw [hn] at HA hca
  rw [hm] at HK hcb
  rw [hn, hm]
  by_cases h100 : 100 < n
  · clear hn hm
    go_enter Tryd.func6, Tryd.ntmps6
    go_wp2_with fail
    refine (head_any w ht).mono ?_
    rintro e w1 ⟨rfl, hb⟩
    go_wp2_with fail
    go_ret
    exact ⟨rfl, hb⟩
  by_cases h101 : 100 < m
  · clear hn hm
    go_enter Tryd.func6, Tryd.ntmps6
    go_wp2_with fail
    refine (head_any w ht).mono ?_
    rintro e w1 ⟨rfl, hb⟩
    go_wp2_with fail
    go_ret
    exact ⟨rfl, hb⟩
  have HE := Lib.hid (fun W (hw : Below w.heap.size w W) => est_any a b _ _ W (by omega) (by omega) (HA.out.below hw) (HK.out.below hw))
  have HF := Lib.hid (fun W (hw : Below w.heap.size w W) => est_any b a _ _ W (by omega) (by omega) (HK.out.below hw) (HA.out.below hw))
  rw [est_comm b a] at HF
  cases hal : alike a b
  · rw [est_no hal] at HE HF
    clear hn hm hal
    go_enter Tryd.func6, Tryd.ntmps6
    go_wp2_with fail
    refine (head_any w ht).mono ?_
    rintro e w1 ⟨rfl, hb⟩
    go_wp2_with fail
    refine (HE.out _ hb).mono ?_
    rintro e w2 ⟨rfl, hb2⟩
    have HB2 := Lib.hid (below_up hb hb2 hb.size)
    clear hb hb2
    have R := own2_new w2 0 0 31
    have HR := Lib.hid R
    clear R
    go_wp2_with fail
    refine (HF.out _ (HB2.out.alloc HB2.out.size _)).mono ?_
    rintro e w3 ⟨rfl, hb3⟩
    have HB3 := Lib.hid (below_next HB2.out HB2.out.size hb3)
    have r0 := fun o => ((HR.out.below hb3).alloc o).c0
    have r1 := fun o => ((HR.out.below hb3).alloc o).c1
    clear hb3
    go_wp2_with fail
    go_ret
    exact ⟨rfl, HB3.out.alloc HB3.out.size _⟩
  · obtain ⟨r, d, he, d1, rd, d64, hmod, hone⟩ := est_facts hal
    have HMOD : (n : Int) % (d : Int) = 0 := by rw [← hn]; exact hmod
    clear hmod
    rw [he] at HE HF
    clear hn hm hal he
    have hd0 : ¬ d = 0 := by omega
    have htm : (n : Int).tmod (d : Int) = 0 := by rw [Int.tmod_eq_emod_of_nonneg (by omega)]; exact HMOD
    clear HMOD
    have g1 : decide ((1 : Int) ≤ (d : Int)) = true := decide_eq_true (by omega)
    have g2 : decide ((r : Int) ≤ (d : Int)) = true := decide_eq_true (by omega)
    have g0 : decide ((0 : Int) ≤ (r : Int)) = true := decide_eq_true (by omega)
    have HI := Lib.hid (fun W (hw : Below w.heap.size w W) => ints_ref_q a b _ _ W (by have := HN.out; omega) (HA.out.below hw) (HK.out.below hw))
    have HO := Lib.hid hone
    clear hone
    go_enter Tryd.func6, Tryd.ntmps6
    go_wp2_with fail
    refine (head_any w ht).mono ?_
    rintro e w1 ⟨rfl, hb⟩
    go_wp2_with fail
    refine (HE.out _ hb).mono ?_
    rintro e w2 ⟨rfl, hb2⟩
    have HB2 := Lib.hid (below_up hb hb2 hb.size)
    clear hb hb2
    have R := own2_new w2 r d 31
    have HR := Lib.hid R
    clear R
    go_wp2_with fail
    refine (HF.out _ (HB2.out.alloc HB2.out.size _)).mono ?_
    rintro e w3 ⟨rfl, hb3⟩
    have HB3 := Lib.hid (below_next HB2.out HB2.out.size hb3)
    have r0 := fun o o2 => (((HR.out.below hb3).alloc o).alloc o2).c0
    have r1 := fun o o2 => (((HR.out.below hb3).alloc o).alloc o2).c1
    have s0 := fun o => ((own2_new w3 r d 31).alloc o).c0
    have s1 := fun o => ((own2_new w3 r d 31).alloc o).c1
    clear hb3
    go_wp2_with fail
    have HB5 := Lib.hid (fun (o o2 : Obj) => (HB3.out.alloc HB3.out.size o).alloc (show w.heap.size ≤ (w3.alloc o).heap.size by have := HB3.out.size; simp; omega) o2)
    rcases (show (r = 1 ∧ d = 1) ∨ r ≠ 1 ∨ (r = 1 ∧ d ≠ 1) by omega) with ⟨rfl, rfl⟩ | hr | ⟨rfl, hd⟩
    · have hab : decide (a = b) = true := decide_eq_true (HO.out.1 ⟨rfl, rfl⟩)
      rw [hab] at HI
      go_quiet ((go_at_call 22; exact Calls.quiet_of (HI.out _ (by first | exact dN (HB5.out _ _) _ | exact HB5.out _ _))))
      go_wp2_with fail
      go_ret
      exact ⟨rfl, by first | exact HB5.out _ _ | exact dN (HB5.out _ _) _⟩
    · have hab : decide (a = b) = false := decide_eq_false (fun e => hr (HO.out.2 e).1)
      have hr1 : ((r : Int) == 1) = false := by rw [beq_eq_false_iff_ne]; omega
      have hr2 : ¬ (r : Int) = 1 := by omega
      rw [hab] at HI
      go_quiet ((go_at_call 22; exact Calls.quiet_of (HI.out _ (by first | exact dN (HB5.out _ _) _ | exact HB5.out _ _))))
      go_wp2_with fail
      go_ret
      exact ⟨rfl, by first | exact HB5.out _ _ | exact dN (HB5.out _ _) _⟩
    · have hab : decide (a = b) = false := decide_eq_false (fun e => hd (HO.out.2 e).2)
      have hr1 : ((d : Int) == 1) = false := by rw [beq_eq_false_iff_ne]; omega
      have hr2 : ¬ (d : Int) = 1 := by omega
      rw [hab] at HI
      go_quiet ((go_at_call 22; exact Calls.quiet_of (HI.out _ (by first | exact dN (HB5.out _ _) _ | exact HB5.out _ _))))
      go_wp2_with fail
      go_ret
      exact ⟨rfl, by first | exact HB5.out _ _ | exact dN (HB5.out _ _) _⟩
end Go.Proofs.YtoifcfocffcmcaaDoor
