/- RatioOrder, for every three ratios: for valid ratios Cmp is 0 exactly for the same ratio, is reversed by exchanging its arguments, and transitive; it does not change if the third one is added to both, or both are multiplied by it, if it is positive, as long as the results are in range. No condition beyond what the row states: the listed variables of the library start as the program's text lays them. -/
import Derived.Test.YtpmggfmhkjafkaaDoorOrderW
import Derived.Test.YtpmggfmhkjafkaaDoorFieldM
import Derived.Test.YtpmggfmhkjafkaaDoorFrame
namespace Go.Proofs.YtpmggfmhkjafkaaDoor
open Go.ChangeShapes Go.WideShapes Go.ChangeAt Go.RowKit

theorem cmpR_eq {an ad bn bd : Int} (va : Vld an ad) (vb : Vld bn bd) : cmpR an ad bn bd = cmpI (an * bd) (bn * ad) := by
  unfold cmpR; rw [vldB_mk va, vldB_mk vb]; rfl

theorem cmpI_cases (x y : Int) : (cmpI x y = -1 ∧ x < y) ∨ (cmpI x y = 0 ∧ x = y) ∨ (cmpI x y = 1 ∧ y < x) := by
  unfold cmpI; split
  · left; exact ⟨rfl, by omega⟩
  · split
    · right; right; exact ⟨rfl, by omega⟩
    · right; left; exact ⟨rfl, by omega⟩

/-- The comparison goes by the sign of the difference, whatever positive factor it bears. -/
theorem cmpI_scale {x y u v : Int} (p q : Int) (hp : 0 < p) (hq : 0 < q) (h : p * (x - y) = q * (u - v)) : cmpI x y = cmpI u v := by
  have pos : ∀ {r s : Int}, 0 < r → 0 < s → 0 < r * s := fun hr hs => Int.mul_pos hr hs
  rcases Int.lt_trichotomy (x - y) 0 with h1 | h1 | h1
  · have hx : p * (x - y) < 0 := Int.mul_neg_of_pos_of_neg hp h1
    have hu : u - v < 0 := by
      rcases Int.lt_or_le (u - v) 0 with h2 | h2
      · exact h2
      · have := Int.mul_nonneg (Int.le_of_lt hq) h2; omega
    unfold cmpI; rw [if_pos (by omega), if_pos (by omega)]
  · rw [h1, Int.mul_zero] at h
    have hu : u - v = 0 := by
      rcases Int.mul_eq_zero.1 h.symm with h2 | h2
      · omega
      · exact h2
    unfold cmpI; rw [if_neg (by omega), if_neg (by omega), if_neg (by omega), if_neg (by omega)]
  · have hx := pos hp h1
    have hu : 0 < u - v := by
      rcases Int.lt_or_le 0 (u - v) with h2 | h2
      · exact h2
      · have := Int.mul_nonpos_of_nonneg_of_nonpos (Int.le_of_lt hq) h2; omega
    unfold cmpI; rw [if_neg (by omega), if_pos (by omega), if_neg (by omega), if_pos (by omega)]

/-- Equal quotients of valid ratios are equal ratios. -/
theorem vld_eq {an ad bn bd : Int} (va : Vld an ad) (vb : Vld bn bd) (h : an * bd = bn * ad) : an = bn ∧ ad = bd := by
  have e1 := mk_uniq (n := an) (d := ad) (den_ne va) va rfl
  have e2 := mk_uniq (n := an) (d := ad) (den_ne va) vb h.symm
  rw [e1] at e2
  exact ⟨congrArg (fun r => r.1) e2, congrArg (fun r => r.2.1) e2⟩

theorem den_pos {n d : Int} (h : Vld n d) : 0 < d := by obtain ⟨_, _, _, _, _⟩ := h; omega

set_option linter.unusedSimpArgs false

theorem cmp_trans {an ad bn bd cn cd : Int} (va : Vld an ad) (vb : Vld bn bd) (vc : Vld cn cd) (h1 : cmpI (an * bd) (bn * ad) ≤ 0) (h2 : cmpI (bn * cd) (cn * bd) ≤ 0) : cmpI (an * cd) (cn * ad) ≤ 0 := by
  have g1 : an * bd ≤ bn * ad := by rcases cmpI_cases (an * bd) (bn * ad) with h | h | h <;> omega
  have g2 : bn * cd ≤ cn * bd := by rcases cmpI_cases (bn * cd) (cn * bd) with h | h | h <;> omega
  have m1 := Int.mul_le_mul_of_nonneg_right g1 (Int.le_of_lt (den_pos vc))
  have m2 := Int.mul_le_mul_of_nonneg_right g2 (Int.le_of_lt (den_pos va))
  have m3 : an * cd * bd ≤ cn * ad * bd := by
    simp only [Int.add_mul, Int.sub_mul, Int.mul_add, Int.mul_sub, Int.mul_assoc, Int.mul_comm, Int.mul_left_comm] at m1 m2 ⊢
    omega
  have m4 := Int.le_of_mul_le_mul_right m3 (den_pos vb)
  rcases cmpI_cases (an * cd) (cn * ad) with h | h | h <;> omega

theorem cmp_add {an ad bn bd cn cd sn sd tn td : Int} (va : Vld an ad) (vb : Vld bn bd) (vc : Vld cn cd) (hS : opr (vldB an ad && vldB cn cd) (an * cd + cn * ad) (ad * cd) = (sn, sd, 0)) (hT : opr (vldB bn bd && vldB cn cd) (bn * cd + cn * bd) (bd * cd) = (tn, td, 0)) :
    cmpR sn sd tn td = cmpR an ad bn bd := by
  obtain ⟨vs, e1⟩ := opr_ok va vc (dens_ne va vc) hS
  obtain ⟨vt, e2⟩ := opr_ok vb vc (dens_ne vb vc) hT
  rw [cmpR_eq vs vt, cmpR_eq va vb]
  apply cmpI_scale (ad * bd * cd) (sd * td * cd) (Int.mul_pos (Int.mul_pos (den_pos va) (den_pos vb)) (den_pos vc)) (Int.mul_pos (Int.mul_pos (den_pos vs) (den_pos vt)) (den_pos vc))
  replace e1 := congrArg (fun x => x * (bd * td)) e1
  replace e2 := congrArg (fun x => x * (ad * sd)) e2
  simp only [Int.add_mul, Int.sub_mul, Int.mul_add, Int.mul_sub, Int.mul_assoc, Int.mul_comm, Int.mul_left_comm] at e1 e2 ⊢
  omega

theorem cmp_mul {an ad bn bd cn cd pn pd qn qd : Int} (va : Vld an ad) (vb : Vld bn bd) (vc : Vld cn cd) (hP : opr (vldB an ad && vldB cn cd) (an * cn) (ad * cd) = (pn, pd, 0)) (hQ : opr (vldB bn bd && vldB cn cd) (bn * cn) (bd * cd) = (qn, qd, 0)) (hc : 0 < cn) :
    cmpR pn pd qn qd = cmpR an ad bn bd := by
  obtain ⟨vp, e1⟩ := opr_ok va vc (dens_ne va vc) hP
  obtain ⟨vq, e2⟩ := opr_ok vb vc (dens_ne vb vc) hQ
  rw [cmpR_eq vp vq, cmpR_eq va vb]
  apply cmpI_scale (ad * bd * cd) (pd * qd * cn) (Int.mul_pos (Int.mul_pos (den_pos va) (den_pos vb)) (den_pos vc)) (Int.mul_pos (Int.mul_pos (den_pos vp) (den_pos vq)) hc)
  replace e1 := congrArg (fun x => x * (bd * qd)) e1
  replace e2 := congrArg (fun x => x * (ad * pd)) e2
  simp only [Int.add_mul, Int.sub_mul, Int.mul_add, Int.mul_sub, Int.mul_assoc, Int.mul_comm, Int.mul_left_comm] at e1 e2 ⊢
  omega

theorem order_any (an ad bn bd cn cd : Int) (w : World) (he : Env w) :
    Calls Tryd.prog 6 #[.agg #[.int .i64 an, .int .i64 ad], .agg #[.int .i64 bn, .int .i64 bd], .agg #[.int .i64 cn, .int .i64 cd]] w fun e w' => e = .returned (.bool true) ∧ Below w.heap.size w w' := by
  cases hv : vldB an ad
  · exact order_a1 an ad bn bd cn cd hv w he
  cases hu : vldB bn bd
  · exact order_a2 an ad bn bd cn cd hv hu w he
  cases ht : vldB cn cd
  · exact order_a3 an ad bn bd cn cd hv hu ht w he
  have va := vldB_true hv
  have vb := vldB_true hu
  have vc := vldB_true ht
  obtain ⟨⟨sn, sd, es⟩, hS⟩ : ∃ r, opr (vldB an ad && vldB cn cd) (an * cd + cn * ad) (ad * cd) = r := ⟨_, rfl⟩
  obtain ⟨⟨tn, td, et⟩, hT⟩ : ∃ r, opr (vldB bn bd && vldB cn cd) (bn * cd + cn * bd) (bd * cd) = r := ⟨_, rfl⟩
  obtain ⟨⟨pn, pd, ep⟩, hP⟩ : ∃ r, opr (vldB an ad && vldB cn cd) (an * cn) (ad * cd) = r := ⟨_, rfl⟩
  obtain ⟨⟨qn, qd, eq⟩, hQ⟩ : ∃ r, opr (vldB bn bd && vldB cn cd) (bn * cn) (bd * cd) = r := ⟨_, rfl⟩
  have eK := cmpR_eq va vb
  have eJ := cmpR_eq vb va
  have eM := cmpR_eq vb vc
  have eN := cmpR_eq va vc
  refine order_b an ad bn bd cn cd (cmpR an ad bn bd) (cmpR bn bd cn cd) (cmpR an ad cn cd) sn sd es tn td et pn pd ep qn qd eq hv hu ht ?_ rfl ?_ rfl rfl ?_ ?_ ?_ hS hT ?_ hP hQ ?_ w he
  · rw [eK]; rcases cmpI_cases (an * bd) (bn * ad) with h | h | h <;> omega
  · rw [eK, eJ]
    rcases cmpI_cases (an * bd) (bn * ad) with h | h | h <;> rcases cmpI_cases (bn * ad) (an * bd) with k | k | k <;> omega
  · rw [eK, eM, eN]; exact fun h1 h2 => cmp_trans va vb vc h1 h2
  · intro h
    rw [eK] at h
    have : an * bd = bn * ad := by rcases cmpI_cases (an * bd) (bn * ad) with k | k | k <;> omega
    exact vld_eq va vb this
  · intro h h1 h2
    apply h
    rw [eK, h1, h2]
    rcases cmpI_cases (bn * bd) (bn * bd) with k | k | k <;> omega
  · intro h1 h2
    exact cmp_add va vb vc (by rw [← h1]; exact hS) (by rw [← h2]; exact hT)
  · intro hc h1 h2
    exact cmp_mul va vb vc (by rw [← h1]; exact hP) (by rw [← h2]; exact hQ) hc

namespace ratioOrder
/-- WHAT THE WALK GIVES, FOR EVERY ARGUMENT THAT CAN BE READ. -/
theorem contract (H : Type) (enc : TypeId × Value → H) (W : World) (base : Nat) (args : Array Value) (ds gs : List (DataW H)) (before : List MemPlace)
    (hval : ∀ (j : Nat) t v, Tryd.f6.params[j]? = some t → args[j]? = some v → Value.okWide Tryd.prog W .any base t v)
    (hW : DataW.Whole enc Tryd.prog Tryd.f6.params.toList Rows.ratioOrderSpec.vars false W args.toList ds gs before) (hL : laidMetH Tryd.prog Rows.ratioOrderRow.laid W) (hS : W.ShapedOpen Tryd.prog) :
    Calls Tryd.prog 6 args W fun e W' => ∃ v, e = .returned v ∧ Rows.ratioOrderSpec.post enc Tryd.prog Tryd.f6 false true false false W args v W' := by
  have hW' := hW
  obtain ⟨p, q, hA0, hV, rfl, hfz, hnd⟩ := hW
  have hA : DataW.TrodAll enc Tryd.prog W 0 (fun _ => true) true Tryd.f6.params.toList args.toList ds p := hA0
  rw [Tryd.params6] at hA hval
  obtain ⟨v0, vs0, d0, ds0, p0, q0, hargs, rfl, rfl, h0, r0⟩ := trodAll_cons hA
  obtain ⟨v1, vs1, d1, ds1, p1, q1, rfl, rfl, rfl, h1, r1⟩ := trodAll_cons r0
  obtain ⟨v2, vs2, d2, ds2, p2, q2, rfl, rfl, rfl, h2, r2⟩ := trodAll_cons r1
  obtain ⟨rfl, rfl, rfl⟩ := trodAll_nil r2
  obtain rfl : args = #[v0, v1, v2] := by cases args; simp_all
  obtain ⟨rfl, rfl⟩ := trodVars_none hV
  obtain ⟨n0, m0, rfl, rfl, rfl, wn0, wm0⟩ := open_ratio (hval 0 23 v0 rfl rfl) h0
  obtain ⟨n1, m1, rfl, rfl, rfl, wn1, wm1⟩ := open_ratio (hval 1 23 v1 rfl rfl) h1
  obtain ⟨n2, m2, rfl, rfl, rfl, wn2, wm2⟩ := open_ratio (hval 2 23 v2 rfl rfl) h2
  clear hA0
  simp only [List.append_nil] at hW'
  refine (order_any n0 m0 n1 m1 n2 m2 W (env_of_laid hL hS)).mono fun e W' ⟨he, hg⟩ => ?_
  subst he
  exact ⟨_, rfl, _, _, _, [], [], [], hW', trodAll_cons_mk (shut_bool Tryd.underlying4 _) trodAll_mk0, trodAll_cons_mk (shut_ratio wn0 wm0 _ _) (trodAll_cons_mk (shut_ratio wn1 wm1 _ _) (trodAll_cons_mk (shut_ratio wn2 wm2 _ _) trodAll_mk0)), rfl, hg.frame _, fun h => by cases h⟩

theorem reads (os : Os) {H : Type} (enc : TypeId × Value → H) : ∃ places, DataW.whole enc Tryd.prog ((laidWorld os).forCall (fun _ _ => 0) ⟨#[], #[Value.agg #[.int .i64 0, .int .i64 0], Value.agg #[.int .i64 0, .int .i64 0], Value.agg #[.int .i64 0, .int .i64 0]], []⟩).memory Tryd.f6.params.toList Rows.ratioOrderSpec.vars false #[Value.agg #[.int .i64 0, .int .i64 0], Value.agg #[.int .i64 0, .int .i64 0], Value.agg #[.int .i64 0, .int .i64 0]].toList 8 = some ([.agg [.lit (.int .i64 0), .lit (.int .i64 0)], .agg [.lit (.int .i64 0), .lit (.int .i64 0)], .agg [.lit (.int .i64 0), .lit (.int .i64 0)]], [], places) :=
  ⟨[], by kernel_rfl⟩

set_option maxRecDepth 100000 in
theorem lifted (os : Os) (started : os.Started) (H : Type) (enc : TypeId × Value → H) (F : Stop.Interp) :
    ReturnsInHanded {} Tryd.checked os 6 .any ((OpenSpec.ofChange Rows.ratioOrderSpec).preRow enc Tryd.prog Tryd.f6 Rows.ratioOrderRow.domain false Rows.ratioOrderRow.laid) (((OpenSpec.ofChange Rows.ratioOrderSpec).at F).post enc Tryd.prog Tryd.f6 false true false false) := by
  obtain ⟨places, hx⟩ := reads os enc
  refine returnsInHanded_of_row (C := Tryd.checked) (s := OpenSpec.ofChange Rows.ratioOrderSpec) own started (by kernel_rfl) Tryd.func6
    (witness_row_at (enc := enc) (C := Tryd.checked) false (laidWorld os) #[Value.agg #[.int .i64 0, .int .i64 0], Value.agg #[.int .i64 0, .int .i64 0], Value.agg #[.int .i64 0, .int .i64 0]] rfl (by kernel_rfl) (by kernel_rfl) (by kernel_rfl)
      (OpenSpec.preRow_of_cond 8 hx (by kernel_rfl) (fun k hk => by cases hk) (by kernel_rfl) (laid_met os _))) ?_
  intro W base args ds gs before hval hW _ _ _ hL hS _
  exact contract H enc W base args ds gs before hval hW hL hS

theorem said : Rows.RatioOrderSaid :=
  OpenClaim.holds_of_cond 6 Tryd.f6 rfl rfl rfl rfl rfl rfl rfl ⟨rfl, rfl, rfl, rfl, rfl⟩ rfl rfl rfl rfl rfl (by kernel_rfl) Tryd.func6 (by kernel_rfl)
    (of_decide_eq_true (by kernel_rfl)) (by unfold Func.isWrapper; first | (rw [if_pos (by decide +kernel)]; kernel_rfl) | (rw [if_neg (by decide +kernel)]; exact ⟨rfl, rfl⟩))
    (fun os started H enc _ F => by rw [OpenClaim.pre_eq_preRow]; exact lifted os started H enc F)

/-- No parameter wants a stand-in; the program's own looks are off: what the card asks. -/
theorem plain (f : FuncId) (fn : Func) (hf : Tryd.pinned.checked.prog.funcNamed Tryd.f6.name = some f) (hfn : Tryd.pinned.checked.prog.funcs[f]? = some fn) :
    true = Tryd.pinned.checked.prog.looks [] ∧ ∀ (j : Nat) t, fn.params[j]? = some t → Tryd.pinned.checked.prog.wantsStandIn t = false := by
  obtain rfl : f = 6 := Option.some.inj ((show Tryd.prog.funcNamed Tryd.f6.name = some 6 by kernel_rfl).symm.trans hf) |>.symm
  obtain rfl : fn = Tryd.f6 := (Option.some.inj (Tryd.func6.symm.trans hfn)).symm
  refine ⟨by kernel_rfl, fun j t ht => ?_⟩
  rw [Tryd.params6] at ht
  have hm := Array.mem_of_getElem? ht
  simp only [List.mem_toArray, List.mem_cons, List.not_mem_nil, or_false] at hm
  rcases hm with rfl | rfl | rfl
  all_goals first | exact (show Tryd.prog.wantsStandIn 23 = false by kernel_rfl)

/-- ████ THE CARD ████ -/
theorem card : Rows.RatioOrderCardSaid :=
  Claim7.holds_tied_plain_at .later [] _ _ _ _ said (fun _ h => by cases h) (by kernel_rfl) (fun _ h => by cases h) ratioOrder_row_tie rfl ⟨rfl, rfl⟩ (by kernel_rfl) rfl plain (by kernel_rfl)
end ratioOrder
end Go.Proofs.YtpmggfmhkjafkaaDoor
