/- RatioExact, for every two ratios: the sum, difference, product and quotient of small valid ratios have no error and are exact. No condition beyond what the row states: the listed variables of the library start as the program's text lays them. -/
import Derived.Test.YtpmggfmhkjafkaaDoorExactW
import Derived.Test.YtpmggfmhkjafkaaDoorFrame
namespace Go.Proofs.YtpmggfmhkjafkaaDoor
open Go.ChangeShapes Go.WideShapes Go.ChangeAt Go.RowKit

theorem mk_small {n d : Int} (hd : d ≠ 0) (h1 : -1000000000 ≤ n ∧ n ≤ 1000000000) (h2 : -1000000000 ≤ d ∧ d ≤ 1000000000) : ∃ a b, mk n d = (a, b, 0) ∧ vldB a b = true ∧ a * d = n * b := by
  rcases mk_spec n d hd with h | ⟨a, b, h, hv, he⟩
  · exfalso
    unfold mk at h
    rw [if_neg hd, if_pos ⟨Nat.le_trans (Nat.div_le_self _ _) (by omega), Nat.le_trans (Nat.div_le_self _ _) (by omega)⟩] at h
    have := congrArg (fun x => x.2.2) h
    simp at this
  · exact ⟨a, b, h, vldB_mk hv, he⟩

theorem mul_small {a b : Int} (h1 : -1000 ≤ a ∧ a ≤ 1000) (h2 : -1000 ≤ b ∧ b ≤ 1000) : -1000000 ≤ a * b ∧ a * b ≤ 1000000 :=
  mul_bound (A := 1000) (B := 1000) h1.1 h1.2 h2.1 h2.2

theorem exact_any (an ad bn bd : Int) (w : World) (he : Env w) :
    Calls Tryd.prog 8 #[.agg #[.int .i64 an, .int .i64 ad], .agg #[.int .i64 bn, .int .i64 bd]] w fun e w' => e = .returned (.bool true) ∧ Below w.heap.size w w' := by
  cases hv : vldB an ad
  · exact exact_a1 an ad bn bd hv w he
  cases hu : vldB bn bd
  · exact exact_a2 an ad bn bd hv hu w he
  have va := vldB_true hv
  have vb := vldB_true hu
  obtain ⟨a1, a2, a3, a4, _⟩ := va
  obtain ⟨b1, b2, b3, b4, _⟩ := vb
  by_cases hm : 1000 < max4 an (-an) bn (-bn)
  · exact exact_a3 an ad bn bd hv hu ⟨a3, a4⟩ ⟨b3, b4⟩ hm w he
  by_cases hx : 1000 < max ad bd
  · exact exact_a4 an ad bn bd hv hu ⟨a3, a4⟩ ⟨b3, b4⟩ (by omega) hx w he
  have k1 : -1000 ≤ an ∧ an ≤ 1000 := by unfold max4 at hm; omega
  have k2 : -1000 ≤ bn ∧ bn ≤ 1000 := by unfold max4 at hm; omega
  have k3 : -1000 ≤ ad ∧ ad ≤ 1000 := by omega
  have k4 : -1000 ≤ bd ∧ bd ≤ 1000 := by omega
  have p1 := mul_small k1 k4
  have p2 := mul_small k2 k3
  have p3 := mul_small k3 k4
  have p4 := mul_small k1 k2
  have p5 := mul_small k3 k2
  have hden : ad * bd ≠ 0 := Int.mul_ne_zero (by omega) (by omega)
  have opr_t : ∀ x y, opr (vldB an ad && vldB bn bd) x y = mk x y := fun x y => by rw [hv, hu]; rfl
  obtain ⟨sn, sd, hS, vS, eS⟩ := mk_small (n := an * bd + bn * ad) hden (by omega) (by omega)
  obtain ⟨dn, dd, hD, vD, eD⟩ := mk_small (n := an * bd - bn * ad) hden (by omega) (by omega)
  obtain ⟨pn, pd, hP, vP, eP⟩ := mk_small (n := an * bn) hden (by omega) (by omega)
  by_cases hz : bn = 0
  · exact exact_b0 an ad bn bd sn sd dn dd pn pd hv hu k1 k2 (by omega) (by omega) ((opr_t _ _).trans hS) ((opr_t _ _).trans hD) ((opr_t _ _).trans hP)
      ((opr_t _ _).trans (by rw [hz, Int.mul_zero]; exact mk_zero _)) vS vD vP eS eD eP p1 p2 p3 p4 p5 (by simpa using hz) w he
  · obtain ⟨qn, qd, hQ, vQ, eQ⟩ := mk_small (n := an * bd) (d := ad * bn) (Int.mul_ne_zero (by omega) hz) (by omega) (by omega)
    exact exact_b1 an ad bn bd sn sd dn dd pn pd qn qd hv hu k1 k2 (by omega) (by omega) ((opr_t _ _).trans hS) ((opr_t _ _).trans hD) ((opr_t _ _).trans hP)
      ((opr_t _ _).trans hQ) vS vD vP vQ eS eD eP eQ p1 p2 p3 p4 p5 (by simpa using hz) w he


namespace ratioExact
/-- WHAT THE WALK GIVES, FOR EVERY ARGUMENT THAT CAN BE READ. -/
theorem contract (H : Type) (enc : TypeId × Value → H) (W : World) (base : Nat) (args : Array Value) (ds gs : List (DataW H)) (before : List MemPlace)
    (hval : ∀ (j : Nat) t v, Tryd.f8.params[j]? = some t → args[j]? = some v → Value.okWide Tryd.prog W .any base t v)
    (hW : DataW.Whole enc Tryd.prog Tryd.f8.params.toList Rows.ratioExactSpec.vars false W args.toList ds gs before) (hL : laidMetH Tryd.prog Rows.ratioExactRow.laid W) (hS : W.ShapedOpen Tryd.prog) :
    Calls Tryd.prog 8 args W fun e W' => ∃ v, e = .returned v ∧ Rows.ratioExactSpec.post enc Tryd.prog Tryd.f8 false true false false W args v W' := by
  have hW' := hW
  obtain ⟨p, q, hA0, hV, rfl, hfz, hnd⟩ := hW
  have hA : DataW.TrodAll enc Tryd.prog W 0 (fun _ => true) true Tryd.f8.params.toList args.toList ds p := hA0
  rw [Tryd.params8] at hA hval
  obtain ⟨v0, vs0, d0, ds0, p0, q0, hargs, rfl, rfl, h0, r0⟩ := trodAll_cons hA
  obtain ⟨v1, vs1, d1, ds1, p1, q1, rfl, rfl, rfl, h1, r1⟩ := trodAll_cons r0
  obtain ⟨rfl, rfl, rfl⟩ := trodAll_nil r1
  obtain rfl : args = #[v0, v1] := by cases args; simp_all
  obtain ⟨rfl, rfl⟩ := trodVars_none hV
  obtain ⟨n0, m0, rfl, rfl, rfl, wn0, wm0⟩ := open_ratio (hval 0 23 v0 rfl rfl) h0
  obtain ⟨n1, m1, rfl, rfl, rfl, wn1, wm1⟩ := open_ratio (hval 1 23 v1 rfl rfl) h1
  clear hA0
  simp only [List.append_nil] at hW'
  refine (exact_any n0 m0 n1 m1 W (env_of_laid hL hS)).mono fun e W' ⟨he, hg⟩ => ?_
  subst he
  exact ⟨_, rfl, _, _, _, [], [], [], hW', trodAll_cons_mk (shut_bool Tryd.underlying4 _) trodAll_mk0, trodAll_cons_mk (shut_ratio wn0 wm0 _ _) (trodAll_cons_mk (shut_ratio wn1 wm1 _ _) trodAll_mk0), rfl, hg.frame _, fun h => by cases h⟩

theorem reads (os : Os) {H : Type} (enc : TypeId × Value → H) : ∃ places, DataW.whole enc Tryd.prog ((laidWorld os).forCall (fun _ _ => 0) ⟨#[], #[Value.agg #[.int .i64 0, .int .i64 0], Value.agg #[.int .i64 0, .int .i64 0]], []⟩).memory Tryd.f8.params.toList Rows.ratioExactSpec.vars false #[Value.agg #[.int .i64 0, .int .i64 0], Value.agg #[.int .i64 0, .int .i64 0]].toList 8 = some ([.agg [.lit (.int .i64 0), .lit (.int .i64 0)], .agg [.lit (.int .i64 0), .lit (.int .i64 0)]], [], places) :=
  ⟨[], by kernel_rfl⟩

set_option maxRecDepth 100000 in
theorem lifted (os : Os) (started : os.Started) (H : Type) (enc : TypeId × Value → H) (F : Stop.Interp) :
    ReturnsInHanded {} Tryd.checked os 8 .any ((OpenSpec.ofChange Rows.ratioExactSpec).preRow enc Tryd.prog Tryd.f8 Rows.ratioExactRow.domain false Rows.ratioExactRow.laid) (((OpenSpec.ofChange Rows.ratioExactSpec).at F).post enc Tryd.prog Tryd.f8 false true false false) := by
  obtain ⟨places, hx⟩ := reads os enc
  refine returnsInHanded_of_row (C := Tryd.checked) (s := OpenSpec.ofChange Rows.ratioExactSpec) own started (by kernel_rfl) Tryd.func8
    (witness_row_at (enc := enc) (C := Tryd.checked) false (laidWorld os) #[Value.agg #[.int .i64 0, .int .i64 0], Value.agg #[.int .i64 0, .int .i64 0]] rfl (by kernel_rfl) (by kernel_rfl) (by kernel_rfl)
      (OpenSpec.preRow_of_cond 8 hx (by kernel_rfl) (fun k hk => by cases hk) (by kernel_rfl) (laid_met os _))) ?_
  intro W base args ds gs before hval hW _ _ _ hL hS _
  exact contract H enc W base args ds gs before hval hW hL hS

theorem said : Rows.RatioExactSaid :=
  OpenClaim.holds_of_cond 8 Tryd.f8 rfl rfl rfl rfl rfl rfl rfl ⟨rfl, rfl, rfl, rfl, rfl⟩ rfl rfl rfl rfl rfl (by kernel_rfl) Tryd.func8 (by kernel_rfl)
    (of_decide_eq_true (by kernel_rfl)) (by unfold Func.isWrapper; first | (rw [if_pos (by decide +kernel)]; kernel_rfl) | (rw [if_neg (by decide +kernel)]; exact ⟨rfl, rfl⟩))
    (fun os started H enc _ F => by rw [OpenClaim.pre_eq_preRow]; exact lifted os started H enc F)

/-- No parameter wants a stand-in; the program's own looks are off: what the card asks. -/
theorem plain (f : FuncId) (fn : Func) (hf : Tryd.pinned.checked.prog.funcNamed Tryd.f8.name = some f) (hfn : Tryd.pinned.checked.prog.funcs[f]? = some fn) :
    true = Tryd.pinned.checked.prog.looks [] ∧ ∀ (j : Nat) t, fn.params[j]? = some t → Tryd.pinned.checked.prog.wantsStandIn t = false := by
  obtain rfl : f = 8 := Option.some.inj ((show Tryd.prog.funcNamed Tryd.f8.name = some 8 by kernel_rfl).symm.trans hf) |>.symm
  obtain rfl : fn = Tryd.f8 := (Option.some.inj (Tryd.func8.symm.trans hfn)).symm
  refine ⟨by kernel_rfl, fun j t ht => ?_⟩
  rw [Tryd.params8] at ht
  have hm := Array.mem_of_getElem? ht
  simp only [List.mem_toArray, List.mem_cons, List.not_mem_nil, or_false] at hm
  rcases hm with rfl | rfl
  all_goals first | exact (show Tryd.prog.wantsStandIn 23 = false by kernel_rfl)

/-- ████ THE CARD ████ -/
theorem card : Rows.RatioExactCardSaid :=
  Claim7.holds_tied_plain_at .later [] _ _ _ _ said (fun _ h => by cases h) (by kernel_rfl) (fun _ h => by cases h) ratioExact_row_tie rfl ⟨rfl, rfl⟩ (by kernel_rfl) rfl plain (by kernel_rfl)
end ratioExact
end Go.Proofs.YtpmggfmhkjafkaaDoor
