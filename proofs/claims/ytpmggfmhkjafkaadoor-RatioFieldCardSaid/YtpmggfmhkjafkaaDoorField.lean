/- RatioField, for every three ratios: as long as no result is out of range, sums and products of valid ratios do not depend on order and grouping, a product with a sum is the sum of the products, Sub undoes Add, and Div undoes Mul. No condition beyond what the row states: the listed variables of the library start as the program's text lays them. -/
import Derived.Test.YtpmggfmhkjafkaaDoorFieldW
import Derived.Test.YtpmggfmhkjafkaaDoorFieldM
import Derived.Test.YtpmggfmhkjafkaaDoorFrame
namespace Go.Proofs.YtpmggfmhkjafkaaDoor
open Go.ChangeShapes Go.WideShapes Go.ChangeAt Go.RowKit

theorem field_any (an ad bn bd cn cd : Int) (w : World) (he : Env w) :
    Calls Tryd.prog 5 #[.agg #[.int .i64 an, .int .i64 ad], .agg #[.int .i64 bn, .int .i64 bd], .agg #[.int .i64 cn, .int .i64 cd]] w fun e w' => e = .returned (.bool true) ∧ Below w.heap.size w w' := by
  cases hv : vldB an ad
  · exact field_a1 an ad bn bd cn cd hv w he
  cases hu : vldB bn bd
  · exact field_a2 an ad bn bd cn cd hv hu w he
  cases ht : vldB cn cd
  · exact field_a3 an ad bn bd cn cd hv hu ht w he
  have va := vldB_true hv
  have vb := vldB_true hu
  have vc := vldB_true ht
  obtain ⟨⟨sn, sd, es⟩, hS⟩ : ∃ r, opr (vldB an ad && vldB bn bd) (an * bd + bn * ad) (ad * bd) = r := ⟨_, rfl⟩
  obtain ⟨⟨pn, pd, ep⟩, hP⟩ : ∃ r, opr (vldB an ad && vldB bn bd) (an * bn) (ad * bd) = r := ⟨_, rfl⟩
  obtain ⟨⟨un, ud, eu⟩, hU⟩ : ∃ r, opr (vldB bn bd && vldB cn cd) (bn * cd + cn * bd) (bd * cd) = r := ⟨_, rfl⟩
  obtain ⟨⟨vn, vd, ev⟩, hV⟩ : ∃ r, opr (vldB bn bd && vldB cn cd) (bn * cn) (bd * cd) = r := ⟨_, rfl⟩
  obtain ⟨⟨wn, wd, ew⟩, hW⟩ : ∃ r, opr (vldB an ad && vldB cn cd) (an * cn) (ad * cd) = r := ⟨_, rfl⟩
  have hT : opr (vldB bn bd && vldB an ad) (bn * ad + an * bd) (bd * ad) = (sn, sd, es) := by rw [← hS, Bool.and_comm, Int.add_comm (bn * ad), Int.mul_comm bd ad]
  have hQ : opr (vldB bn bd && vldB an ad) (bn * an) (bd * ad) = (pn, pd, ep) := by rw [← hP, Bool.and_comm, Int.mul_comm bn an, Int.mul_comm bd ad]
  have k1 : es = 0 → opr (vldB sn sd && vldB bn bd) (sn * bd - bn * sd) (sd * bd) = (an, ad, 0) := fun h => sub_back va vb (by rw [← h]; exact hS)
  have k2 : ep = 0 → bn ≠ 0 → opr (vldB pn pd && vldB bn bd) (pn * bd) (pd * bn) = (an, ad, 0) := fun h hb => div_back va vb (by rw [← h]; exact hP) hb
  have k3 : es = 0 → eu = 0 → opr (vldB sn sd && vldB cn cd) (sn * cd + cn * sd) (sd * cd) = opr (vldB an ad && vldB un ud) (an * ud + un * ad) (ad * ud) := fun h h' => add_assoc' va vb vc (by rw [← h]; exact hS) (by rw [← h']; exact hU)
  have k4 : ep = 0 → ev = 0 → opr (vldB pn pd && vldB cn cd) (pn * cn) (pd * cd) = opr (vldB an ad && vldB vn vd) (an * vn) (ad * vd) := fun h h' => mul_assoc' va vb vc (by rw [← h]; exact hP) (by rw [← h']; exact hV)
  have k5 : ep = 0 → eu = 0 → ew = 0 → opr (vldB an ad && vldB un ud) (an * un) (ad * ud) = opr (vldB pn pd && vldB wn wd) (pn * wd + wn * pd) (pd * wd) := fun h h' h2 => distrib' va vb vc (by rw [← h]; exact hP) (by rw [← h']; exact hU) (by rw [← h2]; exact hW)
  obtain ⟨⟨xn, xd, ex⟩, x1⟩ : ∃ r, opr (vldB an ad && vldB un ud) (an * ud + un * ad) (ad * ud) = r := ⟨_, rfl⟩
  obtain ⟨⟨yn, yd, ey⟩, y1⟩ : ∃ r, opr (vldB an ad && vldB vn vd) (an * vn) (ad * vd) = r := ⟨_, rfl⟩
  obtain ⟨⟨zn, zd, ez⟩, z1⟩ : ∃ r, opr (vldB pn pd && vldB wn wd) (pn * wd + wn * pd) (pd * wd) = r := ⟨_, rfl⟩
  by_cases h1 : es = 0
  · subst h1
    by_cases h2 : ep = 0
    · subst h2
      exact field_11 an ad bn bd cn cd sn sd pn pd un ud eu vn vd ev wn wd ew hv hu ht hS hT hP hQ hU hV hW xn xd ex (k1 rfl) (fun h => (k3 rfl h).trans x1) (fun _ => x1)
        yn yd ey zn zd ez (k2 rfl) (fun h => (k4 rfl h).trans y1) (fun _ => y1) (fun h h' => (k5 rfl h h').trans z1) (fun _ _ => z1) w he
    · exact field_10 an ad bn bd cn cd sn sd pn pd un ud eu vn vd ev wn wd ew ep (by simpa using h2) hv hu ht hS hT hP hQ hU hV hW xn xd ex (k1 rfl) (fun h => (k3 rfl h).trans x1) (fun _ => x1) w he
  · by_cases h2 : ep = 0
    · subst h2
      exact field_01 an ad bn bd cn cd sn sd pn pd un ud eu vn vd ev wn wd ew es (by simpa using h1) hv hu ht hS hT hP hQ hU hV hW
        yn yd ey zn zd ez (k2 rfl) (fun h => (k4 rfl h).trans y1) (fun _ => y1) (fun h h' => (k5 rfl h h').trans z1) (fun _ _ => z1) w he
    · exact field_00 an ad bn bd cn cd sn sd pn pd un ud eu vn vd ev wn wd ew es (by simpa using h1) ep (by simpa using h2) hv hu ht hS hT hP hQ hU hV hW w he

namespace ratioField
/-- WHAT THE WALK GIVES, FOR EVERY ARGUMENT THAT CAN BE READ. -/
theorem contract (H : Type) (enc : TypeId × Value → H) (W : World) (base : Nat) (args : Array Value) (ds gs : List (DataW H)) (before : List MemPlace)
    (hval : ∀ (j : Nat) t v, Tryd.f5.params[j]? = some t → args[j]? = some v → Value.okWide Tryd.prog W .any base t v)
    (hW : DataW.Whole enc Tryd.prog Tryd.f5.params.toList Rows.ratioFieldSpec.vars false W args.toList ds gs before) (hL : laidMetH Tryd.prog Rows.ratioFieldRow.laid W) (hS : W.ShapedOpen Tryd.prog) :
    Calls Tryd.prog 5 args W fun e W' => ∃ v, e = .returned v ∧ Rows.ratioFieldSpec.post enc Tryd.prog Tryd.f5 false true false false W args v W' := by
  have hW' := hW
  obtain ⟨p, q, hA0, hV, rfl, hfz, hnd⟩ := hW
  have hA : DataW.TrodAll enc Tryd.prog W 0 (fun _ => true) true Tryd.f5.params.toList args.toList ds p := hA0
  rw [Tryd.params5] at hA hval
  obtain ⟨v0, vs0, d0, ds0, p0, q0, hargs, rfl, rfl, h0, r0⟩ := trodAll_cons hA
  obtain ⟨v1, vs1, d1, ds1, p1, q1, rfl, rfl, rfl, h1, r1⟩ := trodAll_cons r0
  obtain ⟨v2, vs2, d2, ds2, p2, q2, rfl, rfl, rfl, h2, r2⟩ := trodAll_cons r1
  obtain ⟨rfl, rfl, rfl⟩ := trodAll_nil r2
  obtain rfl : args = #[v0, v1, v2] := by cases args; simp_all
  obtain ⟨rfl, rfl⟩ := trodVars_none hV
  obtain ⟨n0, m0, rfl, rfl, rfl, wn0, wm0⟩ := open_ratio (hval 0 23 v0 rfl rfl) h0
  obtain ⟨n1, m1, rfl, rfl, rfl, wn1, wm1⟩ := open_ratio (hval 1 23 v1 rfl rfl) h1
  obtain ⟨n2, m2, rfl, rfl, rfl, wn2, wm2⟩ := open_ratio (hval 2 23 v2 rfl rfl) h2
  clear hA0
  simp only [List.append_nil] at hW'
  refine (field_any n0 m0 n1 m1 n2 m2 W (env_of_laid hL hS)).mono fun e W' ⟨he, hg⟩ => ?_
  subst he
  exact ⟨_, rfl, _, _, _, [], [], [], hW', trodAll_cons_mk (shut_bool Tryd.underlying4 _) trodAll_mk0, trodAll_cons_mk (shut_ratio wn0 wm0 _ _) (trodAll_cons_mk (shut_ratio wn1 wm1 _ _) (trodAll_cons_mk (shut_ratio wn2 wm2 _ _) trodAll_mk0)), rfl, hg.frame _, fun h => by cases h⟩

theorem reads (os : Os) {H : Type} (enc : TypeId × Value → H) : ∃ places, DataW.whole enc Tryd.prog ((laidWorld os).forCall (fun _ _ => 0) ⟨#[], #[Value.agg #[.int .i64 0, .int .i64 0], Value.agg #[.int .i64 0, .int .i64 0], Value.agg #[.int .i64 0, .int .i64 0]], []⟩).memory Tryd.f5.params.toList Rows.ratioFieldSpec.vars false #[Value.agg #[.int .i64 0, .int .i64 0], Value.agg #[.int .i64 0, .int .i64 0], Value.agg #[.int .i64 0, .int .i64 0]].toList 8 = some ([.agg [.lit (.int .i64 0), .lit (.int .i64 0)], .agg [.lit (.int .i64 0), .lit (.int .i64 0)], .agg [.lit (.int .i64 0), .lit (.int .i64 0)]], [], places) :=
  ⟨[], by kernel_rfl⟩

set_option maxRecDepth 100000 in
theorem lifted (os : Os) (started : os.Started) (H : Type) (enc : TypeId × Value → H) (F : Stop.Interp) :
    ReturnsInHanded {} Tryd.checked os 5 .any ((OpenSpec.ofChange Rows.ratioFieldSpec).preRow enc Tryd.prog Tryd.f5 Rows.ratioFieldRow.domain false Rows.ratioFieldRow.laid) (((OpenSpec.ofChange Rows.ratioFieldSpec).at F).post enc Tryd.prog Tryd.f5 false true false false) := by
  obtain ⟨places, hx⟩ := reads os enc
  refine returnsInHanded_of_row (C := Tryd.checked) (s := OpenSpec.ofChange Rows.ratioFieldSpec) own started (by kernel_rfl) Tryd.func5
    (witness_row_at (enc := enc) (C := Tryd.checked) false (laidWorld os) #[Value.agg #[.int .i64 0, .int .i64 0], Value.agg #[.int .i64 0, .int .i64 0], Value.agg #[.int .i64 0, .int .i64 0]] rfl (by kernel_rfl) (by kernel_rfl) (by kernel_rfl)
      (OpenSpec.preRow_of_cond 8 hx (by kernel_rfl) (fun k hk => by cases hk) (by kernel_rfl) (laid_met os _))) ?_
  intro W base args ds gs before hval hW _ _ _ hL hS _
  exact contract H enc W base args ds gs before hval hW hL hS

theorem said : Rows.RatioFieldSaid :=
  OpenClaim.holds_of_cond 5 Tryd.f5 rfl rfl rfl rfl rfl rfl rfl ⟨rfl, rfl, rfl, rfl, rfl⟩ rfl rfl rfl rfl rfl (by kernel_rfl) Tryd.func5 (by kernel_rfl)
    (of_decide_eq_true (by kernel_rfl)) (by unfold Func.isWrapper; first | (rw [if_pos (by decide +kernel)]; kernel_rfl) | (rw [if_neg (by decide +kernel)]; exact ⟨rfl, rfl⟩))
    (fun os started H enc _ F => by rw [OpenClaim.pre_eq_preRow]; exact lifted os started H enc F)

/-- No parameter wants a stand-in; the program's own looks are off: what the card asks. -/
theorem plain (f : FuncId) (fn : Func) (hf : Tryd.pinned.checked.prog.funcNamed Tryd.f5.name = some f) (hfn : Tryd.pinned.checked.prog.funcs[f]? = some fn) :
    true = Tryd.pinned.checked.prog.looks [] ∧ ∀ (j : Nat) t, fn.params[j]? = some t → Tryd.pinned.checked.prog.wantsStandIn t = false := by
  obtain rfl : f = 5 := Option.some.inj ((show Tryd.prog.funcNamed Tryd.f5.name = some 5 by kernel_rfl).symm.trans hf) |>.symm
  obtain rfl : fn = Tryd.f5 := (Option.some.inj (Tryd.func5.symm.trans hfn)).symm
  refine ⟨by kernel_rfl, fun j t ht => ?_⟩
  rw [Tryd.params5] at ht
  have hm := Array.mem_of_getElem? ht
  simp only [List.mem_toArray, List.mem_cons, List.not_mem_nil, or_false] at hm
  rcases hm with rfl | rfl | rfl
  all_goals first | exact (show Tryd.prog.wantsStandIn 23 = false by kernel_rfl)

/-- ████ THE CARD ████ -/
theorem card : Rows.RatioFieldCardSaid :=
  Claim7.holds_tied_plain_at .later [] _ _ _ _ said (fun _ h => by cases h) (by kernel_rfl) (fun _ h => by cases h) ratioField_row_tie rfl ⟨rfl, rfl⟩ (by kernel_rfl) rfl plain (by kernel_rfl)
end ratioField
end Go.Proofs.YtpmggfmhkjafkaaDoor
