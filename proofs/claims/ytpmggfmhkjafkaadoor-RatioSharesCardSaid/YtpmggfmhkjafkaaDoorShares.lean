/- RatioShares, for every two ratios: for valid ratios from 0 to 1 the product is from 0 to the lesser one, and the quotient of the lesser one by the greater one, if this is not 0, from 0 to 1, as long as the results are in range. No condition beyond what the row states: the listed variables of the library start as the program's text lays them. -/
import Derived.Test.YtpmggfmhkjafkaaDoorSharesW
import Derived.Test.YtpmggfmhkjafkaaDoorOrderM
import Derived.Test.YtpmggfmhkjafkaaDoorFrame
namespace Go.Proofs.YtpmggfmhkjafkaaDoor
open Go.ChangeShapes Go.WideShapes Go.ChangeAt Go.RowKit

theorem v01 : Vld 0 1 := by decide +kernel
theorem v11 : Vld 1 1 := by decide +kernel
theorem cmp0 {n d : Int} (h : Vld n d) : cmpR n d 0 1 = cmpI n 0 := by rw [cmpR_eq h v01, Int.mul_one, Int.zero_mul]
theorem cmp1 {n d : Int} (h : Vld n d) : cmpR n d 1 1 = cmpI n d := by rw [cmpR_eq h v11, Int.mul_one, Int.one_mul]
theorem cmpI_nonneg {x y : Int} : 0 ≤ cmpI x y ↔ y ≤ x := by rcases cmpI_cases x y with h | h | h <;> omega
theorem cmpI_nonpos {x y : Int} : cmpI x y ≤ 0 ↔ x ≤ y := by rcases cmpI_cases x y with h | h | h <;> omega

/-- What an operation's error can be. -/
theorem opr_err {an ad bn bd x y a b e : Int} (va : Vld an ad) (vb : Vld bn bd) (hy : y ≠ 0) (h : opr (vldB an ad && vldB bn bd) x y = (a, b, e)) : e = 0 ∨ e = 2 := by
  rw [opr_true (vldB_mk va) (vldB_mk vb)] at h
  rcases mk_spec x y hy with h1 | ⟨c, d, h1, _, _⟩
  · rw [h1] at h; right; exact (congrArg (fun r => r.2.2) h).symm
  · rw [h1] at h; left; exact (congrArg (fun r => r.2.2) h).symm

theorem zero_den {d : Int} (h : Vld 0 d) : d = 1 := by
  obtain ⟨h1, h2, h3, h4, hg⟩ := h
  simp at hg
  omega

set_option linter.unusedSimpArgs false

theorem mul_share0 {xn xd yn yd pn pd : Int} (vx : Vld xn xd) (vy : Vld yn yd) (hP : opr (vldB xn xd && vldB yn yd) (xn * yn) (xd * yd) = (pn, pd, 0)) (h1 : 0 ≤ xn) (h2 : 0 ≤ yn) : 0 ≤ cmpR pn pd 0 1 := by
  obtain ⟨vp, e⟩ := opr_ok vx vy (dens_ne vx vy) hP
  rw [cmp0 vp, cmpI_nonneg]
  have hpos := Int.mul_pos (den_pos vx) (den_pos vy)
  have h : 0 ≤ pn * (xd * yd) := by rw [e]; exact Int.mul_nonneg (Int.mul_nonneg h1 h2) (Int.le_of_lt (den_pos vp))
  rcases Int.lt_or_le pn 0 with h3 | h3
  · have := Int.mul_neg_of_neg_of_pos h3 hpos; omega
  · exact h3

theorem mul_share1 {xn xd yn yd pn pd : Int} (vx : Vld xn xd) (vy : Vld yn yd) (hP : opr (vldB xn xd && vldB yn yd) (xn * yn) (xd * yd) = (pn, pd, 0)) (h1 : 0 ≤ xn) (h2 : yn ≤ yd) : cmpR pn pd xn xd ≤ 0 := by
  obtain ⟨vp, e⟩ := opr_ok vx vy (dens_ne vx vy) hP
  rw [cmpR_eq vp vx, cmpI_nonpos]
  have m1 := Int.mul_le_mul_of_nonneg_left h2 (Int.mul_nonneg h1 (Int.le_of_lt (den_pos vp)))
  have m3 : pn * xd * yd ≤ xn * pd * yd := by
    simp only [Int.add_mul, Int.sub_mul, Int.mul_add, Int.mul_sub, Int.mul_assoc, Int.mul_comm, Int.mul_left_comm] at e m1 ⊢
    omega
  exact Int.le_of_mul_le_mul_right m3 (den_pos vy)

theorem div_share0 {xn xd yn yd qn qd : Int} (vx : Vld xn xd) (vy : Vld yn yd) (hQ : opr (vldB xn xd && vldB yn yd) (xn * yd) (xd * yn) = (qn, qd, 0)) (h1 : 0 ≤ xn) (h2 : 0 < yn) : 0 ≤ cmpR qn qd 0 1 := by
  have hpos := Int.mul_pos (den_pos vx) h2
  obtain ⟨vq, e⟩ := opr_ok vx vy (by omega) hQ
  rw [cmp0 vq, cmpI_nonneg]
  have h : 0 ≤ qn * (xd * yn) := by rw [e]; exact Int.mul_nonneg (Int.mul_nonneg h1 (Int.le_of_lt (den_pos vy))) (Int.le_of_lt (den_pos vq))
  rcases Int.lt_or_le qn 0 with h3 | h3
  · have := Int.mul_neg_of_neg_of_pos h3 hpos; omega
  · exact h3

theorem div_share1 {xn xd yn yd qn qd : Int} (vx : Vld xn xd) (vy : Vld yn yd) (hQ : opr (vldB xn xd && vldB yn yd) (xn * yd) (xd * yn) = (qn, qd, 0)) (h2 : 0 < yn) (h3 : xn * yd ≤ yn * xd) : cmpR qn qd 1 1 ≤ 0 := by
  have hpos := Int.mul_pos (den_pos vx) h2
  obtain ⟨vq, e⟩ := opr_ok vx vy (by omega) hQ
  rw [cmp1 vq, cmpI_nonpos]
  have m1 := Int.mul_le_mul_of_nonneg_right h3 (Int.le_of_lt (den_pos vq))
  have m3 : qn * (xd * yn) ≤ qd * (xd * yn) := by
    simp only [Int.add_mul, Int.sub_mul, Int.mul_add, Int.mul_sub, Int.mul_assoc, Int.mul_comm, Int.mul_left_comm] at e m1 ⊢
    omega
  exact Int.le_of_mul_le_mul_right m3 hpos

theorem shares_any (an ad bn bd : Int) (w : World) (he : Env w) :
    Calls Tryd.prog 9 #[.agg #[.int .i64 an, .int .i64 ad], .agg #[.int .i64 bn, .int .i64 bd]] w fun e w' => e = .returned (.bool true) ∧ Below w.heap.size w w' := by
  cases hv : vldB an ad
  · exact shares_a1 an ad bn bd hv w he
  cases hu : vldB bn bd
  · exact shares_a2 an ad bn bd hv hu w he
  have va := vldB_true hv
  have vb := vldB_true hu
  by_cases g1 : 0 ≤ cmpR an ad 0 1
  case neg => exact shares_a3 an ad bn bd hv hu _ rfl (by omega) w he
  by_cases g2 : 0 ≤ cmpR bn bd 0 1
  case neg => exact shares_a4 an ad bn bd hv hu _ rfl g1 _ rfl (by omega) w he
  by_cases g3 : cmpR an ad 1 1 ≤ 0
  case neg => exact shares_a5 an ad bn bd hv hu _ rfl g1 _ rfl g2 _ rfl (by omega) w he
  by_cases g4 : cmpR bn bd 1 1 ≤ 0
  case neg => exact shares_a6 an ad bn bd hv hu _ rfl g1 _ rfl g2 _ rfl g3 _ rfl (by omega) w he
  have a0 : 0 ≤ an := by rw [cmp0 va, cmpI_nonneg] at g1; exact g1
  have b0 : 0 ≤ bn := by rw [cmp0 vb, cmpI_nonneg] at g2; exact g2
  have a1 : an ≤ ad := by rw [cmp1 va, cmpI_nonpos] at g3; exact g3
  have b1 : bn ≤ bd := by rw [cmp1 vb, cmpI_nonpos] at g4; exact g4
  -- the lesser one and the greater one
  obtain ⟨xn, xd, yn, yd, hx, hx', vx, vy, x0, y0, y1, hle⟩ : ∃ xn xd yn yd : Int, (cmpR an ad bn bd ≤ 0 → xn = an ∧ xd = ad ∧ yn = bn ∧ yd = bd) ∧ (0 < cmpR an ad bn bd → xn = bn ∧ xd = bd ∧ yn = an ∧ yd = ad) ∧ Vld xn xd ∧ Vld yn yd ∧ 0 ≤ xn ∧ 0 ≤ yn ∧ yn ≤ yd ∧ xn * yd ≤ yn * xd := by
    have eK := cmpR_eq va vb
    by_cases h : cmpR an ad bn bd ≤ 0
    · exact ⟨an, ad, bn, bd, fun _ => ⟨rfl, rfl, rfl, rfl⟩, fun h' => by omega, va, vb, a0, b0, b1, by rw [eK, cmpI_nonpos] at h; exact h⟩
    · refine ⟨bn, bd, an, ad, fun h' => by omega, fun _ => ⟨rfl, rfl, rfl, rfl⟩, vb, va, b0, a0, a1, ?_⟩
      rw [eK] at h
      rcases cmpI_cases (an * bd) (bn * ad) with k | k | k <;> omega
  obtain ⟨⟨pn, pd, e⟩, hP⟩ : ∃ r, opr (vldB xn xd && vldB yn yd) (xn * yn) (xd * yd) = r := ⟨_, rfl⟩
  obtain ⟨⟨qn, qd, f⟩, hQ⟩ : ∃ r, opr (vldB xn xd && vldB yn yd) (xn * yd) (xd * yn) = r := ⟨_, rfl⟩
  have zf : yn = 0 → f = 1 := fun h => by
    rw [opr_true (vldB_mk vx) (vldB_mk vy), h, Int.mul_zero, mk_zero] at hQ
    exact (congrArg (fun r => r.2.2) hQ).symm
  refine shares_b an ad bn bd hv hu _ rfl g1 _ rfl g2 _ rfl g3 _ rfl g4 _ xn xd yn yd pn pd e qn qd f (cmpR pn pd 0 1) (cmpR pn pd xn xd) (cmpR qn qd 0 1) (cmpR qn qd 1 1) rfl hx hx' hP hQ (opr_err vx vy (dens_ne vx vy) hP) ?_ ?_ ?_ ?_ ?_ w he
  · by_cases hz : yn = 0
    · right; right; exact ⟨zf hz, hz, zero_den (hz ▸ vy)⟩
    · rcases opr_err vx vy (Int.mul_ne_zero (den_ne vx) hz) hQ with h | h
      · exact Or.inl h
      · exact Or.inr (Or.inl h)
  · intro h; subst h; exact ⟨rfl, mul_share0 vx vy hP x0 y0⟩
  · intro h; subst h; exact ⟨rfl, mul_share1 vx vy hP x0 y1⟩
  · intro h
    subst h
    have hy : 0 < yn := by
      rcases Int.lt_or_le 0 yn with h | h
      · exact h
      · have := zf (by omega); omega
    exact ⟨rfl, div_share0 vx vy hQ x0 hy⟩
  · intro h
    subst h
    have hy : 0 < yn := by
      rcases Int.lt_or_le 0 yn with h | h
      · exact h
      · have := zf (by omega); omega
    exact ⟨rfl, div_share1 vx vy hQ hy hle⟩

namespace ratioShares
/-- WHAT THE WALK GIVES, FOR EVERY ARGUMENT THAT CAN BE READ. -/
theorem contract (H : Type) (enc : TypeId × Value → H) (W : World) (base : Nat) (args : Array Value) (ds gs : List (DataW H)) (before : List MemPlace)
    (hval : ∀ (j : Nat) t v, Tryd.f9.params[j]? = some t → args[j]? = some v → Value.okWide Tryd.prog W .any base t v)
    (hW : DataW.Whole enc Tryd.prog Tryd.f9.params.toList Rows.ratioSharesSpec.vars false W args.toList ds gs before) (hL : laidMetH Tryd.prog Rows.ratioSharesRow.laid W) (hS : W.ShapedOpen Tryd.prog) :
    Calls Tryd.prog 9 args W fun e W' => ∃ v, e = .returned v ∧ Rows.ratioSharesSpec.post enc Tryd.prog Tryd.f9 false true false false W args v W' := by
  have hW' := hW
  obtain ⟨p, q, hA0, hV, rfl, hfz, hnd⟩ := hW
  have hA : DataW.TrodAll enc Tryd.prog W 0 (fun _ => true) true Tryd.f9.params.toList args.toList ds p := hA0
  rw [Tryd.params9] at hA hval
  obtain ⟨v0, vs0, d0, ds0, p0, q0, hargs, rfl, rfl, h0, r0⟩ := trodAll_cons hA
  obtain ⟨v1, vs1, d1, ds1, p1, q1, rfl, rfl, rfl, h1, r1⟩ := trodAll_cons r0
  obtain ⟨rfl, rfl, rfl⟩ := trodAll_nil r1
  obtain rfl : args = #[v0, v1] := by cases args; simp_all
  obtain ⟨rfl, rfl⟩ := trodVars_none hV
  obtain ⟨n0, m0, rfl, rfl, rfl, wn0, wm0⟩ := open_ratio (hval 0 23 v0 rfl rfl) h0
  obtain ⟨n1, m1, rfl, rfl, rfl, wn1, wm1⟩ := open_ratio (hval 1 23 v1 rfl rfl) h1
  clear hA0
  simp only [List.append_nil] at hW'
  refine (shares_any n0 m0 n1 m1 W (env_of_laid hL hS)).mono fun e W' ⟨he, hg⟩ => ?_
  subst he
  exact ⟨_, rfl, _, _, _, [], [], [], hW', trodAll_cons_mk (shut_bool Tryd.underlying4 _) trodAll_mk0, trodAll_cons_mk (shut_ratio wn0 wm0 _ _) (trodAll_cons_mk (shut_ratio wn1 wm1 _ _) trodAll_mk0), rfl, hg.frame _, fun h => by cases h⟩

theorem reads (os : Os) {H : Type} (enc : TypeId × Value → H) : ∃ places, DataW.whole enc Tryd.prog ((laidWorld os).forCall (fun _ _ => 0) ⟨#[], #[Value.agg #[.int .i64 0, .int .i64 0], Value.agg #[.int .i64 0, .int .i64 0]], []⟩).memory Tryd.f9.params.toList Rows.ratioSharesSpec.vars false #[Value.agg #[.int .i64 0, .int .i64 0], Value.agg #[.int .i64 0, .int .i64 0]].toList 8 = some ([.agg [.lit (.int .i64 0), .lit (.int .i64 0)], .agg [.lit (.int .i64 0), .lit (.int .i64 0)]], [], places) :=
  ⟨[], by kernel_rfl⟩

set_option maxRecDepth 100000 in
theorem lifted (os : Os) (started : os.Started) (H : Type) (enc : TypeId × Value → H) (F : Stop.Interp) :
    ReturnsInHanded {} Tryd.checked os 9 .any ((OpenSpec.ofChange Rows.ratioSharesSpec).preRow enc Tryd.prog Tryd.f9 Rows.ratioSharesRow.domain false Rows.ratioSharesRow.laid) (((OpenSpec.ofChange Rows.ratioSharesSpec).at F).post enc Tryd.prog Tryd.f9 false true false false) := by
  obtain ⟨places, hx⟩ := reads os enc
  refine returnsInHanded_of_row (C := Tryd.checked) (s := OpenSpec.ofChange Rows.ratioSharesSpec) own started (by kernel_rfl) Tryd.func9
    (witness_row_at (enc := enc) (C := Tryd.checked) false (laidWorld os) #[Value.agg #[.int .i64 0, .int .i64 0], Value.agg #[.int .i64 0, .int .i64 0]] rfl (by kernel_rfl) (by kernel_rfl) (by kernel_rfl)
      (OpenSpec.preRow_of_cond 8 hx (by kernel_rfl) (fun k hk => by cases hk) (by kernel_rfl) (laid_met os _))) ?_
  intro W base args ds gs before hval hW _ _ _ hL hS _
  exact contract H enc W base args ds gs before hval hW hL hS

theorem said : Rows.RatioSharesSaid :=
  OpenClaim.holds_of_cond 9 Tryd.f9 rfl rfl rfl rfl rfl rfl rfl ⟨rfl, rfl, rfl, rfl, rfl⟩ rfl rfl rfl rfl rfl (by kernel_rfl) Tryd.func9 (by kernel_rfl)
    (of_decide_eq_true (by kernel_rfl)) (by unfold Func.isWrapper; first | (rw [if_pos (by decide +kernel)]; kernel_rfl) | (rw [if_neg (by decide +kernel)]; exact ⟨rfl, rfl⟩))
    (fun os started H enc _ F => by rw [OpenClaim.pre_eq_preRow]; exact lifted os started H enc F)

/-- No parameter wants a stand-in; the program's own looks are off: what the card asks. -/
theorem plain (f : FuncId) (fn : Func) (hf : Tryd.pinned.checked.prog.funcNamed Tryd.f9.name = some f) (hfn : Tryd.pinned.checked.prog.funcs[f]? = some fn) :
    true = Tryd.pinned.checked.prog.looks [] ∧ ∀ (j : Nat) t, fn.params[j]? = some t → Tryd.pinned.checked.prog.wantsStandIn t = false := by
  obtain rfl : f = 9 := Option.some.inj ((show Tryd.prog.funcNamed Tryd.f9.name = some 9 by kernel_rfl).symm.trans hf) |>.symm
  obtain rfl : fn = Tryd.f9 := (Option.some.inj (Tryd.func9.symm.trans hfn)).symm
  refine ⟨by kernel_rfl, fun j t ht => ?_⟩
  rw [Tryd.params9] at ht
  have hm := Array.mem_of_getElem? ht
  simp only [List.mem_toArray, List.mem_cons, List.not_mem_nil, or_false] at hm
  rcases hm with rfl | rfl
  all_goals first | exact (show Tryd.prog.wantsStandIn 23 = false by kernel_rfl)

/-- ████ THE CARD ████ -/
theorem card : Rows.RatioSharesCardSaid :=
  Claim7.holds_tied_plain_at .later [] _ _ _ _ said (fun _ h => by cases h) (by kernel_rfl) (fun _ h => by cases h) ratioShares_row_tie rfl ⟨rfl, rfl⟩ (by kernel_rfl) rfl plain (by kernel_rfl)
end ratioShares
end Go.Proofs.YtpmggfmhkjafkaaDoor
