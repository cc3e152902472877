/- RatioLowest, for every two ints (taken to from -2000000000 to 2000000000): what Make returns is valid and equal to their quotient; it has an error exactly if the second one is 0, or the greatest common divisor leaves a numerator or denominator above 1000000000. No condition beyond what the row states: the listed variables of the library start as the program's text lays them. -/
import Derived.Test.YtpmggfmhkjafkaaDoorLowestW
import Derived.Test.YtpmggfmhkjafkaaDoorFrame
namespace Go.Proofs.YtpmggfmhkjafkaaDoor
open Go.ChangeShapes Go.WideShapes Go.ChangeAt Go.RowKit

theorem tmod_bound (n : Int) : -2000000000 ≤ n.tmod 2000000001 ∧ n.tmod 2000000001 ≤ 2000000000 := by
  have h := Int.natAbs_tmod n 2000000001
  have h2 : n.natAbs % (2000000001 : Int).natAbs < (2000000001 : Int).natAbs := Nat.mod_lt _ (by decide)
  have h3 : (2000000001 : Int).natAbs = 2000000001 := rfl
  omega

theorem lowest_any (n d : Int) (w : World) (he : Env w) :
    Calls Tryd.prog 4 #[.int .i64 n, .int .i64 d] w fun e w' => e = .returned (.bool true) ∧ Below w.heap.size w w' := by
  have bx := tmod_bound n
  have hb' := tmod_bound d
  obtain ⟨x, hx⟩ : ∃ x, n.tmod 2000000001 = x := ⟨_, rfl⟩
  obtain ⟨y, hy⟩ : ∃ y, d.tmod 2000000001 = y := ⟨_, rfl⟩
  rw [hx] at bx
  rw [hy] at hb'
  by_cases hz : y = 0
  · exact lowest_zero n d x y hx hy bx hb' (by simpa using hz) (by rw [hz]; exact mk_zero x) w he
  have hz' : (y == 0) = false := by simpa using hz
  have hX : max x (-x) = (x.natAbs : Int) := by omega
  have hY : max y (-y) = (y.natAbs : Int) := by omega
  have g0 : 0 < Nat.gcd x.natAbs y.natAbs := Nat.gcd_pos_of_pos_right _ (by omega)
  have g1 : Nat.gcd x.natAbs y.natAbs ≤ 2000000000 := Nat.le_trans (Nat.gcd_le_right _ (by omega)) (by omega)
  have q1 : 0 ≤ (x.natAbs : Int) / (Nat.gcd x.natAbs y.natAbs : Nat) := Int.ediv_nonneg (by omega) (by omega)
  have q2 : (x.natAbs : Int) / (Nat.gcd x.natAbs y.natAbs : Nat) ≤ 2000000000 := Int.le_trans (Int.ediv_le_self _ (by omega)) (by omega)
  have q3 : 0 ≤ (y.natAbs : Int) / (Nat.gcd x.natAbs y.natAbs : Nat) := Int.ediv_nonneg (by omega) (by omega)
  have q4 : (y.natAbs : Int) / (Nat.gcd x.natAbs y.natAbs : Nat) ≤ 2000000000 := Int.le_trans (Int.ediv_le_self _ (by omega)) (by omega)
  have n1 : (x.natAbs : Int) / (Nat.gcd x.natAbs y.natAbs : Nat) = ((x.natAbs / Nat.gcd x.natAbs y.natAbs : Nat) : Int) := (Int.natCast_ediv _ _).symm
  have n2 : (y.natAbs : Int) / (Nat.gcd x.natAbs y.natAbs : Nat) = ((y.natAbs / Nat.gcd x.natAbs y.natAbs : Nat) : Int) := (Int.natCast_ediv _ _).symm
  by_cases c1 : 1000000000 < (y.natAbs : Int) / (Nat.gcd x.natAbs y.natAbs : Nat)
  · have hm : mk x y = (0, 0, 2) := by unfold mk; rw [if_neg hz, if_neg (by omega)]
    exact lowest_big1 n d x y hx hy bx hb' hz' _ _ _ hX hY rfl g0 g1 (by omega) (by omega) q1 q2 q3 q4 hm c1 w he
  by_cases c2 : 1000000000 < (x.natAbs : Int) / (Nat.gcd x.natAbs y.natAbs : Nat)
  · have hm : mk x y = (0, 0, 2) := by unfold mk; rw [if_neg hz, if_neg (by omega)]
    exact lowest_big2 n d x y hx hy bx hb' hz' _ _ _ hX hY rfl g0 g1 (by omega) (by omega) q1 q2 q3 q4 hm (by omega) c2 w he
  rcases mk_spec x y hz with h | ⟨a, b, hm, hv, he1⟩
  · exfalso
    unfold mk at h
    rw [if_neg hz, if_pos (by omega)] at h
    have := congrArg (fun r => r.2.2) h
    simp at this
  · have hb : b = (y.natAbs : Int) / (Nat.gcd x.natAbs y.natAbs : Nat) := by
      have hm2 := hm
      unfold mk at hm2
      rw [if_neg hz, if_pos (by omega)] at hm2
      rw [n2]
      exact (congrArg (fun r => r.2.1) hm2).symm
    exact lowest_ok n d x y hx hy bx hb' hz' _ _ _ hX hY rfl g0 g1 (by omega) (by omega) q1 q2 q3 q4 a b hm (vldB_mk hv) he1 (by simpa using hb) (by omega) (by omega) w he

namespace ratioLowest
/-- WHAT THE WALK GIVES, FOR EVERY ARGUMENT THAT CAN BE READ. -/
theorem contract (H : Type) (enc : TypeId × Value → H) (W : World) (base : Nat) (args : Array Value) (ds gs : List (DataW H)) (before : List MemPlace)
    (hval : ∀ (j : Nat) t v, Tryd.f4.params[j]? = some t → args[j]? = some v → Value.okWide Tryd.prog W .any base t v)
    (hW : DataW.Whole enc Tryd.prog Tryd.f4.params.toList Rows.ratioLowestSpec.vars false W args.toList ds gs before) (hL : laidMetH Tryd.prog Rows.ratioLowestRow.laid W) (hS : W.ShapedOpen Tryd.prog) :
    Calls Tryd.prog 4 args W fun e W' => ∃ v, e = .returned v ∧ Rows.ratioLowestSpec.post enc Tryd.prog Tryd.f4 false true false false W args v W' := by
  have hW' := hW
  obtain ⟨p, q, hA0, hV, rfl, hfz, hnd⟩ := hW
  have hA : DataW.TrodAll enc Tryd.prog W 0 (fun _ => true) true Tryd.f4.params.toList args.toList ds p := hA0
  rw [Tryd.params4] at hA hval
  obtain ⟨v0, vs0, d0, ds0, p0, q0, hargs, rfl, rfl, h0, r0⟩ := trodAll_cons hA
  obtain ⟨v1, vs1, d1, ds1, p1, q1, rfl, rfl, rfl, h1, r1⟩ := trodAll_cons r0
  obtain ⟨rfl, rfl, rfl⟩ := trodAll_nil r1
  obtain rfl : args = #[v0, v1] := by cases args; simp_all
  obtain ⟨rfl, rfl⟩ := trodVars_none hV
  obtain ⟨n0, rfl, rfl, rfl, wn0⟩ := open_int Tryd.underlying3 (hval 0 3 v0 rfl rfl) h0
  obtain ⟨n1, rfl, rfl, rfl, wn1⟩ := open_int Tryd.underlying3 (hval 1 3 v1 rfl rfl) h1
  clear hA0
  simp only [List.append_nil] at hW'
  refine (lowest_any n0 n1 W (env_of_laid hL hS)).mono fun e W' ⟨he, hg⟩ => ?_
  subst he
  exact ⟨_, rfl, _, _, _, [], [], [], hW', trodAll_cons_mk (shut_bool Tryd.underlying4 _) trodAll_mk0, trodAll_cons_mk (shut_int Tryd.underlying3 wn0) (trodAll_cons_mk (shut_int Tryd.underlying3 wn1) trodAll_mk0), rfl, hg.frame _, fun h => by cases h⟩

theorem reads (os : Os) {H : Type} (enc : TypeId × Value → H) : ∃ places, DataW.whole enc Tryd.prog ((laidWorld os).forCall (fun _ _ => 0) ⟨#[], #[Value.int .i64 0, Value.int .i64 0], []⟩).memory Tryd.f4.params.toList Rows.ratioLowestSpec.vars false #[Value.int .i64 0, Value.int .i64 0].toList 8 = some ([.lit (.int .i64 0), .lit (.int .i64 0)], [], places) :=
  ⟨[], by kernel_rfl⟩

set_option maxRecDepth 100000 in
theorem lifted (os : Os) (started : os.Started) (H : Type) (enc : TypeId × Value → H) (F : Stop.Interp) :
    ReturnsInHanded {} Tryd.checked os 4 .any ((OpenSpec.ofChange Rows.ratioLowestSpec).preRow enc Tryd.prog Tryd.f4 Rows.ratioLowestRow.domain false Rows.ratioLowestRow.laid) (((OpenSpec.ofChange Rows.ratioLowestSpec).at F).post enc Tryd.prog Tryd.f4 false true false false) := by
  obtain ⟨places, hx⟩ := reads os enc
  refine returnsInHanded_of_row (C := Tryd.checked) (s := OpenSpec.ofChange Rows.ratioLowestSpec) own started (by kernel_rfl) Tryd.func4
    (witness_row_at (enc := enc) (C := Tryd.checked) false (laidWorld os) #[Value.int .i64 0, Value.int .i64 0] rfl (by kernel_rfl) (by kernel_rfl) (by kernel_rfl)
      (OpenSpec.preRow_of_cond 8 hx (by kernel_rfl) (fun k hk => by cases hk) (by kernel_rfl) (laid_met os _))) ?_
  intro W base args ds gs before hval hW _ _ _ hL hS _
  exact contract H enc W base args ds gs before hval hW hL hS

theorem said : Rows.RatioLowestSaid :=
  OpenClaim.holds_of_cond 4 Tryd.f4 rfl rfl rfl rfl rfl rfl rfl ⟨rfl, rfl, rfl, rfl, rfl⟩ rfl rfl rfl rfl rfl (by kernel_rfl) Tryd.func4 (by kernel_rfl)
    (of_decide_eq_true (by kernel_rfl)) (by unfold Func.isWrapper; first | (rw [if_pos (by decide +kernel)]; kernel_rfl) | (rw [if_neg (by decide +kernel)]; exact ⟨rfl, rfl⟩))
    (fun os started H enc _ F => by rw [OpenClaim.pre_eq_preRow]; exact lifted os started H enc F)

/-- No parameter wants a stand-in; the program's own looks are off: what the card asks. -/
theorem plain (f : FuncId) (fn : Func) (hf : Tryd.pinned.checked.prog.funcNamed Tryd.f4.name = some f) (hfn : Tryd.pinned.checked.prog.funcs[f]? = some fn) :
    true = Tryd.pinned.checked.prog.looks [] ∧ ∀ (j : Nat) t, fn.params[j]? = some t → Tryd.pinned.checked.prog.wantsStandIn t = false := by
  obtain rfl : f = 4 := Option.some.inj ((show Tryd.prog.funcNamed Tryd.f4.name = some 4 by kernel_rfl).symm.trans hf) |>.symm
  obtain rfl : fn = Tryd.f4 := (Option.some.inj (Tryd.func4.symm.trans hfn)).symm
  refine ⟨by kernel_rfl, fun j t ht => ?_⟩
  rw [Tryd.params4] at ht
  have hm := Array.mem_of_getElem? ht
  simp only [List.mem_toArray, List.mem_cons, List.not_mem_nil, or_false] at hm
  rcases hm with rfl | rfl
  all_goals first | exact (show Tryd.prog.wantsStandIn 3 = false by kernel_rfl)

/-- ████ THE CARD ████ -/
theorem card : Rows.RatioLowestCardSaid :=
  Claim7.holds_tied_plain_at .later [] _ _ _ _ said (fun _ h => by cases h) (by kernel_rfl) (fun _ h => by cases h) ratioLowest_row_tie rfl ⟨rfl, rfl⟩ (by kernel_rfl) rfl plain (by kernel_rfl)
end ratioLowest
end Go.Proofs.YtpmggfmhkjafkaaDoor
