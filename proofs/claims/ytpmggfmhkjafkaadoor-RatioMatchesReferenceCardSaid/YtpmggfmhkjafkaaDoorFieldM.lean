/- The plain mathematics of the field's laws. -/
import Derived.Test.YtpmggfmhkjafkaaDoorMath
namespace Go.Proofs.YtpmggfmhkjafkaaDoor

set_option linter.unusedSimpArgs false

theorem opr_true {a b : Bool} (ha : a = true) (hb : b = true) (x y : Int) : opr (a && b) x y = mk x y := by subst ha hb; rfl

/-- What an operation without an error returned: a valid ratio that stands for the quotient. -/
theorem opr_ok {an ad bn bd x y a b : Int} (va : Vld an ad) (vb : Vld bn bd) (hy : y ≠ 0) (h : opr (vldB an ad && vldB bn bd) x y = (a, b, 0)) : Vld a b ∧ a * y = x * b := by
  rw [opr_true (vldB_mk va) (vldB_mk vb)] at h
  rcases mk_spec x y hy with h1 | ⟨c, d, h1, hv, he⟩
  · rw [h1] at h
    have := congrArg (fun r => r.2.2) h
    simp at this
  · rw [h1] at h
    have e1 := congrArg (fun r => r.1) h
    have e2 := congrArg (fun r => r.2.1) h
    simp only at e1 e2
    subst e1 e2
    exact ⟨hv, he⟩

theorem den_ne {n d : Int} (h : Vld n d) : d ≠ 0 := by obtain ⟨_, _, _, _, _⟩ := h; omega
theorem dens_ne {an ad bn bd : Int} (ha : Vld an ad) (hb : Vld bn bd) : ad * bd ≠ 0 := Int.mul_ne_zero (den_ne ha) (den_ne hb)

theorem sub_back {an ad bn bd sn sd : Int} (va : Vld an ad) (vb : Vld bn bd) (hS : opr (vldB an ad && vldB bn bd) (an * bd + bn * ad) (ad * bd) = (sn, sd, 0)) :
    opr (vldB sn sd && vldB bn bd) (sn * bd - bn * sd) (sd * bd) = (an, ad, 0) := by
  obtain ⟨vs, e⟩ := opr_ok va vb (dens_ne va vb) hS
  rw [opr_true (vldB_mk vs) (vldB_mk vb)]
  apply mk_uniq (dens_ne vs vb) va
  simp only [Int.add_mul, Int.sub_mul, Int.mul_add, Int.mul_sub, Int.mul_assoc, Int.mul_comm, Int.mul_left_comm] at e ⊢
  omega

theorem div_back {an ad bn bd pn pd : Int} (va : Vld an ad) (vb : Vld bn bd) (hP : opr (vldB an ad && vldB bn bd) (an * bn) (ad * bd) = (pn, pd, 0)) (hb : bn ≠ 0) :
    opr (vldB pn pd && vldB bn bd) (pn * bd) (pd * bn) = (an, ad, 0) := by
  obtain ⟨vp, e⟩ := opr_ok va vb (dens_ne va vb) hP
  rw [opr_true (vldB_mk vp) (vldB_mk vb)]
  apply mk_uniq (Int.mul_ne_zero (den_ne vp) hb) va
  simp only [Int.add_mul, Int.sub_mul, Int.mul_add, Int.mul_sub, Int.mul_assoc, Int.mul_comm, Int.mul_left_comm] at e ⊢
  omega

theorem add_assoc' {an ad bn bd cn cd sn sd un ud : Int} (va : Vld an ad) (vb : Vld bn bd) (vc : Vld cn cd) (hS : opr (vldB an ad && vldB bn bd) (an * bd + bn * ad) (ad * bd) = (sn, sd, 0)) (hU : opr (vldB bn bd && vldB cn cd) (bn * cd + cn * bd) (bd * cd) = (un, ud, 0)) :
    opr (vldB sn sd && vldB cn cd) (sn * cd + cn * sd) (sd * cd) = opr (vldB an ad && vldB un ud) (an * ud + un * ad) (ad * ud) := by
  obtain ⟨vs, e1⟩ := opr_ok va vb (dens_ne va vb) hS
  obtain ⟨vu, e2⟩ := opr_ok vb vc (dens_ne vb vc) hU
  rw [opr_true (vldB_mk vs) (vldB_mk vc), opr_true (vldB_mk va) (vldB_mk vu)]
  apply mk_congr (dens_ne vs vc) (dens_ne va vu)
  apply Int.eq_of_mul_eq_mul_right (den_ne vb)
  replace e1 := congrArg (fun x => x * (cd * ud)) e1
  replace e2 := congrArg (fun x => x * (ad * sd)) e2
  simp only [Int.add_mul, Int.sub_mul, Int.mul_add, Int.mul_sub, Int.mul_assoc, Int.mul_comm, Int.mul_left_comm] at e1 e2 ⊢
  omega

theorem mul_assoc' {an ad bn bd cn cd pn pd vn vd : Int} (va : Vld an ad) (vb : Vld bn bd) (vc : Vld cn cd) (hP : opr (vldB an ad && vldB bn bd) (an * bn) (ad * bd) = (pn, pd, 0)) (hV : opr (vldB bn bd && vldB cn cd) (bn * cn) (bd * cd) = (vn, vd, 0)) :
    opr (vldB pn pd && vldB cn cd) (pn * cn) (pd * cd) = opr (vldB an ad && vldB vn vd) (an * vn) (ad * vd) := by
  obtain ⟨vp, e1⟩ := opr_ok va vb (dens_ne va vb) hP
  obtain ⟨vv, e2⟩ := opr_ok vb vc (dens_ne vb vc) hV
  rw [opr_true (vldB_mk vp) (vldB_mk vc), opr_true (vldB_mk va) (vldB_mk vv)]
  apply mk_congr (dens_ne vp vc) (dens_ne va vv)
  apply Int.eq_of_mul_eq_mul_right (den_ne vb)
  replace e1 := congrArg (fun x => x * (cn * vd)) e1
  replace e2 := congrArg (fun x => x * (an * pd)) e2
  simp only [Int.add_mul, Int.sub_mul, Int.mul_add, Int.mul_sub, Int.mul_assoc, Int.mul_comm, Int.mul_left_comm] at e1 e2 ⊢
  omega

theorem distrib' {an ad bn bd cn cd pn pd un ud wn wd : Int} (va : Vld an ad) (vb : Vld bn bd) (vc : Vld cn cd) (hP : opr (vldB an ad && vldB bn bd) (an * bn) (ad * bd) = (pn, pd, 0)) (hU : opr (vldB bn bd && vldB cn cd) (bn * cd + cn * bd) (bd * cd) = (un, ud, 0)) (hW : opr (vldB an ad && vldB cn cd) (an * cn) (ad * cd) = (wn, wd, 0)) :
    opr (vldB an ad && vldB un ud) (an * un) (ad * ud) = opr (vldB pn pd && vldB wn wd) (pn * wd + wn * pd) (pd * wd) := by
  obtain ⟨vp, e1⟩ := opr_ok va vb (dens_ne va vb) hP
  obtain ⟨vu, e2⟩ := opr_ok vb vc (dens_ne vb vc) hU
  obtain ⟨vw, e3⟩ := opr_ok va vc (dens_ne va vc) hW
  rw [opr_true (vldB_mk va) (vldB_mk vu), opr_true (vldB_mk vp) (vldB_mk vw)]
  apply mk_congr (dens_ne va vu) (dens_ne vp vw)
  apply Int.eq_of_mul_eq_mul_right (dens_ne vb vc)
  replace e1 := congrArg (fun x => x * (wd * ud * cd)) e1
  replace e2 := congrArg (fun x => x * (an * pd * wd)) e2
  replace e3 := congrArg (fun x => x * (pd * ud * bd)) e3
  simp only [Int.add_mul, Int.sub_mul, Int.mul_add, Int.mul_sub, Int.mul_assoc, Int.mul_comm, Int.mul_left_comm] at e1 e2 e3 ⊢
  omega
end Go.Proofs.YtpmggfmhkjafkaaDoor
