/- SketchUnions in plain words. -/
import Derived.Test.YtoifcfocffcmcaaDoorSkOne
namespace Go.Proofs.YtoifcfocffcmcaaDoor
open Go.RowKit

theorem hashes_app (A B : List (List UInt8)) (i : Int) : hashes (A ++ B) i = hashes A i ++ hashes B i := by simp [hashes]
/-- The union of two sketches is the sketch of all tokens. -/
theorem union_sk (A B : List (List UInt8)) {n : Nat} (h1 : 1 ≤ n) (h2 : n ≤ 64) : unionT (sk A n) (sk B n) = (sk (A ++ B) n, 0) := by
  have hal : alike (sk A n) (sk B n) = true := by
    unfold alike
    rw [sk_isSk A h1 h2, sk_isSk B h1 h2, sk_len, sk_len, decide_eq_true rfl]
    rfl
  unfold unionT
  rw [if_pos hal]
  unfold uniS
  rw [sk_emp A h1, sk_emp B h1]
  by_cases ha : A = []
  · subst ha; simp
  · rw [decide_eq_false ha, if_neg (by decide)]
    by_cases hb : B = []
    · subst hb; simp
    · rw [decide_eq_false hb, if_neg (by decide)]
      congr 1
      apply List.ext_getElem
      · simp [sk_len]
      · intro i p q
        rw [List.getElem_zipWith, sk_get, sk_get, sk_get]
        unfold leastH
        rw [hashes_app, least_app (a := hashes A i) (b := hashes B i) (fun e => ha (List.map_eq_nil_iff.1 e)) (fun e => hb (List.map_eq_nil_iff.1 e))]
theorem sk_ext {A B : List (List UInt8)} (h : ∀ x, x ∈ A ↔ x ∈ B) (n : Nat) : sk A n = sk B n := by
  unfold sk
  refine List.map_congr_left (fun i _ => least_ext (fun z => ?_))
  unfold hashes
  simp only [List.mem_map, h]
theorem own_empty (w : World) (base : Nat) (hb : base ≤ w.heap.size) : (w.alloc (.cells #[] 9)).ownsRow base 9 1 (.slice (some ⟨w.heap.size, 0, none⟩) 0 0) 0 [] :=
  World.ownsRow_made w #[] 0 hb (by unfold maxLen; omega) rfl

set_option maxRecDepth 100000 in
theorem unions_few1 (one _two _three : List (List UInt8)) (c : UInt8) (v1 v2 v3 : Value) (w : World) (ht : Tab w) (h1 : Strs w v1 one) (g1 : fewB one = false) :
    Calls Tryd.prog 5 #[v1, v2, v3, .int .u8 (c.toNat : Int)] w fun e w' => e = .returned (.bool true) ∧ Below w.heap.size w w' := by
  have F1 := Lib.hid (fun W (hw : Below w.heap.size w W) => few_any one v1 W (h1.below hw))
  rw [g1] at F1
  go_enter Tryd.func5, Tryd.ntmps5
  go_wp2_with fail
  refine (head_any w ht).mono ?_
  rintro e w1 ⟨rfl, hb⟩
  go_wp2_with fail
  refine (F1.out _ hb).mono ?_
  rintro e w2 ⟨rfl, rfl⟩
  go_wp2_with fail
  go_ret
  exact ⟨rfl, hb⟩

set_option maxRecDepth 100000 in
theorem unions_few2 (one two _three : List (List UInt8)) (c : UInt8) (v1 v2 v3 : Value) (w : World) (ht : Tab w) (h1 : Strs w v1 one) (h2 : Strs w v2 two) (g1 : fewB one = true) (g2 : fewB two = false) :
    Calls Tryd.prog 5 #[v1, v2, v3, .int .u8 (c.toNat : Int)] w fun e w' => e = .returned (.bool true) ∧ Below w.heap.size w w' := by
  have F1 := Lib.hid (fun W (hw : Below w.heap.size w W) => few_any one v1 W (h1.below hw))
  rw [g1] at F1
  have F2 := Lib.hid (fun W (hw : Below w.heap.size w W) => few_any two v2 W (h2.below hw))
  rw [g2] at F2
  go_enter Tryd.func5, Tryd.ntmps5
  go_wp2_with fail
  refine (head_any w ht).mono ?_
  rintro e w1 ⟨rfl, hb⟩
  go_wp2_with fail
  refine (F1.out _ hb).mono ?_
  rintro e w2 ⟨rfl, rfl⟩
  go_wp2_with fail
  refine (F2.out _ hb).mono ?_
  rintro e w2 ⟨rfl, rfl⟩
  go_wp2_with fail
  go_ret
  exact ⟨rfl, hb⟩

set_option maxRecDepth 100000 in
theorem unions_few3 (one two three : List (List UInt8)) (c : UInt8) (v1 v2 v3 : Value) (w : World) (ht : Tab w) (h1 : Strs w v1 one) (h2 : Strs w v2 two) (h3 : Strs w v3 three) (g1 : fewB one = true) (g2 : fewB two = true) (g3 : fewB three = false) :
    Calls Tryd.prog 5 #[v1, v2, v3, .int .u8 (c.toNat : Int)] w fun e w' => e = .returned (.bool true) ∧ Below w.heap.size w w' := by
  have F1 := Lib.hid (fun W (hw : Below w.heap.size w W) => few_any one v1 W (h1.below hw))
  rw [g1] at F1
  have F2 := Lib.hid (fun W (hw : Below w.heap.size w W) => few_any two v2 W (h2.below hw))
  rw [g2] at F2
  have F3 := Lib.hid (fun W (hw : Below w.heap.size w W) => few_any three v3 W (h3.below hw))
  rw [g3] at F3
  go_enter Tryd.func5, Tryd.ntmps5
  go_wp2_with fail
  refine (head_any w ht).mono ?_
  rintro e w1 ⟨rfl, hb⟩
  go_wp2_with fail
  refine (F1.out _ hb).mono ?_
  rintro e w2 ⟨rfl, rfl⟩
  go_wp2_with fail
  refine (F2.out _ hb).mono ?_
  rintro e w2 ⟨rfl, rfl⟩
  go_wp2_with fail
  refine (F3.out _ hb).mono ?_
  rintro e w2 ⟨rfl, rfl⟩
  go_wp2_with fail
  go_ret
  exact ⟨rfl, hb⟩

set_option maxHeartbeats 4000000 in
set_option maxRecDepth 100000 in
theorem unions_many (one two three : List (List UInt8)) (c : UInt8) (v1 v2 v3 : Value) (w : World) (ht : Tab w) (h1 : Strs w v1 one) (h2 : Strs w v2 two) (h3 : Strs w v3 three) (g1 : fewB one = true) (g2 : fewB two = true) (g3 : fewB three = true) :
    Calls Tryd.prog 5 #[v1, v2, v3, .int .u8 (c.toNat : Int)] w fun e w' => e = .returned (.bool true) ∧ Below w.heap.size w w' := by
  have F1 := Lib.hid (fun W (hw : Below w.heap.size w W) => few_any one v1 W (h1.below hw))
  rw [g1] at F1
  have F2 := Lib.hid (fun W (hw : Below w.heap.size w W) => few_any two v2 W (h2.below hw))
  rw [g2] at F2
  have F3 := Lib.hid (fun W (hw : Below w.heap.size w W) => few_any three v3 W (h3.below hw))
  rw [g3] at F3
  obtain ⟨l1, m1⟩ := fewB_yes g1
  obtain ⟨l2, m2⟩ := fewB_yes g2
  obtain ⟨l3, m3⟩ := fewB_yes g3
  obtain ⟨n, n1, n2, hn⟩ := mod64 c
  have hcl : c.toNat < 256 := c.toNat_lt
  have HM := Lib.hid (fun (T : List (List UInt8)) (v : Value) (W : World) (hl : T.length ≤ 80) (hx : ∀ t ∈ T, t.length ≤ 100) (hv : Strs W v T) => make_any T (n : Int) v W (by omega) (fun t ht => by have := hx t ht; omega) hv)
  have HU := Lib.hid (fun (A B : List (List UInt8)) (v u : Value) (W : World) (hv : Ints W v (sk A n)) (hu : Ints W u (sk B n)) => union_any (sk A n) (sk B n) v u W (by rw [sk_len]; omega) (by rw [sk_len]; omega) hv hu)
  have HI := Lib.hid (fun (A B : List (List UInt8)) (hab : ∀ x, x ∈ A ↔ x ∈ B) (v u : Value) (W : World) (hv : Ints W v (sk A n)) (hu : Ints W u (sk B n)) => ints_ref (sk A n) (sk B n) v u W (by rw [sk_len]; omega) hv hu)
  have HMK := Lib.hid (fun (T : List (List UInt8)) => make_ok T n1 n2)
  have HUK := Lib.hid (fun (A B : List (List UInt8)) => union_sk A B n1 n2)
  have HEQ := Lib.hid (fun (A B : List (List UInt8)) (hab : ∀ x, x ∈ A ↔ x ∈ B) => decide_eq_true (sk_ext hab n))
  have S1 := Lib.hid h1
  have S2 := Lib.hid h2
  have S3 := Lib.hid h3
  clear g1 g2 g3 n1 n2 h1 h2 h3
  go_enter Tryd.func5, Tryd.ntmps5
  go_wp2_with fail
  refine (head_any w ht).mono ?_
  rintro e w1 ⟨rfl, hb⟩
  go_wp2_with fail
  refine (F1.out _ hb).mono ?_
  rintro e w2 ⟨rfl, rfl⟩
  go_wp2_with fail
  refine (F2.out _ hb).mono ?_
  rintro e w2 ⟨rfl, rfl⟩
  go_wp2_with fail
  refine (F3.out _ hb).mono ?_
  rintro e w2 ⟨rfl, rfl⟩
  have HW := Lib.hid hb
  clear hb F1 F2 F3
  go_wp2_with fail
  refine (HM.out one v1 _ (by omega) m1 (S1.out.below HW.out)).mono ?_
  rw [HMK.out]
  rintro e w2 ⟨va, rfl, hi, hb⟩
  have Ia := Lib.hid hi
  have HW := Lib.hid (below_up HW.out hb HW.out.size)
  clear hi hb
  go_wp2_with fail
  refine (HM.out two v2 _ (by omega) m2 (S2.out.below HW.out)).mono ?_
  rw [HMK.out]
  rintro e w2 ⟨vb, rfl, hi, hb⟩
  have Ia := Lib.hid (Ia.out.below hb)
  have Ib := Lib.hid hi
  have HW := Lib.hid (below_up HW.out hb HW.out.size)
  clear hi hb
  go_wp2_with fail
  refine (HM.out three v3 _ (by omega) m3 (S3.out.below HW.out)).mono ?_
  rw [HMK.out]
  rintro e w2 ⟨vc, rfl, hi, hb⟩
  have Ia := Lib.hid (Ia.out.below hb)
  have Ib := Lib.hid (Ib.out.below hb)
  have Ic := Lib.hid hi
  have HW := Lib.hid (below_up HW.out hb HW.out.size)
  clear hi hb
  go_wp2_with fail
  refine (HM.out [] _ _ (by simp) (by simp) (strs_nil _)).mono ?_
  rw [HMK.out]
  rintro e w2 ⟨vn, rfl, hi, hb⟩
  have Ia := Lib.hid (Ia.out.below hb)
  have Ib := Lib.hid (Ib.out.below hb)
  have Ic := Lib.hid (Ic.out.below hb)
  have In := Lib.hid hi
  have HW := Lib.hid (below_up HW.out hb HW.out.size)
  clear hi hb
  have HO := Lib.hid (own_empty w2 w2.heap.size (Nat.le_refl _))
  go_wp2_with (at_builtin; refine wp_append rfl _ _ rfl w2.heap.size _ [] rfl HO.out _ one rfl ((S1.out.below HW.out).below (below_box _ _)) (by simp; omega) (by simp) ?_)
  intro v' w3 hown hg
  have HB := Lib.hid (below_grown (below_box w2 (.cells #[] 9)) (by simp) HO.out hg)
  have HO := Lib.hid hown
  clear hown hg
  go_wp2_with (at_builtin; refine wp_append rfl _ _ rfl w2.heap.size _ one rfl HO.out _ two rfl ((S2.out.below HW.out).below HB.out) (by omega) HB.out.size ?_)
  intro v'' w4 hown hg
  have hb := below_grown HB.out HB.out.size HO.out hg
  have HS := Lib.hid (strs_of_owns hown)
  have Ia := Lib.hid (Ia.out.below hb)
  have Ib := Lib.hid (Ib.out.below hb)
  have Ic := Lib.hid (Ic.out.below hb)
  have In := Lib.hid (In.out.below hb)
  have HW := Lib.hid (below_up HW.out hb HW.out.size)
  clear hown hg hb HB HO
  go_wp2_with fail
  refine (HM.out (one ++ two) _ _ (by simp; omega) (fun t ht => by rcases List.mem_append.1 ht with h | h; exact m1 t h; exact m2 t h) HS.out).mono ?_
  rw [HMK.out]
  rintro e w2 ⟨vl, rfl, hi, hb⟩
  have Ia := Lib.hid (Ia.out.below hb)
  have Ib := Lib.hid (Ib.out.below hb)
  have Ic := Lib.hid (Ic.out.below hb)
  have In := Lib.hid (In.out.below hb)
  have Il := Lib.hid hi
  have HW := Lib.hid (below_up HW.out hb HW.out.size)
  clear hi hb
  go_wp2_with fail
  refine (HU.out _ _ _ _ _ Ia.out Ib.out).mono ?_
  rw [HUK.out]
  rintro e w2 ⟨vu, rfl, hi, hb⟩
  have Ia := Lib.hid (Ia.out.below hb)
  have Ib := Lib.hid (Ib.out.below hb)
  have Ic := Lib.hid (Ic.out.below hb)
  have In := Lib.hid (In.out.below hb)
  have Il := Lib.hid (Il.out.below hb)
  have Iu := Lib.hid hi
  have HW := Lib.hid (below_up HW.out hb HW.out.size)
  clear hi hb
  go_wp2_with fail
  refine (HU.out _ _ _ _ _ Ib.out Ia.out).mono ?_
  rw [HUK.out]
  rintro e w2 ⟨vv, rfl, hi, hb⟩
  have Ia := Lib.hid (Ia.out.below hb)
  have Ib := Lib.hid (Ib.out.below hb)
  have Ic := Lib.hid (Ic.out.below hb)
  have In := Lib.hid (In.out.below hb)
  have Il := Lib.hid (Il.out.below hb)
  have Iu := Lib.hid (Iu.out.below hb)
  have Iv := Lib.hid hi
  have HW := Lib.hid (below_up HW.out hb HW.out.size)
  clear hi hb
  go_wp2_with fail
  refine (HU.out _ _ _ _ _ Iu.out Ic.out).mono ?_
  rw [HUK.out]
  rintro e w2 ⟨vw, rfl, hi, hb⟩
  have Ia := Lib.hid (Ia.out.below hb)
  have Ib := Lib.hid (Ib.out.below hb)
  have Ic := Lib.hid (Ic.out.below hb)
  have In := Lib.hid (In.out.below hb)
  have Il := Lib.hid (Il.out.below hb)
  have Iu := Lib.hid (Iu.out.below hb)
  have Iv := Lib.hid (Iv.out.below hb)
  have Iw := Lib.hid hi
  have HW := Lib.hid (below_up HW.out hb HW.out.size)
  clear hi hb
  go_wp2_with fail
  refine (HU.out _ _ _ _ _ Ib.out Ic.out).mono ?_
  rw [HUK.out]
  rintro e w2 ⟨vx, rfl, hi, hb⟩
  have Ia := Lib.hid (Ia.out.below hb)
  have Ib := Lib.hid (Ib.out.below hb)
  have Ic := Lib.hid (Ic.out.below hb)
  have In := Lib.hid (In.out.below hb)
  have Il := Lib.hid (Il.out.below hb)
  have Iu := Lib.hid (Iu.out.below hb)
  have Iv := Lib.hid (Iv.out.below hb)
  have Iw := Lib.hid (Iw.out.below hb)
  have Ix := Lib.hid hi
  have HW := Lib.hid (below_up HW.out hb HW.out.size)
  clear hi hb
  go_wp2_with fail
  refine (HU.out _ _ _ _ _ Ia.out Ix.out).mono ?_
  rw [HUK.out]
  rintro e w2 ⟨vy, rfl, hi, hb⟩
  have Ia := Lib.hid (Ia.out.below hb)
  have Ib := Lib.hid (Ib.out.below hb)
  have Ic := Lib.hid (Ic.out.below hb)
  have In := Lib.hid (In.out.below hb)
  have Il := Lib.hid (Il.out.below hb)
  have Iu := Lib.hid (Iu.out.below hb)
  have Iv := Lib.hid (Iv.out.below hb)
  have Iw := Lib.hid (Iw.out.below hb)
  have Ix := Lib.hid (Ix.out.below hb)
  have Iy := Lib.hid hi
  have HW := Lib.hid (below_up HW.out hb HW.out.size)
  clear hi hb
  go_wp2_with fail
  refine (HU.out _ _ _ _ _ Ia.out Ia.out).mono ?_
  rw [HUK.out]
  rintro e w2 ⟨vz, rfl, hi, hb⟩
  have Ia := Lib.hid (Ia.out.below hb)
  have Ib := Lib.hid (Ib.out.below hb)
  have Ic := Lib.hid (Ic.out.below hb)
  have In := Lib.hid (In.out.below hb)
  have Il := Lib.hid (Il.out.below hb)
  have Iu := Lib.hid (Iu.out.below hb)
  have Iv := Lib.hid (Iv.out.below hb)
  have Iw := Lib.hid (Iw.out.below hb)
  have Ix := Lib.hid (Ix.out.below hb)
  have Iy := Lib.hid (Iy.out.below hb)
  have Iz := Lib.hid hi
  have HW := Lib.hid (below_up HW.out hb HW.out.size)
  clear hi hb
  go_wp2_with fail
  refine (HU.out _ _ _ _ _ In.out Ia.out).mono ?_
  rw [HUK.out]
  rintro e w2 ⟨vs, rfl, hi, hb⟩
  have Ia := Lib.hid (Ia.out.below hb)
  have Ib := Lib.hid (Ib.out.below hb)
  have Ic := Lib.hid (Ic.out.below hb)
  have In := Lib.hid (In.out.below hb)
  have Il := Lib.hid (Il.out.below hb)
  have Iu := Lib.hid (Iu.out.below hb)
  have Iv := Lib.hid (Iv.out.below hb)
  have Iw := Lib.hid (Iw.out.below hb)
  have Ix := Lib.hid (Ix.out.below hb)
  have Iy := Lib.hid (Iy.out.below hb)
  have Iz := Lib.hid (Iz.out.below hb)
  have Is := Lib.hid hi
  have HW := Lib.hid (below_up HW.out hb HW.out.size)
  clear hi hb
  go_wp2_with fail
  refine (HI.out _ _ (fun x => Iff.rfl) _ _ _ Iu.out Il.out).mono ?_
  rw [HEQ.out _ _ (fun x => Iff.rfl)]
  rintro e w2 ⟨rfl, hb⟩
  have Iu := Lib.hid (Iu.out.below hb)
  have Iv := Lib.hid (Iv.out.below hb)
  have Iw := Lib.hid (Iw.out.below hb)
  have Iy := Lib.hid (Iy.out.below hb)
  have Iz := Lib.hid (Iz.out.below hb)
  have Ia := Lib.hid (Ia.out.below hb)
  have Is := Lib.hid (Is.out.below hb)
  have Il := Lib.hid (Il.out.below hb)
  have HW := Lib.hid (below_up HW.out hb HW.out.size)
  clear hb
  go_wp2_with fail
  refine (HI.out _ _ (fun x => by simp only [List.mem_append]; exact Or.comm) _ _ _ Iu.out Iv.out).mono ?_
  rw [HEQ.out _ _ (fun x => by simp only [List.mem_append]; exact Or.comm)]
  rintro e w2 ⟨rfl, hb⟩
  have Iu := Lib.hid (Iu.out.below hb)
  have Iv := Lib.hid (Iv.out.below hb)
  have Iw := Lib.hid (Iw.out.below hb)
  have Iy := Lib.hid (Iy.out.below hb)
  have Iz := Lib.hid (Iz.out.below hb)
  have Ia := Lib.hid (Ia.out.below hb)
  have Is := Lib.hid (Is.out.below hb)
  have Il := Lib.hid (Il.out.below hb)
  have HW := Lib.hid (below_up HW.out hb HW.out.size)
  clear hb
  go_wp2_with fail
  refine (HI.out _ _ (fun x => by simp only [List.mem_append]; exact or_assoc) _ _ _ Iw.out Iy.out).mono ?_
  rw [HEQ.out _ _ (fun x => by simp only [List.mem_append]; exact or_assoc)]
  rintro e w2 ⟨rfl, hb⟩
  have Iu := Lib.hid (Iu.out.below hb)
  have Iv := Lib.hid (Iv.out.below hb)
  have Iw := Lib.hid (Iw.out.below hb)
  have Iy := Lib.hid (Iy.out.below hb)
  have Iz := Lib.hid (Iz.out.below hb)
  have Ia := Lib.hid (Ia.out.below hb)
  have Is := Lib.hid (Is.out.below hb)
  have Il := Lib.hid (Il.out.below hb)
  have HW := Lib.hid (below_up HW.out hb HW.out.size)
  clear hb
  go_wp2_with fail
  refine (HI.out _ _ (fun x => by simp only [List.mem_append]; exact or_self_iff) _ _ _ Iz.out Ia.out).mono ?_
  rw [HEQ.out _ _ (fun x => by simp only [List.mem_append]; exact or_self_iff)]
  rintro e w2 ⟨rfl, hb⟩
  have Iu := Lib.hid (Iu.out.below hb)
  have Iv := Lib.hid (Iv.out.below hb)
  have Iw := Lib.hid (Iw.out.below hb)
  have Iy := Lib.hid (Iy.out.below hb)
  have Iz := Lib.hid (Iz.out.below hb)
  have Ia := Lib.hid (Ia.out.below hb)
  have Is := Lib.hid (Is.out.below hb)
  have Il := Lib.hid (Il.out.below hb)
  have HW := Lib.hid (below_up HW.out hb HW.out.size)
  clear hb
  go_wp2_with fail
  refine (HI.out _ _ (fun x => by simp) _ _ _ Is.out Ia.out).mono ?_
  rw [HEQ.out _ _ (fun x => by simp)]
  rintro e w2 ⟨rfl, hb⟩
  have HW := Lib.hid (below_up HW.out hb HW.out.size)
  clear hb
  go_wp2_with fail
  go_ret
  exact ⟨rfl, HW.out⟩

theorem unions_law (one two three : List (List UInt8)) (c : UInt8) (v1 v2 v3 : Value) (w : World) (ht : Tab w) (h1 : Strs w v1 one) (h2 : Strs w v2 two) (h3 : Strs w v3 three) :
    Calls Tryd.prog 5 #[v1, v2, v3, .int .u8 (c.toNat : Int)] w fun e w' => e = .returned (.bool true) ∧ Below w.heap.size w w' := by
  cases g1 : fewB one
  · exact unions_few1 one two three c v1 v2 v3 w ht h1 g1
  cases g2 : fewB two
  · exact unions_few2 one two three c v1 v2 v3 w ht h1 h2 g1 g2
  cases g3 : fewB three
  · exact unions_few3 one two three c v1 v2 v3 w ht h1 h2 h3 g1 g2 g3
  exact unions_many one two three c v1 v2 v3 w ht h1 h2 h3 g1 g2 g3
end Go.Proofs.YtoifcfocffcmcaaDoor
