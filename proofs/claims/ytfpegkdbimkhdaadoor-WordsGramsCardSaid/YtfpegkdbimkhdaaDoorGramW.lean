/- WordsGrams in plain words: the grams of a text are the parts of its folded text. -/
import Derived.Test.YtfpegkdbimkhdaaDoorHead
namespace Go.Proofs.YtfpegkdbimkhdaaDoor
open Go.RowKit

/-! ### A row of bools. -/
def Bools (w : World) (g : Nat) (l : List Bool) : Prop := w.heap[g]? = some (.cells (l.map Value.bool).toArray 4)
theorem Bools.cell {w : World} {g : Nat} {l : List Bool} (h : Bools w g l) {k : Nat} (hk : k < l.length) : w.cell? ⟨g, k, none⟩ = some (.bool l[k]) := by
  unfold Bools at h
  simp [World.cell?, h, hk]
theorem Bools.free {w : World} {g : Nat} {l : List Bool} (h : Bools w g l) (k : Nat) : w.frozen? ⟨g, k, none⟩ = false := by
  unfold Bools at h
  simp [World.frozen?, h]
theorem Bools.set {w : World} {g : Nat} {l : List Bool} (h : Bools w g l) (k : Nat) : Bools (w.setCell ⟨g, k, none⟩ (.bool true)) g (l.set k true) := by
  unfold Bools at *
  simp [World.setCell, Array.getElem?_modify, h, List.map_set]
theorem Bools.below {w w1 : World} {g : Nat} {l : List Bool} (h : Bools w g l) (hb : Below w.heap.size w w1) : Bools w1 g l :=
  (hb.block g (Array.getElem?_eq_some_iff.1 h).1).trans h
theorem bools_made {w : World} {base g n : Nat} (h : w.ownsRow base 4 1 (.slice (some ⟨g, 0, none⟩) n n) n (madeCells #[Value.bool false] n).toList) : Bools w g (List.replicate n false) ∧ base ≤ g := by
  rcases h.2 with ⟨e, _⟩ | ⟨g', cap, cur, e, hb, hg, _, _, hsz, htk⟩
  · cases e
  · cases e
    refine ⟨?_, hb⟩
    unfold Bools
    rw [hg]
    have hc : cur = ((List.replicate n false).map Value.bool).toArray := by
      apply Array.toList_inj.1
      rw [List.take_of_length_le (by simp [hsz])] at htk
      rw [htk]
      apply List.ext_getElem
      · simp [madeCells]
      · intro i h1 h2
        simp [madeCells, Nat.mod_one]
    rw [hc]
theorem infoBool : (Tryd.prog.info? 4).map (fun i => (i.zero, i.size, i.bytes)) = some (some (.bool false), 1, 1) := by kernel_rfl
theorem mix_len {L : List (List UInt8)} (f1 f0 : List UInt8 → Bool) (k : Nat) : ((L.take k).map f1 ++ (L.drop k).map f0).length = L.length := by
  rw [List.length_append, List.length_map, List.length_map, ← List.length_append, List.take_append_drop]
theorem mix_succ {L : List (List UInt8)} (f1 f0 : List UInt8 → Bool) {k : Nat} (hk : k < L.length) : (L.take (k + 1)).map f1 ++ (L.drop (k + 1)).map f0 = (L.take k).map f1 ++ (f1 L[k] :: (L.drop (k + 1)).map f0) := by
  rw [List.take_succ_eq_append_getElem hk, List.map_append, List.append_assoc]
  rfl
theorem mix_here {L : List (List UInt8)} (f1 f0 : List UInt8 → Bool) {k : Nat} (hk : k < L.length) : (L.take k).map f1 ++ (L.drop k).map f0 = (L.take k).map f1 ++ (f0 L[k] :: (L.drop (k + 1)).map f0) := by
  rw [drop_cons hk]
  rfl
theorem mix_set {L : List (List UInt8)} (f1 f0 : List UInt8 → Bool) {k : Nat} (hk : k < L.length) (h : f1 L[k] = true) : ((L.take k).map f1 ++ (L.drop k).map f0).set k true = (L.take (k + 1)).map f1 ++ (L.drop (k + 1)).map f0 := by
  rw [mix_succ f1 f0 hk, mix_here f1 f0 hk, h, List.set_append_right _ _ (by simp; omega)]
  congr 1
  rw [List.length_map, List.length_take, Nat.min_eq_left (by omega), Nat.sub_self]
  rfl
theorem mix_keep {L : List (List UInt8)} (f1 f0 : List UInt8 → Bool) {k : Nat} (hk : k < L.length) (h : f1 L[k] = f0 L[k]) : (L.take k).map f1 ++ (L.drop k).map f0 = (L.take (k + 1)).map f1 ++ (L.drop (k + 1)).map f0 := by
  rw [mix_succ f1 f0 hk, mix_here f1 f0 hk, h]
/-- Whether an element is among the first j parts. -/
def seenP (s : List UInt8) (n j : Nat) (x : List UInt8) : Bool := decide (x ∈ partsTo s n j)
theorem seenP_succ (s : List UInt8) (n j : Nat) (x : List UInt8) : seenP s n (j + 1) x = (seenP s n j x || decide (x = (s.drop j).take n)) := by
  unfold seenP
  rw [partsTo, Bool.eq_iff_iff]
  simp

set_option maxRecDepth 100000 in
theorem gram_l1 (t : List UInt8) (r : UInt8) (w : World) (h : 500 < t.length) : Calls Tryd.prog 7 #[str t, .int .u8 (r.toNat : Int)] w fun e w' => e = .returned (.bool true) ∧ Below w.heap.size w w' := by
  go_enter Tryd.func7, Tryd.ntmps7
  go_wp2_with fail
  refine (head_any _).mono ?_
  rintro e1 w1 ⟨rfl, hb⟩
  have HB1 := Lib.hid hb
  clear hb
  go_wp2_with fail
  go_ret
  exact ⟨rfl, HB1.out⟩

set_option maxRecDepth 100000 in
set_option maxHeartbeats 4000000 in
theorem gram_m0 (t s : List UInt8) (L : List (List UInt8)) (r : UInt8) (n : Nat) (w : World) (ht : t.length ≤ 500) (hn : 1 + (r.toNat : Int) % 8 = (n : Int)) (FSx : Hid (foldT t = s)) (FL : Hid (sortD (gramsT t (n : Int)) = L)) (hsn : s.length < n) (hse : s.isEmpty = true) (hL0 : L.length = 0) :
    Calls Tryd.prog 7 #[str t, .int .u8 (r.toNat : Int)] w fun e w' => e = .returned (.bool true) ∧ Below w.heap.size w w' := by
  have H1 := Lib.hid (show t.length ≤ 1100 by omega)
  have D := Lib.hid (fold_any t H1.out)
  rw [FSx.out] at D
  have hrt := r.toNat_lt
  go_enter Tryd.func7, Tryd.ntmps7
  go_wp2_with fail
  refine (head_any _).mono ?_
  rintro e1 w1 ⟨rfl, hb⟩
  have HB1 := Lib.hid hb
  clear hb
  go_wp2_with fail
  refine (D.out _).mono ?_
  rintro e2 w2 ⟨rfl, hb⟩
  have HB2 := Lib.hid (below_up HB1.out hb HB1.out.size)
  clear hb D
  have D := Lib.hid (grams_any t (n : Int) H1.out)
  rw [FL.out] at D
  go_wp2_with fail
  refine (D.out _).mono ?_
  rintro e3 w3 ⟨v3, rfl, hs3, hb⟩
  have HS3 := Lib.hid hs3
  have HB3 := Lib.hid (below_up HB2.out hb HB2.out.size)
  obtain ⟨A, ca, rfl, _, _, hcs⟩ := hs3
  clear hb D
  clear hcs
  go_wp2_with fail
  go_ret
  exact ⟨rfl, HB3.out⟩

set_option maxRecDepth 100000 in
set_option maxHeartbeats 4000000 in
theorem gram_m1 (t s : List UInt8) (L : List (List UInt8)) (r : UInt8) (n : Nat) (w : World) (ht : t.length ≤ 500) (hn : 1 + (r.toNat : Int) % 8 = (n : Int)) (FSx : Hid (foldT t = s)) (FL : Hid (sortD (gramsT t (n : Int)) = L)) (hsn : s.length < n) (hse : s.isEmpty = false) (hL0 : L = [s]) :
    Calls Tryd.prog 7 #[str t, .int .u8 (r.toNat : Int)] w fun e w' => e = .returned (.bool true) ∧ Below w.heap.size w w' := by
  have H1 := Lib.hid (show t.length ≤ 1100 by omega)
  have D := Lib.hid (fold_any t H1.out)
  rw [FSx.out] at D
  have hrt := r.toNat_lt
  go_enter Tryd.func7, Tryd.ntmps7
  go_wp2_with fail
  refine (head_any _).mono ?_
  rintro e1 w1 ⟨rfl, hb⟩
  have HB1 := Lib.hid hb
  clear hb
  go_wp2_with fail
  refine (D.out _).mono ?_
  rintro e2 w2 ⟨rfl, hb⟩
  have HB2 := Lib.hid (below_up HB1.out hb HB1.out.size)
  clear hb D
  have D := Lib.hid (grams_any t (n : Int) H1.out)
  rw [FL.out] at D
  go_wp2_with fail
  refine (D.out _).mono ?_
  rintro e3 w3 ⟨v3, rfl, hs3, hb⟩
  have HS3 := Lib.hid hs3
  have HB3 := Lib.hid (below_up HB2.out hb HB2.out.size)
  obtain ⟨A, ca, rfl, _, _, hcs⟩ := hs3
  clear hb D
  obtain ⟨b, off, rfl, c0⟩ := hcs 0 (by rw [hL0]; simp)
  clear hcs
  have c1 : w3.cell? ⟨b, off, none⟩ = some (str s) := by
    subst hL0
    exact c0
  clear c0
  have hL1 : L.length = 1 := by rw [hL0]; rfl
  clear hL0
  go_wp2_with fail
  go_ret
  exact ⟨rfl, HB3.out⟩

set_option maxRecDepth 100000 in
set_option maxHeartbeats 4000000 in
theorem gram_m2 (t s : List UInt8) (L : List (List UInt8)) (r : UInt8) (n : Nat) (w : World) (ht : t.length ≤ 500) (hn : 1 + (r.toNat : Int) % 8 = (n : Int)) (FSx : Hid (foldT t = s)) (FL : Hid (sortD (gramsT t (n : Int)) = L)) (hs : s.length ≤ 500) (hL : L.length ≤ 501) (hsn : n ≤ s.length) (HI : Hid (incB L = true)) (HM1 : Hid (∀ j, j + n ≤ s.length → (s.drop j).take n ∈ L)) (HM2 : Hid (∀ x ∈ L, seenP s n (s.length + 1 - n) x = true)) :
    Calls Tryd.prog 7 #[str t, .int .u8 (r.toNat : Int)] w fun e w' => e = .returned (.bool true) ∧ Below w.heap.size w w' := by
  have H1 := Lib.hid (show t.length ≤ 1100 by omega)
  have D := Lib.hid (fold_any t H1.out)
  rw [FSx.out] at D
  have hrt := r.toNat_lt
  go_enter Tryd.func7, Tryd.ntmps7
  go_wp2_with fail
  refine (head_any _).mono ?_
  rintro e1 w1 ⟨rfl, hb⟩
  have HB1 := Lib.hid hb
  clear hb
  go_wp2_with fail
  refine (D.out _).mono ?_
  rintro e2 w2 ⟨rfl, hb⟩
  have HB2 := Lib.hid (below_up HB1.out hb HB1.out.size)
  clear hb D
  have D := Lib.hid (grams_any t (n : Int) H1.out)
  rw [FL.out] at D
  go_wp2_with fail
  refine (D.out _).mono ?_
  rintro e3 w3 ⟨v3, rfl, hs3, hb⟩
  have HS3 := Lib.hid hs3
  have HB3 := Lib.hid (below_up HB2.out hb HB2.out.size)
  obtain ⟨A, ca, rfl, _, _, hcs⟩ := hs3
  clear hb D
  clear hcs
  obtain ⟨i0, hi, hz0, hz1, hz2⟩ := info_parts infoBool
  go_wp2_with (at_make; refine wpList_make_full _ rfl _ _ 37 rfl w3.heap.size 4 i0 (.bool false) 1 Tryd.underlying37 hi hz0 hz1 .i64 .i64 _ _ L.length rfl rfl rfl rfl (by rw [hz2]; omega) (by unfold maxLen; omega) (Nat.le_refl _) ?_)
  intro w4 hown hg4
  have HBo := Lib.hid (bools_made hown).1
  have HC4 := Lib.hid ((Below.refl w3.heap.size w3).grown hg4 (Nat.le_refl _) (fun k e => by cases e))
  clear hown hg4 hi hz0 hz1 hz2
  go_wp2_with fail
  obtain ⟨g, hgg⟩ : ∃ g, w3.heap.size = g := ⟨_, rfl⟩
  have HG := Lib.hid hgg
  rw [hgg] at HBo
  rw [hgg]
  clear hgg
  go_loopw [10] (fun i wr => ∃ j : Nat, i = .int .i64 (j : Int) ∧ j ≤ s.length + 1 - n ∧ Bools wr g (L.map (seenP s n j)) ∧ Below w3.heap.size w3 wr) (fun i _ => s.length + 2 - (intOf i).toNat)
  case atStart =>
    refine ⟨0, by simp, by omega, ?_, HC4.out⟩
    have h0 : L.map (seenP s n 0) = List.replicate L.length false := by
      apply List.ext_getElem
      · simp
      · intro i h1 h2
        simp [seenP, partsTo]
    rw [h0]
    exact HBo.out
  case round =>
    clear HBo HC4
    obtain ⟨j, rfl, hj, hbo, hbr⟩ := hrel
    have HBo := Lib.hid hbo
    have HR := Lib.hid hbr
    clear hbo hbr
    by_cases hlt : j + n ≤ s.length
    · have hx : (⟨s.toArray⟩ : ByteArray).extract j (j + n) = ⟨((s.drop j).take n).toArray⟩ := by rw [ext_eq, Nat.add_sub_cancel_left]
      have HP := Lib.hid (HM1.out j hlt)
      have HSP := Lib.hid (seenP_succ s n j)
      obtain ⟨p, hp⟩ : ∃ p, (s.drop j).take n = p := ⟨_, rfl⟩
      rw [hp] at hx HP HSP
      clear hp
      go_wp2_with fail
      obtain ⟨wo, rfl⟩ : ∃ wo, wo = wr := ⟨_, rfl⟩
      go_loopw [11, 12] (fun a b wr => ∃ k : Nat, a = .bool (decide (p ∈ L.take k)) ∧ b = .int .i64 (k : Int) ∧ k ≤ L.length ∧ Bools wr g ((L.take k).map (seenP s n (j + 1)) ++ (L.drop k).map (seenP s n j)) ∧ Below w3.heap.size w3 wr) (fun _ b _ => L.length + 1 - (intOf b).toNat)
      case atStart => exact ⟨0, by simp, by simp, by omega, HBo.out, HR.out⟩
      case round =>
        clear HBo HR
        obtain ⟨k, rfl, rfl, hk, hbo, hbr⟩ := hrel
        have HBo := Lib.hid hbo
        have HR := Lib.hid hbr
        clear hbo hbr
        by_cases hkl : k < L.length
        · obtain ⟨A', cap', e, _, _, hc⟩ := HS3.out.below HR.out
          cases e
          obtain ⟨b, off, rfl, c0⟩ := hc k hkl
          clear hc
          have HF := Lib.hid (HSP.out L[k])
          have HTK : Hid (p ∈ L.take (k + 1) ↔ p ∈ L.take k ∨ p = L[k]) := Lib.hid (by rw [List.take_succ_eq_append_getElem hkl, List.mem_append, List.mem_singleton])
          by_cases hxp : L[k] = p
          · have hset := HBo.out.set k
            have HN := Lib.hid (mix_set (seenP s n (j + 1)) (seenP s n j) hkl (by rw [HF.out, hxp]; simp))
            have d0 := HBo.out.cell (k := k) (by rw [mix_len]; exact hkl)
            have d1 := HBo.out.free k
            have HK : Hid (decide (p ∈ L.take (k + 1)) = true) := Lib.hid (decide_eq_true (by rw [HTK.out]; exact Or.inr hxp.symm))
            obtain ⟨bv, hbv⟩ : ∃ bv, ((L.take k).map (seenP s n (j + 1)) ++ (L.drop k).map (seenP s n j))[k]'(by rw [mix_len]; exact hkl) = bv := ⟨_, rfl⟩
            rw [hbv] at d0
            clear hbv
            have HSet : Hid (∀ m, Bools ((wr.drewN m).setCell ⟨g, k, none⟩ (.bool true)) g ((L.take (k + 1)).map (seenP s n (j + 1)) ++ (L.drop (k + 1)).map (seenP s n j))) := Lib.hid (fun m => by
              rw [← HN.out]
              exact Bools.set (w := wr.drewN m) HBo.out k)
            rw [hxp] at c0
            clear hxp
            go_wp2_with fail
            go_quiet (fail)
            go_wp2_with fail
            go_roundw
            case rel => exact ⟨k + 1, by rw [HK.out], by simp, by omega, HSet.out _, (dN HR.out _).setCell (Nat.le_of_eq HG.out) _⟩
            case measure => simp [intOf]; omega
          · have HN := Lib.hid (mix_keep (seenP s n (j + 1)) (seenP s n j) hkl (by rw [HF.out, decide_eq_false hxp, Bool.or_false]))
            have HK : Hid (decide (p ∈ L.take (k + 1)) = decide (p ∈ L.take k)) := Lib.hid (by rw [decide_eq_decide, HTK.out]; exact ⟨fun h => h.resolve_right (fun q => hxp q.symm), Or.inl⟩)
            obtain ⟨x, hxx⟩ : ∃ x, L[k] = x := ⟨_, rfl⟩
            rw [hxx] at c0 hxp
            have hxb : (x == p) = false := by simpa using hxp
            clear hxx
            go_wp2_with fail
            go_quiet (fail)
            go_wp2_with fail
            go_roundw
            case rel => exact ⟨k + 1, by rw [HK.out], by simp, by omega, by rw [← HN.out]; exact HBo.out, dN HR.out _⟩
            case measure => simp [intOf]; omega
        · have HK : Hid (decide (p ∈ L.take k) = true) := Lib.hid (decide_eq_true (by rw [List.take_of_length_le (by omega)]; exact HP.out))
          rw [HK.out]
          have HN : Hid ((L.take k).map (seenP s n (j + 1)) ++ (L.drop k).map (seenP s n j) = L.map (seenP s n (j + 1))) := Lib.hid (by rw [List.take_of_length_le (by omega), List.drop_eq_nil_of_le (by omega)]; simp)
          go_wp2_with fail
          go_roundw
          case rel => exact ⟨j + 1, by simp, by omega, by rw [← HN.out]; exact HBo.out, HR.out⟩
          case measure => simp [intOf]; omega
    · have HJ := Lib.hid (show j = s.length + 1 - n by omega)
      rw [HJ.out] at HBo
      obtain ⟨w5, rfl⟩ : ∃ w5, w5 = wr := ⟨_, rfl⟩
      go_wp2_with fail
      go_loopw [13] (fun c wr => ∃ k : Nat, c = .int .i64 (k : Int) ∧ k ≤ L.length ∧ wr = w5) (fun c _ => L.length + 1 - (intOf c).toNat)
      case atStart => exact ⟨0, by simp, by omega, rfl⟩
      case round =>
        obtain ⟨k, rfl, hk, rfl⟩ := hrel
        by_cases hkl : k < L.length
        · have d0 := HBo.out.cell (k := k) (by rw [List.length_map]; exact hkl)
          rw [List.getElem_map, HM2.out _ (List.getElem_mem hkl)] at d0
          go_wp2_with fail
          go_roundw
          case rel => exact ⟨k + 1, by simp, by omega, trivial⟩
          case measure => simp [intOf]; omega
        · have D := Lib.hid (increasing_ref L _ wr (by omega) (HS3.out.below HR.out))
          rw [HI.out] at D
          go_wp2_with fail
          refine D.out.mono ?_
          rintro e6 w6 ⟨rfl, hb⟩
          have HB6 := Lib.hid (below_up HB3.out (below_up HR.out hb HR.out.size) HB3.out.size)
          clear hb D
          go_wp2_with fail
          go_ret
          exact ⟨rfl, HB6.out⟩

theorem gram_any (t : List UInt8) (r : UInt8) (w : World) : Calls Tryd.prog 7 #[str t, .int .u8 (r.toNat : Int)] w fun e w' => e = .returned (.bool true) ∧ Below w.heap.size w w' := by
  by_cases h1 : 500 < t.length
  · exact gram_l1 t r w h1
  obtain ⟨n, hn⟩ : ∃ n, 1 + r.toNat % 8 = n := ⟨_, rfl⟩
  have hn2 : 1 + (r.toNat : Int) % 8 = (n : Int) := by omega
  have hg : gramsT t (n : Int) = parts (foldT t) n := by
    unfold gramsT
    rw [if_neg (by omega)]
    rfl
  have hfl := foldT_len t
  obtain ⟨s, hs⟩ : ∃ s, foldT t = s := ⟨_, rfl⟩
  rw [hs] at hg hfl
  by_cases h0 : s = []
  · refine gram_m0 t s _ r n w (by omega) hn2 (Lib.hid hs) (Lib.hid rfl) (by rw [h0]; simp; omega) (by rw [h0]; rfl) ?_
    rw [hg, h0]
    rfl
  by_cases h2 : s.length < n
  · refine gram_m1 t s _ r n w (by omega) hn2 (Lib.hid hs) (Lib.hid rfl) h2 ?_ ?_
    · cases s with
      | nil => exact absurd rfl h0
      | cons x y => rfl
    · rw [hg]
      unfold parts
      rw [if_neg h0, if_pos h2]
      rfl
  have hp : parts s n = partsTo s n (s.length + 1 - n) := by
    unfold parts
    rw [if_neg h0, if_neg h2]
  have hl := sortD_len (gramsT t (n : Int))
  rw [hg, hp, partsTo_len] at hl
  refine gram_m2 t s _ r n w (by omega) hn2 (Lib.hid hs) (Lib.hid rfl) (by omega) ?_ (by omega) (Lib.hid (incB_sortD _)) (Lib.hid (fun j hj => ?_)) (Lib.hid (fun x hx => ?_))
  · rw [hg, hp]
    omega
  · rw [mem_sortD, hg, hp, mem_partsTo]
    exact ⟨j, by omega, rfl⟩
  · rw [mem_sortD, hg, hp] at hx
    exact decide_eq_true hx
end Go.Proofs.YtfpegkdbimkhdaaDoor
