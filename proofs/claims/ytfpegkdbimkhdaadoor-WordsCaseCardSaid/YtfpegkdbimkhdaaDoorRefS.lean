/- The contract of the reference's Sorted. -/
import Derived.Test.YtfpegkdbimkhdaaDoorRefF
namespace Go.Proofs.YtfpegkdbimkhdaaDoor
open Go.RowKit

/-! ### Where an element goes. -/
theorem owns_cases {w : World} {base : Nat} {v : Value} {l : List (List UInt8)} (h : OwnS w base v l) : (v = .slice none 0 0 ∧ l = []) ∨ ∃ g cap, v = .slice (some ⟨g, 0, none⟩) l.length cap ∧ l.length ≤ cap := by
  rcases h.2 with ⟨rfl, h0⟩ | ⟨g, cap, cur, rfl, _, _, hle, _⟩
  · exact .inl ⟨rfl, List.length_eq_zero_iff.1 h0⟩
  · exact .inr ⟨g, cap, rfl, hle⟩
theorem owns_fresh (W : World) : OwnS (W.alloc (.cells #[] 9)) W.heap.size (.slice (some ⟨W.heap.size, 0, none⟩) 0 0) [] :=
  ⟨rfl, .inr ⟨W.heap.size, 0, #[], rfl, Nat.le_refl _, heap_alloc_new _ _, Nat.le_refl _, by simp, rfl, rfl⟩⟩
theorem strs_take {w : World} {A : Option Addr} {cap n : Nat} {l : List (List UInt8)} (h : Strs w (.slice A l.length cap) l) (hn : n ≤ l.length) : Strs w (.slice A n cap) (l.take n) := by
  obtain ⟨A', cap', e, hc, hz, f⟩ := h
  cases e
  refine ⟨A, cap, by rw [List.length_take, Nat.min_eq_left hn], by rw [List.length_take]; omega, hz, fun i hi => ?_⟩
  rw [List.length_take] at hi
  obtain ⟨b, off, h1, h2⟩ := f i (by omega)
  exact ⟨b, off, h1, by rw [List.getElem_take]; exact h2⟩
theorem strs_drop {w : World} {b off cap n cap2 : Nat} {A : Option Addr} {l : List (List UInt8)} (h : Strs w (.slice (some ⟨b, off, none⟩) l.length cap) l) (hn : n ≤ l.length) (hc2 : l.length - n ≤ cap2) (hA : ∀ i, i < l.length - n → A = some ⟨b, off + n, none⟩) (hA0 : A = none → cap2 = 0) : Strs w (.slice A (l.length - n) cap2) (l.drop n) := by
  obtain ⟨A', cap', e, _, _, f⟩ := h
  cases e
  refine ⟨A, cap2, by rw [List.length_drop], by rw [List.length_drop]; exact hc2, hA0, fun i hi => ?_⟩
  rw [List.length_drop] at hi
  obtain ⟨b', off', h1, h2⟩ := f (n + i) (by omega)
  cases h1
  refine ⟨b, off + n, hA i hi, ?_⟩
  rw [Nat.add_assoc, List.getElem_drop]
  exact h2
theorem ins_at (x : List UInt8) : ∀ (k : Nat) (l : List (List UInt8)), (∀ y ∈ l.take k, ltS y x = true) → ins x l = l.take k ++ ins x (l.drop k)
  | 0, l, _ => rfl
  | k + 1, [], _ => rfl
  | k + 1, y :: r, h => by
    have hy := h y (by simp)
    rw [ins, if_pos hy, ins_at x k r (fun z hz => h z (by simp [hz]))]
    rfl
theorem ins_skip {x : List UInt8} {k : Nat} {l : List (List UInt8)} (h : ∀ y ∈ l.take k, ltS y x = true) (hk : k < l.length) (e : l[k] = x) : ins x l = l := by
  rw [ins_at x k l h, List.drop_eq_getElem_cons hk, ins, if_neg (by rw [e, ltS_irrefl]; decide), if_pos e, ← List.drop_eq_getElem_cons hk, List.take_append_drop]
theorem ins_put {x : List UInt8} {k : Nat} {l : List (List UInt8)} (h : ∀ y ∈ l.take k, ltS y x = true) (h2 : ∀ hk : k < l.length, ltS l[k] x = false ∧ l[k] ≠ x) : ins x l = (l.take k ++ [x]) ++ l.drop k := by
  rw [ins_at x k l h, List.append_assoc]
  rcases Nat.lt_or_ge k l.length with hk | hk
  · rw [List.drop_eq_getElem_cons hk, ins, if_neg (by rw [(h2 hk).1]; decide), if_neg (h2 hk).2]
    rfl
  · rw [List.drop_eq_nil_of_le hk]
    rfl
theorem sortD_take {l : List (List UInt8)} {i : Nat} (h : i < l.length) : sortD (l.take (i + 1)) = ins l[i] (sortD (l.take i)) := by
  rw [List.take_succ_eq_append_getElem h, sortD_snoc]
theorem take_lt_step {x : List UInt8} {k : Nat} {l : List (List UInt8)} (h : ∀ y ∈ l.take k, ltS y x = true) (hk : k < l.length) (e : ltS l[k] x = true) : ∀ y ∈ l.take (k + 1), ltS y x = true := fun y hy => by
  rw [List.take_succ_eq_append_getElem hk, List.mem_append, List.mem_singleton] at hy
  rcases hy with hy | rfl
  · exact h y hy
  · exact e

set_option maxRecDepth 100000 in
set_option maxHeartbeats 4000000 in
theorem sorted_ref (l : List (List UInt8)) (v : Value) (w : World) (hl : l.length ≤ 4000) (hs : Strs w v l) :
    Calls Tryd.prog 21 #[v] w (ListPost w (sortD l)) := by
  have HS := Lib.hid hs
  obtain ⟨A, cap, rfl, hcap, _, _⟩ := hs
  go_enter Tryd.func21, Tryd.ntmps21
  go_wp2_with fail
  go_loopw [3, 4] (fun u i wr => ∃ (k : Nat), OwnS wr w.heap.size u (sortD (l.take k)) ∧ i = .int .i64 (k : Int) ∧ k ≤ l.length ∧ Below w.heap.size w wr)
    (fun _ i _ => l.length + 1 - (intOf i).toNat)
  case atStart => exact ⟨0, owns_nil _ _, by simp, by omega, Below.refl _ _⟩
  case round =>
    obtain ⟨k, hown, rfl, hk, hb⟩ := hrel
    have HO := Lib.hid hown
    have HB := Lib.hid hb
    have hcases := owns_cases hown
    clear hown hb
    by_cases hlt : k < l.length
    · obtain ⟨A', cap', e, _, _, hc⟩ := HS.out.below HB.out
      cases e
      obtain ⟨b, off, rfl, c0⟩ := hc k hlt
      clear hc
      have HN := Lib.hid (sortD_take hlt)
      have hol : (sortD (l.take k)).length ≤ 4000 := by have := sortD_len (l.take k); rw [List.length_take] at this; omega
      obtain ⟨o, ho⟩ : ∃ o, sortD (l.take k) = o := ⟨_, rfl⟩
      obtain ⟨x, hx⟩ : ∃ x, l[k] = x := ⟨_, rfl⟩
      rw [hx, ho] at HN
      rw [hx] at c0
      rw [ho] at HO hcases hol
      clear hx ho
      obtain ⟨wo, rfl⟩ : ∃ wo, wo = wr := ⟨_, rfl⟩
      rcases hcases with ⟨rfl, rfl⟩ | ⟨g, cg, rfl, hcg⟩
      · have HI := Lib.hid (show ins x [] = ([] ++ [x]) ++ [] from rfl)
        go_wp2_with fail
        go_loopw [5] (fun j wr => j = .int .i64 0 ∧ Below wo.heap.size wo wr) (fun _ _ => 0)
        case atStart => exact ⟨rfl, Below.refl _ _⟩
        case round =>
          obtain ⟨rfl, hbq⟩ := hrel
          have HBQ := Lib.hid (below_up HB.out hbq HB.out.size)
          have c1 := cellB hbq c0
          clear hbq c0
          go_wp2_with fail
          go_quiet (fail)
          go_wp2_with fail
          go_quiet (fail)
          go_wp2_with (at_builtin; refine wp_append rfl _ _ rfl wr.heap.size _ [] rfl (owns_fresh (wr.drewN _)) _ ([]) rfl (strs_nil _) (by simp <;> omega) (by simp) ?_)
          intro v1 w1 ho1 hg1
          have HB1 := Lib.hid (below_grown (((below_drewN wr.heap.size wr _).alloc (Nat.le_refl _) _)) (by simp) (owns_fresh (wr.drewN _)) hg1)
          have HO1 := Lib.hid ho1
          have c2 := cellB HB1.out c1
          clear ho1 hg1
          go_wp2_with (at_builtin; refine wp_append rfl _ _ rfl wr.heap.size _ _ rfl (HO1.out.alloc _) _ [x] rfl (strs_one _ x _) (by simp <;> omega) (by have := HB1.out.size; simp; omega) ?_)
          intro v2 w2 ho2 hg2
          have HB2 := Lib.hid (below_grown (HB1.out.alloc HB1.out.size _) (by have := HB1.out.size; simp; omega) (HO1.out.alloc _) hg2)
          have HO2 := Lib.hid ho2
          clear ho2 hg2
          go_wp2_with (at_builtin; refine wp_append rfl _ _ rfl wr.heap.size _ _ rfl HO2.out _ ([]) rfl (strs_nil _) (by simp <;> omega) HB2.out.size ?_)
          intro v3 w3 ho3 hg3
          have HB3 := Lib.hid (below_grown HB2.out HB2.out.size HO2.out hg3)
          have HO3 := Lib.hid ho3
          clear ho3 hg3
          go_wp2_with fail
          go_roundw
          case rel => exact ⟨k + 1, by rw [HN.out, HI.out, List.append_assoc]; exact ownsRow_base_a HO3.out HBQ.out.size, by simp, by omega, below_up HBQ.out HB3.out HBQ.out.size⟩
          case measure => simp [intOf]; omega
      · go_wp2_with fail
        go_loopw [5] (fun j wr => ∃ (n : Nat), j = .int .i64 (n : Int) ∧ n ≤ o.length ∧ (∀ y ∈ o.take n, ltS y x = true) ∧ OwnS wr w.heap.size (.slice (some ⟨g, 0, none⟩) o.length cg) o ∧ Below wo.heap.size wo wr) (fun j _ => o.length + 1 - (intOf j).toNat)
        case atStart => exact ⟨0, by simp, by omega, by simp, HO.out, Below.refl _ _⟩
        case round =>
          obtain ⟨n, rfl, hn, hT, hoq, hbq⟩ := hrel
          have HT := Lib.hid hT
          have HBQ := Lib.hid (below_up HB.out hbq HB.out.size)
          have HBR := Lib.hid hbq
          have HOQ := Lib.hid hoq
          have c1 := cellB hbq c0
          clear hT hbq hoq c0
          by_cases hno : n < o.length
          · obtain ⟨A1, cap1, e, _, _, hc⟩ := strs_own HOQ.out
            cases e
            obtain ⟨g', off', e, d0⟩ := hc n hno
            cases e
            clear hc
            rw [Nat.zero_add] at d0
            have d1 : ∀ m, (wr.drewN m).cell? ⟨g, n, none⟩ = some (str o[n]) := fun m => cellB (below_drewN wr.heap.size wr m) d0
            have c3 : ∀ m, (wr.drewN m).cell? ⟨b, off + k, none⟩ = some (str x) := fun m => cellB (below_drewN wr.heap.size wr m) c1
            obtain ⟨c, hcc⟩ : ∃ c, Op.bytesLess o[n] x = c := ⟨_, rfl⟩
            have HC := Lib.hid (show ltS o[n] x = c by rw [← bytesLess_eq, hcc])
            go_wp2_with fail
            go_quiet (fail)
            cases c
            · obtain ⟨d, hd⟩ : ∃ d, (o[n] == x) = d := ⟨_, rfl⟩
              go_wp2_with fail
              go_quiet (fail)
              cases d
              · have HI := Lib.hid (ins_put HT.out (fun _ => ⟨HC.out, fun e => by rw [e] at hd; simp at hd⟩))
                clear hcc hd
                go_wp2_with (at_builtin; refine wp_append rfl _ _ rfl wr.heap.size _ [] rfl (owns_fresh (wr.drewN _)) _ (o.take n) rfl (strs_take ((strs_own HOQ.out).below (((below_drewN wr.heap.size wr _).alloc (Nat.le_refl _) _))) hn) (by simp <;> omega) (by simp) ?_)
                intro v1 w1 ho1 hg1
                have HB1 := Lib.hid (below_grown (((below_drewN wr.heap.size wr _).alloc (Nat.le_refl _) _)) (by simp) (owns_fresh (wr.drewN _)) hg1)
                have HO1 := Lib.hid ho1
                have c2 := cellB HB1.out c1
                clear ho1 hg1
                go_wp2_with (at_builtin; refine wp_append rfl _ _ rfl wr.heap.size _ _ rfl (HO1.out.alloc _) _ [x] rfl (strs_one _ x _) (by simp <;> omega) (by have := HB1.out.size; simp; omega) ?_)
                intro v2 w2 ho2 hg2
                have HB2 := Lib.hid (below_grown (HB1.out.alloc HB1.out.size _) (by have := HB1.out.size; simp; omega) (HO1.out.alloc _) hg2)
                have HO2 := Lib.hid ho2
                clear ho2 hg2
                have HSo := Lib.hid ((strs_own HOQ.out).below HB2.out)
                have hcn : ¬ cg = n := by omega
                go_wp2_with (at_builtin; refine wp_append rfl _ _ rfl wr.heap.size _ _ rfl HO2.out _ (o.drop n) rfl (strs_drop (A := some ⟨g, n, none⟩) HSo.out hn (by omega) (fun i _ => by rw [Nat.zero_add]) (fun e => by cases e)) (by simp <;> omega) HB2.out.size ?_)
                intro v3 w3 ho3 hg3
                have HB3 := Lib.hid (below_grown HB2.out HB2.out.size HO2.out hg3)
                have HO3 := Lib.hid ho3
                clear ho3 hg3
                go_wp2_with fail
                go_roundw
                case rel => exact ⟨k + 1, by rw [HN.out, HI.out, List.append_assoc]; exact ownsRow_base_a HO3.out HBQ.out.size, by simp, by omega, below_up HBQ.out HB3.out HBQ.out.size⟩
                case measure => simp [intOf]; omega
              · have HI := Lib.hid (ins_skip HT.out hno (by simpa using hd))
                clear hcc hd
                go_wp2_with fail
                go_roundw
                case rel => exact ⟨k + 1, by rw [HN.out, HI.out]; exact HOQ.out, by simp, by omega, dN HBQ.out _⟩
                case measure => simp [intOf]; omega
            · go_wp2_with fail
              go_roundw
              case rel => exact ⟨n + 1, by simp, by omega, take_lt_step HT.out hno HC.out, HOQ.out, dN HBR.out _⟩
              case measure => simp [intOf]; omega
          · have HI := Lib.hid (ins_put (x := x) HT.out (fun h => absurd h hno))
            go_wp2_with fail
            go_quiet (fail)
            go_wp2_with fail
            go_quiet (fail)
            go_wp2_with (at_builtin; refine wp_append rfl _ _ rfl wr.heap.size _ [] rfl (owns_fresh (wr.drewN _)) _ (o.take n) rfl (strs_take ((strs_own HOQ.out).below (((below_drewN wr.heap.size wr _).alloc (Nat.le_refl _) _))) hn) (by simp <;> omega) (by simp) ?_)
            intro v1 w1 ho1 hg1
            have HB1 := Lib.hid (below_grown (((below_drewN wr.heap.size wr _).alloc (Nat.le_refl _) _)) (by simp) (owns_fresh (wr.drewN _)) hg1)
            have HO1 := Lib.hid ho1
            have c2 := cellB HB1.out c1
            clear ho1 hg1
            go_wp2_with (at_builtin; refine wp_append rfl _ _ rfl wr.heap.size _ _ rfl (HO1.out.alloc _) _ [x] rfl (strs_one _ x _) (by simp <;> omega) (by have := HB1.out.size; simp; omega) ?_)
            intro v2 w2 ho2 hg2
            have HB2 := Lib.hid (below_grown (HB1.out.alloc HB1.out.size _) (by have := HB1.out.size; simp; omega) (HO1.out.alloc _) hg2)
            have HO2 := Lib.hid ho2
            clear ho2 hg2
            have HSo := Lib.hid ((strs_own HOQ.out).below HB2.out)
            by_cases hcn : cg = n
            · go_wp2_with (at_builtin; refine wp_append rfl _ _ rfl wr.heap.size _ _ rfl HO2.out _ (o.drop n) rfl (strs_drop (A := some ⟨g, 0, none⟩) HSo.out hn (by omega) (fun i h => absurd h (by omega)) (fun e => by cases e)) (by simp <;> omega) HB2.out.size ?_)
              intro v3 w3 ho3 hg3
              have HB3 := Lib.hid (below_grown HB2.out HB2.out.size HO2.out hg3)
              have HO3 := Lib.hid ho3
              clear ho3 hg3
              go_wp2_with fail
              go_roundw
              case rel => exact ⟨k + 1, by rw [HN.out, HI.out, List.append_assoc]; exact ownsRow_base_a HO3.out HBQ.out.size, by simp, by omega, below_up HBQ.out HB3.out HBQ.out.size⟩
              case measure => simp [intOf]; omega
            · go_wp2_with (at_builtin; refine wp_append rfl _ _ rfl wr.heap.size _ _ rfl HO2.out _ (o.drop n) rfl (strs_drop (A := some ⟨g, n, none⟩) HSo.out hn (by omega) (fun i _ => by rw [Nat.zero_add]) (fun e => by cases e)) (by simp <;> omega) HB2.out.size ?_)
              intro v3 w3 ho3 hg3
              have HB3 := Lib.hid (below_grown HB2.out HB2.out.size HO2.out hg3)
              have HO3 := Lib.hid ho3
              clear ho3 hg3
              go_wp2_with fail
              go_roundw
              case rel => exact ⟨k + 1, by rw [HN.out, HI.out, List.append_assoc]; exact ownsRow_base_a HO3.out HBQ.out.size, by simp, by omega, below_up HBQ.out HB3.out HBQ.out.size⟩
              case measure => simp [intOf]; omega
    · have e : l.take k = l := List.take_of_length_le (by omega)
      rw [e] at HO hcases
      rcases hcases with ⟨rfl, h0⟩ | ⟨g, cg, rfl, hcg⟩
      · go_wp2_with fail
        go_ret
        exact ⟨_, rfl, strs_own HO.out, HB.out⟩
      · go_wp2_with fail
        go_ret
        exact ⟨_, rfl, strs_own HO.out, HB.out⟩
end Go.Proofs.YtfpegkdbimkhdaaDoor
