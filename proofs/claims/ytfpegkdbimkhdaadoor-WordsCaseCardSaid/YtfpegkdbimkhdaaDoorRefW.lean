/- The contract of the reference's Words. -/
import Derived.Test.YtfpegkdbimkhdaaDoorRefA
namespace Go.Proofs.YtfpegkdbimkhdaaDoor
open Go.RowKit

theorem strs_own {w : World} {base : Nat} {v : Value} {l : List (List UInt8)} (h : OwnS w base v l) : Strs w v l := strs_of_owns h
theorem owns_nil (w : World) (base : Nat) : OwnS w base (.slice none 0 0) [] := ⟨rfl, Or.inl ⟨rfl, rfl⟩⟩
theorem owns_slice {w : World} {base : Nat} {v : Value} {l : List (List UInt8)} (h : OwnS w base v l) : ∃ A cap, v = .slice A l.length cap ∧ l.length ≤ cap := by
  obtain ⟨A, cap, e, hc, _⟩ := strs_of_owns h
  exact ⟨A, cap, e, hc⟩

theorem str_add (a b : List UInt8) : (⟨a.toArray⟩ : ByteArray) ++ ⟨b.toArray⟩ = ⟨(a ++ b).toArray⟩ := by
  apply ByteArray.ext
  simp
theorem encode_low (d : UInt8) (h : d.toNat < 128) : Utf8.encode (d.toNat : Int) = ⟨#[d]⟩ := by
  have hv : Utf8.valid (d.toNat : Int) = true := by simp [Utf8.valid]; omega
  unfold Utf8.encode
  rw [hv]
  simp
  omega
set_option maxRecDepth 100000 in
set_option maxHeartbeats 4000000 in
theorem words_ref (t : List UInt8) (ht : t.length ≤ 1100) (w : World) :
    Calls Tryd.prog 22 #[str t] w (ListPost w (words t)) := by
  go_enter Tryd.func22, Tryd.ntmps22
  go_wp2_with fail
  go_loopw [3, 4, 5] (fun v u i wr => ∃ (pre : List (List UInt8)) (cur : List UInt8) (e : Nat), u = str cur ∧ i = .int .i64 (e : Int) ∧ OwnS wr w.heap.size v pre ∧ words t = pre ++ wordsFrom cur (t.drop e) ∧ e ≤ t.length ∧ pre.length ≤ e ∧ cur.length ≤ e ∧ Below w.heap.size w wr)
    (fun _ _ i _ => t.length + 1 - (intOf i).toNat)
  case atStart => exact ⟨[], [], 0, rfl, by simp, owns_nil _ _, rfl, by omega, by simp, by simp, Below.refl _ _⟩
  case round =>
    obtain ⟨pre, cur, e, rfl, rfl, hown, hwd, hel, hpl, hcl, hb⟩ := hrel
    obtain ⟨A, cap, rfl, hcap⟩ := owns_slice hown
    have HO := Lib.hid hown
    have HW := Lib.hid hwd
    have HB := Lib.hid hb
    clear hown hwd hb
    by_cases hlt : e < t.length
    · have hix : ∀ (h : e < (ByteArray.mk t.toArray).size), (⟨t.toArray⟩ : ByteArray)[e]'h = t[e] := fun _ => rfl
      cases hw : isW t[e]
      · have HC : Hid (lowR t[e] = 0) := Lib.hid (lowR_s hw)
        by_cases hc0 : cur = []
        · subst hc0
          have HN := Lib.hid (show words t = pre ++ wordsFrom [] (t.drop (e + 1)) by rw [HW.out, List.drop_eq_getElem_cons hlt, wf_s hw]; rfl)
          go_wp2_with fail
          refine (lower_ref _ _).mono ?_
          rintro e1 w1 ⟨rfl, rfl⟩
          rw [HC.out]
          go_wp2_with fail
          go_roundw
          case rel => exact ⟨pre, [], e + 1, rfl, by simp, HO.out, HN.out, by omega, by omega, by simp, HB.out⟩
          case measure => simp [intOf]; omega
        · have HN := Lib.hid (show words t = (pre ++ [cur]) ++ wordsFrom [] (t.drop (e + 1)) by rw [HW.out, List.drop_eq_getElem_cons hlt, wf_s hw, if_neg hc0, List.append_assoc])
          have hem : cur.isEmpty = false := by
            cases cur with
            | nil => exact absurd rfl hc0
            | cons x y => rfl
          clear hc0
          go_wp2_with fail
          refine (lower_ref _ _).mono ?_
          rintro e1 w1 ⟨rfl, rfl⟩
          rw [HC.out]
          go_wp2_with (at_builtin; refine wp_append rfl _ _ rfl w.heap.size _ pre rfl (HO.out.alloc _) _ [cur] rfl (strs_one _ cur _) (by simp; omega) (by have := HB.out.size; simp; omega) ?_)
          intro v' w2 hown' hg'
          have hB2 := below_grown (HB.out.alloc HB.out.size _) (by have := HB.out.size; simp; omega) (HO.out.alloc _) hg'
          have HB2 := Lib.hid hB2
          have HO2 := Lib.hid hown'
          clear hB2 hown' hg'
          go_wp2_with fail
          go_roundw
          case rel => exact ⟨pre ++ [cur], [], e + 1, rfl, by simp, HO2.out, HN.out, by omega, by simp; omega, by simp, HB2.out⟩
          case measure => simp [intOf]; omega
      · have HN := Lib.hid (show words t = pre ++ wordsFrom (cur ++ [low t[e]]) (t.drop (e + 1)) by rw [HW.out, List.drop_eq_getElem_cons hlt, wf_w hw])
        have hp := low_pos hw
        have HC : Hid (lowR t[e] = low t[e]) := Lib.hid (lowR_w hw)
        obtain ⟨d, hd⟩ : ∃ d, low t[e] = d := ⟨_, rfl⟩
        rw [hd] at hp HN HC
        clear hd
        have hE := encode_low d hp.2
        have hp0 := hp.1
        have hp1 := hp.2
        clear hp
        obtain ⟨m, hm⟩ : ∃ m, d.toNat = m := ⟨_, rfl⟩
        go_wp2_with fail
        refine (lower_ref _ _).mono ?_
        rintro e1 w1 ⟨rfl, rfl⟩
        rw [HC.out, hm]
        rw [hm] at hE hp0 hp1
        clear hm
        have hne : ((m : Int) != 0) = true := by simp; omega
        go_wp2_with fail
        go_roundw
        case rel => exact ⟨pre, cur ++ [d], e + 1, congrArg Value.string (str_add cur [d]), by simp, HO.out, HN.out, by omega, by omega, by simp; omega, HB.out⟩
        case measure => simp [intOf]; omega
    · have HE : Hid (words t = pre ++ (if cur = [] then [] else [cur])) := Lib.hid (by rw [HW.out, List.drop_eq_nil_of_le (by omega), wf_nil])
      by_cases hc0 : cur = []
      · have HN := Lib.hid (show words t = pre by rw [HE.out, if_pos hc0, List.append_nil])
        subst hc0
        go_wp2_with fail
        go_ret
        exact ⟨_, rfl, by rw [HN.out]; exact strs_own HO.out, HB.out⟩
      · have HN := Lib.hid (show words t = pre ++ [cur] by rw [HE.out, if_neg hc0])
        have hem : cur.isEmpty = false := by
          cases cur with
          | nil => exact absurd rfl hc0
          | cons x y => rfl
        clear hc0
        go_wp2_with (at_builtin; refine wp_append rfl _ _ rfl w.heap.size _ pre rfl (HO.out.alloc _) _ [cur] rfl (strs_one _ cur _) (by simp; omega) (by have := HB.out.size; simp; omega) ?_)
        intro v' w2 hown' hg'
        have hB2 := below_grown (HB.out.alloc HB.out.size _) (by have := HB.out.size; simp; omega) (HO.out.alloc _) hg'
        have HB2 := Lib.hid hB2
        have HO2 := Lib.hid hown'
        clear hB2 hown' hg'
        go_wp2_with fail
        go_ret
        exact ⟨_, rfl, by rw [HN.out]; exact strs_own HO2.out, HB2.out⟩
end Go.Proofs.YtfpegkdbimkhdaaDoor
