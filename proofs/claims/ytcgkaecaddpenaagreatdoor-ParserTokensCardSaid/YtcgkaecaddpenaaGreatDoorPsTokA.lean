/- The texts of tokens: spelled and joined, walked. -/
import Derived.Test.YtcgkaecaddpenaaGreatDoorPsHlp
namespace Go.Proofs.YtcgkaecaddpenaaGreatDoor
open Go.RowKit
open L7 (Tk lexT lx gap wr7 wrAll quo7 esc7)
open L8
set_option linter.unusedSimpArgs false

theorem escs_len : ∀ l : Txt, (l.flatMap esc7).length ≤ 2 * l.length
  | [] => by simp
  | c :: l => by
    have h := escs_len l
    have h1 : (esc7 c).length ≤ 2 := by unfold esc7; split <;> (try split) <;> simp
    rw [List.flatMap_cons, List.length_append, List.length_cons]
    omega
theorem escs_succ (x : Txt) (k : Nat) (hk : k < x.length) : (x.take (k + 1)).flatMap esc7 = (x.take k).flatMap esc7 ++ esc7 x[k] := by
  rw [List.take_succ_eq_append_getElem hk, List.flatMap_append]
  simp
set_option maxRecDepth 100000 in
set_option maxHeartbeats 8000000 in
theorem spelled_text (x : Txt) (hx : x.length ≤ 100000) (n a : Int) (w : World) : Calls Tryz.prog 18 #[.agg #[.int .i64 3, str x, .int .i64 n, .int .i64 a]] w (fun e w' => e = .returned (str (quo7 x)) ∧ Below w.heap.size w w') := by
  have hsx := sz x
  have g1 : (w.alloc (.cells #[.int .i64 3, str x, .int .i64 n, .int .i64 a] 37)).cell? ⟨w.heap.size, 1, none⟩ = some (str x) := by simp [go_sem]
  have HX := Lib.hid hx
  clear hx
  go_enter Tryz.func18, Tryz.ntmps18
  go_wp2_with fail
  go_loopw [3, 4] (fun o i wr => Below (w.alloc (.cells #[.int .i64 3, str x, .int .i64 n, .int .i64 a] 37)).heap.size (w.alloc (.cells #[.int .i64 3, str x, .int .i64 n, .int .i64 a] 37)) wr ∧ ∃ k : Nat, k ≤ x.length ∧ i = .int .i64 (k : Int) ∧ o = str (34 :: (x.take k).flatMap esc7)) (fun _ i _ => x.length - (intOf i).toNat)
  case atStart => exact ⟨Below.refl _ _, 0, by omega, by simp, by simp⟩
  case round =>
    obtain ⟨hb, k, hk, rfl, rfl⟩ := hrel
    have q1 := cellB hb g1
    have HB := Lib.hid hb
    clear hb
    have hl := escs_len (x.take k)
    rw [List.length_take] at hl
    obtain ⟨L, hL⟩ : ∃ L, 34 :: (x.take k).flatMap esc7 = L := ⟨_, rfl⟩
    have hLl : L.length ≤ 200001 := by rw [← hL, List.length_cons]; have := HX.out; omega
    rw [hL]
    have hsL := sz L
    have p1 : (9223372036854775807 < L.length + 1) = False := eq_false (by omega)
    have p2 : (9223372036854775807 < L.length + 2) = False := eq_false (by omega)
    by_cases hlt : k < x.length
    · have hs := escs_succ x k hlt
      obtain ⟨c, hc⟩ : ∃ c, x[k] = c := ⟨_, rfl⟩
      have ex : ∀ h, (⟨x.toArray⟩ : ByteArray)[k]'h = c := fun _ => hc
      have xt : (⟨x.toArray⟩ : ByteArray).extract k (k + 1) = ⟨#[c]⟩ := by rw [ext_eq, Nat.add_sub_cancel_left, List.drop_eq_getElem_cons hlt, hc]; rfl
      rw [hc] at hs
      have hxx := HX.out
      have i0 : (0 : Int) ≤ (k : Int) := by omega
      have i1 : (k : Int) < (x.length : Int) := by omega
      have i2 : IntKind.i64.wrap ((k : Int) + 1) = (k : Int) + 1 := IntWalk.i64_in _ (by omega)
      have i3 : (k : Int) + 1 ≤ (x.length : Int) := by omega
      have i4 : (0 : Int) ≤ (k : Int) + 1 := by omega
      have i5 : ((k : Int) + 1).toNat = k + 1 := by omega
      have i6 : (k : Int) ≤ (k : Int) + 1 := by omega
      clear hc hl
      by_cases h1 : c = 34 ∨ c = 92
      · have HS := Lib.hid (show 34 :: (x.take (k + 1)).flatMap esc7 = L ++ [92, c] from by rw [hs, ← hL]; unfold esc7; rw [if_pos h1]; simp)
        clear hs hL
        rcases h1 with rfl | rfl
        · go_wp2_with fail
          go_roundw
          case rel => exact ⟨HB.out, k + 1, by omega, by simp, by rw [HS.out]; exact str_eq (by simp)⟩
          case measure => simp [intOf]; omega
        · go_wp2_with fail
          go_roundw
          case rel => exact ⟨HB.out, k + 1, by omega, by simp, by rw [HS.out]; exact str_eq (by simp)⟩
          case measure => simp [intOf]; omega
      · by_cases h2 : c = 10
        · have HS := Lib.hid (show 34 :: (x.take (k + 1)).flatMap esc7 = L ++ [92, 110] from by rw [hs, ← hL]; unfold esc7; rw [if_neg h1, if_pos h2]; simp)
          clear hs hL h1
          subst h2
          go_wp2_with fail
          go_roundw
          case rel => exact ⟨HB.out, k + 1, by omega, by simp, by rw [HS.out]; exact str_eq (by simp)⟩
          case measure => simp [intOf]; omega
        · have HS := Lib.hid (show 34 :: (x.take (k + 1)).flatMap esc7 = L ++ [c] from by rw [hs, ← hL]; unfold esc7; rw [if_neg h1, if_neg h2]; simp)
          have d1 : ((c.toNat : Int) == 34) = false := (by rw [beq_eq_false_iff_ne]; exact fun e => ((fun e => h1 (.inl e))) (eq_of_int (d := 34) e))
          have d2 : ((c.toNat : Int) == 92) = false := (by rw [beq_eq_false_iff_ne]; exact fun e => ((fun e => h1 (.inr e))) (eq_of_int (d := 92) e))
          have d3 : ((c.toNat : Int) == 10) = false := (by rw [beq_eq_false_iff_ne]; exact fun e => h2 (eq_of_int (d := 10) e))
          clear hs hL h1 h2
          go_wp2_with fail
          go_roundw
          case rel => exact ⟨HB.out, k + 1, by omega, by simp, by rw [HS.out]; exact str_eq (by simp)⟩
          case measure => simp [intOf]; omega
    · have HE := Lib.hid (show quo7 x = L ++ [34] from by rw [← hL, List.take_of_length_le (by omega)]; rfl)
      have i1 : ¬ (k : Int) < (x.length : Int) := by omega
      clear hL hl
      go_wp2_with fail
      go_ret
      exact ⟨by rw [HE.out]; exact congrArg Ending.returned (str_eq (by simp)), below_from HB.out⟩
set_option maxRecDepth 100000 in
set_option maxHeartbeats 8000000 in
theorem spelled_any (t : Tk) (hx : t.text.length ≤ 100000) (w : World) : Calls Tryz.prog 18 #[.agg #[.int .i64 t.kind, str t.text, .int .i64 t.n, .int .i64 t.at_]] w (fun e w' => e = .returned (str (wr7 t)) ∧ Below w.heap.size w w') := by
  obtain ⟨k, x, n, a⟩ := t
  by_cases h : k = 3
  · subst h
    have e : wr7 ⟨3, x, n, a⟩ = quo7 x := by unfold wr7; rw [if_pos rfl]
    rw [e]
    exact spelled_text x hx n a w
  · have e : wr7 ⟨k, x, n, a⟩ = x := by unfold wr7; rw [if_neg h]
    rw [e]
    have d1 : ((k : Int) != 3) = true := by simpa using h
    clear h e hx
    go_enter Tryz.func18, Tryz.ntmps18
    go_wp2_with fail
    go_ret
    exact ⟨rfl, below_box _ _⟩
/-- Where the tokens' texts begin. -/
def offsT (ts : List Tk) (k : Nat) : List Int := (List.range k).map fun i => ((wrAll (ts.take i)).length : Int)
theorem offsT_succ (ts : List Tk) (k : Nat) : offsT ts (k + 1) = offsT ts k ++ [((wrAll (ts.take k)).length : Int)] := by
  unfold offsT
  rw [List.range_succ, List.map_append]
  rfl
theorem offsT_len (ts : List Tk) (k : Nat) : (offsT ts k).length = k := by simp [offsT]
set_option maxRecDepth 100000 in
set_option maxHeartbeats 8000000 in
theorem joined_any (v : Value) (ts : List Tk) (hl : ts.length ≤ 50000) (hL : (wrAll ts).length ≤ 100000) (hx : ∀ t ∈ ts, t.text.length ≤ 100000) (w : World) (h : Toks w v ts) :
    Calls Tryz.prog 10 #[v] w fun e w' => ∃ u, e = .returned (.tuple #[str (wrAll ts), u]) ∧ Ints w' u (offsT ts ts.length) ∧ Below w.heap.size w w' := by
  obtain ⟨A, ca, rfl, hca⟩ := Slc.form h
  obtain ⟨n, hn⟩ : ∃ n, ts.length = n := ⟨_, rfl⟩
  have HN := Lib.hid hn
  have HT := Lib.hid h
  have HL := Lib.hid hL
  have HX := Lib.hid hx
  rw [hn] at HT hca hl ⊢
  clear h hL hx hn
  go_enter Tryz.func10, Tryz.ntmps10
  go_wp2_with fail
  go_loopw [4, 5, 6] (fun y u x wr => ∃ i : Nat, i ≤ n ∧ x = .int .i64 (i : Int) ∧ y = str (wrAll (ts.take i)) ∧ wr.ownsRow w.heap.size 3 1 u i ((offsT ts i).flatMap intC) ∧ Below w.heap.size w wr) (fun _ _ x _ => n - (intOf x).toNat)
  case atStart => exact ⟨0, by omega, by simp, by simp [wrAll], World.ownsRow_nil _ _ _ _, Below.refl _ _⟩
  case round =>
    obtain ⟨u, rfl⟩ : ∃ u, u = u5 := ⟨_, rfl⟩
    obtain ⟨i, hi, rfl, rfl, hown, hb⟩ := hrel
    have HO := Lib.hid hown
    have HB := Lib.hid hb
    obtain ⟨Au, cu, rfl⟩ := own_isSl hown
    clear hown hb
    by_cases hlt : i < n
    · have hil : i < ts.length := by rw [HN.out]; exact hlt
      obtain ⟨ba, oa, ca3, hva, hca2, _⟩ := HT.out.at (by omega)
      injection hva with hva1 hva2 hva3
      subst hva1 hva3
      clear hva2
      have hW := L7.wrAll_take ts i hil
      have hle := L7.wrAll_le ts (i + 1)
      rw [hW] at hle
      have hOF := offsT_succ ts i
      obtain ⟨L, hLL⟩ : ∃ L, wrAll (ts.take i) = L := ⟨_, rfl⟩
      rw [hLL] at hW hle hOF
      rw [hLL]
      obtain ⟨tk, htk⟩ : ∃ tk, ts[i] = tk := ⟨_, rfl⟩
      rw [htk] at hW hle
      have SP := Lib.hid (fun W => spelled_any tk (htk ▸ HX.out ts[i] (List.getElem_mem hil)) W)
      have HTK := Lib.hid htk
      obtain ⟨q, hq⟩ : ∃ q, wr7 tk = q := ⟨_, rfl⟩
      rw [hq] at hW hle SP
      simp only [List.length_append, List.length_singleton] at hle
      have HW := Lib.hid hW
      have HOF := Lib.hid hOF
      have hlim := HL.out
      have hsL := sz L
      have hsq := sz q
      have i0 : (0 : Int) ≤ (i : Int) := by omega
      have i1 : (i : Int) < (n : Int) := by omega
      have i2 : IntKind.i64.wrap ((i : Int) + 1) = (i : Int) + 1 := IntWalk.i64_in _ (by omega)
      have q0 : (9223372036854775807 < q.length + 1) = False := eq_false (by omega)
      have q1 : (9223372036854775807 < L.length + (q.length + 1)) = False := eq_false (by omega)
      clear hLL htk hq hW hOF hle
      go_wp2_with (at_builtin; (refine wpList_app elemInt rfl (.tmp 13) (.tmp 16) rfl (base := w.heap.size) (by rfl) (World.ownsRow.alloc HO.out _) (by rfl) (src_one (cell_new1 wr (.int .i64 (L.length : Int)) 3) rfl) (by omega) (by have := HB.out.size; simp; omega) ?_; intro v2 w2 hown2 hg2 hat2; have HO2 := Lib.hid (show w2.ownsRow w.heap.size 3 1 v2 (i + 1) ((offsT ts (i + 1)).flatMap intC) from by rw [HOF.out, List.flatMap_append]; exact hown2); have HB2 := Lib.hid (below_app HB.out HB.out.size HO.out hg2); have ca := tk_at (HT.out.below HB2.out) i hil; rw [HTK.out] at ca; obtain ⟨z0, z1, z2, z3⟩ := ca; clear hown2 hg2 hat2))
      refine (SP.out _).mono ?_
      rintro e w3 ⟨rfl, hb3⟩
      have HB3 := Lib.hid hb3
      have HO3 := Lib.hid (own_below HO2.out hb3)
      clear hb3
      go_wp2_with fail
      go_roundw
      case rel => exact ⟨i + 1, by omega, by simp, by rw [HW.out]; exact str_eq (by simp), HO3.out, below2 HB2.out HB3.out⟩
      case measure => simp [intOf]; omega
    · have HE := Lib.hid (show wrAll (ts.take i) = wrAll ts by rw [List.take_of_length_le (by rw [HN.out]; omega)])
      rw [HE.out]
      obtain rfl : i = n := by omega
      have i1 : ¬ (i : Int) < (i : Int) := by omega
      obtain ⟨X, hX⟩ : ∃ X, wrAll ts = X := ⟨_, rfl⟩
      rw [hX]
      clear HE
      go_wp2_with fail
      go_ret2
      exact ⟨_, rfl, ints_of_own (offsT_len _ _).symm HO.out, HB.out⟩
end Go.Proofs.YtcgkaecaddpenaaGreatDoor
