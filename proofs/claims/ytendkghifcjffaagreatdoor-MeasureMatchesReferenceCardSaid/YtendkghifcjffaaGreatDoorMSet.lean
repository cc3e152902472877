/- The contracts of set and Jaccard. -/
import Derived.Test.YtendkghifcjffaaGreatDoorMNear
import Derived.Test.YtendkghifcjffaaGreatDoorPMath
import Derived.Maps.Own
import Derived.Maps.OwnSet
namespace Go.Proofs.YtendkghifcjffaaGreatDoor
open Go.RowKit

theorem key_str (x : List UInt8) (h : x.length ≤ 2000) : keyOf Tryz.prog 9 (str x) = some (.string x) := by
  simp [keyOf, Tryz.underlying9, mapKey]
  rw [sz]
  unfold maxLen
  omega
abbrev OwnM (w : World) (b n : Nat) (D : DataW Unit) : Prop := w.ownsMap Tryz.prog 9 (plainElem (H := Unit) Tryz.prog 4) b n D
theorem ownM_below {w w1 : World} {b n : Nat} {D : DataW Unit} (h : OwnM w b n D) (hb : Below w.heap.size w w1) : OwnM w1 b n D := by
  obtain ⟨es, clock, hh, r⟩ := h
  exact ⟨es, clock, (hb.block b (Array.getElem?_eq_some_iff.1 hh).1).trans hh, r⟩

set_option maxRecDepth 100000 in
theorem set_any (l : List (List UInt8)) (v : Value) (w : World) (hl : l.length ≤ 4000) (hx : ∀ x ∈ l, x.length ≤ 2000) (hs : Strs w v l) :
    Calls Tryz.prog 31 #[v] w fun e w' => e = .returned (.map (some w.heap.size)) ∧ OwnM w' w.heap.size l.length (setD l) ∧ Below w.heap.size w w' := by
  have HS := Lib.hid hs
  have HX := Lib.hid hx
  obtain ⟨A, cap, rfl, hcap, _, _⟩ := hs
  clear hx
  have hmm := @run_makeMap Tryz.prog
  go_enter Tryz.func31, Tryz.ntmps31
  go_wp2_with fail
  go_loopw [9] (fun i wr => ∃ j : Nat, i = .int .i64 (j : Int) ∧ j ≤ l.length ∧ OwnM wr w.heap.size j (setD (l.take j)) ∧ Below w.heap.size w wr) (fun i _ => l.length + 1 - (intOf i).toNat)
  case atStart => exact ⟨0, by simp, by omega, World.ownsMap_made _ _ _ _, (Below.refl _ _).alloc (Nat.le_refl _) _⟩
  case round =>
    obtain ⟨j, rfl, hj, hown, hb⟩ := hrel
    have HB := Lib.hid hb
    clear hb
    by_cases hlt : j < l.length
    · obtain ⟨A', cap', e, _, _, hc⟩ := HS.out.below HB.out
      cases e
      obtain ⟨b, off, rfl, c0⟩ := hc j hlt
      clear hc
      have HN := Lib.hid (show setD (l.take (j + 1)) = (setD (l.take j)).put (.string l[j]) (.lit (.bool true)) by rw [List.take_succ_eq_append_getElem hlt, setD_snoc])
      have hxl := HX.out l[j] (List.getElem_mem hlt)
      obtain ⟨x, hxx⟩ : ∃ x, l[j] = x := ⟨_, rfl⟩
      rw [hxx] at HN hxl c0
      clear hxx
      have hkey : keyOf Tryz.prog 9 (str x) = some (.string x) := key_str x hxl
      go_wp2_with (at_mapUpdate; refine wpList_mapUpdate_own _ rfl _ _ _ 51 rfl 9 4 (Maps.string_keyed Tryz.underlying9) Tryz.underlying51 _ w.heap.size j _ rfl hown (by unfold maxLen; omega) _ _ _ rfl rfl hkey _ [] (plainElem_bool Tryz.underlying4 true) ?_; intro w1 hown1 hgrow1)
      have HO := Lib.hid hown1
      have HG := Lib.hid hgrow1
      clear hown hown1 hgrow1
      go_wp2_with fail
      go_roundw
      case rel => exact ⟨j + 1, by simp, by omega, by rw [HN.out]; exact HO.out, HB.out.grown HG.out HB.out.size (fun k e => by have := Option.some.inj e; omega)⟩
      case measure => simp [intOf]; omega
    · have HE := Lib.hid (show l.take j = l by rw [List.take_of_length_le (by omega)])
      have HJ := Lib.hid (show j = l.length by omega)
      rw [HE.out, HJ.out] at hown
      have HO := Lib.hid hown
      clear hown
      go_wp2_with fail
      go_ret
      exact ⟨rfl, HO.out, HB.out⟩

/-- What stands when a map of the call's own has turned. -/
theorem below_turned {B b : Nat} {w wr w1 : World} (h : Below B w wr) (hB : B ≤ b) (hw : B ≤ wr.heap.size) (ht : wr.mapTurned w1 b) : Below B w w1 :=
  h.grown ht.grown hw (fun k e => by have := Option.some.inj e; omega)
theorem ownM_kept {w w1 : World} {b c n : Nat} {D : DataW Unit} (h : OwnM w b n D) (ht : w.mapTurned w1 c) (hne : b ≠ c) : OwnM w1 b n D := by
  obtain ⟨es, clock, hh, r⟩ := h
  exact ⟨es, clock, (ht.grown.block b (Array.getElem?_eq_some_iff.1 hh).1 (fun e => hne (Option.some.inj e))).trans hh, r⟩

theorem Own2.turned {w w1 : World} {b c : Nat} {n d : Int} (h : Own2 w b n d) (ht : w.mapTurned w1 c) (hne : b ≠ c) : Own2 w1 b n d := by
  have e : w1.heap[b]? = w.heap[b]? := ht.grown.block b (cellLt h.c0) (fun e => hne (Option.some.inj e))
  have c0 := h.c0
  have c1 := h.c1
  have f0 := h.f0
  have f1 := h.f1
  refine ⟨?_, ?_, ?_, ?_⟩
  · unfold World.cell? at c0 ⊢
    rw [e]
    exact c0
  · unfold World.cell? at c1 ⊢
    rw [e]
    exact c1
  · unfold World.frozen? at f0 ⊢
    rw [e]
    exact f0
  · unfold World.frozen? at f1 ⊢
    rw [e]
    exact f1

set_option maxRecDepth 100000 in
set_option maxHeartbeats 1600000 in
theorem jaccard_any (xs ys : List (List UInt8)) (v u : Value) (w : World) (hl : xs.length ≤ 4000) (hl2 : ys.length ≤ 4000) (hx : ∀ x ∈ xs, x.length ≤ 2000) (hy : ∀ x ∈ ys, x.length ≤ 2000) (hs : Strs w v xs) (hs2 : Strs w u ys) :
    Calls Tryz.prog 12 #[v, u] w fun e w' => e = .returned (rat (jacT xs ys)) ∧ Below w.heap.size w w' := by
  have HS := Lib.hid hs
  have HS2 := Lib.hid hs2
  have HY := Lib.hid hy
  have C1 := Lib.hid (fun W (h : Strs W v xs) => set_any xs v W hl hx h)
  have C2 := Lib.hid (fun W (h : Strs W u ys) => set_any ys u W hl2 hy h)
  obtain ⟨A, cap, rfl, hcap, _, _⟩ := hs
  obtain ⟨A2, cap2, rfl, hcap2, _, _⟩ := hs2
  clear hx hy
  go_enter Tryz.func12, Tryz.ntmps12
  go_wp2_with fail
  refine (C1.out _ (HS.out.below (below_box w _))).mono ?_
  rintro e w1 ⟨rfl, hm1, hb⟩
  rw [World.size_alloc] at hm1
  have R1 := Lib.hid ((own2_new w 0 0 _).below hb)
  have HB1 := Lib.hid (below_up (below_box w _) hb (by simp))
  have HZ : Hid (w.heap.size + 1 < w1.heap.size) := Lib.hid (by
    obtain ⟨es, clock, hh, _⟩ := hm1
    exact (Array.getElem?_eq_some_iff.1 hh).1)
  have HM1 := Lib.hid hm1
  clear hb hm1
  go_wp2_with fail
  refine (C2.out _ (HS2.out.below HB1.out)).mono ?_
  rintro e w2 ⟨rfl, hm2, hb⟩
  have R2 := Lib.hid (R1.out.below hb)
  have HB2 := Lib.hid (below_up HB1.out hb HB1.out.size)
  have hm1 := ownM_below HM1.out hb
  obtain ⟨b1, hb1⟩ : ∃ b1, w.heap.size + 1 = b1 := ⟨_, rfl⟩
  obtain ⟨b2, hb2⟩ : ∃ b2, w1.heap.size = b2 := ⟨_, rfl⟩
  have HZ2 : Hid (w.heap.size < b1 ∧ b1 < b2) := Lib.hid ⟨by omega, by have := HZ.out; omega⟩
  rw [hb1] at hm1
  rw [hb2] at hm2 ⊢
  rw [hb1]
  clear hb R1 HB1 HM1 C1 C2 HZ hb1 hb2
  have q1 := size_set xs
  obtain ⟨D1, hD1⟩ : ∃ D, setD xs = D := ⟨_, rfl⟩
  obtain ⟨p1, hp1⟩ : ∃ p, (dd xs).length = p := ⟨_, rfl⟩
  have HP1 := Lib.hid hp1
  have hl1 := dd_len xs
  rw [hD1] at q1 hm1
  rw [hp1] at q1 hl1
  have HD1 := Lib.hid hD1
  clear hD1 hp1
  go_wp2_with (at_len; refine wpList_len_own _ rfl _ 51 rfl 9 4 Tryz.underlying51 _ b1 xs.length D1 rfl hm1 ?_)
  have HM1 := Lib.hid hm1
  clear hm1 q1
  go_loopw [19] (fun i wr => ∃ j : Nat, i = .int .i64 (j : Int) ∧ j ≤ ys.length ∧ OwnM wr b1 xs.length (delD D1 (ys.take j)) ∧ OwnM wr b2 ys.length (setD ys) ∧ Own2 wr w.heap.size 0 0 ∧ Below w.heap.size w wr) (fun i _ => ys.length + 1 - (intOf i).toNat)
  case atStart => exact ⟨0, by simp, by omega, HM1.out, hm2, R2.out, HB2.out⟩
  case round =>
    clear HM1 hm2 R2 HB2
    obtain ⟨j, rfl, hj, hm1, hm2, hR, hb⟩ := hrel
    have HB := Lib.hid hb
    have HR := Lib.hid hR
    clear hb hR
    by_cases hlt : j < ys.length
    · obtain ⟨A', cap', e, _, _, hc⟩ := HS2.out.below HB.out
      cases e
      obtain ⟨b, off, rfl, c0⟩ := hc j hlt
      clear hc
      have HN := Lib.hid (show delD D1 (ys.take (j + 1)) = (delD D1 (ys.take j)).del (.string ys[j]) by rw [List.take_succ_eq_append_getElem hlt, delD_snoc])
      have hxl := HY.out ys[j] (List.getElem_mem hlt)
      obtain ⟨x, hxx⟩ : ∃ x, ys[j] = x := ⟨_, rfl⟩
      rw [hxx] at HN hxl c0
      clear hxx
      have hkey : keyOf Tryz.prog 9 (str x) = some (.string x) := key_str x hxl
      have HM2 := Lib.hid hm2
      clear hm2
      go_wp2_with (at_delete; refine wpList_delete_own _ rfl _ _ 51 9 rfl 4 (Maps.string_keyed Tryz.underlying9) Tryz.underlying51 _ b1 xs.length _ rfl hm1 _ _ rfl hkey ?_; intro w3 hown1 hturn1)
      have HO := Lib.hid hown1
      have HT := Lib.hid hturn1
      clear hm1 hown1 hturn1
      have HR3 := Lib.hid (HR.out.turned HT.out (by have := HZ2.out; omega))
      go_roundw
      case rel => exact ⟨j + 1, by simp, by omega, by rw [HN.out]; exact HO.out, ownM_kept HM2.out HT.out (by have := HZ2.out; omega), HR3.out, below_turned HB.out (by have := HZ2.out; omega) HB.out.size HT.out⟩
      case measure => simp [intOf]; omega
    · have HE := Lib.hid (show ys.take j = ys by rw [List.take_of_length_le (by omega)])
      rw [HE.out] at hm1
      have q1 : Maps.size (delD D1 ys) = only xs ys := by rw [← HD1.out]; exact size_del_set xs ys
      have q2 : Maps.size (setD ys) = (dd ys).length := size_set ys
      have HF := Lib.hid (show jacT xs ys = if uni xs ys = 0 then (1, 1) else shr (both xs ys) (uni xs ys) from rfl)
      have f1 := both_only xs ys
      have f2 := uni_eq xs ys
      rw [HP1.out] at f1 f2
      have l2 := dd_len ys
      obtain ⟨D2, hD2⟩ : ∃ D, delD D1 ys = D := ⟨_, rfl⟩
      obtain ⟨D3, hD3⟩ : ∃ D, setD ys = D := ⟨_, rfl⟩
      obtain ⟨o, ho⟩ : ∃ o, only xs ys = o := ⟨_, rfl⟩
      obtain ⟨p2, hp2⟩ : ∃ p, (dd ys).length = p := ⟨_, rfl⟩
      obtain ⟨k, hk⟩ : ∃ k, both xs ys = k := ⟨_, rfl⟩
      obtain ⟨s, hs⟩ : ∃ s, uni xs ys = s := ⟨_, rfl⟩
      rw [hD2] at hm1 q1
      rw [hD3] at hm2 q2
      rw [ho] at q1 f1
      rw [hp2] at q2 f2 l2
      rw [hk] at HF f1 f2
      rw [hs] at HF f2
      clear hD2 hD3 ho hp2 hk hs
      obtain ⟨r, hr⟩ : ∃ r, jacT xs ys = r := ⟨_, rfl⟩
      rw [hr] at HF
      have HRR := Lib.hid hr
      clear hr
      have hs : (o : Int) + (p2 : Int) = (s : Int) := by omega
      have hk : (p1 : Int) - (o : Int) = (k : Int) := by omega
      have hsl : s ≤ 8000 := by omega
      have hkl : k ≤ 8000 := by omega
      have ho : o ≤ 4000 := by omega
      have hp : p2 ≤ 4000 := by omega
      by_cases h0 : s = 0
      · obtain rfl : r = (1, 1) := by rw [HF.out, if_pos h0]
        subst h0
        go_wp2_with (first | (at_len; refine wpList_len_own _ rfl _ 51 rfl 9 4 Tryz.underlying51 _ b1 xs.length D2 rfl hm1 ?_) | (at_len; refine wpList_len_own _ rfl _ 51 rfl 9 4 Tryz.underlying51 _ b2 ys.length D3 rfl hm2 ?_))
        refine (share_any 1 1 (by omega) (by omega) (by omega) (by omega) _).mono ?_
        rw [shr_11]
        rintro e w3 ⟨rfl, hb⟩
        have R2 := HR.out.below hb
        have HB2 := Lib.hid (below_up HB.out hb HB.out.size)
        have r0 := R2.c0
        have r1 := R2.c1
        have f0 := R2.f0
        have f1 := R2.f1
        clear hb R2
        go_wp2_with fail
        refine bodyPost_ret (v := rat (1, 1)) (by simp [results, Tryz.results12, go_sem, r0, r1]) rfl ?_
        exact ⟨rat_ret HRR.out.symm, below_two HB2.out (Nat.le_refl _)⟩
      · have hr : shr (k : Int) (s : Int) = r := by rw [HF.out, if_neg h0]
        have h0' : ((s : Int) == 0) = false := by rw [beq_eq_false_iff_ne]; omega
        have HR3 := Lib.hid hr
        clear hr
        go_wp2_with (first | (at_len; refine wpList_len_own _ rfl _ 51 rfl 9 4 Tryz.underlying51 _ b1 xs.length D2 rfl hm1 ?_) | (at_len; refine wpList_len_own _ rfl _ 51 rfl 9 4 Tryz.underlying51 _ b2 ys.length D3 rfl hm2 ?_))
        refine (share_any (k : Int) (s : Int) (by omega) (by omega) (by omega) (by omega) _).mono ?_
        rw [HR3.out]
        rintro e w3 ⟨rfl, hb⟩
        have R2 := HR.out.below hb
        have HB2 := Lib.hid (below_up HB.out hb HB.out.size)
        have r0 := R2.c0
        have r1 := R2.c1
        have f0 := R2.f0
        have f1 := R2.f1
        clear hb R2
        go_wp2_with fail
        refine bodyPost_ret (v := rat r) (by simp [results, Tryz.results12, go_sem, r0, r1]) rfl ?_
        exact ⟨rat_ret HRR.out.symm, below_two HB2.out (Nat.le_refl _)⟩
end Go.Proofs.YtendkghifcjffaaGreatDoor
