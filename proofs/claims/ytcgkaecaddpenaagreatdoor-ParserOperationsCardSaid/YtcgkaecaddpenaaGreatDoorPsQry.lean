/- The program's query. -/
import Derived.Test.YtcgkaecaddpenaaGreatDoorPsExpr
import Derived.Deep.MidRow
namespace Go.Proofs.YtcgkaecaddpenaaGreatDoor
open Go.RowKit
open L7 (Tk)
open L8
set_option linter.unusedSimpArgs false

theorem heap_mid (b : Nat) : ∀ (vs : List Value) (o : Nat) (w : World) (i : Nat), i ≠ b → (w.setCells b o vs).heap[i]? = w.heap[i]?
  | [], _, _, _, _ => rfl
  | v :: r, o, w, i, h => by
    rw [World.setCells, heap_mid b r (o + 1) _ i h]
    exact heap_setCell_other w ⟨b, o, none⟩ i v h
theorem Blk.farMid {w : World} {b c : Nat} {t : TypeId} {cs : Array Value} (h : Blk w b t cs) (hne : b ≠ c) (o : Nat) (vs : List Value) : Blk (w.setCells c o vs) b t cs := (heap_mid c vs o w b hne).trans h
theorem Blk.mid {b : Nat} {t : TypeId} : ∀ (vs : List Value) {w : World} {cs : Array Value} (o : Nat), Blk w b t cs → o + vs.length ≤ cs.size → Blk (w.setCells b o vs) b t (cs.toList.take o ++ (vs ++ cs.toList.drop (o + vs.length))).toArray
  | [], w, cs, o, h, _ => by
    have e : (cs.toList.take o ++ ([] ++ cs.toList.drop (o + ([] : List Value).length))).toArray = cs := by simp
    rw [e]
    exact h
  | v :: r, w, cs, o, h, hl => by
    simp only [List.length_cons] at hl
    have h2 := Blk.mid r (o + 1) (h.set_ o v) (by simp; omega)
    have e : (cs.setIfInBounds o v).toList.take (o + 1) ++ (r ++ (cs.setIfInBounds o v).toList.drop (o + 1 + r.length)) = cs.toList.take o ++ (v :: r ++ cs.toList.drop (o + (v :: r).length)) := by
      rw [Array.toList_setIfInBounds]
      have hlen : o < cs.toList.length := by simp; omega
      rw [List.set_eq_take_append_cons_drop, if_pos hlen]
      have ht : (cs.toList.take o).length = o := by rw [List.length_take]; omega
      rw [List.take_append, ht, List.take_of_length_le (by rw [ht]; omega), show o + 1 - o = 1 by omega, List.take_succ_cons, List.take_zero, List.drop_append, ht, List.drop_eq_nil_of_le (by rw [ht]; omega),
        show o + 1 + r.length - o = r.length + 1 by omega, List.drop_succ_cons, List.drop_drop, List.length_cons, show o + 1 + r.length = o + (r.length + 1) by omega]
      simp
    rw [e] at h2
    exact h2
theorem Sta.mid {w : World} {p : Ps} {r : List Tk} {lv : Int} (h : Sta w p r lv) {b : Nat} (h1 : p.g < b) (h2 : p.b < b) (o : Nat) (vs : List Value) : Sta (w.setCells b o vs) p r lv :=
  h.stay (heap_mid b vs o w p.g (by omega)) (heap_mid b vs o w p.b (by omega))
theorem Tch.mid {S : Nat → Prop} {a : World} {b : Nat} (hb : a.heap.size ≤ b) : ∀ (vs : List Value) (o : Nat) {w : World}, Tch S a w → Tch S a (w.setCells b o vs)
  | [], _, _, h => h
  | v :: r, o, _, h => Tch.mid hb r (o + 1) (h.set2 (p := ⟨b, o, none⟩) hb v)
theorem Kept.mid {D b : Nat} (hb : b < D) {a : World} : ∀ (vs : List Value) (o : Nat) {w : World}, Kept D a w → Kept D a (w.setCells b o vs)
  | [], _, _, h => h
  | v :: r, o, _, h => Kept.mid hb r (o + 1) (h.set (p := ⟨b, o, none⟩) hb v)
set_option maxRecDepth 100000 in
set_option maxHeartbeats 8000000 in
theorem query_any {p : Ps} {r : List Tk} {lv : Int} (hlv : lv = 12 - ((12 : Nat) : Int)) (w : World) (h : Sta w p r lv) :
    Calls Tryz.prog 53 #[ptr p.g] w (PPost p lv w (isIt w.heap.size) (queryP r)) := by
  obtain ⟨R, hR⟩ : ∃ R, queryP r = R := ⟨_, rfl⟩
  rw [hR]
  have R0 := Lib.hid hR.symm
  have G := Lib.hid (And.intro h.lt h.lt2)
  have S0 := Lib.hid h
  have N0 := Lib.hid (Tch.refl (fun b => b = p.g) w)
  obtain ⟨A, hA⟩ : ∃ A, w.heap.size = A := ⟨_, rfl⟩
  have HA := Lib.hid hA
  rw [hA] at G
  rw [hA]
  clear hR h
  subst hlv
  go_enter Tryz.func53, Tryz.ntmps53
  go_wp2_with fail
  refine (name_any _ (S0.out.keep (below_box _ (.cells #[.int .i64 0, str [], .int .i64 0, str [], str [], .slice none 0 0, .slice none 0 0, .int .i64 0, .int .i64 0, .int .i64 0, .slice none 0 0, str [], str [], .slice none 0 0, .slice none 0 0, .slice none 0 0, .int .i64 0, str [], .slice none 0 0, .slice none 0 0, .slice none 0 0, str [], str [], .int .i64 0, .int .i64 0] 51)))).mono ?_
  intro e w1 hp
  rcases h1 : nameP r with ⟨a1, r1⟩ | ⟨b1, r1⟩
  · obtain ⟨v1, rfl, rfl, hs, hn⟩ := ppost_ok h1 hp
    have R1 := Lib.hid (R0.out.trans (bnd_ok h1))
    have S1 := Lib.hid hs
    have hA : Blk w1 A 51 #[.int .i64 0, str [], .int .i64 0, str [], str [], .slice none 0 0, .slice none 0 0, .int .i64 0, .int .i64 0, .int .i64 0, .slice none 0 0, str [], str [], .slice none 0 0, .slice none 0 0, .slice none 0 0, .int .i64 0, str [], .slice none 0 0, .slice none 0 0, .slice none 0 0, str [], str [], .int .i64 0, .int .i64 0] := by
      have q := ((Blk.new w 51 #[.int .i64 0, str [], .int .i64 0, str [], str [], .slice none 0 0, .slice none 0 0, .int .i64 0, .int .i64 0, .int .i64 0, .slice none 0 0, str [], str [], .slice none 0 0, .slice none 0 0, .slice none 0 0, .int .i64 0, str [], .slice none 0 0, .slice none 0 0, .slice none 0 0, str [], str [], .int .i64 0, .int .i64 0]) : Blk _ _ _ _)
      rw [HA.out] at q
      exact q.near hn (Nat.ne_of_gt G.out.1)
    have BA1 := Lib.hid hA
    have N1 := Lib.hid ((N0.out.trans (Tch.of_below (below_box _ (.cells #[.int .i64 0, str [], .int .i64 0, str [], str [], .slice none 0 0, .slice none 0 0, .int .i64 0, .int .i64 0, .int .i64 0, .slice none 0 0, str [], str [], .slice none 0 0, .slice none 0 0, .slice none 0 0, .int .i64 0, str [], .slice none 0 0, .slice none 0 0, .slice none 0 0, str [], str [], .int .i64 0, .int .i64 0] 51)))).trans hn)
    have Y1 := Lib.hid h1
    clear hs hn hp hA h1
    obtain ⟨B, hB⟩ : ∃ x, w1.heap.size = x := ⟨_, rfl⟩
    have HB := Lib.hid hB
    have GB := Lib.hid (show p.g < B ∧ p.b < B ∧ w.heap.size ≤ B ∧ A < B from by have q1 := (S1.out).lt; have q2 := (S1.out).lt2; have q3 := (N1.out).size; rw [hB] at q1 q2 q3; have q4 := (BA1.out).lt; have q5 := HA.out; rw [hB] at q4; exact ⟨q1, q2, q3, by omega⟩)
    go_wp2_with (refine wpList_store_new rfl 51 (.tmp 3) (.tmp 6) rfl B _ #[.int .i64 10, str a1, .int .i64 0, str [], str [], .slice none 0 0, .slice none 0 0, .int .i64 0, .int .i64 0, .int .i64 0, .slice none 0 0, str [], str [], .slice none 0 0, .slice none 0 0, .slice none 0 0, .int .i64 0, str [], .slice none 0 0, .slice none 0 0, .slice none 0 0, str [], str [], .int .i64 0, .int .i64 0] HB.out rfl rfl infoIt rfl (by simp [oc_int, oc_str, oc_slice]) ?_)
    refine (expect_one [61] (by decide) _ _ _ (by first | omega | (simp; omega) | simp) (S1.out.keep (below_box _ (.cells #[.int .i64 10, str a1, .int .i64 0, str [], str [], .slice none 0 0, .slice none 0 0, .int .i64 0, .int .i64 0, .int .i64 0, .slice none 0 0, str [], str [], .slice none 0 0, .slice none 0 0, .slice none 0 0, .int .i64 0, str [], .slice none 0 0, .slice none 0 0, .slice none 0 0, str [], str [], .int .i64 0, .int .i64 0] 51)))).mono ?_
    intro e w2 hp
    rcases h2 : expP [61] r1 with ⟨a2, r2⟩ | ⟨b2, r2⟩
    · obtain ⟨v2, rfl, rfl, hs, hn⟩ := ppost_ok h2 hp
      have R2 := Lib.hid (R1.out.trans (bnd_ok h2))
      have S2 := Lib.hid hs
      have hA : Blk w2 A 51 #[.int .i64 0, str [], .int .i64 0, str [], str [], .slice none 0 0, .slice none 0 0, .int .i64 0, .int .i64 0, .int .i64 0, .slice none 0 0, str [], str [], .slice none 0 0, .slice none 0 0, .slice none 0 0, .int .i64 0, str [], .slice none 0 0, .slice none 0 0, .slice none 0 0, str [], str [], .int .i64 0, .int .i64 0] := (BA1.out.alloc (.cells #[.int .i64 10, str a1, .int .i64 0, str [], str [], .slice none 0 0, .slice none 0 0, .int .i64 0, .int .i64 0, .int .i64 0, .slice none 0 0, str [], str [], .slice none 0 0, .slice none 0 0, .slice none 0 0, .int .i64 0, str [], .slice none 0 0, .slice none 0 0, .slice none 0 0, str [], str [], .int .i64 0, .int .i64 0] 51)).near hn (Nat.ne_of_gt G.out.1)
      have hB : Blk w2 B 51 #[.int .i64 10, str a1, .int .i64 0, str [], str [], .slice none 0 0, .slice none 0 0, .int .i64 0, .int .i64 0, .int .i64 0, .slice none 0 0, str [], str [], .slice none 0 0, .slice none 0 0, .slice none 0 0, .int .i64 0, str [], .slice none 0 0, .slice none 0 0, .slice none 0 0, str [], str [], .int .i64 0, .int .i64 0] := by
        have q := ((Blk.new w1 51 #[.int .i64 10, str a1, .int .i64 0, str [], str [], .slice none 0 0, .slice none 0 0, .int .i64 0, .int .i64 0, .int .i64 0, .slice none 0 0, str [], str [], .slice none 0 0, .slice none 0 0, .slice none 0 0, .int .i64 0, str [], .slice none 0 0, .slice none 0 0, .slice none 0 0, str [], str [], .int .i64 0, .int .i64 0]) : Blk _ _ _ _)
        rw [HB.out] at q
        exact q.near hn (Nat.ne_of_gt GB.out.1)
      have BA2 := Lib.hid hA
      have BB2 := Lib.hid hB
      have N2 := Lib.hid ((N1.out.trans (Tch.of_below (below_box _ (.cells #[.int .i64 10, str a1, .int .i64 0, str [], str [], .slice none 0 0, .slice none 0 0, .int .i64 0, .int .i64 0, .int .i64 0, .slice none 0 0, str [], str [], .slice none 0 0, .slice none 0 0, .slice none 0 0, .int .i64 0, str [], .slice none 0 0, .slice none 0 0, .slice none 0 0, str [], str [], .int .i64 0, .int .i64 0] 51)))).trans hn)
      have Y2 := Lib.hid h2
      clear hs hn hp hA hB h2
      go_wp2_with fail
      refine (expr_any 12 (by decide) _ _ S2.out).mono ?_
      intro e w3 hp
      rcases h3 : exprP 12 r2 with ⟨a3, r3⟩ | ⟨b3, r3⟩
      · obtain ⟨v3, rfl, hv3, hs, hn⟩ := ppost_ok h3 hp
        have R3 := Lib.hid (R2.out.trans (bnd_ok h3))
        obtain ⟨D3, hD3⟩ : ∃ x, w2.heap.size = x := ⟨_, rfl⟩
        have GD3 := Lib.hid (show p.g < D3 ∧ A < D3 ∧ B < D3 ∧ w.heap.size ≤ D3 from by have q0 := (S2.out).lt; have q1 := (BA2.out).lt; have q2 := (BB2.out).lt; have qq := (N2.out).size; have eA := HA.out; have eB := HB.out; omega)
        rw [hD3] at hv3
        obtain ⟨ks, cs, ns, rfl, hv3⟩ := hv3
        have h1c := Lib.hid (exL_one hv3)
        obtain ⟨⟨sA1, sn1, sc1, rfl⟩, ⟨sA2, sn2, sc2, rfl⟩, ⟨sA3, sn3, sc3, rfl⟩⟩ := hv3.isSl
        have V3 := Lib.hid hv3
        have K3_3 := Lib.hid (Kept.refl D3 w3)
        clear hv3 hD3
        have S3 := Lib.hid hs
        have hA : Blk w3 A 51 #[.int .i64 0, str [], .int .i64 0, str [], str [], .slice none 0 0, .slice none 0 0, .int .i64 0, .int .i64 0, .int .i64 0, .slice none 0 0, str [], str [], .slice none 0 0, .slice none 0 0, .slice none 0 0, .int .i64 0, str [], .slice none 0 0, .slice none 0 0, .slice none 0 0, str [], str [], .int .i64 0, .int .i64 0] := BA2.out.near hn (Nat.ne_of_gt G.out.1)
        have hB : Blk w3 B 51 #[.int .i64 10, str a1, .int .i64 0, str [], str [], .slice none 0 0, .slice none 0 0, .int .i64 0, .int .i64 0, .int .i64 0, .slice none 0 0, str [], str [], .slice none 0 0, .slice none 0 0, .slice none 0 0, .int .i64 0, str [], .slice none 0 0, .slice none 0 0, .slice none 0 0, str [], str [], .int .i64 0, .int .i64 0] := BB2.out.near hn (Nat.ne_of_gt GB.out.1)
        have BA3 := Lib.hid hA
        have BB3 := Lib.hid hB
        have N3 := Lib.hid (N2.out.trans hn)
        have Y3 := Lib.hid h3
        clear hs hn hp hA hB h3
        have hth : w3.there B 16 9 := fun j hj => ⟨by rw [BB3.out.cell (16 + j), getElem?_pos _ _ (by show 16 + j < 25; omega)]; rfl, BB3.out.frozen _⟩
        have HTH := Lib.hid hth
        clear hth
        obtain ⟨w4, hw⟩ : ∃ W, w3.setCells B 16 (exL (hd a3) (.slice sA1 sn1 sc1) (.slice sA2 sn2 sc2) (.slice sA3 sn3 sc3)).toArray.toList = W := ⟨_, rfl⟩
        have HW := Lib.hid hw
        have S4 := Lib.hid (show Sta w4 p r3 _ from hw ▸ S3.out.mid GB.out.1 GB.out.2.1 16 (exL (hd a3) (.slice sA1 sn1 sc1) (.slice sA2 sn2 sc2) (.slice sA3 sn3 sc3)))
        have hB4 : Blk w4 B 51 #[.int .i64 10, str a1, .int .i64 0, str [], str [], .slice none 0 0, .slice none 0 0, .int .i64 0, .int .i64 0, .int .i64 0, .slice none 0 0, str [], str [], .slice none 0 0, .slice none 0 0, .slice none 0 0, .int .i64 (hd a3).kind, str (hd a3).table, .slice sA1 sn1 sc1, .slice sA2 sn2 sc2, .slice sA3 sn3 sc3, str (hd a3).attr, str (hd a3).as_, .int .i64 (hd a3).agg, .int .i64 (hd a3).at_] := hw ▸ BB3.out.mid (exL (hd a3) (.slice sA1 sn1 sc1) (.slice sA2 sn2 sc2) (.slice sA3 sn3 sc3)) 16 (by show 16 + 9 ≤ 25; omega)
        have BA4 := Lib.hid (show Blk w4 A 51 #[.int .i64 0, str [], .int .i64 0, str [], str [], .slice none 0 0, .slice none 0 0, .int .i64 0, .int .i64 0, .int .i64 0, .slice none 0 0, str [], str [], .slice none 0 0, .slice none 0 0, .slice none 0 0, .int .i64 0, str [], .slice none 0 0, .slice none 0 0, .slice none 0 0, str [], str [], .int .i64 0, .int .i64 0] from hw ▸ BA3.out.farMid (Nat.ne_of_lt GB.out.2.2.2) 16 (exL (hd a3) (.slice sA1 sn1 sc1) (.slice sA2 sn2 sc2) (.slice sA3 sn3 sc3)))
        have BB4 := Lib.hid hB4
        have N4 := Lib.hid (show Near p.g w w4 from hw ▸ N3.out.mid GB.out.2.2.1 (exL (hd a3) (.slice sA1 sn1 sc1) (.slice sA2 sn2 sc2) (.slice sA3 sn3 sc3)) 16)
        have K3_4 := Lib.hid (show Kept D3 w3 w4 from hw ▸ K3_3.out.mid GD3.out.2.2.1 (exL (hd a3) (.slice sA1 sn1 sc1) (.slice sA2 sn2 sc2) (.slice sA3 sn3 sc3)) 16)
        have R4 := R3
        clear hw hB4
        go_wp2_with (refine wpList_store_mid rfl 49 (.tmp 12) (.tmp 11) rfl B 16 (exL (hd a3) (.slice sA1 sn1 sc1) (.slice sA2 sn2 sc2) (.slice sA3 sn3 sc3)).toArray rfl rfl HTH.out infoEx h1c.out ?_; rw [HW.out])
        refine (expect_one [59] (by decide) _ _ _ (by first | omega | (simp; omega) | simp) S4.out).mono ?_
        intro e w5 hp
        rcases h5 : expP [59] r3 with ⟨a5, r5⟩ | ⟨b5, r5⟩
        · obtain ⟨v5, rfl, rfl, hs, hn⟩ := ppost_ok h5 hp
          have R5 := Lib.hid (R4.out.trans (bnd_ok h5))
          have S5 := Lib.hid hs
          have hA : Blk w5 A 51 #[.int .i64 0, str [], .int .i64 0, str [], str [], .slice none 0 0, .slice none 0 0, .int .i64 0, .int .i64 0, .int .i64 0, .slice none 0 0, str [], str [], .slice none 0 0, .slice none 0 0, .slice none 0 0, .int .i64 0, str [], .slice none 0 0, .slice none 0 0, .slice none 0 0, str [], str [], .int .i64 0, .int .i64 0] := BA4.out.near hn (Nat.ne_of_gt G.out.1)
          have hB : Blk w5 B 51 #[.int .i64 10, str a1, .int .i64 0, str [], str [], .slice none 0 0, .slice none 0 0, .int .i64 0, .int .i64 0, .int .i64 0, .slice none 0 0, str [], str [], .slice none 0 0, .slice none 0 0, .slice none 0 0, .int .i64 (hd a3).kind, str (hd a3).table, .slice sA1 sn1 sc1, .slice sA2 sn2 sc2, .slice sA3 sn3 sc3, str (hd a3).attr, str (hd a3).as_, .int .i64 (hd a3).agg, .int .i64 (hd a3).at_] := BB4.out.near hn (Nat.ne_of_gt GB.out.1)
          have BA5 := Lib.hid hA
          have BB5 := Lib.hid hB
          have N5 := Lib.hid (N4.out.trans hn)
          have K3_5 := Lib.hid (K3_4.out.near hn GD3.out.1)
          have Y5 := Lib.hid h5
          clear hs hn hp hA hB h5
          have HL := Lib.hid (show Blk _ B 51 #[.int .i64 10, str a1, .int .i64 0, str [], str [], .slice none 0 0, .slice none 0 0, .int .i64 0, .int .i64 0, .int .i64 0, .slice none 0 0, str [], str [], .slice none 0 0, .slice none 0 0, .slice none 0 0, .int .i64 (hd a3).kind, str (hd a3).table, .slice sA1 sn1 sc1, .slice sA2 sn2 sc2, .slice sA3 sn3 sc3, str (hd a3).attr, str (hd a3).as_, .int .i64 (hd a3).agg, .int .i64 (hd a3).at_] from BB5.out)
          have HQ := Lib.hid BA5.out
          go_wp2_with (first | (refine wpList_load_row rfl 51 (.tmp 3) rfl B rfl _ #[.int .i64 10, str a1, .int .i64 0, str [], str [], .slice none 0 0, .slice none 0 0, .int .i64 0, .int .i64 0, .int .i64 0, .slice none 0 0, str [], str [], .slice none 0 0, .slice none 0 0, .slice none 0 0, .int .i64 (hd a3).kind, str (hd a3).table, .slice sA1 sn1 sc1, .slice sA2 sn2 sc2, .slice sA3 sn3 sc3, str (hd a3).attr, str (hd a3).as_, .int .i64 (hd a3).agg, .int .i64 (hd a3).at_] _ _ HL.out Tryz.underlying51 rfl infoIt ?_) | (refine wpList_store_row rfl 51 (.tmp 2) (.tmp 16) rfl A #[.int .i64 10, str a1, .int .i64 0, str [], str [], .slice none 0 0, .slice none 0 0, .int .i64 0, .int .i64 0, .int .i64 0, .slice none 0 0, str [], str [], .slice none 0 0, .slice none 0 0, .slice none 0 0, .int .i64 (hd a3).kind, str (hd a3).table, .slice sA1 sn1 sc1, .slice sA2 sn2 sc2, .slice sA3 sn3 sc3, str (hd a3).attr, str (hd a3).as_, .int .i64 (hd a3).agg, .int .i64 (hd a3).at_] rfl rfl _ _ HQ.out infoIt rfl (by simp [oc_int, oc_str, oc_slice, (V3.out.stay K3_5.out).isSl.1.one, (V3.out.stay K3_5.out).isSl.2.1.one, (V3.out.stay K3_5.out).isSl.2.2.one]) ?_))
          have hres := (HQ.out.row #[.int .i64 10, str a1, .int .i64 0, str [], str [], .slice none 0 0, .slice none 0 0, .int .i64 0, .int .i64 0, .int .i64 0, .slice none 0 0, str [], str [], .slice none 0 0, .slice none 0 0, .slice none 0 0, .int .i64 (hd a3).kind, str (hd a3).table, .slice sA1 sn1 sc1, .slice sA2 sn2 sc2, .slice sA3 sn3 sc3, str (hd a3).attr, str (hd a3).as_, .int .i64 (hd a3).agg, .int .i64 (hd a3).at_])
          exact bodyPost_ret (v := .agg #[.int .i64 10, str a1, .int .i64 0, str [], str [], .slice none 0 0, .slice none 0 0, .int .i64 0, .int .i64 0, .int .i64 0, .slice none 0 0, str [], str [], .slice none 0 0, .slice none 0 0, .slice none 0 0, .int .i64 (hd a3).kind, str (hd a3).table, .slice sA1 sn1 sc1, .slice sA2 sn2 sc2, .slice sA3 sn3 sc3, str (hd a3).attr, str (hd a3).as_, .int .i64 (hd a3).agg, .int .i64 (hd a3).at_]) (results_cell_row rfl _ _ A _ _ _ _ rfl hres Tryz.underlying51 rfl infoIt) rfl
            (ppost_of_ok (V := isIt A) (R5.out.trans rfl) ⟨⟨.slice none 0 0, .slice none 0 0, .slice none 0 0, .slice none 0 0, .slice none 0 0, .slice none 0 0, .slice sA1 sn1 sc1, .slice sA2 sn2 sc2, .slice sA3 sn3 sc3⟩, rfl, { cols := Lst.nil _, names := Lst.nil _, terms := Lst.nil _, fixed := Lst.nil _, vars := Lst.nil _, conds := Lst.nil _, ex := (((V3.out.stay (K3_5.out.row GD3.out.2.1 _)).lower (Nat.le_of_lt GD3.out.2.1))) }⟩ (S5.out.row G.out.1 G.out.2 _) (N5.out.row (Nat.le_of_eq HA.out) _))
        · obtain ⟨rfl, hn⟩ := ppost_bad h5 hp
          exact ⟨rfl, ppost_of_bad (R4.out.trans (bnd_bad h5)) (N4.out.trans hn)⟩
      · obtain ⟨rfl, hn⟩ := ppost_bad h3 hp
        exact ⟨rfl, ppost_of_bad (R2.out.trans (bnd_bad h3)) (N2.out.trans hn)⟩
    · obtain ⟨rfl, hn⟩ := ppost_bad h2 hp
      exact ⟨rfl, ppost_of_bad (R1.out.trans (bnd_bad h2)) ((N1.out.trans (Tch.of_below (below_box _ (.cells #[.int .i64 10, str a1, .int .i64 0, str [], str [], .slice none 0 0, .slice none 0 0, .int .i64 0, .int .i64 0, .int .i64 0, .slice none 0 0, str [], str [], .slice none 0 0, .slice none 0 0, .slice none 0 0, .int .i64 0, str [], .slice none 0 0, .slice none 0 0, .slice none 0 0, str [], str [], .int .i64 0, .int .i64 0] 51)))).trans hn)⟩
  · obtain ⟨rfl, hn⟩ := ppost_bad h1 hp
    exact ⟨rfl, ppost_of_bad (R0.out.trans (bnd_bad h1)) ((N0.out.trans (Tch.of_below (below_box _ (.cells #[.int .i64 0, str [], .int .i64 0, str [], str [], .slice none 0 0, .slice none 0 0, .int .i64 0, .int .i64 0, .int .i64 0, .slice none 0 0, str [], str [], .slice none 0 0, .slice none 0 0, .slice none 0 0, .int .i64 0, str [], .slice none 0 0, .slice none 0 0, .slice none 0 0, str [], str [], .int .i64 0, .int .i64 0] 51)))).trans hn)⟩
end Go.Proofs.YtcgkaecaddpenaaGreatDoor
