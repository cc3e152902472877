/- The fixed examples: head answers true. -/
import Derived.Test.YtcgkaecaddpenaaGreatDoorPsParse
import Derived.Test.YtcgkaecaddpenaaGreatDoorPsHeadM
namespace Go.Proofs.YtcgkaecaddpenaaGreatDoor
open Go.RowKit
open L7 (Tk)
open L8
set_option linter.unusedSimpArgs false

theorem Lst.spot {D : Nat} {α : Type} {sz : Nat} {f : α → List Value} {w : World} {v : Value} {l : List α} (h : Lst D sz f w v l) (hl : 0 < l.length) :
    ∃ b o c, v = .slice (some ⟨b, o, none⟩) l.length c ∧ l.length ≤ c ∧ ∀ i (hi : i < l.length) k, k < sz → w.cell? ⟨b, o + i * sz + k, none⟩ = (f l[i])[k]? := by
  obtain ⟨A, cap, e, hc⟩ := h.slc.form
  subst e
  obtain ⟨_, _, b, off, rfl, g⟩ := h.slc.spot hl
  exact ⟨b, off, cap, rfl, hc, g⟩
theorem Its.spot {D : Nat} {w : World} {v : Value} {l : List It} (h : Its D w v l) (hl : 0 < l.length) :
    ∃ b o c, v = .slice (some ⟨b, o, none⟩) l.length c ∧ l.length ≤ c ∧ ∀ i (hi : i < l.length), ∃ z, (∀ k, k < 25 → w.cell? ⟨b, o + i * 25 + k, none⟩ = (itL l[i] z)[k]?) ∧ ItM D w l[i] z := by
  obtain ⟨A, cap, e, hc⟩ := Slc.form h
  subst e
  obtain ⟨_, _, b, off, rfl, g⟩ := Slc.spot h hl
  exact ⟨b, off, cap, rfl, hc, fun i hi => (g i hi).2⟩
theorem Lst.none {D : Nat} {α : Type} {sz : Nat} {f : α → List Value} {w : World} {v : Value} (h : Lst D sz f w v ([] : List α)) : ∃ A c, v = .slice A 0 c := by
  obtain ⟨A, cap, e, _⟩ := h.slc.form
  exact ⟨A, cap, e⟩
theorem below_step {a c d : World} {o : Obj} (hb : Below (a.alloc o).heap.size (a.alloc o) c) (h : Below c.heap.size c d) : Below (a.alloc o).heap.size (a.alloc o) d := hb.trans (h.mono hb.size)
theorem below_from {a d : World} {o : Obj} (h : Below (a.alloc o).heap.size (a.alloc o) d) : Below a.heap.size a d := (below_box a o).trans (h.mono (by simp))
set_option maxRecDepth 100000 in
theorem hc0 (w : World) : Calls Tryz.prog 9 #[.string ⟨#[115, 111, 117, 114, 99, 101, 32, 115, 32, 116, 114, 117, 115, 116, 32, 53, 59]⟩] w (ParsePost w (hx0, 0, 0)) := by
  rw [← hp0]
  exact parse_any [115, 111, 117, 114, 99, 101, 32, 115, 32, 116, 114, 117, 115, 116, 32, 53, 59] (by decide) w
set_option maxRecDepth 100000 in
theorem hc1 (w : World) : Calls Tryz.prog 9 #[.string ⟨#[113, 117, 101, 114, 121, 32, 113, 32, 61, 32, 115, 101, 108, 101, 99, 116, 40, 115, 101, 108, 101, 99, 116, 32, 119, 104, 101, 114, 101, 32, 97, 32, 61, 32, 45, 49, 32, 43, 32, 50, 41, 59]⟩] w (ParsePost w (hx1, 0, 0)) := by
  rw [← hp1]
  exact parse_any [113, 117, 101, 114, 121, 32, 113, 32, 61, 32, 115, 101, 108, 101, 99, 116, 40, 115, 101, 108, 101, 99, 116, 32, 119, 104, 101, 114, 101, 32, 97, 32, 61, 32, 45, 49, 32, 43, 32, 50, 41, 59] (by decide) w
set_option maxRecDepth 100000 in
theorem hc2 (w : World) : Calls Tryz.prog 9 #[.string ⟨#[113, 117, 101, 114, 121, 32, 113, 32, 61, 32, 116, 40]⟩] w (ParsePost w (hx2, 4, 11)) := by
  rw [← hp2]
  exact parse_any [113, 117, 101, 114, 121, 32, 113, 32, 61, 32, 116, 40] (by decide) w
set_option maxRecDepth 100000 in
theorem hc3 (w : World) : Calls Tryz.prog 9 #[.string ⟨#[107, 101, 101, 112, 32, 116, 46, 97, 32, 98, 121]⟩] w (ParsePost w (hx3, 7, 11)) := by
  rw [← hp3]
  exact parse_any [107, 101, 101, 112, 32, 116, 46, 97, 32, 98, 121] (by decide) w
set_option maxRecDepth 100000 in
theorem hc4 (w : World) : Calls Tryz.prog 9 #[.string ⟨#[113, 117, 101, 114, 121, 32, 113, 32, 61, 32, 103, 114, 111, 117, 112, 40, 116, 32, 111, 110, 32, 119, 105, 116, 104, 32, 99, 111, 117, 110, 116, 32, 97, 115, 32, 110, 41, 59, 32, 107, 101, 101, 112, 32, 116, 46, 97, 32, 98, 121, 32, 109, 111, 115, 116, 59]⟩] w (ParsePost w (hx4, 0, 0)) := by
  rw [← hp4]
  exact parse_any [113, 117, 101, 114, 121, 32, 113, 32, 61, 32, 103, 114, 111, 117, 112, 40, 116, 32, 111, 110, 32, 119, 105, 116, 104, 32, 99, 111, 117, 110, 116, 32, 97, 115, 32, 110, 41, 59, 32, 107, 101, 101, 112, 32, 116, 46, 97, 32, 98, 121, 32, 109, 111, 115, 116, 59] (by decide) w
set_option maxRecDepth 100000 in
theorem hc5 (w : World) : Calls Tryz.prog 9 #[.string ⟨#[109, 97, 116, 99, 104, 32, 109, 32, 111, 110, 32, 116, 32, 97, 116, 32, 55, 32, 123, 32, 97, 32, 110, 101, 97, 114, 32, 51, 32, 108, 101, 97, 115, 116, 32, 49, 47, 50, 32, 103, 105, 118, 101, 115, 32, 52, 59, 32, 98, 32, 101, 100, 105, 116, 32, 108, 101, 97, 115, 116, 32, 49, 32, 103, 105, 118, 101, 115, 32, 50, 32, 116, 97, 107, 101, 115, 32, 57, 59, 32, 125, 32, 100, 101, 110, 121, 32, 100, 32, 116, 32, 120, 44, 32, 117, 32, 121, 32, 119, 104, 101, 114, 101, 32, 120, 46, 97, 32, 60, 61, 32, 121, 46, 98, 32, 45, 32, 51, 32, 97, 110, 100, 32, 116, 114, 117, 101, 32, 33, 61, 32, 120, 46, 99, 59]⟩] w (ParsePost w (hx5, 0, 0)) := by
  rw [← hp5]
  exact parse_any [109, 97, 116, 99, 104, 32, 109, 32, 111, 110, 32, 116, 32, 97, 116, 32, 55, 32, 123, 32, 97, 32, 110, 101, 97, 114, 32, 51, 32, 108, 101, 97, 115, 116, 32, 49, 47, 50, 32, 103, 105, 118, 101, 115, 32, 52, 59, 32, 98, 32, 101, 100, 105, 116, 32, 108, 101, 97, 115, 116, 32, 49, 32, 103, 105, 118, 101, 115, 32, 50, 32, 116, 97, 107, 101, 115, 32, 57, 59, 32, 125, 32, 100, 101, 110, 121, 32, 100, 32, 116, 32, 120, 44, 32, 117, 32, 121, 32, 119, 104, 101, 114, 101, 32, 120, 46, 97, 32, 60, 61, 32, 121, 46, 98, 32, 45, 32, 51, 32, 97, 110, 100, 32, 116, 114, 117, 101, 32, 33, 61, 32, 120, 46, 99, 59] (by decide) w
set_option maxRecDepth 100000 in
set_option maxHeartbeats 8000000 in
theorem head_any (w : World) : Calls Tryz.prog 7 #[] w fun e w' => e = .returned (.bool true) ∧ Below w.heap.size w w' := by
  go_enter Tryz.func7, Tryz.ntmps7
  go_wp2_with fail
  refine (hc0 _).mono ?_
  rintro e w1 ⟨v1, rfl, hi1, hb1⟩
  obtain ⟨b1, o1, c1, e1, hl1, g1⟩ := hi1.spot (by decide)
  have e1b : v1 = .slice (some ⟨b1, o1, none⟩) 1 c1 := e1
  subst e1b
  have G1 := Lib.hid g1
  clear g1
  have hl12 : 1 ≤ c1 := hl1
  clear hl1
  have HB1 := Lib.hid hb1
  clear hi1 hb1
  go_wp2_with fail
  refine (hc1 _).mono ?_
  rintro e w2 ⟨v2, rfl, hi2, hb2⟩
  obtain ⟨b2, o2, c2, e2, hl2, g2⟩ := hi2.spot (by decide)
  have e2b : v2 = .slice (some ⟨b2, o2, none⟩) 1 c2 := e2
  subst e2b
  have G2 := Lib.hid g2
  clear g2
  have hl22 : 1 ≤ c2 := hl2
  clear hl2
  have HB2 := Lib.hid hb2
  clear hi2 hb2
  go_wp2_with fail
  refine (hc2 _).mono ?_
  rintro e w3 ⟨v3, rfl, hi3, hb3⟩
  obtain ⟨A3, c3, e3, _⟩ := Slc.form hi3
  have e3b : v3 = .slice A3 0 c3 := e3
  subst e3b
  have HB3 := Lib.hid hb3
  clear hi3 hb3
  go_wp2_with fail
  refine (hc3 _).mono ?_
  rintro e w4 ⟨v4, rfl, hi4, hb4⟩
  obtain ⟨A4, c4, e4, _⟩ := Slc.form hi4
  have e4b : v4 = .slice A4 0 c4 := e4
  subst e4b
  have HB4 := Lib.hid hb4
  clear hi4 hb4
  go_wp2_with fail
  refine (hc4 _).mono ?_
  rintro e w5 ⟨v5, rfl, hi5, hb5⟩
  obtain ⟨b5, o5, c5, e5, hl5, g5⟩ := hi5.spot (by decide)
  have e5b : v5 = .slice (some ⟨b5, o5, none⟩) 2 c5 := e5
  subst e5b
  have G5 := Lib.hid g5
  clear g5
  have hl52 : 2 ≤ c5 := hl5
  clear hl5
  have HB5 := Lib.hid hb5
  clear hi5 hb5
  go_wp2_with fail
  refine (hc5 _).mono ?_
  rintro e w6 ⟨v6, rfl, hi6, hb6⟩
  obtain ⟨b6, o6, c6, e6, hl6, g6⟩ := hi6.spot (by decide)
  have e6b : v6 = .slice (some ⟨b6, o6, none⟩) 2 c6 := e6
  subst e6b
  have G6 := Lib.hid g6
  clear g6
  have hl62 : 2 ≤ c6 := hl6
  clear hl6
  have HB6 := Lib.hid hb6
  clear hi6 hb6
  have E6 := Lib.hid (Below.refl (w6.alloc (.cells #[.slice (some ⟨b6, o6, none⟩) 2 c6] 29)).heap.size (w6.alloc (.cells #[.slice (some ⟨b6, o6, none⟩) 2 c6] 29)))
  have E5 := Lib.hid (show Below (w5.alloc (.cells #[.slice (some ⟨b5, o5, none⟩) 2 c5] 29)).heap.size (w5.alloc (.cells #[.slice (some ⟨b5, o5, none⟩) 2 c5] 29)) (w6.alloc (.cells #[.slice (some ⟨b6, o6, none⟩) 2 c6] 29)) from below_step HB6.out (below_from E6.out))
  have E4 := Lib.hid (show Below (w4.alloc (.cells #[.slice A4 0 c4] 29)).heap.size (w4.alloc (.cells #[.slice A4 0 c4] 29)) (w6.alloc (.cells #[.slice (some ⟨b6, o6, none⟩) 2 c6] 29)) from below_step HB5.out (below_from E5.out))
  have E3 := Lib.hid (show Below (w3.alloc (.cells #[.slice A3 0 c3] 29)).heap.size (w3.alloc (.cells #[.slice A3 0 c3] 29)) (w6.alloc (.cells #[.slice (some ⟨b6, o6, none⟩) 2 c6] 29)) from below_step HB4.out (below_from E4.out))
  have E2 := Lib.hid (show Below (w2.alloc (.cells #[.slice (some ⟨b2, o2, none⟩) 1 c2] 29)).heap.size (w2.alloc (.cells #[.slice (some ⟨b2, o2, none⟩) 1 c2] 29)) (w6.alloc (.cells #[.slice (some ⟨b6, o6, none⟩) 2 c6] 29)) from below_step HB3.out (below_from E3.out))
  have E1 := Lib.hid (show Below (w1.alloc (.cells #[.slice (some ⟨b1, o1, none⟩) 1 c1] 29)).heap.size (w1.alloc (.cells #[.slice (some ⟨b1, o1, none⟩) 1 c1] 29)) (w6.alloc (.cells #[.slice (some ⟨b6, o6, none⟩) 2 c6] 29)) from below_step HB2.out (below_from E2.out))
  have qf0 : (w6.alloc (.cells #[.slice (some ⟨b6, o6, none⟩) 2 c6] 29)).cell? ⟨w1.heap.size, 0, none⟩ = some (.slice (some ⟨b1, o1, none⟩) 1 c1) := cellB E1.out (by simp [go_sem])
  have qf1 : (w6.alloc (.cells #[.slice (some ⟨b6, o6, none⟩) 2 c6] 29)).cell? ⟨w2.heap.size, 0, none⟩ = some (.slice (some ⟨b2, o2, none⟩) 1 c2) := cellB E2.out (by simp [go_sem])
  have qf2 : (w6.alloc (.cells #[.slice (some ⟨b6, o6, none⟩) 2 c6] 29)).cell? ⟨w5.heap.size, 0, none⟩ = some (.slice (some ⟨b5, o5, none⟩) 2 c5) := cellB E5.out (by simp [go_sem])
  have qf3 : (w6.alloc (.cells #[.slice (some ⟨b6, o6, none⟩) 2 c6] 29)).cell? ⟨w6.heap.size, 0, none⟩ = some (.slice (some ⟨b6, o6, none⟩) 2 c6) := cellB E6.out (by simp [go_sem])
  obtain ⟨z10, hc10, hm10⟩ := G1.out 0 (by decide)
  have qf4 : (w6.alloc (.cells #[.slice (some ⟨b6, o6, none⟩) 2 c6] 29)).cell? ⟨b1, o1, none⟩ = some (.int .i64 2) := cellB (below_from E1.out) ((hc10 0 (by decide)).trans rfl)
  have qf5 : (w6.alloc (.cells #[.slice (some ⟨b6, o6, none⟩) 2 c6] 29)).cell? ⟨b1, o1 + 1, none⟩ = some (str [115]) := cellB (below_from E1.out) ((hc10 1 (by decide)).trans rfl)
  have qf6 : (w6.alloc (.cells #[.slice (some ⟨b6, o6, none⟩) 2 c6] 29)).cell? ⟨b1, o1 + 8, none⟩ = some (.int .i64 5) := cellB (below_from E1.out) ((hc10 8 (by decide)).trans rfl)
  obtain ⟨z20, hc20, hm20⟩ := G2.out 0 (by decide)
  obtain ⟨zc2, zn2, zt2, zf2, zv2, zd2, zk2, zs2, zm2⟩ := z20
  obtain ⟨⟨k2, p2, kc2, kk2, kcs2, kn2, e2, hkc2, _, hk2, _⟩, hs2, hn2⟩ := hm20.ex
  simp only at e2 hs2 hn2
  subst e2
  obtain ⟨q2, s2, qc2, e2, hqc2, hq2⟩ := hs2.spot (by decide)
  have e2b : zs2 = .slice (some ⟨q2, s2, none⟩) 1 qc2 := e2
  subst e2b
  obtain ⟨N2, nc2, e2⟩ := hn2.none
  subst e2
  have qf7 : (w6.alloc (.cells #[.slice (some ⟨b6, o6, none⟩) 2 c6] 29)).cell? ⟨b2, o2 + 16, none⟩ = some (.int .i64 2) := cellB (below_from E2.out) ((hc20 16 (by decide)).trans rfl)
  have qf8 : (w6.alloc (.cells #[.slice (some ⟨b6, o6, none⟩) 2 c6] 29)).cell? ⟨b2, o2 + 17, none⟩ = some (str []) := cellB (below_from E2.out) ((hc20 17 (by decide)).trans rfl)
  have qf9 : (w6.alloc (.cells #[.slice (some ⟨b6, o6, none⟩) 2 c6] 29)).cell? ⟨b2, o2 + 18, none⟩ = some (.slice (some ⟨k2, p2, none⟩) 1 kc2) := cellB (below_from E2.out) ((hc20 18 (by decide)).trans rfl)
  have qf10 : (w6.alloc (.cells #[.slice (some ⟨b6, o6, none⟩) 2 c6] 29)).cell? ⟨b2, o2 + 19, none⟩ = some (.slice (some ⟨q2, s2, none⟩) 1 qc2) := cellB (below_from E2.out) ((hc20 19 (by decide)).trans rfl)
  have qf11 : (w6.alloc (.cells #[.slice (some ⟨b6, o6, none⟩) 2 c6] 29)).cell? ⟨b2, o2 + 20, none⟩ = some (.slice N2 0 nc2) := cellB (below_from E2.out) ((hc20 20 (by decide)).trans rfl)
  have qf12 : (w6.alloc (.cells #[.slice (some ⟨b6, o6, none⟩) 2 c6] 29)).cell? ⟨b2, o2 + 21, none⟩ = some (str []) := cellB (below_from E2.out) ((hc20 21 (by decide)).trans rfl)
  have qf13 : (w6.alloc (.cells #[.slice (some ⟨b6, o6, none⟩) 2 c6] 29)).cell? ⟨b2, o2 + 22, none⟩ = some (str []) := cellB (below_from E2.out) ((hc20 22 (by decide)).trans rfl)
  have qf14 : (w6.alloc (.cells #[.slice (some ⟨b6, o6, none⟩) 2 c6] 29)).cell? ⟨b2, o2 + 23, none⟩ = some (.int .i64 0) := cellB (below_from E2.out) ((hc20 23 (by decide)).trans rfl)
  have qf15 : (w6.alloc (.cells #[.slice (some ⟨b6, o6, none⟩) 2 c6] 29)).cell? ⟨b2, o2 + 24, none⟩ = some (.int .i64 10) := cellB (below_from E2.out) ((hc20 24 (by decide)).trans rfl)
  have qf16 : (w6.alloc (.cells #[.slice (some ⟨b6, o6, none⟩) 2 c6] 29)).cell? ⟨k2, p2 + 1, none⟩ = some (str [115, 101, 108, 101, 99, 116]) := cellB (below_from E2.out) ((hk2 1 (by decide)).trans rfl)
  have qf17 : (w6.alloc (.cells #[.slice (some ⟨b6, o6, none⟩) 2 c6] 29)).cell? ⟨q2, s2, none⟩ = some (str []) := cellB (below_from E2.out) ((hq2 0 (by decide) 0 (by decide)).trans rfl)
  have qf18 : (w6.alloc (.cells #[.slice (some ⟨b6, o6, none⟩) 2 c6] 29)).cell? ⟨q2, s2 + 1, none⟩ = some (str [97]) := cellB (below_from E2.out) ((hq2 0 (by decide) 1 (by decide)).trans rfl)
  have qf19 : (w6.alloc (.cells #[.slice (some ⟨b6, o6, none⟩) 2 c6] 29)).cell? ⟨q2, s2 + 2, none⟩ = some (.bool false) := cellB (below_from E2.out) ((hq2 0 (by decide) 2 (by decide)).trans rfl)
  have qf20 : (w6.alloc (.cells #[.slice (some ⟨b6, o6, none⟩) 2 c6] 29)).cell? ⟨q2, s2 + 3, none⟩ = some (.int .i64 0) := cellB (below_from E2.out) ((hq2 0 (by decide) 3 (by decide)).trans rfl)
  have qf21 : (w6.alloc (.cells #[.slice (some ⟨b6, o6, none⟩) 2 c6] 29)).cell? ⟨q2, s2 + 4, none⟩ = some (.int .i64 0) := cellB (below_from E2.out) ((hq2 0 (by decide) 4 (by decide)).trans rfl)
  have qf22 : (w6.alloc (.cells #[.slice (some ⟨b6, o6, none⟩) 2 c6] 29)).cell? ⟨q2, s2 + 5, none⟩ = some (str []) := cellB (below_from E2.out) ((hq2 0 (by decide) 5 (by decide)).trans rfl)
  have qf23 : (w6.alloc (.cells #[.slice (some ⟨b6, o6, none⟩) 2 c6] 29)).cell? ⟨q2, s2 + 11, none⟩ = some (.int .i64 (-1)) := cellB (below_from E2.out) ((hq2 0 (by decide) 11 (by decide)).trans rfl)
  have qf24 : (w6.alloc (.cells #[.slice (some ⟨b6, o6, none⟩) 2 c6] 29)).cell? ⟨q2, s2 + 13, none⟩ = some (.int .i64 2) := cellB (below_from E2.out) ((hq2 0 (by decide) 13 (by decide)).trans rfl)
  obtain ⟨z50, hc50, hm50⟩ := G5.out 0 (by decide)
  obtain ⟨z51, hc51, hm51⟩ := G5.out 1 (by decide)
  obtain ⟨zc5, zn5, zt5, zf5, zv5, zd5, zk5, zs5, zm5⟩ := z50
  obtain ⟨_, _, hn5⟩ := hm50.ex
  simp only at hn5
  obtain ⟨N5, nc5, e5⟩ := hn5.none
  subst e5
  have qf25 : (w6.alloc (.cells #[.slice (some ⟨b6, o6, none⟩) 2 c6] 29)).cell? ⟨b5, o5 + 20, none⟩ = some (.slice N5 0 nc5) := cellB (below_from E5.out) ((hc50 20 (by decide)).trans rfl)
  have qf26 : (w6.alloc (.cells #[.slice (some ⟨b6, o6, none⟩) 2 c6] 29)).cell? ⟨b5, o5 + 23, none⟩ = some (.int .i64 1) := cellB (below_from E5.out) ((hc50 23 (by decide)).trans rfl)
  have qf27 : (w6.alloc (.cells #[.slice (some ⟨b6, o6, none⟩) 2 c6] 29)).cell? ⟨b5, o5 + 27, none⟩ = some (.int .i64 39) := cellB (below_from E5.out) ((hc51 2 (by decide)).trans rfl)
  have qf28 : (w6.alloc (.cells #[.slice (some ⟨b6, o6, none⟩) 2 c6] 29)).cell? ⟨b5, o5 + 32, none⟩ = some (.int .i64 2) := cellB (below_from E5.out) ((hc51 7 (by decide)).trans rfl)
  obtain ⟨z60, hc60, hm60⟩ := G6.out 0 (by decide)
  obtain ⟨z61, hc61, hm61⟩ := G6.out 1 (by decide)
  obtain ⟨zc6, zn6, zt6, zf6, zv6, zd6, zk6, zs6, zm6⟩ := z60
  obtain ⟨yc6, yn6, yt6, yf6, yv6, yd6, yk6, ys6, ym6⟩ := z61
  obtain ⟨t6, u6, tc6, e6, htc6, ht6⟩ := hm60.terms.spot (by decide)
  have e6b : zt6 = .slice (some ⟨t6, u6, none⟩) 2 tc6 := e6
  subst e6b
  obtain ⟨q6, s6, qc6, e6, hqc6, hq6⟩ := hm61.conds.spot (by decide)
  have e6b : yd6 = .slice (some ⟨q6, s6, none⟩) 2 qc6 := e6
  subst e6b
  obtain ⟨v6, x6, vc6, e6, hvc6, hv6⟩ := hm61.vars.spot (by decide)
  have e6b : yv6 = .slice (some ⟨v6, x6, none⟩) 2 vc6 := e6
  subst e6b
  have qf29 : (w6.alloc (.cells #[.slice (some ⟨b6, o6, none⟩) 2 c6] 29)).cell? ⟨b6, o6 + 10, none⟩ = some (.slice (some ⟨t6, u6, none⟩) 2 tc6) := cellB (below_from E6.out) ((hc60 10 (by decide)).trans rfl)
  have qf30 : (w6.alloc (.cells #[.slice (some ⟨b6, o6, none⟩) 2 c6] 29)).cell? ⟨b6, o6 + 39, none⟩ = some (.slice (some ⟨v6, x6, none⟩) 2 vc6) := cellB (below_from E6.out) ((hc61 14 (by decide)).trans rfl)
  have qf31 : (w6.alloc (.cells #[.slice (some ⟨b6, o6, none⟩) 2 c6] 29)).cell? ⟨b6, o6 + 40, none⟩ = some (.slice (some ⟨q6, s6, none⟩) 2 qc6) := cellB (below_from E6.out) ((hc61 15 (by decide)).trans rfl)
  have qf32 : (w6.alloc (.cells #[.slice (some ⟨b6, o6, none⟩) 2 c6] 29)).cell? ⟨t6, u6, none⟩ = some (str [97]) := cellB (below_from E6.out) ((ht6 0 (by decide) 0 (by decide)).trans rfl)
  have qf33 : (w6.alloc (.cells #[.slice (some ⟨b6, o6, none⟩) 2 c6] 29)).cell? ⟨t6, u6 + 1, none⟩ = some (.int .i64 5) := cellB (below_from E6.out) ((ht6 0 (by decide) 1 (by decide)).trans rfl)
  have qf34 : (w6.alloc (.cells #[.slice (some ⟨b6, o6, none⟩) 2 c6] 29)).cell? ⟨t6, u6 + 2, none⟩ = some (.int .i64 3) := cellB (below_from E6.out) ((ht6 0 (by decide) 2 (by decide)).trans rfl)
  have qf35 : (w6.alloc (.cells #[.slice (some ⟨b6, o6, none⟩) 2 c6] 29)).cell? ⟨t6, u6 + 3, none⟩ = some (.int .i64 1) := cellB (below_from E6.out) ((ht6 0 (by decide) 3 (by decide)).trans rfl)
  have qf36 : (w6.alloc (.cells #[.slice (some ⟨b6, o6, none⟩) 2 c6] 29)).cell? ⟨t6, u6 + 4, none⟩ = some (.int .i64 2) := cellB (below_from E6.out) ((ht6 0 (by decide) 4 (by decide)).trans rfl)
  have qf37 : (w6.alloc (.cells #[.slice (some ⟨b6, o6, none⟩) 2 c6] 29)).cell? ⟨t6, u6 + 5, none⟩ = some (.int .i64 4) := cellB (below_from E6.out) ((ht6 0 (by decide) 5 (by decide)).trans rfl)
  have qf38 : (w6.alloc (.cells #[.slice (some ⟨b6, o6, none⟩) 2 c6] 29)).cell? ⟨t6, u6 + 6, none⟩ = some (.int .i64 0) := cellB (below_from E6.out) ((ht6 0 (by decide) 6 (by decide)).trans rfl)
  have qf39 : (w6.alloc (.cells #[.slice (some ⟨b6, o6, none⟩) 2 c6] 29)).cell? ⟨t6, u6 + 13, none⟩ = some (.int .i64 9) := cellB (below_from E6.out) ((ht6 1 (by decide) 6 (by decide)).trans rfl)
  have qf40 : (w6.alloc (.cells #[.slice (some ⟨b6, o6, none⟩) 2 c6] 29)).cell? ⟨q6, s6, none⟩ = some (str [120]) := cellB (below_from E6.out) ((hq6 0 (by decide) 0 (by decide)).trans rfl)
  have qf41 : (w6.alloc (.cells #[.slice (some ⟨b6, o6, none⟩) 2 c6] 29)).cell? ⟨q6, s6 + 1, none⟩ = some (str [97]) := cellB (below_from E6.out) ((hq6 0 (by decide) 1 (by decide)).trans rfl)
  have qf42 : (w6.alloc (.cells #[.slice (some ⟨b6, o6, none⟩) 2 c6] 29)).cell? ⟨q6, s6 + 2, none⟩ = some (.bool false) := cellB (below_from E6.out) ((hq6 0 (by decide) 2 (by decide)).trans rfl)
  have qf43 : (w6.alloc (.cells #[.slice (some ⟨b6, o6, none⟩) 2 c6] 29)).cell? ⟨q6, s6 + 3, none⟩ = some (.int .i64 0) := cellB (below_from E6.out) ((hq6 0 (by decide) 3 (by decide)).trans rfl)
  have qf44 : (w6.alloc (.cells #[.slice (some ⟨b6, o6, none⟩) 2 c6] 29)).cell? ⟨q6, s6 + 4, none⟩ = some (.int .i64 0) := cellB (below_from E6.out) ((hq6 0 (by decide) 4 (by decide)).trans rfl)
  have qf45 : (w6.alloc (.cells #[.slice (some ⟨b6, o6, none⟩) 2 c6] 29)).cell? ⟨q6, s6 + 5, none⟩ = some (str []) := cellB (below_from E6.out) ((hq6 0 (by decide) 5 (by decide)).trans rfl)
  have qf46 : (w6.alloc (.cells #[.slice (some ⟨b6, o6, none⟩) 2 c6] 29)).cell? ⟨q6, s6 + 6, none⟩ = some (.int .i64 4) := cellB (below_from E6.out) ((hq6 0 (by decide) 6 (by decide)).trans rfl)
  have qf47 : (w6.alloc (.cells #[.slice (some ⟨b6, o6, none⟩) 2 c6] 29)).cell? ⟨q6, s6 + 7, none⟩ = some (str [121]) := cellB (below_from E6.out) ((hq6 0 (by decide) 7 (by decide)).trans rfl)
  have qf48 : (w6.alloc (.cells #[.slice (some ⟨b6, o6, none⟩) 2 c6] 29)).cell? ⟨q6, s6 + 8, none⟩ = some (str [98]) := cellB (below_from E6.out) ((hq6 0 (by decide) 8 (by decide)).trans rfl)
  have qf49 : (w6.alloc (.cells #[.slice (some ⟨b6, o6, none⟩) 2 c6] 29)).cell? ⟨q6, s6 + 9, none⟩ = some (.bool false) := cellB (below_from E6.out) ((hq6 0 (by decide) 9 (by decide)).trans rfl)
  have qf50 : (w6.alloc (.cells #[.slice (some ⟨b6, o6, none⟩) 2 c6] 29)).cell? ⟨q6, s6 + 10, none⟩ = some (.int .i64 0) := cellB (below_from E6.out) ((hq6 0 (by decide) 10 (by decide)).trans rfl)
  have qf51 : (w6.alloc (.cells #[.slice (some ⟨b6, o6, none⟩) 2 c6] 29)).cell? ⟨q6, s6 + 11, none⟩ = some (.int .i64 0) := cellB (below_from E6.out) ((hq6 0 (by decide) 11 (by decide)).trans rfl)
  have qf52 : (w6.alloc (.cells #[.slice (some ⟨b6, o6, none⟩) 2 c6] 29)).cell? ⟨q6, s6 + 12, none⟩ = some (str []) := cellB (below_from E6.out) ((hq6 0 (by decide) 12 (by decide)).trans rfl)
  have qf53 : (w6.alloc (.cells #[.slice (some ⟨b6, o6, none⟩) 2 c6] 29)).cell? ⟨q6, s6 + 13, none⟩ = some (.int .i64 (-3)) := cellB (below_from E6.out) ((hq6 0 (by decide) 13 (by decide)).trans rfl)
  have qf54 : (w6.alloc (.cells #[.slice (some ⟨b6, o6, none⟩) 2 c6] 29)).cell? ⟨q6, s6 + 16, none⟩ = some (.bool true) := cellB (below_from E6.out) ((hq6 1 (by decide) 2 (by decide)).trans rfl)
  have qf0a := fun ob => cellB (below_box (w6.alloc (.cells #[.slice (some ⟨b6, o6, none⟩) 2 c6] 29)) ob) qf0
  have qf1a := fun ob => cellB (below_box (w6.alloc (.cells #[.slice (some ⟨b6, o6, none⟩) 2 c6] 29)) ob) qf1
  have qf2a := fun ob => cellB (below_box (w6.alloc (.cells #[.slice (some ⟨b6, o6, none⟩) 2 c6] 29)) ob) qf2
  have qf3a := fun ob => cellB (below_box (w6.alloc (.cells #[.slice (some ⟨b6, o6, none⟩) 2 c6] 29)) ob) qf3
  have qf4a := fun ob => cellB (below_box (w6.alloc (.cells #[.slice (some ⟨b6, o6, none⟩) 2 c6] 29)) ob) qf4
  have qf5a := fun ob => cellB (below_box (w6.alloc (.cells #[.slice (some ⟨b6, o6, none⟩) 2 c6] 29)) ob) qf5
  have qf6a := fun ob => cellB (below_box (w6.alloc (.cells #[.slice (some ⟨b6, o6, none⟩) 2 c6] 29)) ob) qf6
  have qf7a := fun ob => cellB (below_box (w6.alloc (.cells #[.slice (some ⟨b6, o6, none⟩) 2 c6] 29)) ob) qf7
  have qf8a := fun ob => cellB (below_box (w6.alloc (.cells #[.slice (some ⟨b6, o6, none⟩) 2 c6] 29)) ob) qf8
  have qf9a := fun ob => cellB (below_box (w6.alloc (.cells #[.slice (some ⟨b6, o6, none⟩) 2 c6] 29)) ob) qf9
  have qf10a := fun ob => cellB (below_box (w6.alloc (.cells #[.slice (some ⟨b6, o6, none⟩) 2 c6] 29)) ob) qf10
  have qf11a := fun ob => cellB (below_box (w6.alloc (.cells #[.slice (some ⟨b6, o6, none⟩) 2 c6] 29)) ob) qf11
  have qf12a := fun ob => cellB (below_box (w6.alloc (.cells #[.slice (some ⟨b6, o6, none⟩) 2 c6] 29)) ob) qf12
  have qf13a := fun ob => cellB (below_box (w6.alloc (.cells #[.slice (some ⟨b6, o6, none⟩) 2 c6] 29)) ob) qf13
  have qf14a := fun ob => cellB (below_box (w6.alloc (.cells #[.slice (some ⟨b6, o6, none⟩) 2 c6] 29)) ob) qf14
  have qf15a := fun ob => cellB (below_box (w6.alloc (.cells #[.slice (some ⟨b6, o6, none⟩) 2 c6] 29)) ob) qf15
  have qf16a := fun ob => cellB (below_box (w6.alloc (.cells #[.slice (some ⟨b6, o6, none⟩) 2 c6] 29)) ob) qf16
  have qf17a := fun ob => cellB (below_box (w6.alloc (.cells #[.slice (some ⟨b6, o6, none⟩) 2 c6] 29)) ob) qf17
  have qf18a := fun ob => cellB (below_box (w6.alloc (.cells #[.slice (some ⟨b6, o6, none⟩) 2 c6] 29)) ob) qf18
  have qf19a := fun ob => cellB (below_box (w6.alloc (.cells #[.slice (some ⟨b6, o6, none⟩) 2 c6] 29)) ob) qf19
  have qf20a := fun ob => cellB (below_box (w6.alloc (.cells #[.slice (some ⟨b6, o6, none⟩) 2 c6] 29)) ob) qf20
  have qf21a := fun ob => cellB (below_box (w6.alloc (.cells #[.slice (some ⟨b6, o6, none⟩) 2 c6] 29)) ob) qf21
  have qf22a := fun ob => cellB (below_box (w6.alloc (.cells #[.slice (some ⟨b6, o6, none⟩) 2 c6] 29)) ob) qf22
  have qf23a := fun ob => cellB (below_box (w6.alloc (.cells #[.slice (some ⟨b6, o6, none⟩) 2 c6] 29)) ob) qf23
  have qf24a := fun ob => cellB (below_box (w6.alloc (.cells #[.slice (some ⟨b6, o6, none⟩) 2 c6] 29)) ob) qf24
  have qf25a := fun ob => cellB (below_box (w6.alloc (.cells #[.slice (some ⟨b6, o6, none⟩) 2 c6] 29)) ob) qf25
  have qf26a := fun ob => cellB (below_box (w6.alloc (.cells #[.slice (some ⟨b6, o6, none⟩) 2 c6] 29)) ob) qf26
  have qf27a := fun ob => cellB (below_box (w6.alloc (.cells #[.slice (some ⟨b6, o6, none⟩) 2 c6] 29)) ob) qf27
  have qf28a := fun ob => cellB (below_box (w6.alloc (.cells #[.slice (some ⟨b6, o6, none⟩) 2 c6] 29)) ob) qf28
  have qf29a := fun ob => cellB (below_box (w6.alloc (.cells #[.slice (some ⟨b6, o6, none⟩) 2 c6] 29)) ob) qf29
  have qf30a := fun ob => cellB (below_box (w6.alloc (.cells #[.slice (some ⟨b6, o6, none⟩) 2 c6] 29)) ob) qf30
  have qf31a := fun ob => cellB (below_box (w6.alloc (.cells #[.slice (some ⟨b6, o6, none⟩) 2 c6] 29)) ob) qf31
  have qf32a := fun ob => cellB (below_box (w6.alloc (.cells #[.slice (some ⟨b6, o6, none⟩) 2 c6] 29)) ob) qf32
  have qf33a := fun ob => cellB (below_box (w6.alloc (.cells #[.slice (some ⟨b6, o6, none⟩) 2 c6] 29)) ob) qf33
  have qf34a := fun ob => cellB (below_box (w6.alloc (.cells #[.slice (some ⟨b6, o6, none⟩) 2 c6] 29)) ob) qf34
  have qf35a := fun ob => cellB (below_box (w6.alloc (.cells #[.slice (some ⟨b6, o6, none⟩) 2 c6] 29)) ob) qf35
  have qf36a := fun ob => cellB (below_box (w6.alloc (.cells #[.slice (some ⟨b6, o6, none⟩) 2 c6] 29)) ob) qf36
  have qf37a := fun ob => cellB (below_box (w6.alloc (.cells #[.slice (some ⟨b6, o6, none⟩) 2 c6] 29)) ob) qf37
  have qf38a := fun ob => cellB (below_box (w6.alloc (.cells #[.slice (some ⟨b6, o6, none⟩) 2 c6] 29)) ob) qf38
  have qf39a := fun ob => cellB (below_box (w6.alloc (.cells #[.slice (some ⟨b6, o6, none⟩) 2 c6] 29)) ob) qf39
  have qf40a := fun ob => cellB (below_box (w6.alloc (.cells #[.slice (some ⟨b6, o6, none⟩) 2 c6] 29)) ob) qf40
  have qf41a := fun ob => cellB (below_box (w6.alloc (.cells #[.slice (some ⟨b6, o6, none⟩) 2 c6] 29)) ob) qf41
  have qf42a := fun ob => cellB (below_box (w6.alloc (.cells #[.slice (some ⟨b6, o6, none⟩) 2 c6] 29)) ob) qf42
  have qf43a := fun ob => cellB (below_box (w6.alloc (.cells #[.slice (some ⟨b6, o6, none⟩) 2 c6] 29)) ob) qf43
  have qf44a := fun ob => cellB (below_box (w6.alloc (.cells #[.slice (some ⟨b6, o6, none⟩) 2 c6] 29)) ob) qf44
  have qf45a := fun ob => cellB (below_box (w6.alloc (.cells #[.slice (some ⟨b6, o6, none⟩) 2 c6] 29)) ob) qf45
  have qf46a := fun ob => cellB (below_box (w6.alloc (.cells #[.slice (some ⟨b6, o6, none⟩) 2 c6] 29)) ob) qf46
  have qf47a := fun ob => cellB (below_box (w6.alloc (.cells #[.slice (some ⟨b6, o6, none⟩) 2 c6] 29)) ob) qf47
  have qf48a := fun ob => cellB (below_box (w6.alloc (.cells #[.slice (some ⟨b6, o6, none⟩) 2 c6] 29)) ob) qf48
  have qf49a := fun ob => cellB (below_box (w6.alloc (.cells #[.slice (some ⟨b6, o6, none⟩) 2 c6] 29)) ob) qf49
  have qf50a := fun ob => cellB (below_box (w6.alloc (.cells #[.slice (some ⟨b6, o6, none⟩) 2 c6] 29)) ob) qf50
  have qf51a := fun ob => cellB (below_box (w6.alloc (.cells #[.slice (some ⟨b6, o6, none⟩) 2 c6] 29)) ob) qf51
  have qf52a := fun ob => cellB (below_box (w6.alloc (.cells #[.slice (some ⟨b6, o6, none⟩) 2 c6] 29)) ob) qf52
  have qf53a := fun ob => cellB (below_box (w6.alloc (.cells #[.slice (some ⟨b6, o6, none⟩) 2 c6] 29)) ob) qf53
  have qf54a := fun ob => cellB (below_box (w6.alloc (.cells #[.slice (some ⟨b6, o6, none⟩) 2 c6] 29)) ob) qf54
  have qf0b := fun ob ob2 => cellB (below_box (World.alloc (w6.alloc (.cells #[.slice (some ⟨b6, o6, none⟩) 2 c6] 29)) ob) ob2) (qf0a ob)
  have qf1b := fun ob ob2 => cellB (below_box (World.alloc (w6.alloc (.cells #[.slice (some ⟨b6, o6, none⟩) 2 c6] 29)) ob) ob2) (qf1a ob)
  have qf2b := fun ob ob2 => cellB (below_box (World.alloc (w6.alloc (.cells #[.slice (some ⟨b6, o6, none⟩) 2 c6] 29)) ob) ob2) (qf2a ob)
  have qf3b := fun ob ob2 => cellB (below_box (World.alloc (w6.alloc (.cells #[.slice (some ⟨b6, o6, none⟩) 2 c6] 29)) ob) ob2) (qf3a ob)
  have qf4b := fun ob ob2 => cellB (below_box (World.alloc (w6.alloc (.cells #[.slice (some ⟨b6, o6, none⟩) 2 c6] 29)) ob) ob2) (qf4a ob)
  have qf5b := fun ob ob2 => cellB (below_box (World.alloc (w6.alloc (.cells #[.slice (some ⟨b6, o6, none⟩) 2 c6] 29)) ob) ob2) (qf5a ob)
  have qf6b := fun ob ob2 => cellB (below_box (World.alloc (w6.alloc (.cells #[.slice (some ⟨b6, o6, none⟩) 2 c6] 29)) ob) ob2) (qf6a ob)
  have qf7b := fun ob ob2 => cellB (below_box (World.alloc (w6.alloc (.cells #[.slice (some ⟨b6, o6, none⟩) 2 c6] 29)) ob) ob2) (qf7a ob)
  have qf8b := fun ob ob2 => cellB (below_box (World.alloc (w6.alloc (.cells #[.slice (some ⟨b6, o6, none⟩) 2 c6] 29)) ob) ob2) (qf8a ob)
  have qf9b := fun ob ob2 => cellB (below_box (World.alloc (w6.alloc (.cells #[.slice (some ⟨b6, o6, none⟩) 2 c6] 29)) ob) ob2) (qf9a ob)
  have qf10b := fun ob ob2 => cellB (below_box (World.alloc (w6.alloc (.cells #[.slice (some ⟨b6, o6, none⟩) 2 c6] 29)) ob) ob2) (qf10a ob)
  have qf11b := fun ob ob2 => cellB (below_box (World.alloc (w6.alloc (.cells #[.slice (some ⟨b6, o6, none⟩) 2 c6] 29)) ob) ob2) (qf11a ob)
  have qf12b := fun ob ob2 => cellB (below_box (World.alloc (w6.alloc (.cells #[.slice (some ⟨b6, o6, none⟩) 2 c6] 29)) ob) ob2) (qf12a ob)
  have qf13b := fun ob ob2 => cellB (below_box (World.alloc (w6.alloc (.cells #[.slice (some ⟨b6, o6, none⟩) 2 c6] 29)) ob) ob2) (qf13a ob)
  have qf14b := fun ob ob2 => cellB (below_box (World.alloc (w6.alloc (.cells #[.slice (some ⟨b6, o6, none⟩) 2 c6] 29)) ob) ob2) (qf14a ob)
  have qf15b := fun ob ob2 => cellB (below_box (World.alloc (w6.alloc (.cells #[.slice (some ⟨b6, o6, none⟩) 2 c6] 29)) ob) ob2) (qf15a ob)
  have qf16b := fun ob ob2 => cellB (below_box (World.alloc (w6.alloc (.cells #[.slice (some ⟨b6, o6, none⟩) 2 c6] 29)) ob) ob2) (qf16a ob)
  have qf17b := fun ob ob2 => cellB (below_box (World.alloc (w6.alloc (.cells #[.slice (some ⟨b6, o6, none⟩) 2 c6] 29)) ob) ob2) (qf17a ob)
  have qf18b := fun ob ob2 => cellB (below_box (World.alloc (w6.alloc (.cells #[.slice (some ⟨b6, o6, none⟩) 2 c6] 29)) ob) ob2) (qf18a ob)
  have qf19b := fun ob ob2 => cellB (below_box (World.alloc (w6.alloc (.cells #[.slice (some ⟨b6, o6, none⟩) 2 c6] 29)) ob) ob2) (qf19a ob)
  have qf20b := fun ob ob2 => cellB (below_box (World.alloc (w6.alloc (.cells #[.slice (some ⟨b6, o6, none⟩) 2 c6] 29)) ob) ob2) (qf20a ob)
  have qf21b := fun ob ob2 => cellB (below_box (World.alloc (w6.alloc (.cells #[.slice (some ⟨b6, o6, none⟩) 2 c6] 29)) ob) ob2) (qf21a ob)
  have qf22b := fun ob ob2 => cellB (below_box (World.alloc (w6.alloc (.cells #[.slice (some ⟨b6, o6, none⟩) 2 c6] 29)) ob) ob2) (qf22a ob)
  have qf23b := fun ob ob2 => cellB (below_box (World.alloc (w6.alloc (.cells #[.slice (some ⟨b6, o6, none⟩) 2 c6] 29)) ob) ob2) (qf23a ob)
  have qf24b := fun ob ob2 => cellB (below_box (World.alloc (w6.alloc (.cells #[.slice (some ⟨b6, o6, none⟩) 2 c6] 29)) ob) ob2) (qf24a ob)
  have qf25b := fun ob ob2 => cellB (below_box (World.alloc (w6.alloc (.cells #[.slice (some ⟨b6, o6, none⟩) 2 c6] 29)) ob) ob2) (qf25a ob)
  have qf26b := fun ob ob2 => cellB (below_box (World.alloc (w6.alloc (.cells #[.slice (some ⟨b6, o6, none⟩) 2 c6] 29)) ob) ob2) (qf26a ob)
  have qf27b := fun ob ob2 => cellB (below_box (World.alloc (w6.alloc (.cells #[.slice (some ⟨b6, o6, none⟩) 2 c6] 29)) ob) ob2) (qf27a ob)
  have qf28b := fun ob ob2 => cellB (below_box (World.alloc (w6.alloc (.cells #[.slice (some ⟨b6, o6, none⟩) 2 c6] 29)) ob) ob2) (qf28a ob)
  have qf29b := fun ob ob2 => cellB (below_box (World.alloc (w6.alloc (.cells #[.slice (some ⟨b6, o6, none⟩) 2 c6] 29)) ob) ob2) (qf29a ob)
  have qf30b := fun ob ob2 => cellB (below_box (World.alloc (w6.alloc (.cells #[.slice (some ⟨b6, o6, none⟩) 2 c6] 29)) ob) ob2) (qf30a ob)
  have qf31b := fun ob ob2 => cellB (below_box (World.alloc (w6.alloc (.cells #[.slice (some ⟨b6, o6, none⟩) 2 c6] 29)) ob) ob2) (qf31a ob)
  have qf32b := fun ob ob2 => cellB (below_box (World.alloc (w6.alloc (.cells #[.slice (some ⟨b6, o6, none⟩) 2 c6] 29)) ob) ob2) (qf32a ob)
  have qf33b := fun ob ob2 => cellB (below_box (World.alloc (w6.alloc (.cells #[.slice (some ⟨b6, o6, none⟩) 2 c6] 29)) ob) ob2) (qf33a ob)
  have qf34b := fun ob ob2 => cellB (below_box (World.alloc (w6.alloc (.cells #[.slice (some ⟨b6, o6, none⟩) 2 c6] 29)) ob) ob2) (qf34a ob)
  have qf35b := fun ob ob2 => cellB (below_box (World.alloc (w6.alloc (.cells #[.slice (some ⟨b6, o6, none⟩) 2 c6] 29)) ob) ob2) (qf35a ob)
  have qf36b := fun ob ob2 => cellB (below_box (World.alloc (w6.alloc (.cells #[.slice (some ⟨b6, o6, none⟩) 2 c6] 29)) ob) ob2) (qf36a ob)
  have qf37b := fun ob ob2 => cellB (below_box (World.alloc (w6.alloc (.cells #[.slice (some ⟨b6, o6, none⟩) 2 c6] 29)) ob) ob2) (qf37a ob)
  have qf38b := fun ob ob2 => cellB (below_box (World.alloc (w6.alloc (.cells #[.slice (some ⟨b6, o6, none⟩) 2 c6] 29)) ob) ob2) (qf38a ob)
  have qf39b := fun ob ob2 => cellB (below_box (World.alloc (w6.alloc (.cells #[.slice (some ⟨b6, o6, none⟩) 2 c6] 29)) ob) ob2) (qf39a ob)
  have qf40b := fun ob ob2 => cellB (below_box (World.alloc (w6.alloc (.cells #[.slice (some ⟨b6, o6, none⟩) 2 c6] 29)) ob) ob2) (qf40a ob)
  have qf41b := fun ob ob2 => cellB (below_box (World.alloc (w6.alloc (.cells #[.slice (some ⟨b6, o6, none⟩) 2 c6] 29)) ob) ob2) (qf41a ob)
  have qf42b := fun ob ob2 => cellB (below_box (World.alloc (w6.alloc (.cells #[.slice (some ⟨b6, o6, none⟩) 2 c6] 29)) ob) ob2) (qf42a ob)
  have qf43b := fun ob ob2 => cellB (below_box (World.alloc (w6.alloc (.cells #[.slice (some ⟨b6, o6, none⟩) 2 c6] 29)) ob) ob2) (qf43a ob)
  have qf44b := fun ob ob2 => cellB (below_box (World.alloc (w6.alloc (.cells #[.slice (some ⟨b6, o6, none⟩) 2 c6] 29)) ob) ob2) (qf44a ob)
  have qf45b := fun ob ob2 => cellB (below_box (World.alloc (w6.alloc (.cells #[.slice (some ⟨b6, o6, none⟩) 2 c6] 29)) ob) ob2) (qf45a ob)
  have qf46b := fun ob ob2 => cellB (below_box (World.alloc (w6.alloc (.cells #[.slice (some ⟨b6, o6, none⟩) 2 c6] 29)) ob) ob2) (qf46a ob)
  have qf47b := fun ob ob2 => cellB (below_box (World.alloc (w6.alloc (.cells #[.slice (some ⟨b6, o6, none⟩) 2 c6] 29)) ob) ob2) (qf47a ob)
  have qf48b := fun ob ob2 => cellB (below_box (World.alloc (w6.alloc (.cells #[.slice (some ⟨b6, o6, none⟩) 2 c6] 29)) ob) ob2) (qf48a ob)
  have qf49b := fun ob ob2 => cellB (below_box (World.alloc (w6.alloc (.cells #[.slice (some ⟨b6, o6, none⟩) 2 c6] 29)) ob) ob2) (qf49a ob)
  have qf50b := fun ob ob2 => cellB (below_box (World.alloc (w6.alloc (.cells #[.slice (some ⟨b6, o6, none⟩) 2 c6] 29)) ob) ob2) (qf50a ob)
  have qf51b := fun ob ob2 => cellB (below_box (World.alloc (w6.alloc (.cells #[.slice (some ⟨b6, o6, none⟩) 2 c6] 29)) ob) ob2) (qf51a ob)
  have qf52b := fun ob ob2 => cellB (below_box (World.alloc (w6.alloc (.cells #[.slice (some ⟨b6, o6, none⟩) 2 c6] 29)) ob) ob2) (qf52a ob)
  have qf53b := fun ob ob2 => cellB (below_box (World.alloc (w6.alloc (.cells #[.slice (some ⟨b6, o6, none⟩) 2 c6] 29)) ob) ob2) (qf53a ob)
  have qf54b := fun ob ob2 => cellB (below_box (World.alloc (w6.alloc (.cells #[.slice (some ⟨b6, o6, none⟩) 2 c6] 29)) ob) ob2) (qf54a ob)
  have hx1 : 1 ≤ kc2 := hkc2
  have hx2 : 1 ≤ qc2 := hqc2
  have hx3 : 2 ≤ tc6 := htc6
  have hx4 : 2 ≤ qc6 := hqc6
  have hx5 : 2 ≤ vc6 := hvc6
  have BW := Lib.hid (show Below w.heap.size w (w6.alloc (.cells #[.slice (some ⟨b6, o6, none⟩) 2 c6] 29)) from HB1.out.trans ((below_from E1.out).mono HB1.out.size))
  clear hkc2 hqc2 htc6 hqc6 hvc6 hc10 hm10 hc20 hm20 hk2 hs2 hn2 hq2 hc50 hm50 hc51 hm51 hn5 hc60 hm60 hc61 hm61 ht6 hq6 hv6
  go_wp2_with fail
  go_ret
  exact ⟨rfl, ((BW.out.trans ((below_box _ _).mono BW.out.size)).trans ((below_box _ _).mono (by have := BW.out.size; simp at this ⊢; omega)))⟩
end Go.Proofs.YtcgkaecaddpenaaGreatDoor
