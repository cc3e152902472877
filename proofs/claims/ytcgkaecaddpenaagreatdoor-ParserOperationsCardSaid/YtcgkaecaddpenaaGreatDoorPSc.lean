import Derived.Test.YtcgkaecaddpenaaGreatDoorPSb
/- Equal expressions of two kids. -/
namespace Go.Proofs.YtcgkaecaddpenaaGreatDoor
open Go.RowKit
open L7 (Tk lexT lx gap)
open L8
set_option linter.unusedSimpArgs false

set_option maxRecDepth 100000 in
set_option maxHeartbeats 8000000 in
theorem same2a (h : Hd) (a1 : Int) (w : World) (d1 d2 : Nat) (pA qA rA sA : Option Addr) (pn pc qn qc rn rc sn sc : Nat) (k1 o1 k2 o2 : Nat) (hd1 : 2 ≤ d1) (hd2 : 2 ≤ d2) (hs : ∀ W, Below w.heap.size w W → Calls Tryz.prog 20 #[.slice qA qn qc, .slice sA sn sc] W (fun e w' => e = .returned (.bool true) ∧ Below W.heap.size W w')) (hc : ∀ W, Below w.heap.size w W → Calls Tryz.prog 21 #[.slice pA pn pc, .slice rA rn rc] W (fun e w' => e = .returned (.bool true) ∧ Below W.heap.size W w')) (g0 e0 : Hd) (x00A x01A x02A y00A y01A y02A : Option Addr) (x00n x00c x01n x01c x02n x02c y00n y00c y01n y01c y02n y02c : Nat) (c0 : ∀ k, k < 9 → w.cell? ⟨k1, o1 + k, none⟩ = ([.int .i64 g0.kind, str g0.table, .slice x00A x00n x00c, .slice x01A x01n x01c, .slice x02A x02n x02c, str g0.attr, str g0.as_, .int .i64 g0.agg, .int .i64 g0.at_] : List Value)[k]?) (f0 : ∀ k, k < 9 → w.cell? ⟨k2, o2 + k, none⟩ = ([.int .i64 e0.kind, str e0.table, .slice y00A y00n y00c, .slice y01A y01n y01c, .slice y02A y02n y02c, str e0.attr, str e0.as_, .int .i64 e0.agg, .int .i64 e0.at_] : List Value)[k]?) (hk0 : ∀ W, Below w.heap.size w W → Calls Tryz.prog 14 #[.agg #[.int .i64 g0.kind, str g0.table, .slice x00A x00n x00c, .slice x01A x01n x01c, .slice x02A x02n x02c, str g0.attr, str g0.as_, .int .i64 g0.agg, .int .i64 g0.at_], .agg #[.int .i64 e0.kind, str e0.table, .slice y00A y00n y00c, .slice y01A y01n y01c, .slice y02A y02n y02c, str e0.attr, str e0.as_, .int .i64 e0.agg, .int .i64 e0.at_], .bool true] W (fun e w' => e = .returned (.bool true) ∧ Below W.heap.size W w')) (g1 e1 : Hd) (x10A x11A x12A y10A y11A y12A : Option Addr) (x10n x10c x11n x11c x12n x12c y10n y10c y11n y11c y12n y12c : Nat) (c1 : ∀ k, k < 9 → w.cell? ⟨k1, o1 + 9 + k, none⟩ = ([.int .i64 g1.kind, str g1.table, .slice x10A x10n x10c, .slice x11A x11n x11c, .slice x12A x12n x12c, str g1.attr, str g1.as_, .int .i64 g1.agg, .int .i64 g1.at_] : List Value)[k]?) (f1 : ∀ k, k < 9 → w.cell? ⟨k2, o2 + 9 + k, none⟩ = ([.int .i64 e1.kind, str e1.table, .slice y10A y10n y10c, .slice y11A y11n y11c, .slice y12A y12n y12c, str e1.attr, str e1.as_, .int .i64 e1.agg, .int .i64 e1.at_] : List Value)[k]?) (hk1 : ∀ W, Below w.heap.size w W → Calls Tryz.prog 14 #[.agg #[.int .i64 g1.kind, str g1.table, .slice x10A x10n x10c, .slice x11A x11n x11c, .slice x12A x12n x12c, str g1.attr, str g1.as_, .int .i64 g1.agg, .int .i64 g1.at_], .agg #[.int .i64 e1.kind, str e1.table, .slice y10A y10n y10c, .slice y11A y11n y11c, .slice y12A y12n y12c, str e1.attr, str e1.as_, .int .i64 e1.agg, .int .i64 e1.at_], .bool true] W (fun e w' => e = .returned (.bool true) ∧ Below W.heap.size W w')) :
    Calls Tryz.prog 14 #[.agg #[.int .i64 h.kind, str h.table, .slice (some ⟨k1, o1, none⟩) 2 d1, .slice pA pn pc, .slice qA qn qc, str h.attr, str h.as_, .int .i64 h.agg, .int .i64 a1], .agg #[.int .i64 h.kind, str h.table, .slice (some ⟨k2, o2, none⟩) 2 d2, .slice rA rn rc, .slice sA sn sc, str h.attr, str h.as_, .int .i64 h.agg, .int .i64 a1], .bool true] w (fun e w' => e = .returned (.bool true) ∧ Below w.heap.size w w') := by
  have B0 := Lib.hid (show Below w.heap.size w ((w.alloc (.cells #[.int .i64 h.kind, str h.table, .slice (some ⟨k1, o1, none⟩) 2 d1, .slice pA pn pc, .slice qA qn qc, str h.attr, str h.as_, .int .i64 h.agg, .int .i64 a1] 49)).alloc (.cells #[.int .i64 h.kind, str h.table, .slice (some ⟨k2, o2, none⟩) 2 d2, .slice rA rn rc, .slice sA sn sc, str h.attr, str h.as_, .int .i64 h.agg, .int .i64 a1] 49)) from (below_box w _).alloc (by simp) _)
  have u0 : ((w.alloc (.cells #[.int .i64 h.kind, str h.table, .slice (some ⟨k1, o1, none⟩) 2 d1, .slice pA pn pc, .slice qA qn qc, str h.attr, str h.as_, .int .i64 h.agg, .int .i64 a1] 49)).alloc (.cells #[.int .i64 h.kind, str h.table, .slice (some ⟨k2, o2, none⟩) 2 d2, .slice rA rn rc, .slice sA sn sc, str h.attr, str h.as_, .int .i64 h.agg, .int .i64 a1] 49)).cell? ⟨w.heap.size, 0, none⟩ = some (.int .i64 h.kind) := by simp [go_sem]
  have v0 : ((w.alloc (.cells #[.int .i64 h.kind, str h.table, .slice (some ⟨k1, o1, none⟩) 2 d1, .slice pA pn pc, .slice qA qn qc, str h.attr, str h.as_, .int .i64 h.agg, .int .i64 a1] 49)).alloc (.cells #[.int .i64 h.kind, str h.table, .slice (some ⟨k2, o2, none⟩) 2 d2, .slice rA rn rc, .slice sA sn sc, str h.attr, str h.as_, .int .i64 h.agg, .int .i64 a1] 49)).cell? ⟨w.heap.size + 1, 0, none⟩ = some (.int .i64 h.kind) := by simp [go_sem]
  have u1 : ((w.alloc (.cells #[.int .i64 h.kind, str h.table, .slice (some ⟨k1, o1, none⟩) 2 d1, .slice pA pn pc, .slice qA qn qc, str h.attr, str h.as_, .int .i64 h.agg, .int .i64 a1] 49)).alloc (.cells #[.int .i64 h.kind, str h.table, .slice (some ⟨k2, o2, none⟩) 2 d2, .slice rA rn rc, .slice sA sn sc, str h.attr, str h.as_, .int .i64 h.agg, .int .i64 a1] 49)).cell? ⟨w.heap.size, 1, none⟩ = some (str h.table) := by simp [go_sem]
  have v1 : ((w.alloc (.cells #[.int .i64 h.kind, str h.table, .slice (some ⟨k1, o1, none⟩) 2 d1, .slice pA pn pc, .slice qA qn qc, str h.attr, str h.as_, .int .i64 h.agg, .int .i64 a1] 49)).alloc (.cells #[.int .i64 h.kind, str h.table, .slice (some ⟨k2, o2, none⟩) 2 d2, .slice rA rn rc, .slice sA sn sc, str h.attr, str h.as_, .int .i64 h.agg, .int .i64 a1] 49)).cell? ⟨w.heap.size + 1, 1, none⟩ = some (str h.table) := by simp [go_sem]
  have u2 : ((w.alloc (.cells #[.int .i64 h.kind, str h.table, .slice (some ⟨k1, o1, none⟩) 2 d1, .slice pA pn pc, .slice qA qn qc, str h.attr, str h.as_, .int .i64 h.agg, .int .i64 a1] 49)).alloc (.cells #[.int .i64 h.kind, str h.table, .slice (some ⟨k2, o2, none⟩) 2 d2, .slice rA rn rc, .slice sA sn sc, str h.attr, str h.as_, .int .i64 h.agg, .int .i64 a1] 49)).cell? ⟨w.heap.size, 2, none⟩ = some (.slice (some ⟨k1, o1, none⟩) 2 d1) := by simp [go_sem]
  have v2 : ((w.alloc (.cells #[.int .i64 h.kind, str h.table, .slice (some ⟨k1, o1, none⟩) 2 d1, .slice pA pn pc, .slice qA qn qc, str h.attr, str h.as_, .int .i64 h.agg, .int .i64 a1] 49)).alloc (.cells #[.int .i64 h.kind, str h.table, .slice (some ⟨k2, o2, none⟩) 2 d2, .slice rA rn rc, .slice sA sn sc, str h.attr, str h.as_, .int .i64 h.agg, .int .i64 a1] 49)).cell? ⟨w.heap.size + 1, 2, none⟩ = some (.slice (some ⟨k2, o2, none⟩) 2 d2) := by simp [go_sem]
  have u3 : ((w.alloc (.cells #[.int .i64 h.kind, str h.table, .slice (some ⟨k1, o1, none⟩) 2 d1, .slice pA pn pc, .slice qA qn qc, str h.attr, str h.as_, .int .i64 h.agg, .int .i64 a1] 49)).alloc (.cells #[.int .i64 h.kind, str h.table, .slice (some ⟨k2, o2, none⟩) 2 d2, .slice rA rn rc, .slice sA sn sc, str h.attr, str h.as_, .int .i64 h.agg, .int .i64 a1] 49)).cell? ⟨w.heap.size, 3, none⟩ = some (.slice pA pn pc) := by simp [go_sem]
  have v3 : ((w.alloc (.cells #[.int .i64 h.kind, str h.table, .slice (some ⟨k1, o1, none⟩) 2 d1, .slice pA pn pc, .slice qA qn qc, str h.attr, str h.as_, .int .i64 h.agg, .int .i64 a1] 49)).alloc (.cells #[.int .i64 h.kind, str h.table, .slice (some ⟨k2, o2, none⟩) 2 d2, .slice rA rn rc, .slice sA sn sc, str h.attr, str h.as_, .int .i64 h.agg, .int .i64 a1] 49)).cell? ⟨w.heap.size + 1, 3, none⟩ = some (.slice rA rn rc) := by simp [go_sem]
  have u4 : ((w.alloc (.cells #[.int .i64 h.kind, str h.table, .slice (some ⟨k1, o1, none⟩) 2 d1, .slice pA pn pc, .slice qA qn qc, str h.attr, str h.as_, .int .i64 h.agg, .int .i64 a1] 49)).alloc (.cells #[.int .i64 h.kind, str h.table, .slice (some ⟨k2, o2, none⟩) 2 d2, .slice rA rn rc, .slice sA sn sc, str h.attr, str h.as_, .int .i64 h.agg, .int .i64 a1] 49)).cell? ⟨w.heap.size, 4, none⟩ = some (.slice qA qn qc) := by simp [go_sem]
  have v4 : ((w.alloc (.cells #[.int .i64 h.kind, str h.table, .slice (some ⟨k1, o1, none⟩) 2 d1, .slice pA pn pc, .slice qA qn qc, str h.attr, str h.as_, .int .i64 h.agg, .int .i64 a1] 49)).alloc (.cells #[.int .i64 h.kind, str h.table, .slice (some ⟨k2, o2, none⟩) 2 d2, .slice rA rn rc, .slice sA sn sc, str h.attr, str h.as_, .int .i64 h.agg, .int .i64 a1] 49)).cell? ⟨w.heap.size + 1, 4, none⟩ = some (.slice sA sn sc) := by simp [go_sem]
  have u5 : ((w.alloc (.cells #[.int .i64 h.kind, str h.table, .slice (some ⟨k1, o1, none⟩) 2 d1, .slice pA pn pc, .slice qA qn qc, str h.attr, str h.as_, .int .i64 h.agg, .int .i64 a1] 49)).alloc (.cells #[.int .i64 h.kind, str h.table, .slice (some ⟨k2, o2, none⟩) 2 d2, .slice rA rn rc, .slice sA sn sc, str h.attr, str h.as_, .int .i64 h.agg, .int .i64 a1] 49)).cell? ⟨w.heap.size, 5, none⟩ = some (str h.attr) := by simp [go_sem]
  have v5 : ((w.alloc (.cells #[.int .i64 h.kind, str h.table, .slice (some ⟨k1, o1, none⟩) 2 d1, .slice pA pn pc, .slice qA qn qc, str h.attr, str h.as_, .int .i64 h.agg, .int .i64 a1] 49)).alloc (.cells #[.int .i64 h.kind, str h.table, .slice (some ⟨k2, o2, none⟩) 2 d2, .slice rA rn rc, .slice sA sn sc, str h.attr, str h.as_, .int .i64 h.agg, .int .i64 a1] 49)).cell? ⟨w.heap.size + 1, 5, none⟩ = some (str h.attr) := by simp [go_sem]
  have u6 : ((w.alloc (.cells #[.int .i64 h.kind, str h.table, .slice (some ⟨k1, o1, none⟩) 2 d1, .slice pA pn pc, .slice qA qn qc, str h.attr, str h.as_, .int .i64 h.agg, .int .i64 a1] 49)).alloc (.cells #[.int .i64 h.kind, str h.table, .slice (some ⟨k2, o2, none⟩) 2 d2, .slice rA rn rc, .slice sA sn sc, str h.attr, str h.as_, .int .i64 h.agg, .int .i64 a1] 49)).cell? ⟨w.heap.size, 6, none⟩ = some (str h.as_) := by simp [go_sem]
  have v6 : ((w.alloc (.cells #[.int .i64 h.kind, str h.table, .slice (some ⟨k1, o1, none⟩) 2 d1, .slice pA pn pc, .slice qA qn qc, str h.attr, str h.as_, .int .i64 h.agg, .int .i64 a1] 49)).alloc (.cells #[.int .i64 h.kind, str h.table, .slice (some ⟨k2, o2, none⟩) 2 d2, .slice rA rn rc, .slice sA sn sc, str h.attr, str h.as_, .int .i64 h.agg, .int .i64 a1] 49)).cell? ⟨w.heap.size + 1, 6, none⟩ = some (str h.as_) := by simp [go_sem]
  have u7 : ((w.alloc (.cells #[.int .i64 h.kind, str h.table, .slice (some ⟨k1, o1, none⟩) 2 d1, .slice pA pn pc, .slice qA qn qc, str h.attr, str h.as_, .int .i64 h.agg, .int .i64 a1] 49)).alloc (.cells #[.int .i64 h.kind, str h.table, .slice (some ⟨k2, o2, none⟩) 2 d2, .slice rA rn rc, .slice sA sn sc, str h.attr, str h.as_, .int .i64 h.agg, .int .i64 a1] 49)).cell? ⟨w.heap.size, 7, none⟩ = some (.int .i64 h.agg) := by simp [go_sem]
  have v7 : ((w.alloc (.cells #[.int .i64 h.kind, str h.table, .slice (some ⟨k1, o1, none⟩) 2 d1, .slice pA pn pc, .slice qA qn qc, str h.attr, str h.as_, .int .i64 h.agg, .int .i64 a1] 49)).alloc (.cells #[.int .i64 h.kind, str h.table, .slice (some ⟨k2, o2, none⟩) 2 d2, .slice rA rn rc, .slice sA sn sc, str h.attr, str h.as_, .int .i64 h.agg, .int .i64 a1] 49)).cell? ⟨w.heap.size + 1, 7, none⟩ = some (.int .i64 h.agg) := by simp [go_sem]
  have u8 : ((w.alloc (.cells #[.int .i64 h.kind, str h.table, .slice (some ⟨k1, o1, none⟩) 2 d1, .slice pA pn pc, .slice qA qn qc, str h.attr, str h.as_, .int .i64 h.agg, .int .i64 a1] 49)).alloc (.cells #[.int .i64 h.kind, str h.table, .slice (some ⟨k2, o2, none⟩) 2 d2, .slice rA rn rc, .slice sA sn sc, str h.attr, str h.as_, .int .i64 h.agg, .int .i64 a1] 49)).cell? ⟨w.heap.size, 8, none⟩ = some (.int .i64 a1) := by simp [go_sem]
  have v8 : ((w.alloc (.cells #[.int .i64 h.kind, str h.table, .slice (some ⟨k1, o1, none⟩) 2 d1, .slice pA pn pc, .slice qA qn qc, str h.attr, str h.as_, .int .i64 h.agg, .int .i64 a1] 49)).alloc (.cells #[.int .i64 h.kind, str h.table, .slice (some ⟨k2, o2, none⟩) 2 d2, .slice rA rn rc, .slice sA sn sc, str h.attr, str h.as_, .int .i64 h.agg, .int .i64 a1] 49)).cell? ⟨w.heap.size + 1, 8, none⟩ = some (.int .i64 a1) := by simp [go_sem]
  have HS := Lib.hid hs
  have HC := Lib.hid hc
  clear hs hc
  go_enter Tryz.func14, Tryz.ntmps14
  go_wp2_with fail
  refine (HS.out _ B0.out).mono ?_
  rintro e w1 ⟨rfl, hb1⟩
  have B1 := Lib.hid (below_step2 B0.out hb1)
  have u0b := cellB hb1 u0
  have v0b := cellB hb1 v0
  have u1b := cellB hb1 u1
  have v1b := cellB hb1 v1
  have u2b := cellB hb1 u2
  have v2b := cellB hb1 v2
  have u3b := cellB hb1 u3
  have v3b := cellB hb1 v3
  have u4b := cellB hb1 u4
  have v4b := cellB hb1 v4
  have u5b := cellB hb1 u5
  have v5b := cellB hb1 v5
  have u6b := cellB hb1 u6
  have v6b := cellB hb1 v6
  have u7b := cellB hb1 u7
  have v7b := cellB hb1 v7
  have u8b := cellB hb1 u8
  have v8b := cellB hb1 v8
  clear hb1
  go_wp2_with fail
  refine (HC.out _ B1.out).mono ?_
  rintro e w2 ⟨rfl, hb2⟩
  have B2 := Lib.hid (below_step2 B1.out hb2)
  have z1 := cellB hb2 u2b
  have z2 := cellB hb2 v2b
  clear hb2 u0b v0b u0 v0 u1b v1b u1 v1 u2b v2b u2 v2 u3b v3b u3 v3 u4b v4b u4 v4 u5b v5b u5 v5 u6b v6b u6 v6 u7b v7b u7 v7 u8b v8b u8 v8
  have HZ1 := Lib.hid z1
  have HZ2 := Lib.hid z2
  obtain ⟨wo, hwo⟩ : ∃ wo, wo = w2 := ⟨_, rfl⟩
  have HO := Lib.hid hwo
  clear hwo
  go_wp2_with fail
  go_loopw [7] (fun i wr => Below wo.heap.size wo wr ∧ (i = .int .i64 0 ∨ i = .int .i64 1 ∨ i = .int .i64 2)) (fun i _ => 2 - (intOf i).toNat)
  case atStart => exact ⟨HO.out ▸ Below.refl _ _, .inl rfl⟩
  case round =>
    obtain ⟨hb, rfl | rfl | rfl⟩ := hrel
    · have HB := Lib.hid hb
      have hb2 : Below w2.heap.size w2 wr := HO.out ▸ hb
      have z1b := cellB hb2 HZ1.out
      have z2b := cellB hb2 HZ2.out
      have BW := Lib.hid (below_step2 B2.out hb2)
      have j1 : 2 ≤ d1 := hd1
      have j2 : 2 ≤ d2 := hd2
      have x0 : wr.cell? ⟨k1, o1, none⟩ = some (.int .i64 g0.kind) := cellB BW.out ((c0 0 (by decide)).trans rfl)
      have y0 : wr.cell? ⟨k2, o2, none⟩ = some (.int .i64 e0.kind) := cellB BW.out ((f0 0 (by decide)).trans rfl)
      have x1 : wr.cell? ⟨k1, o1 + 1, none⟩ = some (str g0.table) := cellB BW.out ((c0 1 (by decide)).trans rfl)
      have y1 : wr.cell? ⟨k2, o2 + 1, none⟩ = some (str e0.table) := cellB BW.out ((f0 1 (by decide)).trans rfl)
      have x2 : wr.cell? ⟨k1, o1 + 2, none⟩ = some (.slice x00A x00n x00c) := cellB BW.out ((c0 2 (by decide)).trans rfl)
      have y2 : wr.cell? ⟨k2, o2 + 2, none⟩ = some (.slice y00A y00n y00c) := cellB BW.out ((f0 2 (by decide)).trans rfl)
      have x3 : wr.cell? ⟨k1, o1 + 3, none⟩ = some (.slice x01A x01n x01c) := cellB BW.out ((c0 3 (by decide)).trans rfl)
      have y3 : wr.cell? ⟨k2, o2 + 3, none⟩ = some (.slice y01A y01n y01c) := cellB BW.out ((f0 3 (by decide)).trans rfl)
      have x4 : wr.cell? ⟨k1, o1 + 4, none⟩ = some (.slice x02A x02n x02c) := cellB BW.out ((c0 4 (by decide)).trans rfl)
      have y4 : wr.cell? ⟨k2, o2 + 4, none⟩ = some (.slice y02A y02n y02c) := cellB BW.out ((f0 4 (by decide)).trans rfl)
      have x5 : wr.cell? ⟨k1, o1 + 5, none⟩ = some (str g0.attr) := cellB BW.out ((c0 5 (by decide)).trans rfl)
      have y5 : wr.cell? ⟨k2, o2 + 5, none⟩ = some (str e0.attr) := cellB BW.out ((f0 5 (by decide)).trans rfl)
      have x6 : wr.cell? ⟨k1, o1 + 6, none⟩ = some (str g0.as_) := cellB BW.out ((c0 6 (by decide)).trans rfl)
      have y6 : wr.cell? ⟨k2, o2 + 6, none⟩ = some (str e0.as_) := cellB BW.out ((f0 6 (by decide)).trans rfl)
      have x7 : wr.cell? ⟨k1, o1 + 7, none⟩ = some (.int .i64 g0.agg) := cellB BW.out ((c0 7 (by decide)).trans rfl)
      have y7 : wr.cell? ⟨k2, o2 + 7, none⟩ = some (.int .i64 e0.agg) := cellB BW.out ((f0 7 (by decide)).trans rfl)
      have x8 : wr.cell? ⟨k1, o1 + 8, none⟩ = some (.int .i64 g0.at_) := cellB BW.out ((c0 8 (by decide)).trans rfl)
      have y8 : wr.cell? ⟨k2, o2 + 8, none⟩ = some (.int .i64 e0.at_) := cellB BW.out ((f0 8 (by decide)).trans rfl)
      clear hb hb2
      go_wp2_with fail
      go_region_held3 (fun w' => w'.cell? ⟨w.heap.size, 2, none⟩ = some (.slice (some ⟨k1, o1, none⟩) 2 d1) ∧ w'.cell? ⟨w.heap.size + 1, 2, none⟩ = some (.slice (some ⟨k2, o2, none⟩) 2 d2) ∧ w'.cell? ⟨k1, o1, none⟩ = some (.int .i64 g0.kind) ∧ w'.cell? ⟨k2, o2, none⟩ = some (.int .i64 e0.kind) ∧ w'.cell? ⟨k1, o1 + 1, none⟩ = some (str g0.table) ∧ w'.cell? ⟨k2, o2 + 1, none⟩ = some (str e0.table) ∧ w'.cell? ⟨k1, o1 + 2, none⟩ = some (.slice x00A x00n x00c) ∧ w'.cell? ⟨k2, o2 + 2, none⟩ = some (.slice y00A y00n y00c) ∧ w'.cell? ⟨k1, o1 + 3, none⟩ = some (.slice x01A x01n x01c) ∧ w'.cell? ⟨k2, o2 + 3, none⟩ = some (.slice y01A y01n y01c) ∧ w'.cell? ⟨k1, o1 + 4, none⟩ = some (.slice x02A x02n x02c) ∧ w'.cell? ⟨k2, o2 + 4, none⟩ = some (.slice y02A y02n y02c) ∧ w'.cell? ⟨k1, o1 + 5, none⟩ = some (str g0.attr) ∧ w'.cell? ⟨k2, o2 + 5, none⟩ = some (str e0.attr) ∧ w'.cell? ⟨k1, o1 + 6, none⟩ = some (str g0.as_) ∧ w'.cell? ⟨k2, o2 + 6, none⟩ = some (str e0.as_) ∧ w'.cell? ⟨k1, o1 + 7, none⟩ = some (.int .i64 g0.agg) ∧ w'.cell? ⟨k2, o2 + 7, none⟩ = some (.int .i64 e0.agg) ∧ w'.cell? ⟨k1, o1 + 8, none⟩ = some (.int .i64 g0.at_) ∧ w'.cell? ⟨k2, o2 + 8, none⟩ = some (.int .i64 e0.at_)) (go_keep) ((go_at_call 14; refine (hk0 _ (BW.out.trans (below_drewN _ wr 1))).mono ?_; rintro e w8 ⟨rfl, hb8⟩; have HB8 := Lib.hid (show Below wr.heap.size wr w8 from (below_drewN _ wr 1).trans hb8); have z1q := cellB hb8 z1b; have z2q := cellB hb8 z2b; have x0q := cellB hb8 x0; have y0q := cellB hb8 y0; have x1q := cellB hb8 x1; have y1q := cellB hb8 y1; have x2q := cellB hb8 x2; have y2q := cellB hb8 y2; have x3q := cellB hb8 x3; have y3q := cellB hb8 y3; have x4q := cellB hb8 x4; have y4q := cellB hb8 y4; have x5q := cellB hb8 x5; have y5q := cellB hb8 y5; have x6q := cellB hb8 x6; have y6q := cellB hb8 y6; have x7q := cellB hb8 x7; have y7q := cellB hb8 y7; have x8q := cellB hb8 x8; have y8q := cellB hb8 y8; clear hb8))
      all_goals
        go_wp2_with fail
        go_roundw
        case rel => exact ⟨below_step2 HB.out HB8.out, .inr (.inl rfl)⟩
        case measure => decide
    · have HB := Lib.hid hb
      have hb2 : Below w2.heap.size w2 wr := HO.out ▸ hb
      have z1b := cellB hb2 HZ1.out
      have z2b := cellB hb2 HZ2.out
      have BW := Lib.hid (below_step2 B2.out hb2)
      have j1 : 2 ≤ d1 := hd1
      have j2 : 2 ≤ d2 := hd2
      have x0 : wr.cell? ⟨k1, o1 + 9, none⟩ = some (.int .i64 g1.kind) := cellB BW.out ((c1 0 (by decide)).trans rfl)
      have y0 : wr.cell? ⟨k2, o2 + 9, none⟩ = some (.int .i64 e1.kind) := cellB BW.out ((f1 0 (by decide)).trans rfl)
      have x1 : wr.cell? ⟨k1, o1 + 10, none⟩ = some (str g1.table) := cellB BW.out ((c1 1 (by decide)).trans rfl)
      have y1 : wr.cell? ⟨k2, o2 + 10, none⟩ = some (str e1.table) := cellB BW.out ((f1 1 (by decide)).trans rfl)
      have x2 : wr.cell? ⟨k1, o1 + 11, none⟩ = some (.slice x10A x10n x10c) := cellB BW.out ((c1 2 (by decide)).trans rfl)
      have y2 : wr.cell? ⟨k2, o2 + 11, none⟩ = some (.slice y10A y10n y10c) := cellB BW.out ((f1 2 (by decide)).trans rfl)
      have x3 : wr.cell? ⟨k1, o1 + 12, none⟩ = some (.slice x11A x11n x11c) := cellB BW.out ((c1 3 (by decide)).trans rfl)
      have y3 : wr.cell? ⟨k2, o2 + 12, none⟩ = some (.slice y11A y11n y11c) := cellB BW.out ((f1 3 (by decide)).trans rfl)
      have x4 : wr.cell? ⟨k1, o1 + 13, none⟩ = some (.slice x12A x12n x12c) := cellB BW.out ((c1 4 (by decide)).trans rfl)
      have y4 : wr.cell? ⟨k2, o2 + 13, none⟩ = some (.slice y12A y12n y12c) := cellB BW.out ((f1 4 (by decide)).trans rfl)
      have x5 : wr.cell? ⟨k1, o1 + 14, none⟩ = some (str g1.attr) := cellB BW.out ((c1 5 (by decide)).trans rfl)
      have y5 : wr.cell? ⟨k2, o2 + 14, none⟩ = some (str e1.attr) := cellB BW.out ((f1 5 (by decide)).trans rfl)
      have x6 : wr.cell? ⟨k1, o1 + 15, none⟩ = some (str g1.as_) := cellB BW.out ((c1 6 (by decide)).trans rfl)
      have y6 : wr.cell? ⟨k2, o2 + 15, none⟩ = some (str e1.as_) := cellB BW.out ((f1 6 (by decide)).trans rfl)
      have x7 : wr.cell? ⟨k1, o1 + 16, none⟩ = some (.int .i64 g1.agg) := cellB BW.out ((c1 7 (by decide)).trans rfl)
      have y7 : wr.cell? ⟨k2, o2 + 16, none⟩ = some (.int .i64 e1.agg) := cellB BW.out ((f1 7 (by decide)).trans rfl)
      have x8 : wr.cell? ⟨k1, o1 + 17, none⟩ = some (.int .i64 g1.at_) := cellB BW.out ((c1 8 (by decide)).trans rfl)
      have y8 : wr.cell? ⟨k2, o2 + 17, none⟩ = some (.int .i64 e1.at_) := cellB BW.out ((f1 8 (by decide)).trans rfl)
      clear hb hb2
      go_wp2_with fail
      go_region_held3 (fun w' => w'.cell? ⟨w.heap.size, 2, none⟩ = some (.slice (some ⟨k1, o1, none⟩) 2 d1) ∧ w'.cell? ⟨w.heap.size + 1, 2, none⟩ = some (.slice (some ⟨k2, o2, none⟩) 2 d2) ∧ w'.cell? ⟨k1, o1 + 9, none⟩ = some (.int .i64 g1.kind) ∧ w'.cell? ⟨k2, o2 + 9, none⟩ = some (.int .i64 e1.kind) ∧ w'.cell? ⟨k1, o1 + 10, none⟩ = some (str g1.table) ∧ w'.cell? ⟨k2, o2 + 10, none⟩ = some (str e1.table) ∧ w'.cell? ⟨k1, o1 + 11, none⟩ = some (.slice x10A x10n x10c) ∧ w'.cell? ⟨k2, o2 + 11, none⟩ = some (.slice y10A y10n y10c) ∧ w'.cell? ⟨k1, o1 + 12, none⟩ = some (.slice x11A x11n x11c) ∧ w'.cell? ⟨k2, o2 + 12, none⟩ = some (.slice y11A y11n y11c) ∧ w'.cell? ⟨k1, o1 + 13, none⟩ = some (.slice x12A x12n x12c) ∧ w'.cell? ⟨k2, o2 + 13, none⟩ = some (.slice y12A y12n y12c) ∧ w'.cell? ⟨k1, o1 + 14, none⟩ = some (str g1.attr) ∧ w'.cell? ⟨k2, o2 + 14, none⟩ = some (str e1.attr) ∧ w'.cell? ⟨k1, o1 + 15, none⟩ = some (str g1.as_) ∧ w'.cell? ⟨k2, o2 + 15, none⟩ = some (str e1.as_) ∧ w'.cell? ⟨k1, o1 + 16, none⟩ = some (.int .i64 g1.agg) ∧ w'.cell? ⟨k2, o2 + 16, none⟩ = some (.int .i64 e1.agg) ∧ w'.cell? ⟨k1, o1 + 17, none⟩ = some (.int .i64 g1.at_) ∧ w'.cell? ⟨k2, o2 + 17, none⟩ = some (.int .i64 e1.at_)) (go_keep) ((go_at_call 14; refine (hk1 _ (BW.out.trans (below_drewN _ wr 1))).mono ?_; rintro e w8 ⟨rfl, hb8⟩; have HB8 := Lib.hid (show Below wr.heap.size wr w8 from (below_drewN _ wr 1).trans hb8); have z1q := cellB hb8 z1b; have z2q := cellB hb8 z2b; have x0q := cellB hb8 x0; have y0q := cellB hb8 y0; have x1q := cellB hb8 x1; have y1q := cellB hb8 y1; have x2q := cellB hb8 x2; have y2q := cellB hb8 y2; have x3q := cellB hb8 x3; have y3q := cellB hb8 y3; have x4q := cellB hb8 x4; have y4q := cellB hb8 y4; have x5q := cellB hb8 x5; have y5q := cellB hb8 y5; have x6q := cellB hb8 x6; have y6q := cellB hb8 y6; have x7q := cellB hb8 x7; have y7q := cellB hb8 y7; have x8q := cellB hb8 x8; have y8q := cellB hb8 y8; clear hb8))
      all_goals
        go_wp2_with fail
        go_roundw
        case rel => exact ⟨below_step2 HB.out HB8.out, .inr (.inr (rfl))⟩
        case measure => decide
    · have HB := Lib.hid hb
      have hb2 : Below w2.heap.size w2 wr := HO.out ▸ hb
      have z1b := cellB hb2 HZ1.out
      have z2b := cellB hb2 HZ2.out
      clear hb hb2
      go_wp2_with fail
      go_ret
      exact ⟨rfl, below_step2 B2.out (HO.out ▸ HB.out)⟩
set_option maxRecDepth 100000 in
set_option maxHeartbeats 8000000 in
theorem same2b (h : Hd) (a1 a2 : Int) (w : World) (d1 d2 : Nat) (pA qA rA sA : Option Addr) (pn pc qn qc rn rc sn sc : Nat) (k1 o1 k2 o2 : Nat) (hd1 : 2 ≤ d1) (hd2 : 2 ≤ d2) (hs : ∀ W, Below w.heap.size w W → Calls Tryz.prog 20 #[.slice qA qn qc, .slice sA sn sc] W (fun e w' => e = .returned (.bool true) ∧ Below W.heap.size W w')) (hc : ∀ W, Below w.heap.size w W → Calls Tryz.prog 21 #[.slice pA pn pc, .slice rA rn rc] W (fun e w' => e = .returned (.bool true) ∧ Below W.heap.size W w')) (g0 e0 : Hd) (x00A x01A x02A y00A y01A y02A : Option Addr) (x00n x00c x01n x01c x02n x02c y00n y00c y01n y01c y02n y02c : Nat) (c0 : ∀ k, k < 9 → w.cell? ⟨k1, o1 + k, none⟩ = ([.int .i64 g0.kind, str g0.table, .slice x00A x00n x00c, .slice x01A x01n x01c, .slice x02A x02n x02c, str g0.attr, str g0.as_, .int .i64 g0.agg, .int .i64 g0.at_] : List Value)[k]?) (f0 : ∀ k, k < 9 → w.cell? ⟨k2, o2 + k, none⟩ = ([.int .i64 e0.kind, str e0.table, .slice y00A y00n y00c, .slice y01A y01n y01c, .slice y02A y02n y02c, str e0.attr, str e0.as_, .int .i64 e0.agg, .int .i64 e0.at_] : List Value)[k]?) (hk0 : ∀ W, Below w.heap.size w W → Calls Tryz.prog 14 #[.agg #[.int .i64 g0.kind, str g0.table, .slice x00A x00n x00c, .slice x01A x01n x01c, .slice x02A x02n x02c, str g0.attr, str g0.as_, .int .i64 g0.agg, .int .i64 g0.at_], .agg #[.int .i64 e0.kind, str e0.table, .slice y00A y00n y00c, .slice y01A y01n y01c, .slice y02A y02n y02c, str e0.attr, str e0.as_, .int .i64 e0.agg, .int .i64 e0.at_], .bool false] W (fun e w' => e = .returned (.bool true) ∧ Below W.heap.size W w')) (g1 e1 : Hd) (x10A x11A x12A y10A y11A y12A : Option Addr) (x10n x10c x11n x11c x12n x12c y10n y10c y11n y11c y12n y12c : Nat) (c1 : ∀ k, k < 9 → w.cell? ⟨k1, o1 + 9 + k, none⟩ = ([.int .i64 g1.kind, str g1.table, .slice x10A x10n x10c, .slice x11A x11n x11c, .slice x12A x12n x12c, str g1.attr, str g1.as_, .int .i64 g1.agg, .int .i64 g1.at_] : List Value)[k]?) (f1 : ∀ k, k < 9 → w.cell? ⟨k2, o2 + 9 + k, none⟩ = ([.int .i64 e1.kind, str e1.table, .slice y10A y10n y10c, .slice y11A y11n y11c, .slice y12A y12n y12c, str e1.attr, str e1.as_, .int .i64 e1.agg, .int .i64 e1.at_] : List Value)[k]?) (hk1 : ∀ W, Below w.heap.size w W → Calls Tryz.prog 14 #[.agg #[.int .i64 g1.kind, str g1.table, .slice x10A x10n x10c, .slice x11A x11n x11c, .slice x12A x12n x12c, str g1.attr, str g1.as_, .int .i64 g1.agg, .int .i64 g1.at_], .agg #[.int .i64 e1.kind, str e1.table, .slice y10A y10n y10c, .slice y11A y11n y11c, .slice y12A y12n y12c, str e1.attr, str e1.as_, .int .i64 e1.agg, .int .i64 e1.at_], .bool false] W (fun e w' => e = .returned (.bool true) ∧ Below W.heap.size W w')) :
    Calls Tryz.prog 14 #[.agg #[.int .i64 h.kind, str h.table, .slice (some ⟨k1, o1, none⟩) 2 d1, .slice pA pn pc, .slice qA qn qc, str h.attr, str h.as_, .int .i64 h.agg, .int .i64 a1], .agg #[.int .i64 h.kind, str h.table, .slice (some ⟨k2, o2, none⟩) 2 d2, .slice rA rn rc, .slice sA sn sc, str h.attr, str h.as_, .int .i64 h.agg, .int .i64 a2], .bool false] w (fun e w' => e = .returned (.bool true) ∧ Below w.heap.size w w') := by
  have B0 := Lib.hid (show Below w.heap.size w ((w.alloc (.cells #[.int .i64 h.kind, str h.table, .slice (some ⟨k1, o1, none⟩) 2 d1, .slice pA pn pc, .slice qA qn qc, str h.attr, str h.as_, .int .i64 h.agg, .int .i64 a1] 49)).alloc (.cells #[.int .i64 h.kind, str h.table, .slice (some ⟨k2, o2, none⟩) 2 d2, .slice rA rn rc, .slice sA sn sc, str h.attr, str h.as_, .int .i64 h.agg, .int .i64 a2] 49)) from (below_box w _).alloc (by simp) _)
  have u0 : ((w.alloc (.cells #[.int .i64 h.kind, str h.table, .slice (some ⟨k1, o1, none⟩) 2 d1, .slice pA pn pc, .slice qA qn qc, str h.attr, str h.as_, .int .i64 h.agg, .int .i64 a1] 49)).alloc (.cells #[.int .i64 h.kind, str h.table, .slice (some ⟨k2, o2, none⟩) 2 d2, .slice rA rn rc, .slice sA sn sc, str h.attr, str h.as_, .int .i64 h.agg, .int .i64 a2] 49)).cell? ⟨w.heap.size, 0, none⟩ = some (.int .i64 h.kind) := by simp [go_sem]
  have v0 : ((w.alloc (.cells #[.int .i64 h.kind, str h.table, .slice (some ⟨k1, o1, none⟩) 2 d1, .slice pA pn pc, .slice qA qn qc, str h.attr, str h.as_, .int .i64 h.agg, .int .i64 a1] 49)).alloc (.cells #[.int .i64 h.kind, str h.table, .slice (some ⟨k2, o2, none⟩) 2 d2, .slice rA rn rc, .slice sA sn sc, str h.attr, str h.as_, .int .i64 h.agg, .int .i64 a2] 49)).cell? ⟨w.heap.size + 1, 0, none⟩ = some (.int .i64 h.kind) := by simp [go_sem]
  have u1 : ((w.alloc (.cells #[.int .i64 h.kind, str h.table, .slice (some ⟨k1, o1, none⟩) 2 d1, .slice pA pn pc, .slice qA qn qc, str h.attr, str h.as_, .int .i64 h.agg, .int .i64 a1] 49)).alloc (.cells #[.int .i64 h.kind, str h.table, .slice (some ⟨k2, o2, none⟩) 2 d2, .slice rA rn rc, .slice sA sn sc, str h.attr, str h.as_, .int .i64 h.agg, .int .i64 a2] 49)).cell? ⟨w.heap.size, 1, none⟩ = some (str h.table) := by simp [go_sem]
  have v1 : ((w.alloc (.cells #[.int .i64 h.kind, str h.table, .slice (some ⟨k1, o1, none⟩) 2 d1, .slice pA pn pc, .slice qA qn qc, str h.attr, str h.as_, .int .i64 h.agg, .int .i64 a1] 49)).alloc (.cells #[.int .i64 h.kind, str h.table, .slice (some ⟨k2, o2, none⟩) 2 d2, .slice rA rn rc, .slice sA sn sc, str h.attr, str h.as_, .int .i64 h.agg, .int .i64 a2] 49)).cell? ⟨w.heap.size + 1, 1, none⟩ = some (str h.table) := by simp [go_sem]
  have u2 : ((w.alloc (.cells #[.int .i64 h.kind, str h.table, .slice (some ⟨k1, o1, none⟩) 2 d1, .slice pA pn pc, .slice qA qn qc, str h.attr, str h.as_, .int .i64 h.agg, .int .i64 a1] 49)).alloc (.cells #[.int .i64 h.kind, str h.table, .slice (some ⟨k2, o2, none⟩) 2 d2, .slice rA rn rc, .slice sA sn sc, str h.attr, str h.as_, .int .i64 h.agg, .int .i64 a2] 49)).cell? ⟨w.heap.size, 2, none⟩ = some (.slice (some ⟨k1, o1, none⟩) 2 d1) := by simp [go_sem]
  have v2 : ((w.alloc (.cells #[.int .i64 h.kind, str h.table, .slice (some ⟨k1, o1, none⟩) 2 d1, .slice pA pn pc, .slice qA qn qc, str h.attr, str h.as_, .int .i64 h.agg, .int .i64 a1] 49)).alloc (.cells #[.int .i64 h.kind, str h.table, .slice (some ⟨k2, o2, none⟩) 2 d2, .slice rA rn rc, .slice sA sn sc, str h.attr, str h.as_, .int .i64 h.agg, .int .i64 a2] 49)).cell? ⟨w.heap.size + 1, 2, none⟩ = some (.slice (some ⟨k2, o2, none⟩) 2 d2) := by simp [go_sem]
  have u3 : ((w.alloc (.cells #[.int .i64 h.kind, str h.table, .slice (some ⟨k1, o1, none⟩) 2 d1, .slice pA pn pc, .slice qA qn qc, str h.attr, str h.as_, .int .i64 h.agg, .int .i64 a1] 49)).alloc (.cells #[.int .i64 h.kind, str h.table, .slice (some ⟨k2, o2, none⟩) 2 d2, .slice rA rn rc, .slice sA sn sc, str h.attr, str h.as_, .int .i64 h.agg, .int .i64 a2] 49)).cell? ⟨w.heap.size, 3, none⟩ = some (.slice pA pn pc) := by simp [go_sem]
  have v3 : ((w.alloc (.cells #[.int .i64 h.kind, str h.table, .slice (some ⟨k1, o1, none⟩) 2 d1, .slice pA pn pc, .slice qA qn qc, str h.attr, str h.as_, .int .i64 h.agg, .int .i64 a1] 49)).alloc (.cells #[.int .i64 h.kind, str h.table, .slice (some ⟨k2, o2, none⟩) 2 d2, .slice rA rn rc, .slice sA sn sc, str h.attr, str h.as_, .int .i64 h.agg, .int .i64 a2] 49)).cell? ⟨w.heap.size + 1, 3, none⟩ = some (.slice rA rn rc) := by simp [go_sem]
  have u4 : ((w.alloc (.cells #[.int .i64 h.kind, str h.table, .slice (some ⟨k1, o1, none⟩) 2 d1, .slice pA pn pc, .slice qA qn qc, str h.attr, str h.as_, .int .i64 h.agg, .int .i64 a1] 49)).alloc (.cells #[.int .i64 h.kind, str h.table, .slice (some ⟨k2, o2, none⟩) 2 d2, .slice rA rn rc, .slice sA sn sc, str h.attr, str h.as_, .int .i64 h.agg, .int .i64 a2] 49)).cell? ⟨w.heap.size, 4, none⟩ = some (.slice qA qn qc) := by simp [go_sem]
  have v4 : ((w.alloc (.cells #[.int .i64 h.kind, str h.table, .slice (some ⟨k1, o1, none⟩) 2 d1, .slice pA pn pc, .slice qA qn qc, str h.attr, str h.as_, .int .i64 h.agg, .int .i64 a1] 49)).alloc (.cells #[.int .i64 h.kind, str h.table, .slice (some ⟨k2, o2, none⟩) 2 d2, .slice rA rn rc, .slice sA sn sc, str h.attr, str h.as_, .int .i64 h.agg, .int .i64 a2] 49)).cell? ⟨w.heap.size + 1, 4, none⟩ = some (.slice sA sn sc) := by simp [go_sem]
  have u5 : ((w.alloc (.cells #[.int .i64 h.kind, str h.table, .slice (some ⟨k1, o1, none⟩) 2 d1, .slice pA pn pc, .slice qA qn qc, str h.attr, str h.as_, .int .i64 h.agg, .int .i64 a1] 49)).alloc (.cells #[.int .i64 h.kind, str h.table, .slice (some ⟨k2, o2, none⟩) 2 d2, .slice rA rn rc, .slice sA sn sc, str h.attr, str h.as_, .int .i64 h.agg, .int .i64 a2] 49)).cell? ⟨w.heap.size, 5, none⟩ = some (str h.attr) := by simp [go_sem]
  have v5 : ((w.alloc (.cells #[.int .i64 h.kind, str h.table, .slice (some ⟨k1, o1, none⟩) 2 d1, .slice pA pn pc, .slice qA qn qc, str h.attr, str h.as_, .int .i64 h.agg, .int .i64 a1] 49)).alloc (.cells #[.int .i64 h.kind, str h.table, .slice (some ⟨k2, o2, none⟩) 2 d2, .slice rA rn rc, .slice sA sn sc, str h.attr, str h.as_, .int .i64 h.agg, .int .i64 a2] 49)).cell? ⟨w.heap.size + 1, 5, none⟩ = some (str h.attr) := by simp [go_sem]
  have u6 : ((w.alloc (.cells #[.int .i64 h.kind, str h.table, .slice (some ⟨k1, o1, none⟩) 2 d1, .slice pA pn pc, .slice qA qn qc, str h.attr, str h.as_, .int .i64 h.agg, .int .i64 a1] 49)).alloc (.cells #[.int .i64 h.kind, str h.table, .slice (some ⟨k2, o2, none⟩) 2 d2, .slice rA rn rc, .slice sA sn sc, str h.attr, str h.as_, .int .i64 h.agg, .int .i64 a2] 49)).cell? ⟨w.heap.size, 6, none⟩ = some (str h.as_) := by simp [go_sem]
  have v6 : ((w.alloc (.cells #[.int .i64 h.kind, str h.table, .slice (some ⟨k1, o1, none⟩) 2 d1, .slice pA pn pc, .slice qA qn qc, str h.attr, str h.as_, .int .i64 h.agg, .int .i64 a1] 49)).alloc (.cells #[.int .i64 h.kind, str h.table, .slice (some ⟨k2, o2, none⟩) 2 d2, .slice rA rn rc, .slice sA sn sc, str h.attr, str h.as_, .int .i64 h.agg, .int .i64 a2] 49)).cell? ⟨w.heap.size + 1, 6, none⟩ = some (str h.as_) := by simp [go_sem]
  have u7 : ((w.alloc (.cells #[.int .i64 h.kind, str h.table, .slice (some ⟨k1, o1, none⟩) 2 d1, .slice pA pn pc, .slice qA qn qc, str h.attr, str h.as_, .int .i64 h.agg, .int .i64 a1] 49)).alloc (.cells #[.int .i64 h.kind, str h.table, .slice (some ⟨k2, o2, none⟩) 2 d2, .slice rA rn rc, .slice sA sn sc, str h.attr, str h.as_, .int .i64 h.agg, .int .i64 a2] 49)).cell? ⟨w.heap.size, 7, none⟩ = some (.int .i64 h.agg) := by simp [go_sem]
  have v7 : ((w.alloc (.cells #[.int .i64 h.kind, str h.table, .slice (some ⟨k1, o1, none⟩) 2 d1, .slice pA pn pc, .slice qA qn qc, str h.attr, str h.as_, .int .i64 h.agg, .int .i64 a1] 49)).alloc (.cells #[.int .i64 h.kind, str h.table, .slice (some ⟨k2, o2, none⟩) 2 d2, .slice rA rn rc, .slice sA sn sc, str h.attr, str h.as_, .int .i64 h.agg, .int .i64 a2] 49)).cell? ⟨w.heap.size + 1, 7, none⟩ = some (.int .i64 h.agg) := by simp [go_sem]
  have u8 : ((w.alloc (.cells #[.int .i64 h.kind, str h.table, .slice (some ⟨k1, o1, none⟩) 2 d1, .slice pA pn pc, .slice qA qn qc, str h.attr, str h.as_, .int .i64 h.agg, .int .i64 a1] 49)).alloc (.cells #[.int .i64 h.kind, str h.table, .slice (some ⟨k2, o2, none⟩) 2 d2, .slice rA rn rc, .slice sA sn sc, str h.attr, str h.as_, .int .i64 h.agg, .int .i64 a2] 49)).cell? ⟨w.heap.size, 8, none⟩ = some (.int .i64 a1) := by simp [go_sem]
  have v8 : ((w.alloc (.cells #[.int .i64 h.kind, str h.table, .slice (some ⟨k1, o1, none⟩) 2 d1, .slice pA pn pc, .slice qA qn qc, str h.attr, str h.as_, .int .i64 h.agg, .int .i64 a1] 49)).alloc (.cells #[.int .i64 h.kind, str h.table, .slice (some ⟨k2, o2, none⟩) 2 d2, .slice rA rn rc, .slice sA sn sc, str h.attr, str h.as_, .int .i64 h.agg, .int .i64 a2] 49)).cell? ⟨w.heap.size + 1, 8, none⟩ = some (.int .i64 a2) := by simp [go_sem]
  have HS := Lib.hid hs
  have HC := Lib.hid hc
  clear hs hc
  go_enter Tryz.func14, Tryz.ntmps14
  go_wp2_with fail
  refine (HS.out _ B0.out).mono ?_
  rintro e w1 ⟨rfl, hb1⟩
  have B1 := Lib.hid (below_step2 B0.out hb1)
  have u0b := cellB hb1 u0
  have v0b := cellB hb1 v0
  have u1b := cellB hb1 u1
  have v1b := cellB hb1 v1
  have u2b := cellB hb1 u2
  have v2b := cellB hb1 v2
  have u3b := cellB hb1 u3
  have v3b := cellB hb1 v3
  have u4b := cellB hb1 u4
  have v4b := cellB hb1 v4
  have u5b := cellB hb1 u5
  have v5b := cellB hb1 v5
  have u6b := cellB hb1 u6
  have v6b := cellB hb1 v6
  have u7b := cellB hb1 u7
  have v7b := cellB hb1 v7
  have u8b := cellB hb1 u8
  have v8b := cellB hb1 v8
  clear hb1
  go_wp2_with fail
  refine (HC.out _ B1.out).mono ?_
  rintro e w2 ⟨rfl, hb2⟩
  have B2 := Lib.hid (below_step2 B1.out hb2)
  have z1 := cellB hb2 u2b
  have z2 := cellB hb2 v2b
  clear hb2 u0b v0b u0 v0 u1b v1b u1 v1 u2b v2b u2 v2 u3b v3b u3 v3 u4b v4b u4 v4 u5b v5b u5 v5 u6b v6b u6 v6 u7b v7b u7 v7 u8b v8b u8 v8
  have HZ1 := Lib.hid z1
  have HZ2 := Lib.hid z2
  obtain ⟨wo, hwo⟩ : ∃ wo, wo = w2 := ⟨_, rfl⟩
  have HO := Lib.hid hwo
  clear hwo
  go_wp2_with fail
  go_loopw [7] (fun i wr => Below wo.heap.size wo wr ∧ (i = .int .i64 0 ∨ i = .int .i64 1 ∨ i = .int .i64 2)) (fun i _ => 2 - (intOf i).toNat)
  case atStart => exact ⟨HO.out ▸ Below.refl _ _, .inl rfl⟩
  case round =>
    obtain ⟨hb, rfl | rfl | rfl⟩ := hrel
    · have HB := Lib.hid hb
      have hb2 : Below w2.heap.size w2 wr := HO.out ▸ hb
      have z1b := cellB hb2 HZ1.out
      have z2b := cellB hb2 HZ2.out
      have BW := Lib.hid (below_step2 B2.out hb2)
      have j1 : 2 ≤ d1 := hd1
      have j2 : 2 ≤ d2 := hd2
      have x0 : wr.cell? ⟨k1, o1, none⟩ = some (.int .i64 g0.kind) := cellB BW.out ((c0 0 (by decide)).trans rfl)
      have y0 : wr.cell? ⟨k2, o2, none⟩ = some (.int .i64 e0.kind) := cellB BW.out ((f0 0 (by decide)).trans rfl)
      have x1 : wr.cell? ⟨k1, o1 + 1, none⟩ = some (str g0.table) := cellB BW.out ((c0 1 (by decide)).trans rfl)
      have y1 : wr.cell? ⟨k2, o2 + 1, none⟩ = some (str e0.table) := cellB BW.out ((f0 1 (by decide)).trans rfl)
      have x2 : wr.cell? ⟨k1, o1 + 2, none⟩ = some (.slice x00A x00n x00c) := cellB BW.out ((c0 2 (by decide)).trans rfl)
      have y2 : wr.cell? ⟨k2, o2 + 2, none⟩ = some (.slice y00A y00n y00c) := cellB BW.out ((f0 2 (by decide)).trans rfl)
      have x3 : wr.cell? ⟨k1, o1 + 3, none⟩ = some (.slice x01A x01n x01c) := cellB BW.out ((c0 3 (by decide)).trans rfl)
      have y3 : wr.cell? ⟨k2, o2 + 3, none⟩ = some (.slice y01A y01n y01c) := cellB BW.out ((f0 3 (by decide)).trans rfl)
      have x4 : wr.cell? ⟨k1, o1 + 4, none⟩ = some (.slice x02A x02n x02c) := cellB BW.out ((c0 4 (by decide)).trans rfl)
      have y4 : wr.cell? ⟨k2, o2 + 4, none⟩ = some (.slice y02A y02n y02c) := cellB BW.out ((f0 4 (by decide)).trans rfl)
      have x5 : wr.cell? ⟨k1, o1 + 5, none⟩ = some (str g0.attr) := cellB BW.out ((c0 5 (by decide)).trans rfl)
      have y5 : wr.cell? ⟨k2, o2 + 5, none⟩ = some (str e0.attr) := cellB BW.out ((f0 5 (by decide)).trans rfl)
      have x6 : wr.cell? ⟨k1, o1 + 6, none⟩ = some (str g0.as_) := cellB BW.out ((c0 6 (by decide)).trans rfl)
      have y6 : wr.cell? ⟨k2, o2 + 6, none⟩ = some (str e0.as_) := cellB BW.out ((f0 6 (by decide)).trans rfl)
      have x7 : wr.cell? ⟨k1, o1 + 7, none⟩ = some (.int .i64 g0.agg) := cellB BW.out ((c0 7 (by decide)).trans rfl)
      have y7 : wr.cell? ⟨k2, o2 + 7, none⟩ = some (.int .i64 e0.agg) := cellB BW.out ((f0 7 (by decide)).trans rfl)
      have x8 : wr.cell? ⟨k1, o1 + 8, none⟩ = some (.int .i64 g0.at_) := cellB BW.out ((c0 8 (by decide)).trans rfl)
      have y8 : wr.cell? ⟨k2, o2 + 8, none⟩ = some (.int .i64 e0.at_) := cellB BW.out ((f0 8 (by decide)).trans rfl)
      clear hb hb2
      go_wp2_with fail
      go_region_held3 (fun w' => w'.cell? ⟨w.heap.size, 2, none⟩ = some (.slice (some ⟨k1, o1, none⟩) 2 d1) ∧ w'.cell? ⟨w.heap.size + 1, 2, none⟩ = some (.slice (some ⟨k2, o2, none⟩) 2 d2) ∧ w'.cell? ⟨k1, o1, none⟩ = some (.int .i64 g0.kind) ∧ w'.cell? ⟨k2, o2, none⟩ = some (.int .i64 e0.kind) ∧ w'.cell? ⟨k1, o1 + 1, none⟩ = some (str g0.table) ∧ w'.cell? ⟨k2, o2 + 1, none⟩ = some (str e0.table) ∧ w'.cell? ⟨k1, o1 + 2, none⟩ = some (.slice x00A x00n x00c) ∧ w'.cell? ⟨k2, o2 + 2, none⟩ = some (.slice y00A y00n y00c) ∧ w'.cell? ⟨k1, o1 + 3, none⟩ = some (.slice x01A x01n x01c) ∧ w'.cell? ⟨k2, o2 + 3, none⟩ = some (.slice y01A y01n y01c) ∧ w'.cell? ⟨k1, o1 + 4, none⟩ = some (.slice x02A x02n x02c) ∧ w'.cell? ⟨k2, o2 + 4, none⟩ = some (.slice y02A y02n y02c) ∧ w'.cell? ⟨k1, o1 + 5, none⟩ = some (str g0.attr) ∧ w'.cell? ⟨k2, o2 + 5, none⟩ = some (str e0.attr) ∧ w'.cell? ⟨k1, o1 + 6, none⟩ = some (str g0.as_) ∧ w'.cell? ⟨k2, o2 + 6, none⟩ = some (str e0.as_) ∧ w'.cell? ⟨k1, o1 + 7, none⟩ = some (.int .i64 g0.agg) ∧ w'.cell? ⟨k2, o2 + 7, none⟩ = some (.int .i64 e0.agg) ∧ w'.cell? ⟨k1, o1 + 8, none⟩ = some (.int .i64 g0.at_) ∧ w'.cell? ⟨k2, o2 + 8, none⟩ = some (.int .i64 e0.at_)) (go_keep) ((go_at_call 14; refine (hk0 _ (BW.out.trans (below_drewN _ wr 1))).mono ?_; rintro e w8 ⟨rfl, hb8⟩; have HB8 := Lib.hid (show Below wr.heap.size wr w8 from (below_drewN _ wr 1).trans hb8); have z1q := cellB hb8 z1b; have z2q := cellB hb8 z2b; have x0q := cellB hb8 x0; have y0q := cellB hb8 y0; have x1q := cellB hb8 x1; have y1q := cellB hb8 y1; have x2q := cellB hb8 x2; have y2q := cellB hb8 y2; have x3q := cellB hb8 x3; have y3q := cellB hb8 y3; have x4q := cellB hb8 x4; have y4q := cellB hb8 y4; have x5q := cellB hb8 x5; have y5q := cellB hb8 y5; have x6q := cellB hb8 x6; have y6q := cellB hb8 y6; have x7q := cellB hb8 x7; have y7q := cellB hb8 y7; have x8q := cellB hb8 x8; have y8q := cellB hb8 y8; clear hb8))
      all_goals
        go_wp2_with fail
        go_roundw
        case rel => exact ⟨below_step2 HB.out HB8.out, .inr (.inl rfl)⟩
        case measure => decide
    · have HB := Lib.hid hb
      have hb2 : Below w2.heap.size w2 wr := HO.out ▸ hb
      have z1b := cellB hb2 HZ1.out
      have z2b := cellB hb2 HZ2.out
      have BW := Lib.hid (below_step2 B2.out hb2)
      have j1 : 2 ≤ d1 := hd1
      have j2 : 2 ≤ d2 := hd2
      have x0 : wr.cell? ⟨k1, o1 + 9, none⟩ = some (.int .i64 g1.kind) := cellB BW.out ((c1 0 (by decide)).trans rfl)
      have y0 : wr.cell? ⟨k2, o2 + 9, none⟩ = some (.int .i64 e1.kind) := cellB BW.out ((f1 0 (by decide)).trans rfl)
      have x1 : wr.cell? ⟨k1, o1 + 10, none⟩ = some (str g1.table) := cellB BW.out ((c1 1 (by decide)).trans rfl)
      have y1 : wr.cell? ⟨k2, o2 + 10, none⟩ = some (str e1.table) := cellB BW.out ((f1 1 (by decide)).trans rfl)
      have x2 : wr.cell? ⟨k1, o1 + 11, none⟩ = some (.slice x10A x10n x10c) := cellB BW.out ((c1 2 (by decide)).trans rfl)
      have y2 : wr.cell? ⟨k2, o2 + 11, none⟩ = some (.slice y10A y10n y10c) := cellB BW.out ((f1 2 (by decide)).trans rfl)
      have x3 : wr.cell? ⟨k1, o1 + 12, none⟩ = some (.slice x11A x11n x11c) := cellB BW.out ((c1 3 (by decide)).trans rfl)
      have y3 : wr.cell? ⟨k2, o2 + 12, none⟩ = some (.slice y11A y11n y11c) := cellB BW.out ((f1 3 (by decide)).trans rfl)
      have x4 : wr.cell? ⟨k1, o1 + 13, none⟩ = some (.slice x12A x12n x12c) := cellB BW.out ((c1 4 (by decide)).trans rfl)
      have y4 : wr.cell? ⟨k2, o2 + 13, none⟩ = some (.slice y12A y12n y12c) := cellB BW.out ((f1 4 (by decide)).trans rfl)
      have x5 : wr.cell? ⟨k1, o1 + 14, none⟩ = some (str g1.attr) := cellB BW.out ((c1 5 (by decide)).trans rfl)
      have y5 : wr.cell? ⟨k2, o2 + 14, none⟩ = some (str e1.attr) := cellB BW.out ((f1 5 (by decide)).trans rfl)
      have x6 : wr.cell? ⟨k1, o1 + 15, none⟩ = some (str g1.as_) := cellB BW.out ((c1 6 (by decide)).trans rfl)
      have y6 : wr.cell? ⟨k2, o2 + 15, none⟩ = some (str e1.as_) := cellB BW.out ((f1 6 (by decide)).trans rfl)
      have x7 : wr.cell? ⟨k1, o1 + 16, none⟩ = some (.int .i64 g1.agg) := cellB BW.out ((c1 7 (by decide)).trans rfl)
      have y7 : wr.cell? ⟨k2, o2 + 16, none⟩ = some (.int .i64 e1.agg) := cellB BW.out ((f1 7 (by decide)).trans rfl)
      have x8 : wr.cell? ⟨k1, o1 + 17, none⟩ = some (.int .i64 g1.at_) := cellB BW.out ((c1 8 (by decide)).trans rfl)
      have y8 : wr.cell? ⟨k2, o2 + 17, none⟩ = some (.int .i64 e1.at_) := cellB BW.out ((f1 8 (by decide)).trans rfl)
      clear hb hb2
      go_wp2_with fail
      go_region_held3 (fun w' => w'.cell? ⟨w.heap.size, 2, none⟩ = some (.slice (some ⟨k1, o1, none⟩) 2 d1) ∧ w'.cell? ⟨w.heap.size + 1, 2, none⟩ = some (.slice (some ⟨k2, o2, none⟩) 2 d2) ∧ w'.cell? ⟨k1, o1 + 9, none⟩ = some (.int .i64 g1.kind) ∧ w'.cell? ⟨k2, o2 + 9, none⟩ = some (.int .i64 e1.kind) ∧ w'.cell? ⟨k1, o1 + 10, none⟩ = some (str g1.table) ∧ w'.cell? ⟨k2, o2 + 10, none⟩ = some (str e1.table) ∧ w'.cell? ⟨k1, o1 + 11, none⟩ = some (.slice x10A x10n x10c) ∧ w'.cell? ⟨k2, o2 + 11, none⟩ = some (.slice y10A y10n y10c) ∧ w'.cell? ⟨k1, o1 + 12, none⟩ = some (.slice x11A x11n x11c) ∧ w'.cell? ⟨k2, o2 + 12, none⟩ = some (.slice y11A y11n y11c) ∧ w'.cell? ⟨k1, o1 + 13, none⟩ = some (.slice x12A x12n x12c) ∧ w'.cell? ⟨k2, o2 + 13, none⟩ = some (.slice y12A y12n y12c) ∧ w'.cell? ⟨k1, o1 + 14, none⟩ = some (str g1.attr) ∧ w'.cell? ⟨k2, o2 + 14, none⟩ = some (str e1.attr) ∧ w'.cell? ⟨k1, o1 + 15, none⟩ = some (str g1.as_) ∧ w'.cell? ⟨k2, o2 + 15, none⟩ = some (str e1.as_) ∧ w'.cell? ⟨k1, o1 + 16, none⟩ = some (.int .i64 g1.agg) ∧ w'.cell? ⟨k2, o2 + 16, none⟩ = some (.int .i64 e1.agg) ∧ w'.cell? ⟨k1, o1 + 17, none⟩ = some (.int .i64 g1.at_) ∧ w'.cell? ⟨k2, o2 + 17, none⟩ = some (.int .i64 e1.at_)) (go_keep) ((go_at_call 14; refine (hk1 _ (BW.out.trans (below_drewN _ wr 1))).mono ?_; rintro e w8 ⟨rfl, hb8⟩; have HB8 := Lib.hid (show Below wr.heap.size wr w8 from (below_drewN _ wr 1).trans hb8); have z1q := cellB hb8 z1b; have z2q := cellB hb8 z2b; have x0q := cellB hb8 x0; have y0q := cellB hb8 y0; have x1q := cellB hb8 x1; have y1q := cellB hb8 y1; have x2q := cellB hb8 x2; have y2q := cellB hb8 y2; have x3q := cellB hb8 x3; have y3q := cellB hb8 y3; have x4q := cellB hb8 x4; have y4q := cellB hb8 y4; have x5q := cellB hb8 x5; have y5q := cellB hb8 y5; have x6q := cellB hb8 x6; have y6q := cellB hb8 y6; have x7q := cellB hb8 x7; have y7q := cellB hb8 y7; have x8q := cellB hb8 x8; have y8q := cellB hb8 y8; clear hb8))
      all_goals
        go_wp2_with fail
        go_roundw
        case rel => exact ⟨below_step2 HB.out HB8.out, .inr (.inr (rfl))⟩
        case measure => decide
    · have HB := Lib.hid hb
      have hb2 : Below w2.heap.size w2 wr := HO.out ▸ hb
      have z1b := cellB hb2 HZ1.out
      have z2b := cellB hb2 HZ2.out
      clear hb hb2
      go_wp2_with fail
      go_ret
      exact ⟨rfl, below_step2 B2.out (HO.out ▸ HB.out)⟩
end Go.Proofs.YtcgkaecaddpenaaGreatDoor

/- Equal expressions, whatever they are. -/
namespace Go.Proofs.YtcgkaecaddpenaaGreatDoor
open Go.RowKit
open L7 (Tk lexT lx gap)
open L8
set_option linter.unusedSimpArgs false

theorem same_ok (fl : Bool) : ∀ (x y : Ex) (D E : Nat) (w : World) (ks cs ns ks2 cs2 ns2 : Value), EqE fl x y → ExC D w x ks cs ns → ExC E w y ks2 cs2 ns2 → ExS x →
    Calls Tryz.prog 14 #[.agg (exL (hd x) ks cs ns).toArray, .agg (exL (hd y) ks2 cs2 ns2).toArray, .bool fl] w (fun e w' => e = .returned (.bool true) ∧ Below w.heap.size w w') := by
  intro x
  induction x with
  | e0 h =>
    intro y D E w ks cs ns ks2 cs2 ns2 he hx hy hz
    obtain ⟨a2, hat, rfl⟩ := he.e0
    obtain ⟨_, ⟨pA, pn, pc, rfl⟩, ⟨qA, qn, qc, rfl⟩⟩ := hx.isSl
    obtain ⟨_, ⟨rA, rn, rc, rfl⟩, ⟨sA, sn, sc, rfl⟩⟩ := hy.isSl
    obtain ⟨⟨k1A, d1, rfl⟩, lc1, ln1⟩ := hx
    obtain ⟨⟨k2A, d2, rfl⟩, lc2, ln2⟩ := hy
    have hz0 : HdS h := hz
    have hs := fun W (hb : Below w.heap.size w W) => strings_true h.names _ _ D E hz0.2 W (ln1.stay len_txt (kept_below hb)) (ln2.stay len_txt (kept_below hb))
    have hc := fun W (hb : Below w.heap.size w W) => conds_true h.conds _ _ D E hz0.1 W (lc1.stay len_cnd (kept_below hb)) (lc2.stay len_cnd (kept_below hb))
    cases fl
    · exact same0b _ _ _ w _ _ _ _ _ _ _ _ _ _ _ _ _ _ _ _ hs hc
    · obtain rfl := hat rfl
      exact same0a _ _ w _ _ _ _ _ _ _ _ _ _ _ _ _ _ _ _ hs hc
  | e1 h a ih =>
    intro y D E w ks cs ns ks2 cs2 ns2 he hx hy hz
    obtain ⟨a2, c, hat, hac, rfl⟩ := he.e1
    obtain ⟨_, ⟨pA, pn, pc, rfl⟩, ⟨qA, qn, qc, rfl⟩⟩ := hx.isSl
    obtain ⟨_, ⟨rA, rn, rc, rfl⟩, ⟨sA, sn, sc, rfl⟩⟩ := hy.isSl
    obtain ⟨⟨k1, o1, d1, kk1, kc1, kn1, rfl, hd1, _, c0, xa⟩, lc1, ln1⟩ := hx
    obtain ⟨⟨k2, o2, d2, kk2, kc2, kn2, rfl, hd2, _, f0, xc⟩, lc2, ln2⟩ := hy
    obtain ⟨hz0, hza⟩ : HdS h ∧ ExS a := hz
    obtain ⟨⟨_, _, _, rfl⟩, ⟨_, _, _, rfl⟩, ⟨_, _, _, rfl⟩⟩ := xa.isSl
    obtain ⟨⟨_, _, _, rfl⟩, ⟨_, _, _, rfl⟩, ⟨_, _, _, rfl⟩⟩ := xc.isSl
    have hk0 := fun W (hb : Below w.heap.size w W) => ih c D E W _ _ _ _ _ _ hac (xa.stay (kept_below hb)) (xc.stay (kept_below hb)) hza
    have hs := fun W (hb : Below w.heap.size w W) => strings_true h.names _ _ D E hz0.2 W (ln1.stay len_txt (kept_below hb)) (ln2.stay len_txt (kept_below hb))
    have hc := fun W (hb : Below w.heap.size w W) => conds_true h.conds _ _ D E hz0.1 W (lc1.stay len_cnd (kept_below hb)) (lc2.stay len_cnd (kept_below hb))
    cases fl
    · exact same1b _ _ _ w _ _ _ _ _ _ _ _ _ _ _ _ _ _ _ _ _ _ hd1 hd2 hs hc (hd a) (hd c) _ _ _ _ _ _ _ _ _ _ _ _ _ _ _ _ _ _ c0 f0 hk0
    · obtain rfl := hat rfl
      exact same1a _ _ w _ _ _ _ _ _ _ _ _ _ _ _ _ _ _ _ _ _ hd1 hd2 hs hc (hd a) (hd c) _ _ _ _ _ _ _ _ _ _ _ _ _ _ _ _ _ _ c0 f0 hk0
  | e2 h a b iha ihb =>
    intro y D E w ks cs ns ks2 cs2 ns2 he hx hy hz
    obtain ⟨a2, c, d, hat, hac, hbd, rfl⟩ := he.e2
    obtain ⟨_, ⟨pA, pn, pc, rfl⟩, ⟨qA, qn, qc, rfl⟩⟩ := hx.isSl
    obtain ⟨_, ⟨rA, rn, rc, rfl⟩, ⟨sA, sn, sc, rfl⟩⟩ := hy.isSl
    obtain ⟨⟨k1, o1, d1, kk1, kc1, kn1, kk3, kc3, kn3, rfl, hd1, _, c0, c1, xa, xb⟩, lc1, ln1⟩ := hx
    obtain ⟨⟨k2, o2, d2, kk2, kc2, kn2, kk4, kc4, kn4, rfl, hd2, _, f0, f1, xc, xd⟩, lc2, ln2⟩ := hy
    obtain ⟨hz0, hza, hzb⟩ : HdS h ∧ ExS a ∧ ExS b := hz
    obtain ⟨⟨_, _, _, rfl⟩, ⟨_, _, _, rfl⟩, ⟨_, _, _, rfl⟩⟩ := xa.isSl
    obtain ⟨⟨_, _, _, rfl⟩, ⟨_, _, _, rfl⟩, ⟨_, _, _, rfl⟩⟩ := xb.isSl
    obtain ⟨⟨_, _, _, rfl⟩, ⟨_, _, _, rfl⟩, ⟨_, _, _, rfl⟩⟩ := xc.isSl
    obtain ⟨⟨_, _, _, rfl⟩, ⟨_, _, _, rfl⟩, ⟨_, _, _, rfl⟩⟩ := xd.isSl
    have hk0 := fun W (hb : Below w.heap.size w W) => iha c D E W _ _ _ _ _ _ hac (xa.stay (kept_below hb)) (xc.stay (kept_below hb)) hza
    have hk1 := fun W (hb : Below w.heap.size w W) => ihb d D E W _ _ _ _ _ _ hbd (xb.stay (kept_below hb)) (xd.stay (kept_below hb)) hzb
    have hs := fun W (hb : Below w.heap.size w W) => strings_true h.names _ _ D E hz0.2 W (ln1.stay len_txt (kept_below hb)) (ln2.stay len_txt (kept_below hb))
    have hc := fun W (hb : Below w.heap.size w W) => conds_true h.conds _ _ D E hz0.1 W (lc1.stay len_cnd (kept_below hb)) (lc2.stay len_cnd (kept_below hb))
    cases fl
    · exact same2b _ _ _ w _ _ _ _ _ _ _ _ _ _ _ _ _ _ _ _ _ _ hd1 hd2 hs hc (hd a) (hd c) _ _ _ _ _ _ _ _ _ _ _ _ _ _ _ _ _ _ c0 f0 hk0 (hd b) (hd d) _ _ _ _ _ _ _ _ _ _ _ _ _ _ _ _ _ _ c1 f1 hk1
    · obtain rfl := hat rfl
      exact same2a _ _ w _ _ _ _ _ _ _ _ _ _ _ _ _ _ _ _ _ _ hd1 hd2 hs hc (hd a) (hd c) _ _ _ _ _ _ _ _ _ _ _ _ _ _ _ _ _ _ c0 f0 hk0 (hd b) (hd d) _ _ _ _ _ _ _ _ _ _ _ _ _ _ _ _ _ _ c1 f1 hk1
end Go.Proofs.YtcgkaecaddpenaaGreatDoor

/- Equal values compared. -/
namespace Go.Proofs.YtcgkaecaddpenaaGreatDoor
open Go.RowKit
open L7 (Tk lexT lx gap)
open L8
set_option linter.unusedSimpArgs false

theorem less_self : ∀ t : List UInt8, Op.bytesLess t t = false
  | [] => rfl
  | a :: t => by
    unfold Op.bytesLess
    rw [less_self t]
    simp
set_option maxRecDepth 100000 in
set_option maxHeartbeats 8000000 in
theorem compare_same (k n : Int) (t : Txt) (w : World) : Calls Tryz.prog 33 #[.agg #[.int .i64 k, .int .i64 n, str t], .agg #[.int .i64 k, .int .i64 n, str t]] w (fun e w' => e = .returned (.int .i64 0) ∧ Below w.heap.size w w') := by
  have h0 := less_self t
  go_enter Tryz.func33, Tryz.ntmps33
  go_wp2_with fail
  go_ret
  exact ⟨rfl, (below_box w _).alloc (by simp) _⟩
end Go.Proofs.YtcgkaecaddpenaaGreatDoor

