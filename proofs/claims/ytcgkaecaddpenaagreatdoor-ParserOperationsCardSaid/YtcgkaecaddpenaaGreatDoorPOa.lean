import Derived.Test.YtcgkaecaddpenaaGreatDoorPsHlp
import Derived.Test.YtcgkaecaddpenaaGreatDoorPDm
import Derived.Test.YtcgkaecaddpenaaGreatDoorPSc
/- How many levels an expression has: Depth, walked. -/
namespace Go.Proofs.YtcgkaecaddpenaaGreatDoor
open Go.RowKit
open L7 (Tk lexT lx gap)
open L8
set_option linter.unusedSimpArgs false

set_option maxRecDepth 100000 in
set_option maxHeartbeats 8000000 in
theorem dep0 (h : Hd) (w : World) (kc : Nat) (pA qA : Option Addr) (pn pc qn qc : Nat) (kA : Option Addr) :
    Calls Tryz.prog 13 #[.agg #[.int .i64 h.kind, str h.table, .slice kA 0 kc, .slice pA pn pc, .slice qA qn qc, str h.attr, str h.as_, .int .i64 h.agg, .int .i64 h.at_]] w (fun e w' => e = .returned (.int .i64 1) ∧ Below w.heap.size w w') := by
  have g2 : (w.alloc (.cells #[.int .i64 h.kind, str h.table, .slice kA 0 kc, .slice pA pn pc, .slice qA qn qc, str h.attr, str h.as_, .int .i64 h.agg, .int .i64 h.at_] 49)).cell? ⟨w.heap.size, 2, none⟩ = some (.slice kA 0 kc) := by simp [go_sem]
  have hsz := sz h.table
  go_enter Tryz.func13, Tryz.ntmps13
  go_wp2_with fail
  go_loopw [3, 4] (fun a i wr => Below (w.alloc (.cells #[.int .i64 h.kind, str h.table, .slice kA 0 kc, .slice pA pn pc, .slice qA qn qc, str h.attr, str h.as_, .int .i64 h.agg, .int .i64 h.at_] 49)).heap.size (w.alloc (.cells #[.int .i64 h.kind, str h.table, .slice kA 0 kc, .slice pA pn pc, .slice qA qn qc, str h.attr, str h.as_, .int .i64 h.agg, .int .i64 h.at_] 49)) wr ∧ ((a = .int .i64 0 ∧ i = .int .i64 0))) (fun _ i _ => 0 - (intOf i).toNat)
  case atStart => exact ⟨Below.refl _ _, ⟨rfl, rfl⟩⟩
  case round =>
    obtain ⟨hb, ⟨rfl, rfl⟩⟩ := hrel
    have HB := Lib.hid hb
    have q2 := cellB hb g2
    clear hb
    go_wp2_with fail
    go_ret
    exact ⟨rfl, below_from HB.out⟩
set_option maxRecDepth 100000 in
set_option maxHeartbeats 8000000 in
theorem dep1 (h : Hd) (w : World) (kc : Nat) (pA qA : Option Addr) (pn pc qn qc : Nat) (kb ko : Nat) (hkc : 1 ≤ kc) (h0 : Hd) (x00A x01A x02A : Option Addr) (x00n x00c x01n x01c x02n x02c : Nat) (n0 : Nat) (nn0 : n0 ≤ 1000) (cc0 : ∀ k, k < 9 → w.cell? ⟨kb, ko + k, none⟩ = ([.int .i64 h0.kind, str h0.table, .slice x00A x00n x00c, .slice x01A x01n x01c, .slice x02A x02n x02c, str h0.attr, str h0.as_, .int .i64 h0.agg, .int .i64 h0.at_] : List Value)[k]?) (hc0 : ∀ W, Below w.heap.size w W → Calls Tryz.prog 13 #[.agg #[.int .i64 h0.kind, str h0.table, .slice x00A x00n x00c, .slice x01A x01n x01c, .slice x02A x02n x02c, str h0.attr, str h0.as_, .int .i64 h0.agg, .int .i64 h0.at_]] W (fun e w' => e = .returned (.int .i64 (n0 : Int)) ∧ Below W.heap.size W w')) :
    Calls Tryz.prog 13 #[.agg #[.int .i64 h.kind, str h.table, .slice (some ⟨kb, ko, none⟩) 1 kc, .slice pA pn pc, .slice qA qn qc, str h.attr, str h.as_, .int .i64 h.agg, .int .i64 h.at_]] w (fun e w' => e = .returned (.int .i64 ((n0 : Int) + 1)) ∧ Below w.heap.size w w') := by
  have g2 : (w.alloc (.cells #[.int .i64 h.kind, str h.table, .slice (some ⟨kb, ko, none⟩) 1 kc, .slice pA pn pc, .slice qA qn qc, str h.attr, str h.as_, .int .i64 h.agg, .int .i64 h.at_] 49)).cell? ⟨w.heap.size, 2, none⟩ = some (.slice (some ⟨kb, ko, none⟩) 1 kc) := by simp [go_sem]
  have hsz := sz h.table
  have m0 : max (0 : Int) (n0 : Int) = (n0 : Int) := by omega
  have j0 : IntKind.i64.wrap ((n0 : Int) + 1) = (n0 : Int) + 1 := IntWalk.i64_in _ (by omega)
  go_enter Tryz.func13, Tryz.ntmps13
  go_wp2_with fail
  go_loopw [3, 4] (fun a i wr => Below (w.alloc (.cells #[.int .i64 h.kind, str h.table, .slice (some ⟨kb, ko, none⟩) 1 kc, .slice pA pn pc, .slice qA qn qc, str h.attr, str h.as_, .int .i64 h.agg, .int .i64 h.at_] 49)).heap.size (w.alloc (.cells #[.int .i64 h.kind, str h.table, .slice (some ⟨kb, ko, none⟩) 1 kc, .slice pA pn pc, .slice qA qn qc, str h.attr, str h.as_, .int .i64 h.agg, .int .i64 h.at_] 49)) wr ∧ ((a = .int .i64 0 ∧ i = .int .i64 0) ∨ (a = .int .i64 (n0 : Int) ∧ i = .int .i64 1))) (fun _ i _ => 1 - (intOf i).toNat)
  case atStart => exact ⟨Below.refl _ _, .inl ⟨rfl, rfl⟩⟩
  case round =>
    obtain ⟨hb, ⟨rfl, rfl⟩ | ⟨rfl, rfl⟩⟩ := hrel
    · have HB := Lib.hid hb
      have q2 := cellB hb g2
      have y0 : wr.cell? ⟨kb, ko, none⟩ = some (.int .i64 h0.kind) := cellB (below_from hb) ((cc0 0 (by decide)).trans rfl)
      have y1 : wr.cell? ⟨kb, ko + 1, none⟩ = some (str h0.table) := cellB (below_from hb) ((cc0 1 (by decide)).trans rfl)
      have y2 : wr.cell? ⟨kb, ko + 2, none⟩ = some (.slice x00A x00n x00c) := cellB (below_from hb) ((cc0 2 (by decide)).trans rfl)
      have y3 : wr.cell? ⟨kb, ko + 3, none⟩ = some (.slice x01A x01n x01c) := cellB (below_from hb) ((cc0 3 (by decide)).trans rfl)
      have y4 : wr.cell? ⟨kb, ko + 4, none⟩ = some (.slice x02A x02n x02c) := cellB (below_from hb) ((cc0 4 (by decide)).trans rfl)
      have y5 : wr.cell? ⟨kb, ko + 5, none⟩ = some (str h0.attr) := cellB (below_from hb) ((cc0 5 (by decide)).trans rfl)
      have y6 : wr.cell? ⟨kb, ko + 6, none⟩ = some (str h0.as_) := cellB (below_from hb) ((cc0 6 (by decide)).trans rfl)
      have y7 : wr.cell? ⟨kb, ko + 7, none⟩ = some (.int .i64 h0.agg) := cellB (below_from hb) ((cc0 7 (by decide)).trans rfl)
      have y8 : wr.cell? ⟨kb, ko + 8, none⟩ = some (.int .i64 h0.at_) := cellB (below_from hb) ((cc0 8 (by decide)).trans rfl)
      have hj := hkc
      clear hb
      go_wp2_with fail
      refine (hc0 _ (below_from HB.out)).mono ?_
      rintro e w2 ⟨rfl, hb2⟩
      have HB2 := Lib.hid hb2
      clear hb2
      go_wp2_with fail
      go_roundw
      case rel => exact ⟨below_step2 HB.out HB2.out, .inr (⟨rfl, rfl⟩)⟩
      case measure => decide
    · have HB := Lib.hid hb
      have q2 := cellB hb g2
      clear hb
      go_wp2_with fail
      go_ret
      exact ⟨rfl, below_from HB.out⟩
set_option maxRecDepth 100000 in
set_option maxHeartbeats 8000000 in
theorem dep2 (h : Hd) (w : World) (kc : Nat) (pA qA : Option Addr) (pn pc qn qc : Nat) (kb ko : Nat) (hkc : 2 ≤ kc) (h0 : Hd) (x00A x01A x02A : Option Addr) (x00n x00c x01n x01c x02n x02c : Nat) (n0 : Nat) (nn0 : n0 ≤ 1000) (cc0 : ∀ k, k < 9 → w.cell? ⟨kb, ko + k, none⟩ = ([.int .i64 h0.kind, str h0.table, .slice x00A x00n x00c, .slice x01A x01n x01c, .slice x02A x02n x02c, str h0.attr, str h0.as_, .int .i64 h0.agg, .int .i64 h0.at_] : List Value)[k]?) (hc0 : ∀ W, Below w.heap.size w W → Calls Tryz.prog 13 #[.agg #[.int .i64 h0.kind, str h0.table, .slice x00A x00n x00c, .slice x01A x01n x01c, .slice x02A x02n x02c, str h0.attr, str h0.as_, .int .i64 h0.agg, .int .i64 h0.at_]] W (fun e w' => e = .returned (.int .i64 (n0 : Int)) ∧ Below W.heap.size W w')) (h1 : Hd) (x10A x11A x12A : Option Addr) (x10n x10c x11n x11c x12n x12c : Nat) (n1 : Nat) (nn1 : n1 ≤ 1000) (cc1 : ∀ k, k < 9 → w.cell? ⟨kb, ko + 9 + k, none⟩ = ([.int .i64 h1.kind, str h1.table, .slice x10A x10n x10c, .slice x11A x11n x11c, .slice x12A x12n x12c, str h1.attr, str h1.as_, .int .i64 h1.agg, .int .i64 h1.at_] : List Value)[k]?) (hc1 : ∀ W, Below w.heap.size w W → Calls Tryz.prog 13 #[.agg #[.int .i64 h1.kind, str h1.table, .slice x10A x10n x10c, .slice x11A x11n x11c, .slice x12A x12n x12c, str h1.attr, str h1.as_, .int .i64 h1.agg, .int .i64 h1.at_]] W (fun e w' => e = .returned (.int .i64 (n1 : Int)) ∧ Below W.heap.size W w')) (x2 : Nat) (hx2 : max n0 n1 = x2) :
    Calls Tryz.prog 13 #[.agg #[.int .i64 h.kind, str h.table, .slice (some ⟨kb, ko, none⟩) 2 kc, .slice pA pn pc, .slice qA qn qc, str h.attr, str h.as_, .int .i64 h.agg, .int .i64 h.at_]] w (fun e w' => e = .returned (.int .i64 ((x2 : Int) + 1)) ∧ Below w.heap.size w w') := by
  have g2 : (w.alloc (.cells #[.int .i64 h.kind, str h.table, .slice (some ⟨kb, ko, none⟩) 2 kc, .slice pA pn pc, .slice qA qn qc, str h.attr, str h.as_, .int .i64 h.agg, .int .i64 h.at_] 49)).cell? ⟨w.heap.size, 2, none⟩ = some (.slice (some ⟨kb, ko, none⟩) 2 kc) := by simp [go_sem]
  have hsz := sz h.table
  have m0 : max (0 : Int) (n0 : Int) = (n0 : Int) := by omega
  have m1 : max (n0 : Int) (n1 : Int) = (x2 : Int) := by omega
  have j0 : IntKind.i64.wrap ((x2 : Int) + 1) = (x2 : Int) + 1 := IntWalk.i64_in _ (by omega)
  go_enter Tryz.func13, Tryz.ntmps13
  go_wp2_with fail
  go_loopw [3, 4] (fun a i wr => Below (w.alloc (.cells #[.int .i64 h.kind, str h.table, .slice (some ⟨kb, ko, none⟩) 2 kc, .slice pA pn pc, .slice qA qn qc, str h.attr, str h.as_, .int .i64 h.agg, .int .i64 h.at_] 49)).heap.size (w.alloc (.cells #[.int .i64 h.kind, str h.table, .slice (some ⟨kb, ko, none⟩) 2 kc, .slice pA pn pc, .slice qA qn qc, str h.attr, str h.as_, .int .i64 h.agg, .int .i64 h.at_] 49)) wr ∧ ((a = .int .i64 0 ∧ i = .int .i64 0) ∨ (a = .int .i64 (n0 : Int) ∧ i = .int .i64 1) ∨ (a = .int .i64 (x2 : Int) ∧ i = .int .i64 2))) (fun _ i _ => 2 - (intOf i).toNat)
  case atStart => exact ⟨Below.refl _ _, .inl ⟨rfl, rfl⟩⟩
  case round =>
    obtain ⟨hb, ⟨rfl, rfl⟩ | ⟨rfl, rfl⟩ | ⟨rfl, rfl⟩⟩ := hrel
    · have HB := Lib.hid hb
      have q2 := cellB hb g2
      have y0 : wr.cell? ⟨kb, ko, none⟩ = some (.int .i64 h0.kind) := cellB (below_from hb) ((cc0 0 (by decide)).trans rfl)
      have y1 : wr.cell? ⟨kb, ko + 1, none⟩ = some (str h0.table) := cellB (below_from hb) ((cc0 1 (by decide)).trans rfl)
      have y2 : wr.cell? ⟨kb, ko + 2, none⟩ = some (.slice x00A x00n x00c) := cellB (below_from hb) ((cc0 2 (by decide)).trans rfl)
      have y3 : wr.cell? ⟨kb, ko + 3, none⟩ = some (.slice x01A x01n x01c) := cellB (below_from hb) ((cc0 3 (by decide)).trans rfl)
      have y4 : wr.cell? ⟨kb, ko + 4, none⟩ = some (.slice x02A x02n x02c) := cellB (below_from hb) ((cc0 4 (by decide)).trans rfl)
      have y5 : wr.cell? ⟨kb, ko + 5, none⟩ = some (str h0.attr) := cellB (below_from hb) ((cc0 5 (by decide)).trans rfl)
      have y6 : wr.cell? ⟨kb, ko + 6, none⟩ = some (str h0.as_) := cellB (below_from hb) ((cc0 6 (by decide)).trans rfl)
      have y7 : wr.cell? ⟨kb, ko + 7, none⟩ = some (.int .i64 h0.agg) := cellB (below_from hb) ((cc0 7 (by decide)).trans rfl)
      have y8 : wr.cell? ⟨kb, ko + 8, none⟩ = some (.int .i64 h0.at_) := cellB (below_from hb) ((cc0 8 (by decide)).trans rfl)
      have hj := hkc
      clear hb
      go_wp2_with fail
      refine (hc0 _ (below_from HB.out)).mono ?_
      rintro e w2 ⟨rfl, hb2⟩
      have HB2 := Lib.hid hb2
      clear hb2
      go_wp2_with fail
      go_roundw
      case rel => exact ⟨below_step2 HB.out HB2.out, .inr (.inl ⟨rfl, rfl⟩)⟩
      case measure => decide
    · have HB := Lib.hid hb
      have q2 := cellB hb g2
      have y0 : wr.cell? ⟨kb, ko + 9, none⟩ = some (.int .i64 h1.kind) := cellB (below_from hb) ((cc1 0 (by decide)).trans rfl)
      have y1 : wr.cell? ⟨kb, ko + 10, none⟩ = some (str h1.table) := cellB (below_from hb) ((cc1 1 (by decide)).trans rfl)
      have y2 : wr.cell? ⟨kb, ko + 11, none⟩ = some (.slice x10A x10n x10c) := cellB (below_from hb) ((cc1 2 (by decide)).trans rfl)
      have y3 : wr.cell? ⟨kb, ko + 12, none⟩ = some (.slice x11A x11n x11c) := cellB (below_from hb) ((cc1 3 (by decide)).trans rfl)
      have y4 : wr.cell? ⟨kb, ko + 13, none⟩ = some (.slice x12A x12n x12c) := cellB (below_from hb) ((cc1 4 (by decide)).trans rfl)
      have y5 : wr.cell? ⟨kb, ko + 14, none⟩ = some (str h1.attr) := cellB (below_from hb) ((cc1 5 (by decide)).trans rfl)
      have y6 : wr.cell? ⟨kb, ko + 15, none⟩ = some (str h1.as_) := cellB (below_from hb) ((cc1 6 (by decide)).trans rfl)
      have y7 : wr.cell? ⟨kb, ko + 16, none⟩ = some (.int .i64 h1.agg) := cellB (below_from hb) ((cc1 7 (by decide)).trans rfl)
      have y8 : wr.cell? ⟨kb, ko + 17, none⟩ = some (.int .i64 h1.at_) := cellB (below_from hb) ((cc1 8 (by decide)).trans rfl)
      have hj := hkc
      clear hb
      go_wp2_with fail
      refine (hc1 _ (below_from HB.out)).mono ?_
      rintro e w2 ⟨rfl, hb2⟩
      have HB2 := Lib.hid hb2
      clear hb2
      go_wp2_with fail
      go_roundw
      case rel => exact ⟨below_step2 HB.out HB2.out, .inr (.inr (⟨rfl, rfl⟩))⟩
      case measure => decide
    · have HB := Lib.hid hb
      have q2 := cellB hb g2
      clear hb
      go_wp2_with fail
      go_ret
      exact ⟨rfl, below_from HB.out⟩
theorem depth_ok : ∀ (x : Ex) (D : Nat) (w : World) (ks cs ns : Value), depE x ≤ 1000 → ExC D w x ks cs ns →
    Calls Tryz.prog 13 #[.agg (exL (hd x) ks cs ns).toArray] w (fun e w' => e = .returned (.int .i64 (depE x : Int)) ∧ Below w.heap.size w w') := by
  intro x
  induction x with
  | e0 h =>
    intro D w ks cs ns hd1 hx
    obtain ⟨_, ⟨pA, pn, pc, rfl⟩, ⟨qA, qn, qc, rfl⟩⟩ := hx.isSl
    obtain ⟨⟨kA, kc, rfl⟩, _, _⟩ := hx
    exact dep0 h w kc pA qA pn pc qn qc kA
  | e1 h a ih =>
    intro D w ks cs ns hd1 hx
    simp only [depE] at hd1
    obtain ⟨_, ⟨pA, pn, pc, rfl⟩, ⟨qA, qn, qc, rfl⟩⟩ := hx.isSl
    obtain ⟨⟨kb, ko, kc, k1, c1, n1, rfl, hkc, _, hcell, hxa⟩, _, _⟩ := hx
    obtain ⟨⟨aA, an, ac, rfl⟩, ⟨bA, bn, bc, rfl⟩, ⟨dA, dn, dc, rfl⟩⟩ := hxa.isSl
    exact dep1 h w kc pA qA pn pc qn qc kb ko hkc (hd a) aA bA dA an ac bn bc dn dc (depE a) (by omega) hcell (fun W hb => ih D W _ _ _ (by omega) (hxa.stay (kept_below hb)))
  | e2 h a b iha ihb =>
    intro D w ks cs ns hd1 hx
    simp only [depE] at hd1
    have hm1 : depE a ≤ max (depE a) (depE b) := Nat.le_max_left _ _
    have hm2 : depE b ≤ max (depE a) (depE b) := Nat.le_max_right _ _
    obtain ⟨_, ⟨pA, pn, pc, rfl⟩, ⟨qA, qn, qc, rfl⟩⟩ := hx.isSl
    obtain ⟨⟨kb, ko, kc, k1, c1, n1, k2, c2, n2, rfl, hkc, _, hcell, hcell2, hxa, hxb⟩, _, _⟩ := hx
    obtain ⟨⟨aA, an, ac, rfl⟩, ⟨bA, bn, bc, rfl⟩, ⟨dA, dn, dc, rfl⟩⟩ := hxa.isSl
    obtain ⟨⟨eA, en, ec, rfl⟩, ⟨gA, gn, gc, rfl⟩, ⟨iA, iN, ic, rfl⟩⟩ := hxb.isSl
    exact dep2 h w kc pA qA pn pc qn qc kb ko hkc (hd a) aA bA dA an ac bn bc dn dc (depE a) (by omega) hcell (fun W hb => iha D W _ _ _ (by omega) (hxa.stay (kept_below hb))) (hd b) eA gA iA en ec gn gc iN ic (depE b) (by omega) hcell2 (fun W hb => ihb D W _ _ _ (by omega) (hxb.stay (kept_below hb))) _ rfl
end Go.Proofs.YtcgkaecaddpenaaGreatDoor

/- ParserOperations: its memory; texts that are no expressions. -/
namespace Go.Proofs.YtcgkaecaddpenaaGreatDoor
open Go.RowKit
open L7 (Tk lexT lx gap)
open L8
set_option linter.unusedSimpArgs false

theorem lst_blk {α : Type} {D sz : Nat} {f : α → List Value} (hf : ∀ x, (f x).length = sz) {w : World} {b : Nat} {T : TypeId} {cs : Array Value} (h : Blk w b T cs) (hD : D ≤ b) (l : List α) (n : Nat) (hn : n = l.length) (he : cs.toList = l.flatMap f) : Lst D sz f w (.slice (some ⟨b, 0, none⟩) n n) l :=
  ⟨⟨some ⟨b, 0, none⟩, n, by rw [hn], by omega, (fun e => by cases e), fun i hi => ⟨b, 0, rfl, fun k hk => by
    have h1 := flat_get hf l i k hi hk
    rw [← he, Array.getElem?_toList] at h1
    rw [Nat.zero_add, h.cell]
    exact h1⟩⟩, fun b' o' n' c' e => by cases e; exact hD⟩
theorem want_one {W : World} {wb k : Nat} {T : TypeId} {cs : Array Value} (hB : Blk W wb T cs) (l : List Value) (h : ∀ c, c < 9 → cs[k * 9 + c]? = l[c]?) : ∀ c, c < 9 → W.cell? ⟨wb, k * 9 + c, none⟩ = l[c]? := fun c hc => (hB.cell (k * 9 + c)).trans (h c hc)
theorem nine {f g : Nat → Option Value} (h0 : f 0 = g 0) (h1 : f 1 = g 1) (h2 : f 2 = g 2) (h3 : f 3 = g 3) (h4 : f 4 = g 4) (h5 : f 5 = g 5) (h6 : f 6 = g 6) (h7 : f 7 = g 7) (h8 : f 8 = g 8) : ∀ c, c < 9 → f c = g c := fun c hc =>
  match c, hc with
  | 0, _ => h0
  | 1, _ => h1
  | 2, _ => h2
  | 3, _ => h3
  | 4, _ => h4
  | 5, _ => h5
  | 6, _ => h6
  | 7, _ => h7
  | 8, _ => h8
/-- The list of what is wanted, as it is laid: its kids' lists are the blocks from S on. -/
def wantL (S : Nat) (x y : Ex) : List Value := exL (hd (wx x y 0)) (.slice (some ⟨S, 0, none⟩) 1 1) (.slice (some ⟨S + 1, 0, none⟩) 1 1) (.slice none 0 0) ++ (exL (hd (wx x y 1)) (.slice (some ⟨S + 2, 0, none⟩) 1 1) (.slice none 0 0) (.slice (some ⟨S + 3, 0, none⟩) 2 2) ++ (exL (hd (wx x y 2)) (.slice (some ⟨S + 4, 0, none⟩) 2 2) (.slice none 0 0) (.slice none 0 0) ++ (exL (hd (wx x y 3)) (.slice (some ⟨S + 5, 0, none⟩) 2 2) (.slice none 0 0) (.slice none 0 0) ++ (exL (hd (wx x y 4)) (.slice (some ⟨S + 6, 0, none⟩) 2 2) (.slice none 0 0) (.slice none 0 0) ++ (exL (hd (wx x y 5)) (.slice (some ⟨S + 7, 0, none⟩) 1 1) (.slice none 0 0) (.slice none 0 0) ++ (exL (hd (wx x y 6)) (.slice (some ⟨S + 8, 0, none⟩) 1 1) (.slice none 0 0) (.slice (some ⟨S + 9, 0, none⟩) 1 1)))))))
theorem want_facts (x y : Ex) (k1 c1 n1 k2 c2 n2 : Value) (W : World) (S : Nat) (T0 T1 T2 T3 T4 T5 T6 T7 T8 T9 TW : TypeId) (hx : ExC 0 W x k1 c1 n1) (hy : ExC 0 W y k2 c2 n2)
    (b0 : Blk W S T0 (exL (hd x) k1 c1 n1).toArray) (b1 : Blk W (S + 1) T1 (cndC cndW).toArray) (b2 : Blk W (S + 2) T2 (exL (hd x) k1 c1 n1).toArray) (b3 : Blk W (S + 3) T3 #[str [97], str [98]])
    (b4 : Blk W (S + 4) T4 (exL (hd x) k1 c1 n1 ++ exL (hd y) k2 c2 n2).toArray) (b5 : Blk W (S + 5) T5 (exL (hd x) k1 c1 n1 ++ exL (hd y) k2 c2 n2).toArray) (b6 : Blk W (S + 6) T6 (exL (hd x) k1 c1 n1 ++ exL (hd y) k2 c2 n2).toArray)
    (b7 : Blk W (S + 7) T7 (exL (hd x) k1 c1 n1).toArray) (b8 : Blk W (S + 8) T8 (exL (hd x) k1 c1 n1).toArray) (b9 : Blk W (S + 9) T9 #[str [97]]) (bw : Blk W (S + 10) TW (wantL S x y).toArray) :
    ∀ k, k < 7 → ∃ ks cs ns, (∀ c, c < 9 → W.cell? ⟨S + 10, k * 9 + c, none⟩ = (exL (hd (wx x y k)) ks cs ns)[c]?) ∧ ExC 0 W (wx x y k) ks cs ns := by
  have one : ∀ b T, Blk W b T (exL (hd x) k1 c1 n1).toArray → (∃ b' o' c' p1 p2 p3, Value.slice (some ⟨b, 0, none⟩) 1 1 = .slice (some ⟨b', o', none⟩) 1 c' ∧ 1 ≤ c' ∧ 0 ≤ b' ∧ (∀ k, k < 9 → W.cell? ⟨b', o' + k, none⟩ = (exL (hd x) p1 p2 p3)[k]?) ∧ ExC 0 W x p1 p2 p3) := fun b T hb =>
    ⟨b, 0, 1, k1, c1, n1, rfl, Nat.le_refl _, Nat.zero_le _, fun k hk => by rw [Nat.zero_add, hb.cell, List.getElem?_toArray], hx⟩
  have two : ∀ b T, Blk W b T (exL (hd x) k1 c1 n1 ++ exL (hd y) k2 c2 n2).toArray → (∃ b' o' c' p1 p2 p3 q1 q2 q3, Value.slice (some ⟨b, 0, none⟩) 2 2 = .slice (some ⟨b', o', none⟩) 2 c' ∧ 2 ≤ c' ∧ 0 ≤ b' ∧ (∀ k, k < 9 → W.cell? ⟨b', o' + k, none⟩ = (exL (hd x) p1 p2 p3)[k]?) ∧ (∀ k, k < 9 → W.cell? ⟨b', o' + 9 + k, none⟩ = (exL (hd y) q1 q2 q3)[k]?) ∧ ExC 0 W x p1 p2 p3 ∧ ExC 0 W y q1 q2 q3) := fun b T hb =>
    ⟨b, 0, 2, k1, c1, n1, k2, c2, n2, rfl, Nat.le_refl _, Nat.zero_le _, fun k hk => by
      rw [Nat.zero_add, hb.cell, List.getElem?_toArray, List.getElem?_append_left (by rw [exL_len]; exact hk)], fun k hk => by
      rw [Nat.zero_add, hb.cell, List.getElem?_toArray, List.getElem?_append_right (by rw [exL_len]; omega), exL_len, Nat.add_sub_cancel_left], hx, hy⟩
  have L1 : Lst 0 14 cndC W (.slice (some ⟨S + 1, 0, none⟩) 1 1) [cndW] := lst_blk len_cndx b1 (Nat.zero_le _) _ _ rfl (by simp)
  have L3 : Lst 0 1 txtC W (.slice (some ⟨S + 3, 0, none⟩) 2 2) [([97] : Txt), [98]] := lst_blk len_txtx b3 (Nat.zero_le _) _ _ rfl rfl
  have L9 : Lst 0 1 txtC W (.slice (some ⟨S + 9, 0, none⟩) 1 1) [([97] : Txt)] := lst_blk len_txtx b9 (Nat.zero_le _) _ _ rfl rfl
  intro k hk
  match k, hk with
  | 0, _ => exact ⟨.slice (some ⟨S, 0, none⟩) 1 1, .slice (some ⟨S + 1, 0, none⟩) 1 1, .slice none 0 0, want_one (k := 0) bw _ (nine rfl rfl rfl rfl rfl rfl rfl rfl rfl), ⟨one _ _ b0, L1, Lst.nil W⟩⟩
  | 1, _ => exact ⟨.slice (some ⟨S + 2, 0, none⟩) 1 1, .slice none 0 0, .slice (some ⟨S + 3, 0, none⟩) 2 2, want_one (k := 1) bw _ (nine rfl rfl rfl rfl rfl rfl rfl rfl rfl), ⟨one _ _ b2, Lst.nil W, L3⟩⟩
  | 2, _ => exact ⟨.slice (some ⟨S + 4, 0, none⟩) 2 2, .slice none 0 0, .slice none 0 0, want_one (k := 2) bw _ (nine rfl rfl rfl rfl rfl rfl rfl rfl rfl), ⟨two _ _ b4, Lst.nil W, Lst.nil W⟩⟩
  | 3, _ => exact ⟨.slice (some ⟨S + 5, 0, none⟩) 2 2, .slice none 0 0, .slice none 0 0, want_one (k := 3) bw _ (nine rfl rfl rfl rfl rfl rfl rfl rfl rfl), ⟨two _ _ b5, Lst.nil W, Lst.nil W⟩⟩
  | 4, _ => exact ⟨.slice (some ⟨S + 6, 0, none⟩) 2 2, .slice none 0 0, .slice none 0 0, want_one (k := 4) bw _ (nine rfl rfl rfl rfl rfl rfl rfl rfl rfl), ⟨two _ _ b6, Lst.nil W, Lst.nil W⟩⟩
  | 5, _ => exact ⟨.slice (some ⟨S + 7, 0, none⟩) 1 1, .slice none 0 0, .slice none 0 0, want_one (k := 5) bw _ (nine rfl rfl rfl rfl rfl rfl rfl rfl rfl), ⟨one _ _ b7, Lst.nil W, Lst.nil W⟩⟩
  | 6, _ => exact ⟨.slice (some ⟨S + 8, 0, none⟩) 1 1, .slice none 0 0, .slice (some ⟨S + 9, 0, none⟩) 1 1, want_one (k := 6) bw _ (nine rfl rfl rfl rfl rfl rfl rfl rfl rfl), ⟨one _ _ b8, Lst.nil W, L9⟩⟩
theorem blk_at {w : World} {b : Nat} {t : TypeId} {cs : Array Value} (h : w.heap.size = b) : Blk (w.alloc (.cells cs t)) b t cs := h ▸ Blk.new w t cs
/-- What the loop finds in memory. -/
structure OpsG (one two : Txt) (x y : Ex) (w W : World) (tb wb : Nat) : Prop where
  below : Below w.heap.size w W
  text : ∀ k, k < 7 → W.cell? ⟨tb, k, none⟩ = some (str (tx one two k))
  want : ∀ k, k < 7 → ∃ ks cs ns, (∀ c, c < 9 → W.cell? ⟨wb, k * 9 + c, none⟩ = (exL (hd (wx x y k)) ks cs ns)[c]?) ∧ ExC 0 W (wx x y k) ks cs ns
set_option maxRecDepth 100000 in
set_option maxHeartbeats 16000000 in
theorem ops_long (one two : Txt) (h : 1000 < one.length) (w : World) : Calls Tryz.prog 6 #[str one, str two] w (fun e w' => e = .returned (.bool true) ∧ Below w.heap.size w w') := by
  have hsz := sz one
  have hsu := sz two
  have d : (1000 : Int) < (one.length : Int) := by omega
  clear h
  go_enter Tryz.func6, Tryz.ntmps6
  go_wp2_with fail
  refine (head_any _).mono ?_
  rintro e w1 ⟨rfl, hb1⟩
  have HB1 := Lib.hid hb1
  clear hb1
  go_wp2_with fail
  go_ret
  exact ⟨rfl, HB1.out⟩
set_option maxRecDepth 100000 in
set_option maxHeartbeats 16000000 in
theorem ops_long2 (one two : Txt) (h : one.length ≤ 1000) (h2 : 1000 < two.length) (w : World) : Calls Tryz.prog 6 #[str one, str two] w (fun e w' => e = .returned (.bool true) ∧ Below w.heap.size w w') := by
  have hsz := sz one
  have hsu := sz two
  have d : ¬ (1000 : Int) < (one.length : Int) := by omega
  have d2 : (1000 : Int) < (two.length : Int) := by omega
  clear h h2
  go_enter Tryz.func6, Tryz.ntmps6
  go_wp2_with fail
  refine (head_any _).mono ?_
  rintro e w1 ⟨rfl, hb1⟩
  have HB1 := Lib.hid hb1
  clear hb1
  go_wp2_with fail
  go_ret
  exact ⟨rfl, HB1.out⟩
set_option maxRecDepth 100000 in
set_option maxHeartbeats 16000000 in
theorem ops_err (one two : Txt) (h : one.length ≤ 1000) (h2 : two.length ≤ 1000) {a b : List It} {er er2 x y : Int} (hp : parseT (qpre ++ (one ++ [10, 59])) = (a, er, x)) (hp2 : parseT (qpre ++ (two ++ [10, 59])) = (b, er2, y)) (he : er ≠ 0) (w : World) : Calls Tryz.prog 6 #[str one, str two] w (fun e w' => e = .returned (.bool true) ∧ Below w.heap.size w w') := by
  have hsz := sz one
  have hsu := sz two
  have d : ¬ (1000 : Int) < (one.length : Int) := by omega
  have d2 : ¬ (1000 : Int) < (two.length : Int) := by omega
  have q1 : (9223372036854775807 < 10 + one.length) = False := eq_false (by omega)
  have q2 : (9223372036854775807 < 10 + one.length + 2) = False := eq_false (by omega)
  have q3 : (9223372036854775807 < 10 + two.length) = False := eq_false (by omega)
  have q4 : (9223372036854775807 < 10 + two.length + 2) = False := eq_false (by omega)
  have C := Lib.hid (fun W => hps (qpre ++ (one ++ [10, 59])) _ (by simp [qpre]; omega) hp W)
  have C3 := Lib.hid (fun W => hps (qpre ++ (two ++ [10, 59])) _ (by simp [qpre]; omega) hp2 W)
  have d4 : (er != 0) = true := by simpa using he
  clear h h2 he hp hp2
  go_enter Tryz.func6, Tryz.ntmps6
  go_wp2_with fail
  refine (head_any _).mono ?_
  rintro e w1 ⟨rfl, hb1⟩
  have HB1 := Lib.hid hb1
  clear hb1
  go_wp2_with fail
  refine (calls_str (str_eq (by simp [qpre])) (C.out _)).mono ?_
  rintro e w2 ⟨v2, rfl, hi2, hb2⟩
  have HB2 := Lib.hid hb2
  have HI2 := Lib.hid hi2
  obtain ⟨A2, c2, rfl, hc2⟩ := Slc.form hi2
  clear hb2 hi2
  go_wp2_with fail
  refine (calls_str (str_eq (by simp [qpre])) (C3.out _)).mono ?_
  rintro e w3 ⟨v3, rfl, hi3, hb3⟩
  have HB3 := Lib.hid hb3
  have HI3 := Lib.hid hi3
  obtain ⟨A3, c3, rfl, hc3⟩ := Slc.form hi3
  clear hb3 hi3
  have g0 : (w3.alloc (.cells #[.slice A3 b.length c3] 29)).cell? ⟨w2.heap.size, 0, none⟩ = some (.slice A2 a.length c2) := cellB (below_box _ _) (cellB HB3.out (show (w2.alloc (.cells #[.slice A2 a.length c2] 29)).cell? ⟨w2.heap.size, 0, none⟩ = some (.slice A2 a.length c2) by simp [go_sem]))
  have g1 : (w3.alloc (.cells #[.slice A3 b.length c3] 29)).cell? ⟨w3.heap.size, 0, none⟩ = some (.slice A3 b.length c3) := by simp [go_sem]
  have BW3 := Lib.hid (show Below w.heap.size w (w3.alloc (.cells #[.slice A3 b.length c3] 29)) from below2 (below2b (below2 HB1.out HB2.out) HB3.out) (below_box _ _))
  go_wp2_with fail
  go_ret
  exact ⟨rfl, BW3.out⟩
set_option maxRecDepth 100000 in
set_option maxHeartbeats 16000000 in
theorem ops_err2 (one two : Txt) (h : one.length ≤ 1000) (h2 : two.length ≤ 1000) {a b : List It} {er er2 x y : Int} (hp : parseT (qpre ++ (one ++ [10, 59])) = (a, er, x)) (hp2 : parseT (qpre ++ (two ++ [10, 59])) = (b, er2, y)) (he : er = 0) (he2 : er2 ≠ 0) (w : World) : Calls Tryz.prog 6 #[str one, str two] w (fun e w' => e = .returned (.bool true) ∧ Below w.heap.size w w') := by
  have hsz := sz one
  have hsu := sz two
  have d : ¬ (1000 : Int) < (one.length : Int) := by omega
  have d2 : ¬ (1000 : Int) < (two.length : Int) := by omega
  have q1 : (9223372036854775807 < 10 + one.length) = False := eq_false (by omega)
  have q2 : (9223372036854775807 < 10 + one.length + 2) = False := eq_false (by omega)
  have q3 : (9223372036854775807 < 10 + two.length) = False := eq_false (by omega)
  have q4 : (9223372036854775807 < 10 + two.length + 2) = False := eq_false (by omega)
  have C := Lib.hid (fun W => hps (qpre ++ (one ++ [10, 59])) _ (by simp [qpre]; omega) hp W)
  have C3 := Lib.hid (fun W => hps (qpre ++ (two ++ [10, 59])) _ (by simp [qpre]; omega) hp2 W)
  have d4 : (er != 0) = false := by simp [he]
  have d5 : (er2 != 0) = true := by simpa using he2
  clear h h2 he he2 hp hp2
  go_enter Tryz.func6, Tryz.ntmps6
  go_wp2_with fail
  refine (head_any _).mono ?_
  rintro e w1 ⟨rfl, hb1⟩
  have HB1 := Lib.hid hb1
  clear hb1
  go_wp2_with fail
  refine (calls_str (str_eq (by simp [qpre])) (C.out _)).mono ?_
  rintro e w2 ⟨v2, rfl, hi2, hb2⟩
  have HB2 := Lib.hid hb2
  have HI2 := Lib.hid hi2
  obtain ⟨A2, c2, rfl, hc2⟩ := Slc.form hi2
  clear hb2 hi2
  go_wp2_with fail
  refine (calls_str (str_eq (by simp [qpre])) (C3.out _)).mono ?_
  rintro e w3 ⟨v3, rfl, hi3, hb3⟩
  have HB3 := Lib.hid hb3
  have HI3 := Lib.hid hi3
  obtain ⟨A3, c3, rfl, hc3⟩ := Slc.form hi3
  clear hb3 hi3
  have g0 : (w3.alloc (.cells #[.slice A3 b.length c3] 29)).cell? ⟨w2.heap.size, 0, none⟩ = some (.slice A2 a.length c2) := cellB (below_box _ _) (cellB HB3.out (show (w2.alloc (.cells #[.slice A2 a.length c2] 29)).cell? ⟨w2.heap.size, 0, none⟩ = some (.slice A2 a.length c2) by simp [go_sem]))
  have g1 : (w3.alloc (.cells #[.slice A3 b.length c3] 29)).cell? ⟨w3.heap.size, 0, none⟩ = some (.slice A3 b.length c3) := by simp [go_sem]
  have BW3 := Lib.hid (show Below w.heap.size w (w3.alloc (.cells #[.slice A3 b.length c3] 29)) from below2 (below2b (below2 HB1.out HB2.out) HB3.out) (below_box _ _))
  go_wp2_with fail
  go_ret
  exact ⟨rfl, BW3.out⟩
set_option maxRecDepth 100000 in
set_option maxHeartbeats 16000000 in
theorem ops_len (one two : Txt) (h : one.length ≤ 1000) (h2 : two.length ≤ 1000) {a b : List It} {er er2 x y : Int} (hp : parseT (qpre ++ (one ++ [10, 59])) = (a, er, x)) (hp2 : parseT (qpre ++ (two ++ [10, 59])) = (b, er2, y)) (he : er = 0) (he2 : er2 = 0) (hn : a.length ≠ 1) (w : World) : Calls Tryz.prog 6 #[str one, str two] w (fun e w' => e = .returned (.bool true) ∧ Below w.heap.size w w') := by
  have hsz := sz one
  have hsu := sz two
  have d : ¬ (1000 : Int) < (one.length : Int) := by omega
  have d2 : ¬ (1000 : Int) < (two.length : Int) := by omega
  have q1 : (9223372036854775807 < 10 + one.length) = False := eq_false (by omega)
  have q2 : (9223372036854775807 < 10 + one.length + 2) = False := eq_false (by omega)
  have q3 : (9223372036854775807 < 10 + two.length) = False := eq_false (by omega)
  have q4 : (9223372036854775807 < 10 + two.length + 2) = False := eq_false (by omega)
  have C := Lib.hid (fun W => hps (qpre ++ (one ++ [10, 59])) _ (by simp [qpre]; omega) hp W)
  have C3 := Lib.hid (fun W => hps (qpre ++ (two ++ [10, 59])) _ (by simp [qpre]; omega) hp2 W)
  have d4 : (er != 0) = false := by simp [he]
  have d5 : (er2 != 0) = false := by simp [he2]
  have d6 : ((a.length : Int) != 1) = true := by simp; omega
  clear h h2 he he2 hp hp2 hn
  go_enter Tryz.func6, Tryz.ntmps6
  go_wp2_with fail
  refine (head_any _).mono ?_
  rintro e w1 ⟨rfl, hb1⟩
  have HB1 := Lib.hid hb1
  clear hb1
  go_wp2_with fail
  refine (calls_str (str_eq (by simp [qpre])) (C.out _)).mono ?_
  rintro e w2 ⟨v2, rfl, hi2, hb2⟩
  have HB2 := Lib.hid hb2
  have HI2 := Lib.hid hi2
  obtain ⟨A2, c2, rfl, hc2⟩ := Slc.form hi2
  clear hb2 hi2
  go_wp2_with fail
  refine (calls_str (str_eq (by simp [qpre])) (C3.out _)).mono ?_
  rintro e w3 ⟨v3, rfl, hi3, hb3⟩
  have HB3 := Lib.hid hb3
  have HI3 := Lib.hid hi3
  obtain ⟨A3, c3, rfl, hc3⟩ := Slc.form hi3
  clear hb3 hi3
  have g0 : (w3.alloc (.cells #[.slice A3 b.length c3] 29)).cell? ⟨w2.heap.size, 0, none⟩ = some (.slice A2 a.length c2) := cellB (below_box _ _) (cellB HB3.out (show (w2.alloc (.cells #[.slice A2 a.length c2] 29)).cell? ⟨w2.heap.size, 0, none⟩ = some (.slice A2 a.length c2) by simp [go_sem]))
  have g1 : (w3.alloc (.cells #[.slice A3 b.length c3] 29)).cell? ⟨w3.heap.size, 0, none⟩ = some (.slice A3 b.length c3) := by simp [go_sem]
  have BW3 := Lib.hid (show Below w.heap.size w (w3.alloc (.cells #[.slice A3 b.length c3] 29)) from below2 (below2b (below2 HB1.out HB2.out) HB3.out) (below_box _ _))
  go_wp2_with fail
  go_ret
  exact ⟨rfl, BW3.out⟩
set_option maxRecDepth 100000 in
set_option maxHeartbeats 16000000 in
theorem ops_len2 (one two : Txt) (h : one.length ≤ 1000) (h2 : two.length ≤ 1000) {a b : List It} {er er2 x y : Int} (hp : parseT (qpre ++ (one ++ [10, 59])) = (a, er, x)) (hp2 : parseT (qpre ++ (two ++ [10, 59])) = (b, er2, y)) (he : er = 0) (he2 : er2 = 0) (hn : a.length = 1) (hn2 : b.length ≠ 1) (w : World) : Calls Tryz.prog 6 #[str one, str two] w (fun e w' => e = .returned (.bool true) ∧ Below w.heap.size w w') := by
  have hsz := sz one
  have hsu := sz two
  have d : ¬ (1000 : Int) < (one.length : Int) := by omega
  have d2 : ¬ (1000 : Int) < (two.length : Int) := by omega
  have q1 : (9223372036854775807 < 10 + one.length) = False := eq_false (by omega)
  have q2 : (9223372036854775807 < 10 + one.length + 2) = False := eq_false (by omega)
  have q3 : (9223372036854775807 < 10 + two.length) = False := eq_false (by omega)
  have q4 : (9223372036854775807 < 10 + two.length + 2) = False := eq_false (by omega)
  have C := Lib.hid (fun W => hps (qpre ++ (one ++ [10, 59])) _ (by simp [qpre]; omega) hp W)
  have C3 := Lib.hid (fun W => hps (qpre ++ (two ++ [10, 59])) _ (by simp [qpre]; omega) hp2 W)
  have d4 : (er != 0) = false := by simp [he]
  have d5 : (er2 != 0) = false := by simp [he2]
  have d6 : ((a.length : Int) != 1) = false := by simp [hn]
  have d7 : ((b.length : Int) != 1) = true := by simp; omega
  clear h h2 he he2 hp hp2 hn hn2
  go_enter Tryz.func6, Tryz.ntmps6
  go_wp2_with fail
  refine (head_any _).mono ?_
  rintro e w1 ⟨rfl, hb1⟩
  have HB1 := Lib.hid hb1
  clear hb1
  go_wp2_with fail
  refine (calls_str (str_eq (by simp [qpre])) (C.out _)).mono ?_
  rintro e w2 ⟨v2, rfl, hi2, hb2⟩
  have HB2 := Lib.hid hb2
  have HI2 := Lib.hid hi2
  obtain ⟨A2, c2, rfl, hc2⟩ := Slc.form hi2
  clear hb2 hi2
  go_wp2_with fail
  refine (calls_str (str_eq (by simp [qpre])) (C3.out _)).mono ?_
  rintro e w3 ⟨v3, rfl, hi3, hb3⟩
  have HB3 := Lib.hid hb3
  have HI3 := Lib.hid hi3
  obtain ⟨A3, c3, rfl, hc3⟩ := Slc.form hi3
  clear hb3 hi3
  have g0 : (w3.alloc (.cells #[.slice A3 b.length c3] 29)).cell? ⟨w2.heap.size, 0, none⟩ = some (.slice A2 a.length c2) := cellB (below_box _ _) (cellB HB3.out (show (w2.alloc (.cells #[.slice A2 a.length c2] 29)).cell? ⟨w2.heap.size, 0, none⟩ = some (.slice A2 a.length c2) by simp [go_sem]))
  have g1 : (w3.alloc (.cells #[.slice A3 b.length c3] 29)).cell? ⟨w3.heap.size, 0, none⟩ = some (.slice A3 b.length c3) := by simp [go_sem]
  have BW3 := Lib.hid (show Below w.heap.size w (w3.alloc (.cells #[.slice A3 b.length c3] 29)) from below2 (below2b (below2 HB1.out HB2.out) HB3.out) (below_box _ _))
  go_wp2_with fail
  go_ret
  exact ⟨rfl, BW3.out⟩
end Go.Proofs.YtcgkaecaddpenaaGreatDoor

