/- Where expressions stand: ordered, walked. -/
import Derived.Test.YtfipkdnddghjpaaGreatDoorPsLawB
namespace Go.Proofs.YtfipkdnddghjpaaGreatDoor
open Go.RowKit
open L7 (Tk lexT lx gap)
open L8
set_option linter.unusedSimpArgs false

theorem below_step2 {a c d : World} (hb : Below a.heap.size a c) (h : Below c.heap.size c d) : Below a.heap.size a d := hb.trans (h.mono hb.size)
theorem ordH_inv {t : Txt} {h : Hd} {f : Int} (hf : 0 ≤ f) (q : ordH t h f = true) : ∃ k : Nat, h.at_ = (k : Int) ∧ f ≤ (k : Int) ∧ k < t.length ∧ (h.kind = 1 → k + h.table.length ≤ t.length ∧ (t.drop k).take h.table.length = h.table) := by
  unfold ordH at q
  rw [decide_eq_true_eq] at q
  obtain ⟨q1, q2, q3⟩ := q
  refine ⟨h.at_.toNat, by omega, by omega, by omega, fun e => ?_⟩
  obtain ⟨q4, q5⟩ := q3 e
  exact ⟨by omega, q5⟩
set_option maxRecDepth 100000 in
set_option maxHeartbeats 8000000 in
theorem ord0a (t : Txt) (ht : t.length ≤ 8000) (h : Hd) (f : Int) (hf : 0 ≤ f) (hH : ordH t h f = true) (hk1 : h.kind = 1) (w : World) (kc : Nat) (pA qA : Option Addr) (pn pc qn qc : Nat) (kA : Option Addr) :
    Calls Tryz.prog 18 #[str t, .agg #[.int .i64 h.kind, str h.table, .slice kA 0 kc, .slice pA pn pc, .slice qA qn qc, str h.attr, str h.as_, .int .i64 h.agg, .int .i64 h.at_], .int .i64 f] w (fun e w' => e = .returned (.tuple #[.int .i64 h.at_, .bool true]) ∧ Below w.heap.size w w') := by
  have hsz := sz t
  obtain ⟨k, hat, hfk, hkl, htab⟩ := ordH_inv hf hH
  obtain ⟨kd, tb, cds, nms, ta, tas, agg, a_⟩ := h
  simp only at hat hk1 htab ⊢
  subst hat
  have hst := sz tb
  have d1 : ¬ (k : Int) < f := by omega
  have d1b : f ≤ (k : Int) := by omega
  have d2 : ¬ (t.length : Int) ≤ (k : Int) := by omega
  have d2b : (k : Int) < (t.length : Int) := by omega
  have d0 : (0 : Int) ≤ (k : Int) := by omega
  obtain ⟨t1, t2⟩ := htab hk1
  have e1 : ((kd : Int) == 1) = true := by rw [beq_iff_eq]; exact hk1
  have s1 : IntKind.i64.wrap ((t.length : Int) - (tb.length : Int)) = (t.length : Int) - (tb.length : Int) := IntWalk.i64_in _ (by omega)
  have s2 : ¬ (t.length : Int) - (tb.length : Int) < (k : Int) := by omega
  have s2b : (k : Int) ≤ (t.length : Int) - (tb.length : Int) := by omega
  have s2c : decide ((t.length : Int) - (tb.length : Int) < (k : Int)) = false := decide_eq_false (by omega)
  have s3 : IntKind.i64.wrap ((k : Int) + (tb.length : Int)) = (k : Int) + (tb.length : Int) := IntWalk.i64_in _ (by omega)
  have s4 : (0 : Int) ≤ (k : Int) + (tb.length : Int) := by omega
  have s5 : (k : Int) + (tb.length : Int) ≤ (t.length : Int) := by omega
  have s6 : ((k : Int) + (tb.length : Int)).toNat = k + tb.length := by omega
  have s7 : (k : Int) ≤ (k : Int) + (tb.length : Int) := by omega
  have xt : (⟨t.toArray⟩ : ByteArray).extract k (k + tb.length) = ⟨tb.toArray⟩ := by rw [ext_eq, Nat.add_sub_cancel_left, t2]
  clear t1 t2
  have i9 : IntKind.i64.wrap ((k : Int) + 1) = (k : Int) + 1 := IntWalk.i64_in _ (by omega)
  have g0 : ∀ q, ((w.alloc (.cells #[.int .i64 kd, str tb, .slice kA 0 kc, .slice pA pn pc, .slice qA qn qc, str ta, str tas, .int .i64 agg, .int .i64 (k : Int)] 49)).drewN q).cell? ⟨w.heap.size, 0, none⟩ = some (.int .i64 kd) := fun q => cellB (below_drewN _ _ q) (by simp [go_sem])
  have g1 : ∀ q, ((w.alloc (.cells #[.int .i64 kd, str tb, .slice kA 0 kc, .slice pA pn pc, .slice qA qn qc, str ta, str tas, .int .i64 agg, .int .i64 (k : Int)] 49)).drewN q).cell? ⟨w.heap.size, 1, none⟩ = some (str tb) := fun q => cellB (below_drewN _ _ q) (by simp [go_sem])
  have g2 : ∀ q, ((w.alloc (.cells #[.int .i64 kd, str tb, .slice kA 0 kc, .slice pA pn pc, .slice qA qn qc, str ta, str tas, .int .i64 agg, .int .i64 (k : Int)] 49)).drewN q).cell? ⟨w.heap.size, 2, none⟩ = some (.slice kA 0 kc) := fun q => cellB (below_drewN _ _ q) (by simp [go_sem])
  have g3 : ∀ q, ((w.alloc (.cells #[.int .i64 kd, str tb, .slice kA 0 kc, .slice pA pn pc, .slice qA qn qc, str ta, str tas, .int .i64 agg, .int .i64 (k : Int)] 49)).drewN q).cell? ⟨w.heap.size, 3, none⟩ = some (.slice pA pn pc) := fun q => cellB (below_drewN _ _ q) (by simp [go_sem])
  have g4 : ∀ q, ((w.alloc (.cells #[.int .i64 kd, str tb, .slice kA 0 kc, .slice pA pn pc, .slice qA qn qc, str ta, str tas, .int .i64 agg, .int .i64 (k : Int)] 49)).drewN q).cell? ⟨w.heap.size, 4, none⟩ = some (.slice qA qn qc) := fun q => cellB (below_drewN _ _ q) (by simp [go_sem])
  have g5 : ∀ q, ((w.alloc (.cells #[.int .i64 kd, str tb, .slice kA 0 kc, .slice pA pn pc, .slice qA qn qc, str ta, str tas, .int .i64 agg, .int .i64 (k : Int)] 49)).drewN q).cell? ⟨w.heap.size, 5, none⟩ = some (str ta) := fun q => cellB (below_drewN _ _ q) (by simp [go_sem])
  have g6 : ∀ q, ((w.alloc (.cells #[.int .i64 kd, str tb, .slice kA 0 kc, .slice pA pn pc, .slice qA qn qc, str ta, str tas, .int .i64 agg, .int .i64 (k : Int)] 49)).drewN q).cell? ⟨w.heap.size, 6, none⟩ = some (str tas) := fun q => cellB (below_drewN _ _ q) (by simp [go_sem])
  have g7 : ∀ q, ((w.alloc (.cells #[.int .i64 kd, str tb, .slice kA 0 kc, .slice pA pn pc, .slice qA qn qc, str ta, str tas, .int .i64 agg, .int .i64 (k : Int)] 49)).drewN q).cell? ⟨w.heap.size, 7, none⟩ = some (.int .i64 agg) := fun q => cellB (below_drewN _ _ q) (by simp [go_sem])
  have g8 : ∀ q, ((w.alloc (.cells #[.int .i64 kd, str tb, .slice kA 0 kc, .slice pA pn pc, .slice qA qn qc, str ta, str tas, .int .i64 agg, .int .i64 (k : Int)] 49)).drewN q).cell? ⟨w.heap.size, 8, none⟩ = some (.int .i64 (k : Int)) := fun q => cellB (below_drewN _ _ q) (by simp [go_sem])
  clear htab hk1
  go_enter Tryz.func18, Tryz.ntmps18
  go_wp2_with fail
  go_quiet (fail)
  go_wp2_with fail
  go_loopw [8, 9] (fun a i wr => Below (w.alloc (.cells #[.int .i64 kd, str tb, .slice kA 0 kc, .slice pA pn pc, .slice qA qn qc, str ta, str tas, .int .i64 agg, .int .i64 (k : Int)] 49)).heap.size (w.alloc (.cells #[.int .i64 kd, str tb, .slice kA 0 kc, .slice pA pn pc, .slice qA qn qc, str ta, str tas, .int .i64 agg, .int .i64 (k : Int)] 49)) wr ∧ ((a = .int .i64 (k : Int) ∧ i = .int .i64 0))) (fun _ i _ => 0 - (intOf i).toNat)
  case atStart => exact ⟨below_drewN _ _ _, ⟨rfl, rfl⟩⟩
  case round =>
    obtain ⟨hb, ⟨rfl, rfl⟩⟩ := hrel
    have HB := Lib.hid hb
    have q2 := cellB hb (g2 0)
    clear hb
    go_wp2_with fail
    go_ret2
    exact ⟨rfl, below_from HB.out⟩
set_option maxRecDepth 100000 in
set_option maxHeartbeats 8000000 in
theorem ord0b (t : Txt) (ht : t.length ≤ 8000) (h : Hd) (f : Int) (hf : 0 ≤ f) (hH : ordH t h f = true) (hk1 : h.kind ≠ 1) (w : World) (kc : Nat) (pA qA : Option Addr) (pn pc qn qc : Nat) (kA : Option Addr) :
    Calls Tryz.prog 18 #[str t, .agg #[.int .i64 h.kind, str h.table, .slice kA 0 kc, .slice pA pn pc, .slice qA qn qc, str h.attr, str h.as_, .int .i64 h.agg, .int .i64 h.at_], .int .i64 f] w (fun e w' => e = .returned (.tuple #[.int .i64 h.at_, .bool true]) ∧ Below w.heap.size w w') := by
  have hsz := sz t
  obtain ⟨k, hat, hfk, hkl, htab⟩ := ordH_inv hf hH
  obtain ⟨kd, tb, cds, nms, ta, tas, agg, a_⟩ := h
  simp only at hat hk1 htab ⊢
  subst hat
  have hst := sz tb
  have d1 : ¬ (k : Int) < f := by omega
  have d1b : f ≤ (k : Int) := by omega
  have d2 : ¬ (t.length : Int) ≤ (k : Int) := by omega
  have d2b : (k : Int) < (t.length : Int) := by omega
  have d0 : (0 : Int) ≤ (k : Int) := by omega
  have e1 : ((kd : Int) == 1) = false := by rw [beq_eq_false_iff_ne]; exact hk1
  have i9 : IntKind.i64.wrap ((k : Int) + 1) = (k : Int) + 1 := IntWalk.i64_in _ (by omega)
  have g0 : ∀ q, ((w.alloc (.cells #[.int .i64 kd, str tb, .slice kA 0 kc, .slice pA pn pc, .slice qA qn qc, str ta, str tas, .int .i64 agg, .int .i64 (k : Int)] 49)).drewN q).cell? ⟨w.heap.size, 0, none⟩ = some (.int .i64 kd) := fun q => cellB (below_drewN _ _ q) (by simp [go_sem])
  have g1 : ∀ q, ((w.alloc (.cells #[.int .i64 kd, str tb, .slice kA 0 kc, .slice pA pn pc, .slice qA qn qc, str ta, str tas, .int .i64 agg, .int .i64 (k : Int)] 49)).drewN q).cell? ⟨w.heap.size, 1, none⟩ = some (str tb) := fun q => cellB (below_drewN _ _ q) (by simp [go_sem])
  have g2 : ∀ q, ((w.alloc (.cells #[.int .i64 kd, str tb, .slice kA 0 kc, .slice pA pn pc, .slice qA qn qc, str ta, str tas, .int .i64 agg, .int .i64 (k : Int)] 49)).drewN q).cell? ⟨w.heap.size, 2, none⟩ = some (.slice kA 0 kc) := fun q => cellB (below_drewN _ _ q) (by simp [go_sem])
  have g3 : ∀ q, ((w.alloc (.cells #[.int .i64 kd, str tb, .slice kA 0 kc, .slice pA pn pc, .slice qA qn qc, str ta, str tas, .int .i64 agg, .int .i64 (k : Int)] 49)).drewN q).cell? ⟨w.heap.size, 3, none⟩ = some (.slice pA pn pc) := fun q => cellB (below_drewN _ _ q) (by simp [go_sem])
  have g4 : ∀ q, ((w.alloc (.cells #[.int .i64 kd, str tb, .slice kA 0 kc, .slice pA pn pc, .slice qA qn qc, str ta, str tas, .int .i64 agg, .int .i64 (k : Int)] 49)).drewN q).cell? ⟨w.heap.size, 4, none⟩ = some (.slice qA qn qc) := fun q => cellB (below_drewN _ _ q) (by simp [go_sem])
  have g5 : ∀ q, ((w.alloc (.cells #[.int .i64 kd, str tb, .slice kA 0 kc, .slice pA pn pc, .slice qA qn qc, str ta, str tas, .int .i64 agg, .int .i64 (k : Int)] 49)).drewN q).cell? ⟨w.heap.size, 5, none⟩ = some (str ta) := fun q => cellB (below_drewN _ _ q) (by simp [go_sem])
  have g6 : ∀ q, ((w.alloc (.cells #[.int .i64 kd, str tb, .slice kA 0 kc, .slice pA pn pc, .slice qA qn qc, str ta, str tas, .int .i64 agg, .int .i64 (k : Int)] 49)).drewN q).cell? ⟨w.heap.size, 6, none⟩ = some (str tas) := fun q => cellB (below_drewN _ _ q) (by simp [go_sem])
  have g7 : ∀ q, ((w.alloc (.cells #[.int .i64 kd, str tb, .slice kA 0 kc, .slice pA pn pc, .slice qA qn qc, str ta, str tas, .int .i64 agg, .int .i64 (k : Int)] 49)).drewN q).cell? ⟨w.heap.size, 7, none⟩ = some (.int .i64 agg) := fun q => cellB (below_drewN _ _ q) (by simp [go_sem])
  have g8 : ∀ q, ((w.alloc (.cells #[.int .i64 kd, str tb, .slice kA 0 kc, .slice pA pn pc, .slice qA qn qc, str ta, str tas, .int .i64 agg, .int .i64 (k : Int)] 49)).drewN q).cell? ⟨w.heap.size, 8, none⟩ = some (.int .i64 (k : Int)) := fun q => cellB (below_drewN _ _ q) (by simp [go_sem])
  clear htab hk1
  go_enter Tryz.func18, Tryz.ntmps18
  go_wp2_with fail
  go_quiet (fail)
  go_wp2_with fail
  go_loopw [8, 9] (fun a i wr => Below (w.alloc (.cells #[.int .i64 kd, str tb, .slice kA 0 kc, .slice pA pn pc, .slice qA qn qc, str ta, str tas, .int .i64 agg, .int .i64 (k : Int)] 49)).heap.size (w.alloc (.cells #[.int .i64 kd, str tb, .slice kA 0 kc, .slice pA pn pc, .slice qA qn qc, str ta, str tas, .int .i64 agg, .int .i64 (k : Int)] 49)) wr ∧ ((a = .int .i64 (k : Int) ∧ i = .int .i64 0))) (fun _ i _ => 0 - (intOf i).toNat)
  case atStart => exact ⟨below_drewN _ _ _, ⟨rfl, rfl⟩⟩
  case round =>
    obtain ⟨hb, ⟨rfl, rfl⟩⟩ := hrel
    have HB := Lib.hid hb
    have q2 := cellB hb (g2 0)
    clear hb
    go_wp2_with fail
    go_ret2
    exact ⟨rfl, below_from HB.out⟩
set_option maxRecDepth 100000 in
set_option maxHeartbeats 8000000 in
theorem ord1a (t : Txt) (ht : t.length ≤ 8000) (h : Hd) (f : Int) (hf : 0 ≤ f) (hH : ordH t h f = true) (hk1 : h.kind = 1) (w : World) (kc : Nat) (pA qA : Option Addr) (pn pc qn qc : Nat) (kb ko : Nat) (hkc : 1 ≤ kc) (h0 : Hd) (x00A x01A x02A : Option Addr) (x00n x00c x01n x01c x02n x02c : Nat) (n0 : Int) (cc0 : ∀ k, k < 9 → w.cell? ⟨kb, ko + k, none⟩ = ([.int .i64 h0.kind, str h0.table, .slice x00A x00n x00c, .slice x01A x01n x01c, .slice x02A x02n x02c, str h0.attr, str h0.as_, .int .i64 h0.agg, .int .i64 h0.at_] : List Value)[k]?) (nn0 : 0 ≤ n0 ∧ n0 < (t.length : Int)) (hc0 : ∀ W, Below w.heap.size w W → Calls Tryz.prog 18 #[str t, .agg #[.int .i64 h0.kind, str h0.table, .slice x00A x00n x00c, .slice x01A x01n x01c, .slice x02A x02n x02c, str h0.attr, str h0.as_, .int .i64 h0.agg, .int .i64 h0.at_], .int .i64 (h.at_ + 1)] W (fun e w' => e = .returned (.tuple #[.int .i64 n0, .bool true]) ∧ Below W.heap.size W w')) :
    Calls Tryz.prog 18 #[str t, .agg #[.int .i64 h.kind, str h.table, .slice (some ⟨kb, ko, none⟩) 1 kc, .slice pA pn pc, .slice qA qn qc, str h.attr, str h.as_, .int .i64 h.agg, .int .i64 h.at_], .int .i64 f] w (fun e w' => e = .returned (.tuple #[.int .i64 n0, .bool true]) ∧ Below w.heap.size w w') := by
  have hsz := sz t
  obtain ⟨k, hat, hfk, hkl, htab⟩ := ordH_inv hf hH
  obtain ⟨kd, tb, cds, nms, ta, tas, agg, a_⟩ := h
  simp only at hat hk1 htab hc0 ⊢
  subst hat
  have hst := sz tb
  have d1 : ¬ (k : Int) < f := by omega
  have d1b : f ≤ (k : Int) := by omega
  have d2 : ¬ (t.length : Int) ≤ (k : Int) := by omega
  have d2b : (k : Int) < (t.length : Int) := by omega
  have d0 : (0 : Int) ≤ (k : Int) := by omega
  obtain ⟨t1, t2⟩ := htab hk1
  have e1 : ((kd : Int) == 1) = true := by rw [beq_iff_eq]; exact hk1
  have s1 : IntKind.i64.wrap ((t.length : Int) - (tb.length : Int)) = (t.length : Int) - (tb.length : Int) := IntWalk.i64_in _ (by omega)
  have s2 : ¬ (t.length : Int) - (tb.length : Int) < (k : Int) := by omega
  have s2b : (k : Int) ≤ (t.length : Int) - (tb.length : Int) := by omega
  have s2c : decide ((t.length : Int) - (tb.length : Int) < (k : Int)) = false := decide_eq_false (by omega)
  have s3 : IntKind.i64.wrap ((k : Int) + (tb.length : Int)) = (k : Int) + (tb.length : Int) := IntWalk.i64_in _ (by omega)
  have s4 : (0 : Int) ≤ (k : Int) + (tb.length : Int) := by omega
  have s5 : (k : Int) + (tb.length : Int) ≤ (t.length : Int) := by omega
  have s6 : ((k : Int) + (tb.length : Int)).toNat = k + tb.length := by omega
  have s7 : (k : Int) ≤ (k : Int) + (tb.length : Int) := by omega
  have xt : (⟨t.toArray⟩ : ByteArray).extract k (k + tb.length) = ⟨tb.toArray⟩ := by rw [ext_eq, Nat.add_sub_cancel_left, t2]
  clear t1 t2
  have i9 : IntKind.i64.wrap ((k : Int) + 1) = (k : Int) + 1 := IntWalk.i64_in _ (by omega)
  have g0 : ∀ q, ((w.alloc (.cells #[.int .i64 kd, str tb, .slice (some ⟨kb, ko, none⟩) 1 kc, .slice pA pn pc, .slice qA qn qc, str ta, str tas, .int .i64 agg, .int .i64 (k : Int)] 49)).drewN q).cell? ⟨w.heap.size, 0, none⟩ = some (.int .i64 kd) := fun q => cellB (below_drewN _ _ q) (by simp [go_sem])
  have g1 : ∀ q, ((w.alloc (.cells #[.int .i64 kd, str tb, .slice (some ⟨kb, ko, none⟩) 1 kc, .slice pA pn pc, .slice qA qn qc, str ta, str tas, .int .i64 agg, .int .i64 (k : Int)] 49)).drewN q).cell? ⟨w.heap.size, 1, none⟩ = some (str tb) := fun q => cellB (below_drewN _ _ q) (by simp [go_sem])
  have g2 : ∀ q, ((w.alloc (.cells #[.int .i64 kd, str tb, .slice (some ⟨kb, ko, none⟩) 1 kc, .slice pA pn pc, .slice qA qn qc, str ta, str tas, .int .i64 agg, .int .i64 (k : Int)] 49)).drewN q).cell? ⟨w.heap.size, 2, none⟩ = some (.slice (some ⟨kb, ko, none⟩) 1 kc) := fun q => cellB (below_drewN _ _ q) (by simp [go_sem])
  have g3 : ∀ q, ((w.alloc (.cells #[.int .i64 kd, str tb, .slice (some ⟨kb, ko, none⟩) 1 kc, .slice pA pn pc, .slice qA qn qc, str ta, str tas, .int .i64 agg, .int .i64 (k : Int)] 49)).drewN q).cell? ⟨w.heap.size, 3, none⟩ = some (.slice pA pn pc) := fun q => cellB (below_drewN _ _ q) (by simp [go_sem])
  have g4 : ∀ q, ((w.alloc (.cells #[.int .i64 kd, str tb, .slice (some ⟨kb, ko, none⟩) 1 kc, .slice pA pn pc, .slice qA qn qc, str ta, str tas, .int .i64 agg, .int .i64 (k : Int)] 49)).drewN q).cell? ⟨w.heap.size, 4, none⟩ = some (.slice qA qn qc) := fun q => cellB (below_drewN _ _ q) (by simp [go_sem])
  have g5 : ∀ q, ((w.alloc (.cells #[.int .i64 kd, str tb, .slice (some ⟨kb, ko, none⟩) 1 kc, .slice pA pn pc, .slice qA qn qc, str ta, str tas, .int .i64 agg, .int .i64 (k : Int)] 49)).drewN q).cell? ⟨w.heap.size, 5, none⟩ = some (str ta) := fun q => cellB (below_drewN _ _ q) (by simp [go_sem])
  have g6 : ∀ q, ((w.alloc (.cells #[.int .i64 kd, str tb, .slice (some ⟨kb, ko, none⟩) 1 kc, .slice pA pn pc, .slice qA qn qc, str ta, str tas, .int .i64 agg, .int .i64 (k : Int)] 49)).drewN q).cell? ⟨w.heap.size, 6, none⟩ = some (str tas) := fun q => cellB (below_drewN _ _ q) (by simp [go_sem])
  have g7 : ∀ q, ((w.alloc (.cells #[.int .i64 kd, str tb, .slice (some ⟨kb, ko, none⟩) 1 kc, .slice pA pn pc, .slice qA qn qc, str ta, str tas, .int .i64 agg, .int .i64 (k : Int)] 49)).drewN q).cell? ⟨w.heap.size, 7, none⟩ = some (.int .i64 agg) := fun q => cellB (below_drewN _ _ q) (by simp [go_sem])
  have g8 : ∀ q, ((w.alloc (.cells #[.int .i64 kd, str tb, .slice (some ⟨kb, ko, none⟩) 1 kc, .slice pA pn pc, .slice qA qn qc, str ta, str tas, .int .i64 agg, .int .i64 (k : Int)] 49)).drewN q).cell? ⟨w.heap.size, 8, none⟩ = some (.int .i64 (k : Int)) := fun q => cellB (below_drewN _ _ q) (by simp [go_sem])
  clear htab hk1
  go_enter Tryz.func18, Tryz.ntmps18
  go_wp2_with fail
  go_quiet (fail)
  go_wp2_with fail
  go_loopw [8, 9] (fun a i wr => Below (w.alloc (.cells #[.int .i64 kd, str tb, .slice (some ⟨kb, ko, none⟩) 1 kc, .slice pA pn pc, .slice qA qn qc, str ta, str tas, .int .i64 agg, .int .i64 (k : Int)] 49)).heap.size (w.alloc (.cells #[.int .i64 kd, str tb, .slice (some ⟨kb, ko, none⟩) 1 kc, .slice pA pn pc, .slice qA qn qc, str ta, str tas, .int .i64 agg, .int .i64 (k : Int)] 49)) wr ∧ ((a = .int .i64 (k : Int) ∧ i = .int .i64 0) ∨ (a = .int .i64 n0 ∧ i = .int .i64 1))) (fun _ i _ => 1 - (intOf i).toNat)
  case atStart => exact ⟨below_drewN _ _ _, .inl ⟨rfl, rfl⟩⟩
  case round =>
    obtain ⟨hb, ⟨rfl, rfl⟩ | ⟨rfl, rfl⟩⟩ := hrel
    · have HB := Lib.hid hb
      have q2 := cellB hb (g2 0)
      have y0 : wr.cell? ⟨kb, ko, none⟩ = some (.int .i64 h0.kind) := cellB (below_from hb) ((cc0 0 (by decide)).trans rfl)
      have y1 : wr.cell? ⟨kb, ko + 1, none⟩ = some (str h0.table) := cellB (below_from hb) ((cc0 1 (by decide)).trans rfl)
      have y2 : wr.cell? ⟨kb, ko + 2, none⟩ = some (.slice x00A x00n x00c) := cellB (below_from hb) ((cc0 2 (by decide)).trans rfl)
      have y3 : wr.cell? ⟨kb, ko + 3, none⟩ = some (.slice x01A x01n x01c) := cellB (below_from hb) ((cc0 3 (by decide)).trans rfl)
      have y4 : wr.cell? ⟨kb, ko + 4, none⟩ = some (.slice x02A x02n x02c) := cellB (below_from hb) ((cc0 4 (by decide)).trans rfl)
      have y5 : wr.cell? ⟨kb, ko + 5, none⟩ = some (str h0.attr) := cellB (below_from hb) ((cc0 5 (by decide)).trans rfl)
      have y6 : wr.cell? ⟨kb, ko + 6, none⟩ = some (str h0.as_) := cellB (below_from hb) ((cc0 6 (by decide)).trans rfl)
      have y7 : wr.cell? ⟨kb, ko + 7, none⟩ = some (.int .i64 h0.agg) := cellB (below_from hb) ((cc0 7 (by decide)).trans rfl)
      have y8 : wr.cell? ⟨kb, ko + 8, none⟩ = some (.int .i64 h0.at_) := cellB (below_from hb) ((cc0 8 (by decide)).trans rfl)
      have hj := hkc
      clear hb
      go_wp2_with fail
      refine (hc0 _ (below_from HB.out)).mono ?_
      rintro e w2 ⟨rfl, hb2⟩
      have HB2 := Lib.hid hb2
      clear hb2
      go_wp2_with fail
      go_roundw
      case rel => exact ⟨below_step2 HB.out HB2.out, .inr (⟨rfl, rfl⟩)⟩
      case measure => decide
    · have HB := Lib.hid hb
      have q2 := cellB hb (g2 0)
      clear hb
      go_wp2_with fail
      go_ret2
      exact ⟨rfl, below_from HB.out⟩
set_option maxRecDepth 100000 in
set_option maxHeartbeats 8000000 in
theorem ord1b (t : Txt) (ht : t.length ≤ 8000) (h : Hd) (f : Int) (hf : 0 ≤ f) (hH : ordH t h f = true) (hk1 : h.kind ≠ 1) (w : World) (kc : Nat) (pA qA : Option Addr) (pn pc qn qc : Nat) (kb ko : Nat) (hkc : 1 ≤ kc) (h0 : Hd) (x00A x01A x02A : Option Addr) (x00n x00c x01n x01c x02n x02c : Nat) (n0 : Int) (cc0 : ∀ k, k < 9 → w.cell? ⟨kb, ko + k, none⟩ = ([.int .i64 h0.kind, str h0.table, .slice x00A x00n x00c, .slice x01A x01n x01c, .slice x02A x02n x02c, str h0.attr, str h0.as_, .int .i64 h0.agg, .int .i64 h0.at_] : List Value)[k]?) (nn0 : 0 ≤ n0 ∧ n0 < (t.length : Int)) (hc0 : ∀ W, Below w.heap.size w W → Calls Tryz.prog 18 #[str t, .agg #[.int .i64 h0.kind, str h0.table, .slice x00A x00n x00c, .slice x01A x01n x01c, .slice x02A x02n x02c, str h0.attr, str h0.as_, .int .i64 h0.agg, .int .i64 h0.at_], .int .i64 (h.at_ + 1)] W (fun e w' => e = .returned (.tuple #[.int .i64 n0, .bool true]) ∧ Below W.heap.size W w')) :
    Calls Tryz.prog 18 #[str t, .agg #[.int .i64 h.kind, str h.table, .slice (some ⟨kb, ko, none⟩) 1 kc, .slice pA pn pc, .slice qA qn qc, str h.attr, str h.as_, .int .i64 h.agg, .int .i64 h.at_], .int .i64 f] w (fun e w' => e = .returned (.tuple #[.int .i64 n0, .bool true]) ∧ Below w.heap.size w w') := by
  have hsz := sz t
  obtain ⟨k, hat, hfk, hkl, htab⟩ := ordH_inv hf hH
  obtain ⟨kd, tb, cds, nms, ta, tas, agg, a_⟩ := h
  simp only at hat hk1 htab hc0 ⊢
  subst hat
  have hst := sz tb
  have d1 : ¬ (k : Int) < f := by omega
  have d1b : f ≤ (k : Int) := by omega
  have d2 : ¬ (t.length : Int) ≤ (k : Int) := by omega
  have d2b : (k : Int) < (t.length : Int) := by omega
  have d0 : (0 : Int) ≤ (k : Int) := by omega
  have e1 : ((kd : Int) == 1) = false := by rw [beq_eq_false_iff_ne]; exact hk1
  have i9 : IntKind.i64.wrap ((k : Int) + 1) = (k : Int) + 1 := IntWalk.i64_in _ (by omega)
  have g0 : ∀ q, ((w.alloc (.cells #[.int .i64 kd, str tb, .slice (some ⟨kb, ko, none⟩) 1 kc, .slice pA pn pc, .slice qA qn qc, str ta, str tas, .int .i64 agg, .int .i64 (k : Int)] 49)).drewN q).cell? ⟨w.heap.size, 0, none⟩ = some (.int .i64 kd) := fun q => cellB (below_drewN _ _ q) (by simp [go_sem])
  have g1 : ∀ q, ((w.alloc (.cells #[.int .i64 kd, str tb, .slice (some ⟨kb, ko, none⟩) 1 kc, .slice pA pn pc, .slice qA qn qc, str ta, str tas, .int .i64 agg, .int .i64 (k : Int)] 49)).drewN q).cell? ⟨w.heap.size, 1, none⟩ = some (str tb) := fun q => cellB (below_drewN _ _ q) (by simp [go_sem])
  have g2 : ∀ q, ((w.alloc (.cells #[.int .i64 kd, str tb, .slice (some ⟨kb, ko, none⟩) 1 kc, .slice pA pn pc, .slice qA qn qc, str ta, str tas, .int .i64 agg, .int .i64 (k : Int)] 49)).drewN q).cell? ⟨w.heap.size, 2, none⟩ = some (.slice (some ⟨kb, ko, none⟩) 1 kc) := fun q => cellB (below_drewN _ _ q) (by simp [go_sem])
  have g3 : ∀ q, ((w.alloc (.cells #[.int .i64 kd, str tb, .slice (some ⟨kb, ko, none⟩) 1 kc, .slice pA pn pc, .slice qA qn qc, str ta, str tas, .int .i64 agg, .int .i64 (k : Int)] 49)).drewN q).cell? ⟨w.heap.size, 3, none⟩ = some (.slice pA pn pc) := fun q => cellB (below_drewN _ _ q) (by simp [go_sem])
  have g4 : ∀ q, ((w.alloc (.cells #[.int .i64 kd, str tb, .slice (some ⟨kb, ko, none⟩) 1 kc, .slice pA pn pc, .slice qA qn qc, str ta, str tas, .int .i64 agg, .int .i64 (k : Int)] 49)).drewN q).cell? ⟨w.heap.size, 4, none⟩ = some (.slice qA qn qc) := fun q => cellB (below_drewN _ _ q) (by simp [go_sem])
  have g5 : ∀ q, ((w.alloc (.cells #[.int .i64 kd, str tb, .slice (some ⟨kb, ko, none⟩) 1 kc, .slice pA pn pc, .slice qA qn qc, str ta, str tas, .int .i64 agg, .int .i64 (k : Int)] 49)).drewN q).cell? ⟨w.heap.size, 5, none⟩ = some (str ta) := fun q => cellB (below_drewN _ _ q) (by simp [go_sem])
  have g6 : ∀ q, ((w.alloc (.cells #[.int .i64 kd, str tb, .slice (some ⟨kb, ko, none⟩) 1 kc, .slice pA pn pc, .slice qA qn qc, str ta, str tas, .int .i64 agg, .int .i64 (k : Int)] 49)).drewN q).cell? ⟨w.heap.size, 6, none⟩ = some (str tas) := fun q => cellB (below_drewN _ _ q) (by simp [go_sem])
  have g7 : ∀ q, ((w.alloc (.cells #[.int .i64 kd, str tb, .slice (some ⟨kb, ko, none⟩) 1 kc, .slice pA pn pc, .slice qA qn qc, str ta, str tas, .int .i64 agg, .int .i64 (k : Int)] 49)).drewN q).cell? ⟨w.heap.size, 7, none⟩ = some (.int .i64 agg) := fun q => cellB (below_drewN _ _ q) (by simp [go_sem])
  have g8 : ∀ q, ((w.alloc (.cells #[.int .i64 kd, str tb, .slice (some ⟨kb, ko, none⟩) 1 kc, .slice pA pn pc, .slice qA qn qc, str ta, str tas, .int .i64 agg, .int .i64 (k : Int)] 49)).drewN q).cell? ⟨w.heap.size, 8, none⟩ = some (.int .i64 (k : Int)) := fun q => cellB (below_drewN _ _ q) (by simp [go_sem])
  clear htab hk1
  go_enter Tryz.func18, Tryz.ntmps18
  go_wp2_with fail
  go_quiet (fail)
  go_wp2_with fail
  go_loopw [8, 9] (fun a i wr => Below (w.alloc (.cells #[.int .i64 kd, str tb, .slice (some ⟨kb, ko, none⟩) 1 kc, .slice pA pn pc, .slice qA qn qc, str ta, str tas, .int .i64 agg, .int .i64 (k : Int)] 49)).heap.size (w.alloc (.cells #[.int .i64 kd, str tb, .slice (some ⟨kb, ko, none⟩) 1 kc, .slice pA pn pc, .slice qA qn qc, str ta, str tas, .int .i64 agg, .int .i64 (k : Int)] 49)) wr ∧ ((a = .int .i64 (k : Int) ∧ i = .int .i64 0) ∨ (a = .int .i64 n0 ∧ i = .int .i64 1))) (fun _ i _ => 1 - (intOf i).toNat)
  case atStart => exact ⟨below_drewN _ _ _, .inl ⟨rfl, rfl⟩⟩
  case round =>
    obtain ⟨hb, ⟨rfl, rfl⟩ | ⟨rfl, rfl⟩⟩ := hrel
    · have HB := Lib.hid hb
      have q2 := cellB hb (g2 0)
      have y0 : wr.cell? ⟨kb, ko, none⟩ = some (.int .i64 h0.kind) := cellB (below_from hb) ((cc0 0 (by decide)).trans rfl)
      have y1 : wr.cell? ⟨kb, ko + 1, none⟩ = some (str h0.table) := cellB (below_from hb) ((cc0 1 (by decide)).trans rfl)
      have y2 : wr.cell? ⟨kb, ko + 2, none⟩ = some (.slice x00A x00n x00c) := cellB (below_from hb) ((cc0 2 (by decide)).trans rfl)
      have y3 : wr.cell? ⟨kb, ko + 3, none⟩ = some (.slice x01A x01n x01c) := cellB (below_from hb) ((cc0 3 (by decide)).trans rfl)
      have y4 : wr.cell? ⟨kb, ko + 4, none⟩ = some (.slice x02A x02n x02c) := cellB (below_from hb) ((cc0 4 (by decide)).trans rfl)
      have y5 : wr.cell? ⟨kb, ko + 5, none⟩ = some (str h0.attr) := cellB (below_from hb) ((cc0 5 (by decide)).trans rfl)
      have y6 : wr.cell? ⟨kb, ko + 6, none⟩ = some (str h0.as_) := cellB (below_from hb) ((cc0 6 (by decide)).trans rfl)
      have y7 : wr.cell? ⟨kb, ko + 7, none⟩ = some (.int .i64 h0.agg) := cellB (below_from hb) ((cc0 7 (by decide)).trans rfl)
      have y8 : wr.cell? ⟨kb, ko + 8, none⟩ = some (.int .i64 h0.at_) := cellB (below_from hb) ((cc0 8 (by decide)).trans rfl)
      have hj := hkc
      clear hb
      go_wp2_with fail
      refine (hc0 _ (below_from HB.out)).mono ?_
      rintro e w2 ⟨rfl, hb2⟩
      have HB2 := Lib.hid hb2
      clear hb2
      go_wp2_with fail
      go_roundw
      case rel => exact ⟨below_step2 HB.out HB2.out, .inr (⟨rfl, rfl⟩)⟩
      case measure => decide
    · have HB := Lib.hid hb
      have q2 := cellB hb (g2 0)
      clear hb
      go_wp2_with fail
      go_ret2
      exact ⟨rfl, below_from HB.out⟩
set_option maxRecDepth 100000 in
set_option maxHeartbeats 8000000 in
theorem ord2a (t : Txt) (ht : t.length ≤ 8000) (h : Hd) (f : Int) (hf : 0 ≤ f) (hH : ordH t h f = true) (hk1 : h.kind = 1) (w : World) (kc : Nat) (pA qA : Option Addr) (pn pc qn qc : Nat) (kb ko : Nat) (hkc : 2 ≤ kc) (h0 : Hd) (x00A x01A x02A : Option Addr) (x00n x00c x01n x01c x02n x02c : Nat) (n0 : Int) (cc0 : ∀ k, k < 9 → w.cell? ⟨kb, ko + k, none⟩ = ([.int .i64 h0.kind, str h0.table, .slice x00A x00n x00c, .slice x01A x01n x01c, .slice x02A x02n x02c, str h0.attr, str h0.as_, .int .i64 h0.agg, .int .i64 h0.at_] : List Value)[k]?) (nn0 : 0 ≤ n0 ∧ n0 < (t.length : Int)) (hc0 : ∀ W, Below w.heap.size w W → Calls Tryz.prog 18 #[str t, .agg #[.int .i64 h0.kind, str h0.table, .slice x00A x00n x00c, .slice x01A x01n x01c, .slice x02A x02n x02c, str h0.attr, str h0.as_, .int .i64 h0.agg, .int .i64 h0.at_], .int .i64 (h.at_ + 1)] W (fun e w' => e = .returned (.tuple #[.int .i64 n0, .bool true]) ∧ Below W.heap.size W w')) (h1 : Hd) (x10A x11A x12A : Option Addr) (x10n x10c x11n x11c x12n x12c : Nat) (n1 : Int) (cc1 : ∀ k, k < 9 → w.cell? ⟨kb, ko + 9 + k, none⟩ = ([.int .i64 h1.kind, str h1.table, .slice x10A x10n x10c, .slice x11A x11n x11c, .slice x12A x12n x12c, str h1.attr, str h1.as_, .int .i64 h1.agg, .int .i64 h1.at_] : List Value)[k]?) (_nn1 : 0 ≤ n1 ∧ n1 < (t.length : Int)) (hc1 : ∀ W, Below w.heap.size w W → Calls Tryz.prog 18 #[str t, .agg #[.int .i64 h1.kind, str h1.table, .slice x10A x10n x10c, .slice x11A x11n x11c, .slice x12A x12n x12c, str h1.attr, str h1.as_, .int .i64 h1.agg, .int .i64 h1.at_], .int .i64 (n0 + 1)] W (fun e w' => e = .returned (.tuple #[.int .i64 n1, .bool true]) ∧ Below W.heap.size W w')) :
    Calls Tryz.prog 18 #[str t, .agg #[.int .i64 h.kind, str h.table, .slice (some ⟨kb, ko, none⟩) 2 kc, .slice pA pn pc, .slice qA qn qc, str h.attr, str h.as_, .int .i64 h.agg, .int .i64 h.at_], .int .i64 f] w (fun e w' => e = .returned (.tuple #[.int .i64 n1, .bool true]) ∧ Below w.heap.size w w') := by
  have hsz := sz t
  obtain ⟨k, hat, hfk, hkl, htab⟩ := ordH_inv hf hH
  obtain ⟨kd, tb, cds, nms, ta, tas, agg, a_⟩ := h
  simp only at hat hk1 htab hc0 ⊢
  subst hat
  have hst := sz tb
  have d1 : ¬ (k : Int) < f := by omega
  have d1b : f ≤ (k : Int) := by omega
  have d2 : ¬ (t.length : Int) ≤ (k : Int) := by omega
  have d2b : (k : Int) < (t.length : Int) := by omega
  have d0 : (0 : Int) ≤ (k : Int) := by omega
  obtain ⟨t1, t2⟩ := htab hk1
  have e1 : ((kd : Int) == 1) = true := by rw [beq_iff_eq]; exact hk1
  have s1 : IntKind.i64.wrap ((t.length : Int) - (tb.length : Int)) = (t.length : Int) - (tb.length : Int) := IntWalk.i64_in _ (by omega)
  have s2 : ¬ (t.length : Int) - (tb.length : Int) < (k : Int) := by omega
  have s2b : (k : Int) ≤ (t.length : Int) - (tb.length : Int) := by omega
  have s2c : decide ((t.length : Int) - (tb.length : Int) < (k : Int)) = false := decide_eq_false (by omega)
  have s3 : IntKind.i64.wrap ((k : Int) + (tb.length : Int)) = (k : Int) + (tb.length : Int) := IntWalk.i64_in _ (by omega)
  have s4 : (0 : Int) ≤ (k : Int) + (tb.length : Int) := by omega
  have s5 : (k : Int) + (tb.length : Int) ≤ (t.length : Int) := by omega
  have s6 : ((k : Int) + (tb.length : Int)).toNat = k + tb.length := by omega
  have s7 : (k : Int) ≤ (k : Int) + (tb.length : Int) := by omega
  have xt : (⟨t.toArray⟩ : ByteArray).extract k (k + tb.length) = ⟨tb.toArray⟩ := by rw [ext_eq, Nat.add_sub_cancel_left, t2]
  clear t1 t2
  have i9 : IntKind.i64.wrap ((k : Int) + 1) = (k : Int) + 1 := IntWalk.i64_in _ (by omega)
  have g0 : ∀ q, ((w.alloc (.cells #[.int .i64 kd, str tb, .slice (some ⟨kb, ko, none⟩) 2 kc, .slice pA pn pc, .slice qA qn qc, str ta, str tas, .int .i64 agg, .int .i64 (k : Int)] 49)).drewN q).cell? ⟨w.heap.size, 0, none⟩ = some (.int .i64 kd) := fun q => cellB (below_drewN _ _ q) (by simp [go_sem])
  have g1 : ∀ q, ((w.alloc (.cells #[.int .i64 kd, str tb, .slice (some ⟨kb, ko, none⟩) 2 kc, .slice pA pn pc, .slice qA qn qc, str ta, str tas, .int .i64 agg, .int .i64 (k : Int)] 49)).drewN q).cell? ⟨w.heap.size, 1, none⟩ = some (str tb) := fun q => cellB (below_drewN _ _ q) (by simp [go_sem])
  have g2 : ∀ q, ((w.alloc (.cells #[.int .i64 kd, str tb, .slice (some ⟨kb, ko, none⟩) 2 kc, .slice pA pn pc, .slice qA qn qc, str ta, str tas, .int .i64 agg, .int .i64 (k : Int)] 49)).drewN q).cell? ⟨w.heap.size, 2, none⟩ = some (.slice (some ⟨kb, ko, none⟩) 2 kc) := fun q => cellB (below_drewN _ _ q) (by simp [go_sem])
  have g3 : ∀ q, ((w.alloc (.cells #[.int .i64 kd, str tb, .slice (some ⟨kb, ko, none⟩) 2 kc, .slice pA pn pc, .slice qA qn qc, str ta, str tas, .int .i64 agg, .int .i64 (k : Int)] 49)).drewN q).cell? ⟨w.heap.size, 3, none⟩ = some (.slice pA pn pc) := fun q => cellB (below_drewN _ _ q) (by simp [go_sem])
  have g4 : ∀ q, ((w.alloc (.cells #[.int .i64 kd, str tb, .slice (some ⟨kb, ko, none⟩) 2 kc, .slice pA pn pc, .slice qA qn qc, str ta, str tas, .int .i64 agg, .int .i64 (k : Int)] 49)).drewN q).cell? ⟨w.heap.size, 4, none⟩ = some (.slice qA qn qc) := fun q => cellB (below_drewN _ _ q) (by simp [go_sem])
  have g5 : ∀ q, ((w.alloc (.cells #[.int .i64 kd, str tb, .slice (some ⟨kb, ko, none⟩) 2 kc, .slice pA pn pc, .slice qA qn qc, str ta, str tas, .int .i64 agg, .int .i64 (k : Int)] 49)).drewN q).cell? ⟨w.heap.size, 5, none⟩ = some (str ta) := fun q => cellB (below_drewN _ _ q) (by simp [go_sem])
  have g6 : ∀ q, ((w.alloc (.cells #[.int .i64 kd, str tb, .slice (some ⟨kb, ko, none⟩) 2 kc, .slice pA pn pc, .slice qA qn qc, str ta, str tas, .int .i64 agg, .int .i64 (k : Int)] 49)).drewN q).cell? ⟨w.heap.size, 6, none⟩ = some (str tas) := fun q => cellB (below_drewN _ _ q) (by simp [go_sem])
  have g7 : ∀ q, ((w.alloc (.cells #[.int .i64 kd, str tb, .slice (some ⟨kb, ko, none⟩) 2 kc, .slice pA pn pc, .slice qA qn qc, str ta, str tas, .int .i64 agg, .int .i64 (k : Int)] 49)).drewN q).cell? ⟨w.heap.size, 7, none⟩ = some (.int .i64 agg) := fun q => cellB (below_drewN _ _ q) (by simp [go_sem])
  have g8 : ∀ q, ((w.alloc (.cells #[.int .i64 kd, str tb, .slice (some ⟨kb, ko, none⟩) 2 kc, .slice pA pn pc, .slice qA qn qc, str ta, str tas, .int .i64 agg, .int .i64 (k : Int)] 49)).drewN q).cell? ⟨w.heap.size, 8, none⟩ = some (.int .i64 (k : Int)) := fun q => cellB (below_drewN _ _ q) (by simp [go_sem])
  clear htab hk1
  go_enter Tryz.func18, Tryz.ntmps18
  go_wp2_with fail
  go_quiet (fail)
  go_wp2_with fail
  go_loopw [8, 9] (fun a i wr => Below (w.alloc (.cells #[.int .i64 kd, str tb, .slice (some ⟨kb, ko, none⟩) 2 kc, .slice pA pn pc, .slice qA qn qc, str ta, str tas, .int .i64 agg, .int .i64 (k : Int)] 49)).heap.size (w.alloc (.cells #[.int .i64 kd, str tb, .slice (some ⟨kb, ko, none⟩) 2 kc, .slice pA pn pc, .slice qA qn qc, str ta, str tas, .int .i64 agg, .int .i64 (k : Int)] 49)) wr ∧ ((a = .int .i64 (k : Int) ∧ i = .int .i64 0) ∨ (a = .int .i64 n0 ∧ i = .int .i64 1) ∨ (a = .int .i64 n1 ∧ i = .int .i64 2))) (fun _ i _ => 2 - (intOf i).toNat)
  case atStart => exact ⟨below_drewN _ _ _, .inl ⟨rfl, rfl⟩⟩
  case round =>
    obtain ⟨hb, ⟨rfl, rfl⟩ | ⟨rfl, rfl⟩ | ⟨rfl, rfl⟩⟩ := hrel
    · have HB := Lib.hid hb
      have q2 := cellB hb (g2 0)
      have y0 : wr.cell? ⟨kb, ko, none⟩ = some (.int .i64 h0.kind) := cellB (below_from hb) ((cc0 0 (by decide)).trans rfl)
      have y1 : wr.cell? ⟨kb, ko + 1, none⟩ = some (str h0.table) := cellB (below_from hb) ((cc0 1 (by decide)).trans rfl)
      have y2 : wr.cell? ⟨kb, ko + 2, none⟩ = some (.slice x00A x00n x00c) := cellB (below_from hb) ((cc0 2 (by decide)).trans rfl)
      have y3 : wr.cell? ⟨kb, ko + 3, none⟩ = some (.slice x01A x01n x01c) := cellB (below_from hb) ((cc0 3 (by decide)).trans rfl)
      have y4 : wr.cell? ⟨kb, ko + 4, none⟩ = some (.slice x02A x02n x02c) := cellB (below_from hb) ((cc0 4 (by decide)).trans rfl)
      have y5 : wr.cell? ⟨kb, ko + 5, none⟩ = some (str h0.attr) := cellB (below_from hb) ((cc0 5 (by decide)).trans rfl)
      have y6 : wr.cell? ⟨kb, ko + 6, none⟩ = some (str h0.as_) := cellB (below_from hb) ((cc0 6 (by decide)).trans rfl)
      have y7 : wr.cell? ⟨kb, ko + 7, none⟩ = some (.int .i64 h0.agg) := cellB (below_from hb) ((cc0 7 (by decide)).trans rfl)
      have y8 : wr.cell? ⟨kb, ko + 8, none⟩ = some (.int .i64 h0.at_) := cellB (below_from hb) ((cc0 8 (by decide)).trans rfl)
      have hj := hkc
      clear hb
      go_wp2_with fail
      refine (hc0 _ (below_from HB.out)).mono ?_
      rintro e w2 ⟨rfl, hb2⟩
      have HB2 := Lib.hid hb2
      clear hb2
      go_wp2_with fail
      go_roundw
      case rel => exact ⟨below_step2 HB.out HB2.out, .inr (.inl ⟨rfl, rfl⟩)⟩
      case measure => decide
    · have HB := Lib.hid hb
      have q2 := cellB hb (g2 0)
      have y0 : wr.cell? ⟨kb, ko + 9, none⟩ = some (.int .i64 h1.kind) := cellB (below_from hb) ((cc1 0 (by decide)).trans rfl)
      have y1 : wr.cell? ⟨kb, ko + 10, none⟩ = some (str h1.table) := cellB (below_from hb) ((cc1 1 (by decide)).trans rfl)
      have y2 : wr.cell? ⟨kb, ko + 11, none⟩ = some (.slice x10A x10n x10c) := cellB (below_from hb) ((cc1 2 (by decide)).trans rfl)
      have y3 : wr.cell? ⟨kb, ko + 12, none⟩ = some (.slice x11A x11n x11c) := cellB (below_from hb) ((cc1 3 (by decide)).trans rfl)
      have y4 : wr.cell? ⟨kb, ko + 13, none⟩ = some (.slice x12A x12n x12c) := cellB (below_from hb) ((cc1 4 (by decide)).trans rfl)
      have y5 : wr.cell? ⟨kb, ko + 14, none⟩ = some (str h1.attr) := cellB (below_from hb) ((cc1 5 (by decide)).trans rfl)
      have y6 : wr.cell? ⟨kb, ko + 15, none⟩ = some (str h1.as_) := cellB (below_from hb) ((cc1 6 (by decide)).trans rfl)
      have y7 : wr.cell? ⟨kb, ko + 16, none⟩ = some (.int .i64 h1.agg) := cellB (below_from hb) ((cc1 7 (by decide)).trans rfl)
      have y8 : wr.cell? ⟨kb, ko + 17, none⟩ = some (.int .i64 h1.at_) := cellB (below_from hb) ((cc1 8 (by decide)).trans rfl)
      have hj := hkc
      have i8 : IntKind.i64.wrap (n0 + 1) = n0 + 1 := IntWalk.i64_in _ (by have := nn0; omega)
      clear hb
      go_wp2_with fail
      refine (hc1 _ (below_from HB.out)).mono ?_
      rintro e w2 ⟨rfl, hb2⟩
      have HB2 := Lib.hid hb2
      clear hb2
      go_wp2_with fail
      go_roundw
      case rel => exact ⟨below_step2 HB.out HB2.out, .inr (.inr (⟨rfl, rfl⟩))⟩
      case measure => decide
    · have HB := Lib.hid hb
      have q2 := cellB hb (g2 0)
      clear hb
      go_wp2_with fail
      go_ret2
      exact ⟨rfl, below_from HB.out⟩
set_option maxRecDepth 100000 in
set_option maxHeartbeats 8000000 in
theorem ord2b (t : Txt) (ht : t.length ≤ 8000) (h : Hd) (f : Int) (hf : 0 ≤ f) (hH : ordH t h f = true) (hk1 : h.kind ≠ 1) (w : World) (kc : Nat) (pA qA : Option Addr) (pn pc qn qc : Nat) (kb ko : Nat) (hkc : 2 ≤ kc) (h0 : Hd) (x00A x01A x02A : Option Addr) (x00n x00c x01n x01c x02n x02c : Nat) (n0 : Int) (cc0 : ∀ k, k < 9 → w.cell? ⟨kb, ko + k, none⟩ = ([.int .i64 h0.kind, str h0.table, .slice x00A x00n x00c, .slice x01A x01n x01c, .slice x02A x02n x02c, str h0.attr, str h0.as_, .int .i64 h0.agg, .int .i64 h0.at_] : List Value)[k]?) (nn0 : 0 ≤ n0 ∧ n0 < (t.length : Int)) (hc0 : ∀ W, Below w.heap.size w W → Calls Tryz.prog 18 #[str t, .agg #[.int .i64 h0.kind, str h0.table, .slice x00A x00n x00c, .slice x01A x01n x01c, .slice x02A x02n x02c, str h0.attr, str h0.as_, .int .i64 h0.agg, .int .i64 h0.at_], .int .i64 (h.at_ + 1)] W (fun e w' => e = .returned (.tuple #[.int .i64 n0, .bool true]) ∧ Below W.heap.size W w')) (h1 : Hd) (x10A x11A x12A : Option Addr) (x10n x10c x11n x11c x12n x12c : Nat) (n1 : Int) (cc1 : ∀ k, k < 9 → w.cell? ⟨kb, ko + 9 + k, none⟩ = ([.int .i64 h1.kind, str h1.table, .slice x10A x10n x10c, .slice x11A x11n x11c, .slice x12A x12n x12c, str h1.attr, str h1.as_, .int .i64 h1.agg, .int .i64 h1.at_] : List Value)[k]?) (_nn1 : 0 ≤ n1 ∧ n1 < (t.length : Int)) (hc1 : ∀ W, Below w.heap.size w W → Calls Tryz.prog 18 #[str t, .agg #[.int .i64 h1.kind, str h1.table, .slice x10A x10n x10c, .slice x11A x11n x11c, .slice x12A x12n x12c, str h1.attr, str h1.as_, .int .i64 h1.agg, .int .i64 h1.at_], .int .i64 (n0 + 1)] W (fun e w' => e = .returned (.tuple #[.int .i64 n1, .bool true]) ∧ Below W.heap.size W w')) :
    Calls Tryz.prog 18 #[str t, .agg #[.int .i64 h.kind, str h.table, .slice (some ⟨kb, ko, none⟩) 2 kc, .slice pA pn pc, .slice qA qn qc, str h.attr, str h.as_, .int .i64 h.agg, .int .i64 h.at_], .int .i64 f] w (fun e w' => e = .returned (.tuple #[.int .i64 n1, .bool true]) ∧ Below w.heap.size w w') := by
  have hsz := sz t
  obtain ⟨k, hat, hfk, hkl, htab⟩ := ordH_inv hf hH
  obtain ⟨kd, tb, cds, nms, ta, tas, agg, a_⟩ := h
  simp only at hat hk1 htab hc0 ⊢
  subst hat
  have hst := sz tb
  have d1 : ¬ (k : Int) < f := by omega
  have d1b : f ≤ (k : Int) := by omega
  have d2 : ¬ (t.length : Int) ≤ (k : Int) := by omega
  have d2b : (k : Int) < (t.length : Int) := by omega
  have d0 : (0 : Int) ≤ (k : Int) := by omega
  have e1 : ((kd : Int) == 1) = false := by rw [beq_eq_false_iff_ne]; exact hk1
  have i9 : IntKind.i64.wrap ((k : Int) + 1) = (k : Int) + 1 := IntWalk.i64_in _ (by omega)
  have g0 : ∀ q, ((w.alloc (.cells #[.int .i64 kd, str tb, .slice (some ⟨kb, ko, none⟩) 2 kc, .slice pA pn pc, .slice qA qn qc, str ta, str tas, .int .i64 agg, .int .i64 (k : Int)] 49)).drewN q).cell? ⟨w.heap.size, 0, none⟩ = some (.int .i64 kd) := fun q => cellB (below_drewN _ _ q) (by simp [go_sem])
  have g1 : ∀ q, ((w.alloc (.cells #[.int .i64 kd, str tb, .slice (some ⟨kb, ko, none⟩) 2 kc, .slice pA pn pc, .slice qA qn qc, str ta, str tas, .int .i64 agg, .int .i64 (k : Int)] 49)).drewN q).cell? ⟨w.heap.size, 1, none⟩ = some (str tb) := fun q => cellB (below_drewN _ _ q) (by simp [go_sem])
  have g2 : ∀ q, ((w.alloc (.cells #[.int .i64 kd, str tb, .slice (some ⟨kb, ko, none⟩) 2 kc, .slice pA pn pc, .slice qA qn qc, str ta, str tas, .int .i64 agg, .int .i64 (k : Int)] 49)).drewN q).cell? ⟨w.heap.size, 2, none⟩ = some (.slice (some ⟨kb, ko, none⟩) 2 kc) := fun q => cellB (below_drewN _ _ q) (by simp [go_sem])
  have g3 : ∀ q, ((w.alloc (.cells #[.int .i64 kd, str tb, .slice (some ⟨kb, ko, none⟩) 2 kc, .slice pA pn pc, .slice qA qn qc, str ta, str tas, .int .i64 agg, .int .i64 (k : Int)] 49)).drewN q).cell? ⟨w.heap.size, 3, none⟩ = some (.slice pA pn pc) := fun q => cellB (below_drewN _ _ q) (by simp [go_sem])
  have g4 : ∀ q, ((w.alloc (.cells #[.int .i64 kd, str tb, .slice (some ⟨kb, ko, none⟩) 2 kc, .slice pA pn pc, .slice qA qn qc, str ta, str tas, .int .i64 agg, .int .i64 (k : Int)] 49)).drewN q).cell? ⟨w.heap.size, 4, none⟩ = some (.slice qA qn qc) := fun q => cellB (below_drewN _ _ q) (by simp [go_sem])
  have g5 : ∀ q, ((w.alloc (.cells #[.int .i64 kd, str tb, .slice (some ⟨kb, ko, none⟩) 2 kc, .slice pA pn pc, .slice qA qn qc, str ta, str tas, .int .i64 agg, .int .i64 (k : Int)] 49)).drewN q).cell? ⟨w.heap.size, 5, none⟩ = some (str ta) := fun q => cellB (below_drewN _ _ q) (by simp [go_sem])
  have g6 : ∀ q, ((w.alloc (.cells #[.int .i64 kd, str tb, .slice (some ⟨kb, ko, none⟩) 2 kc, .slice pA pn pc, .slice qA qn qc, str ta, str tas, .int .i64 agg, .int .i64 (k : Int)] 49)).drewN q).cell? ⟨w.heap.size, 6, none⟩ = some (str tas) := fun q => cellB (below_drewN _ _ q) (by simp [go_sem])
  have g7 : ∀ q, ((w.alloc (.cells #[.int .i64 kd, str tb, .slice (some ⟨kb, ko, none⟩) 2 kc, .slice pA pn pc, .slice qA qn qc, str ta, str tas, .int .i64 agg, .int .i64 (k : Int)] 49)).drewN q).cell? ⟨w.heap.size, 7, none⟩ = some (.int .i64 agg) := fun q => cellB (below_drewN _ _ q) (by simp [go_sem])
  have g8 : ∀ q, ((w.alloc (.cells #[.int .i64 kd, str tb, .slice (some ⟨kb, ko, none⟩) 2 kc, .slice pA pn pc, .slice qA qn qc, str ta, str tas, .int .i64 agg, .int .i64 (k : Int)] 49)).drewN q).cell? ⟨w.heap.size, 8, none⟩ = some (.int .i64 (k : Int)) := fun q => cellB (below_drewN _ _ q) (by simp [go_sem])
  clear htab hk1
  go_enter Tryz.func18, Tryz.ntmps18
  go_wp2_with fail
  go_quiet (fail)
  go_wp2_with fail
  go_loopw [8, 9] (fun a i wr => Below (w.alloc (.cells #[.int .i64 kd, str tb, .slice (some ⟨kb, ko, none⟩) 2 kc, .slice pA pn pc, .slice qA qn qc, str ta, str tas, .int .i64 agg, .int .i64 (k : Int)] 49)).heap.size (w.alloc (.cells #[.int .i64 kd, str tb, .slice (some ⟨kb, ko, none⟩) 2 kc, .slice pA pn pc, .slice qA qn qc, str ta, str tas, .int .i64 agg, .int .i64 (k : Int)] 49)) wr ∧ ((a = .int .i64 (k : Int) ∧ i = .int .i64 0) ∨ (a = .int .i64 n0 ∧ i = .int .i64 1) ∨ (a = .int .i64 n1 ∧ i = .int .i64 2))) (fun _ i _ => 2 - (intOf i).toNat)
  case atStart => exact ⟨below_drewN _ _ _, .inl ⟨rfl, rfl⟩⟩
  case round =>
    obtain ⟨hb, ⟨rfl, rfl⟩ | ⟨rfl, rfl⟩ | ⟨rfl, rfl⟩⟩ := hrel
    · have HB := Lib.hid hb
      have q2 := cellB hb (g2 0)
      have y0 : wr.cell? ⟨kb, ko, none⟩ = some (.int .i64 h0.kind) := cellB (below_from hb) ((cc0 0 (by decide)).trans rfl)
      have y1 : wr.cell? ⟨kb, ko + 1, none⟩ = some (str h0.table) := cellB (below_from hb) ((cc0 1 (by decide)).trans rfl)
      have y2 : wr.cell? ⟨kb, ko + 2, none⟩ = some (.slice x00A x00n x00c) := cellB (below_from hb) ((cc0 2 (by decide)).trans rfl)
      have y3 : wr.cell? ⟨kb, ko + 3, none⟩ = some (.slice x01A x01n x01c) := cellB (below_from hb) ((cc0 3 (by decide)).trans rfl)
      have y4 : wr.cell? ⟨kb, ko + 4, none⟩ = some (.slice x02A x02n x02c) := cellB (below_from hb) ((cc0 4 (by decide)).trans rfl)
      have y5 : wr.cell? ⟨kb, ko + 5, none⟩ = some (str h0.attr) := cellB (below_from hb) ((cc0 5 (by decide)).trans rfl)
      have y6 : wr.cell? ⟨kb, ko + 6, none⟩ = some (str h0.as_) := cellB (below_from hb) ((cc0 6 (by decide)).trans rfl)
      have y7 : wr.cell? ⟨kb, ko + 7, none⟩ = some (.int .i64 h0.agg) := cellB (below_from hb) ((cc0 7 (by decide)).trans rfl)
      have y8 : wr.cell? ⟨kb, ko + 8, none⟩ = some (.int .i64 h0.at_) := cellB (below_from hb) ((cc0 8 (by decide)).trans rfl)
      have hj := hkc
      clear hb
      go_wp2_with fail
      refine (hc0 _ (below_from HB.out)).mono ?_
      rintro e w2 ⟨rfl, hb2⟩
      have HB2 := Lib.hid hb2
      clear hb2
      go_wp2_with fail
      go_roundw
      case rel => exact ⟨below_step2 HB.out HB2.out, .inr (.inl ⟨rfl, rfl⟩)⟩
      case measure => decide
    · have HB := Lib.hid hb
      have q2 := cellB hb (g2 0)
      have y0 : wr.cell? ⟨kb, ko + 9, none⟩ = some (.int .i64 h1.kind) := cellB (below_from hb) ((cc1 0 (by decide)).trans rfl)
      have y1 : wr.cell? ⟨kb, ko + 10, none⟩ = some (str h1.table) := cellB (below_from hb) ((cc1 1 (by decide)).trans rfl)
      have y2 : wr.cell? ⟨kb, ko + 11, none⟩ = some (.slice x10A x10n x10c) := cellB (below_from hb) ((cc1 2 (by decide)).trans rfl)
      have y3 : wr.cell? ⟨kb, ko + 12, none⟩ = some (.slice x11A x11n x11c) := cellB (below_from hb) ((cc1 3 (by decide)).trans rfl)
      have y4 : wr.cell? ⟨kb, ko + 13, none⟩ = some (.slice x12A x12n x12c) := cellB (below_from hb) ((cc1 4 (by decide)).trans rfl)
      have y5 : wr.cell? ⟨kb, ko + 14, none⟩ = some (str h1.attr) := cellB (below_from hb) ((cc1 5 (by decide)).trans rfl)
      have y6 : wr.cell? ⟨kb, ko + 15, none⟩ = some (str h1.as_) := cellB (below_from hb) ((cc1 6 (by decide)).trans rfl)
      have y7 : wr.cell? ⟨kb, ko + 16, none⟩ = some (.int .i64 h1.agg) := cellB (below_from hb) ((cc1 7 (by decide)).trans rfl)
      have y8 : wr.cell? ⟨kb, ko + 17, none⟩ = some (.int .i64 h1.at_) := cellB (below_from hb) ((cc1 8 (by decide)).trans rfl)
      have hj := hkc
      have i8 : IntKind.i64.wrap (n0 + 1) = n0 + 1 := IntWalk.i64_in _ (by have := nn0; omega)
      clear hb
      go_wp2_with fail
      refine (hc1 _ (below_from HB.out)).mono ?_
      rintro e w2 ⟨rfl, hb2⟩
      have HB2 := Lib.hid hb2
      clear hb2
      go_wp2_with fail
      go_roundw
      case rel => exact ⟨below_step2 HB.out HB2.out, .inr (.inr (⟨rfl, rfl⟩))⟩
      case measure => decide
    · have HB := Lib.hid hb
      have q2 := cellB hb (g2 0)
      clear hb
      go_wp2_with fail
      go_ret2
      exact ⟨rfl, below_from HB.out⟩
theorem kept_below {D : Nat} {w W : World} (hb : Below w.heap.size w W) : Kept D w W := ⟨hb.size, fun b _ hl => hb.block b hl⟩
theorem ordered_ok (t : Txt) (ht : t.length ≤ 8000) : ∀ (x : Ex) (f n : Int) (D : Nat) (w : World) (ks cs ns : Value), 0 ≤ f → ordE t x f = some n → ExC D w x ks cs ns →
    (0 ≤ n ∧ n < (t.length : Int)) ∧ Calls Tryz.prog 18 #[str t, .agg (exL (hd x) ks cs ns).toArray, .int .i64 f] w (fun e w' => e = .returned (.tuple #[.int .i64 n, .bool true]) ∧ Below w.heap.size w w') := by
  intro x
  induction x with
  | e0 h =>
    intro f n D w ks cs ns hf ho hx
    simp only [ordE] at ho
    split at ho
    · rename_i hH
      cases ho
      obtain ⟨_, ⟨pA, pn, pc, rfl⟩, ⟨qA, qn, qc, rfl⟩⟩ := hx.isSl
      obtain ⟨⟨kA, kc, rfl⟩, _, _⟩ := hx
      obtain ⟨k, q1, q2, q3, _⟩ := ordH_inv hf hH
      refine ⟨by omega, ?_⟩
      by_cases hk : h.kind = 1
      · exact ord0a t ht h f hf hH hk w kc pA qA pn pc qn qc kA
      · exact ord0b t ht h f hf hH hk w kc pA qA pn pc qn qc kA
    · cases ho
  | e1 h a ih =>
    intro f n D w ks cs ns hf ho hx
    simp only [ordE] at ho
    split at ho
    · rename_i hH
      obtain ⟨_, ⟨pA, pn, pc, rfl⟩, ⟨qA, qn, qc, rfl⟩⟩ := hx.isSl
      obtain ⟨⟨kb, ko, kc, k1, c1, n1, rfl, hkc, _, hcell, hxa⟩, _, _⟩ := hx
      obtain ⟨k, q1, q2, q3, _⟩ := ordH_inv hf hH
      obtain ⟨⟨aA, an, ac, rfl⟩, ⟨bA, bn, bc, rfl⟩, ⟨dA, dn, dc, rfl⟩⟩ := hxa.isSl
      have hr := (ih (h.at_ + 1) n D w _ _ _ (by omega) ho hxa).1
      have hc := fun W (hb : Below w.heap.size w W) => (ih (h.at_ + 1) n D W _ _ _ (by omega) ho (hxa.stay (kept_below hb))).2
      refine ⟨hr, ?_⟩
      by_cases hk : h.kind = 1
      · exact ord1a t ht h f hf hH hk w kc pA qA pn pc qn qc kb ko hkc (hd a) aA bA dA an ac bn bc dn dc n hcell hr hc
      · exact ord1b t ht h f hf hH hk w kc pA qA pn pc qn qc kb ko hkc (hd a) aA bA dA an ac bn bc dn dc n hcell hr hc
    · cases ho
  | e2 h a b iha ihb =>
    intro f n D w ks cs ns hf ho hx
    simp only [ordE] at ho
    split at ho
    · rename_i hH
      rcases e1 : ordE t a (h.at_ + 1) with _ | m
      · rw [e1] at ho
        cases ho
      · rw [e1] at ho
        have ho2 : ordE t b (m + 1) = some n := ho
        obtain ⟨_, ⟨pA, pn, pc, rfl⟩, ⟨qA, qn, qc, rfl⟩⟩ := hx.isSl
        obtain ⟨⟨kb, ko, kc, k1, c1, n1, k2, c2, n2, rfl, hkc, _, hcell, hcell2, hxa, hxb⟩, _, _⟩ := hx
        obtain ⟨k, q1, q2, q3, _⟩ := ordH_inv hf hH
        obtain ⟨⟨aA, an, ac, rfl⟩, ⟨bA, bn, bc, rfl⟩, ⟨dA, dn, dc, rfl⟩⟩ := hxa.isSl
        obtain ⟨⟨eA, en, ec, rfl⟩, ⟨gA, gn, gc, rfl⟩, ⟨iA, iN, ic, rfl⟩⟩ := hxb.isSl
        have hr := (iha (h.at_ + 1) m D w _ _ _ (by omega) e1 hxa).1
        have hr2 := (ihb (m + 1) n D w _ _ _ (by omega) ho2 hxb).1
        have hc := fun W (hb : Below w.heap.size w W) => (iha (h.at_ + 1) m D W _ _ _ (by omega) e1 (hxa.stay (kept_below hb))).2
        have hc2 := fun W (hb : Below w.heap.size w W) => (ihb (m + 1) n D W _ _ _ (by omega) ho2 (hxb.stay (kept_below hb))).2
        refine ⟨hr2, ?_⟩
        by_cases hk : h.kind = 1
        · exact ord2a t ht h f hf hH hk w kc pA qA pn pc qn qc kb ko hkc (hd a) aA bA dA an ac bn bc dn dc m hcell hr hc (hd b) eA gA iA en ec gn gc iN ic n hcell2 hr2 hc2
        · exact ord2b t ht h f hf hH hk w kc pA qA pn pc qn qc kb ko hkc (hd a) aA bA dA an ac bn bc dn dc m hcell hr hc (hd b) eA gA iA en ec gn gc iN ic n hcell2 hr2 hc2
    · cases ho
end Go.Proofs.YtfipkdnddghjpaaGreatDoor
