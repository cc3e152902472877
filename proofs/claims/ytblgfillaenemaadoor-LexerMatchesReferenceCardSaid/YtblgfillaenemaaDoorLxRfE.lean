/- The reference's comparisons of tokens, where they answer true; its Gaps. -/
import Derived.Test.YtblgfillaenemaaDoorLxHead
import Derived.Test.YtblgfillaenemaaDoorLxLaw3
namespace Go.Proofs.YtblgfillaenemaaDoor
open Go.RowKit
open L7 (Tk lexT lx gap bare)

theorem tk_at0 {w : World} {A : Option Addr} {n cap : Nat} {l : List Tk} (h : Toks w (.slice A n cap) l) (hl : 0 < l.length) : ∃ b off, A = some ⟨b, off, none⟩ := by
  obtain ⟨b', off', cap', e, _, _⟩ := h.at hl
  injection e with e1 e2 e3
  exact ⟨b', off', e1⟩
set_option maxRecDepth 100000 in
set_option maxHeartbeats 4000000 in
theorem alike_true (va vb : Value) (a b : List Tk) (hl : a.length ≤ 100000) (h : a.map bare = b.map bare) (w : World) (ha : Toks w va a) (hb : Toks w vb b) :
    Calls Tryd.prog 16 #[va, vb] w fun e w' => e = .returned (.bool true) ∧ Below w.heap.size w w' := by
  have hlen : b.length = a.length := by have := congrArg List.length h; simpa using this.symm
  obtain ⟨A, ca, rfl, hca⟩ := Slc.form ha
  obtain ⟨B, cb, rfl, hcb⟩ := Slc.form hb
  rw [hlen] at hb hcb ⊢
  obtain ⟨n, hn⟩ : ∃ n, a.length = n := ⟨_, rfl⟩
  have HAl := Lib.hid hn
  have HBl := Lib.hid hlen
  have HH := Lib.hid h
  have HA := Lib.hid ha
  have HB := Lib.hid hb
  rw [hn] at HA HB hca hcb hl ⊢
  clear h ha hb hlen hn
  go_enter Tryd.func16, Tryd.ntmps16
  go_wp2_with fail
  go_loopw [5] (fun i wr => ∃ k : Nat, k ≤ n ∧ i = .int .i64 (k : Int) ∧ Below w.heap.size w wr) (fun i _ => n - (intOf i).toNat)
  case atStart => exact ⟨0, by omega, by simp, Below.refl _ _⟩
  case round =>
    obtain ⟨k, hk, rfl, hb⟩ := hrel
    have HBr := Lib.hid hb
    clear hb
    by_cases hlt : k < n
    · have hka : k < a.length := by rw [HAl.out]; exact hlt
      have hkb : k < b.length := by rw [HBl.out, HAl.out]; exact hlt
      obtain ⟨ba, oa, rfl⟩ := tk_at0 HA.out (by omega)
      obtain ⟨bb, ob, rfl⟩ := tk_at0 HB.out (by omega)
      have e := congrArg (fun l => l[k]?) HH.out
      simp only [List.getElem?_map, List.getElem?_eq_getElem hka, List.getElem?_eq_getElem hkb, Option.map_some, Option.some.injEq] at e
      have e1 : b[k].kind = a[k].kind := (congrArg Tk.kind e).symm
      have e2 : b[k].text = a[k].text := (congrArg Tk.text e).symm
      have e3 : b[k].n = a[k].n := (congrArg Tk.n e).symm
      have ca' := fun m => tk_at (HA.out.below (HBr.out.trans (below_drewN _ wr m))) k hka
      have cb' := fun m => tk_at (HB.out.below (HBr.out.trans (below_drewN _ wr m))) k hkb
      simp only [e1, e2, e3] at cb'
      obtain ⟨kd, hkd⟩ : ∃ kd, a[k].kind = kd := ⟨_, rfl⟩
      obtain ⟨tx, htx⟩ : ∃ tx, a[k].text = tx := ⟨_, rfl⟩
      obtain ⟨nn, hnn⟩ : ∃ nn, a[k].n = nn := ⟨_, rfl⟩
      rw [hkd, htx, hnn] at ca' cb'
      have p0 : ∀ m, (wr.drewN m).cell? ⟨ba, oa + k * 4, none⟩ = some (.int .i64 kd) := fun m => (ca' m).1
      have p1 : ∀ m, (wr.drewN m).cell? ⟨ba, oa + k * 4 + 1, none⟩ = some (str tx) := fun m => (ca' m).2.1
      have p2 : ∀ m, (wr.drewN m).cell? ⟨ba, oa + k * 4 + 2, none⟩ = some (.int .i64 nn) := fun m => (ca' m).2.2.1
      have q0 : ∀ m, (wr.drewN m).cell? ⟨bb, ob + k * 4, none⟩ = some (.int .i64 kd) := fun m => (cb' m).1
      have q1 : ∀ m, (wr.drewN m).cell? ⟨bb, ob + k * 4 + 1, none⟩ = some (str tx) := fun m => (cb' m).2.1
      have q2 : ∀ m, (wr.drewN m).cell? ⟨bb, ob + k * 4 + 2, none⟩ = some (.int .i64 nn) := fun m => (cb' m).2.2.1
      have k1 : (0 : Int) ≤ (k : Int) := by omega
      have k2 : (k : Int) < (n : Int) := by omega
      have k3 : IntKind.i64.wrap ((k : Int) + 1) = (k : Int) + 1 := IntWalk.i64_in _ (by omega)
      clear ca' cb' e e1 e2 e3 hkd htx hnn
      go_wp2_with fail
      go_quiet (fail)
      go_wp2_with fail
      go_roundw
      case rel => exact ⟨k + 1, by omega, by simp, HBr.out.trans (below_drewN _ _ _)⟩
      case measure => simp [intOf]; omega
    · go_wp2_with fail
      go_ret
      exact ⟨rfl, HBr.out⟩
set_option maxRecDepth 100000 in
set_option maxHeartbeats 4000000 in
theorem same_true (va vb : Value) (a b : List Tk) (q : Nat) (hl : a.length ≤ 100000) (h : a.map (L7.sh q) = b) (hz : ∀ t ∈ b, 0 ≤ t.at_ ∧ t.at_ ≤ 100000000) (w : World) (ha : Toks w va a) (hb : Toks w vb b) :
    Calls Tryd.prog 13 #[va, .int .i64 (q : Int), vb] w fun e w' => e = .returned (.bool true) ∧ Below w.heap.size w w' := by
  have hlen : b.length = a.length := by have := congrArg List.length h; simpa using this.symm
  have HC := Lib.hid (alike_true va vb a b hl (by rw [← h]; exact (L7.bare_sh q a).symm) w ha hb)
  obtain ⟨A, ca, rfl, hca⟩ := Slc.form ha
  obtain ⟨B, cb, rfl, hcb⟩ := Slc.form hb
  rw [hlen] at hb hcb HC ⊢
  obtain ⟨n, hn⟩ : ∃ n, a.length = n := ⟨_, rfl⟩
  have HAl := Lib.hid hn
  have HBl := Lib.hid hlen
  have HH := Lib.hid h
  have HZ := Lib.hid hz
  have HA := Lib.hid ha
  have HB := Lib.hid hb
  rw [hn] at HA HB HC hca hcb hl ⊢
  clear h ha hb hlen hn hz
  go_enter Tryd.func13, Tryd.ntmps13
  go_wp2_with fail
  refine HC.out.mono ?_
  rintro e w1 ⟨rfl, hb1⟩
  have HB1 := Lib.hid hb1
  clear hb1 HC
  go_wp2_with fail
  go_loopw [7] (fun i wr => ∃ k : Nat, k ≤ n ∧ i = .int .i64 (k : Int) ∧ Below w.heap.size w wr) (fun i _ => n - (intOf i).toNat)
  case atStart => exact ⟨0, by omega, by simp, HB1.out⟩
  case round =>
    obtain ⟨k, hk, rfl, hb⟩ := hrel
    have HBr := Lib.hid hb
    clear hb
    by_cases hlt : k < n
    · have hka : k < a.length := by rw [HAl.out]; exact hlt
      have hkb : k < b.length := by rw [HBl.out, HAl.out]; exact hlt
      obtain ⟨ba, oa, rfl⟩ := tk_at0 HA.out (by omega)
      obtain ⟨bb, ob, rfl⟩ := tk_at0 HB.out (by omega)
      have e := congrArg (fun l => l[k]?) HH.out
      simp only [List.getElem?_map, List.getElem?_eq_getElem hka, List.getElem?_eq_getElem hkb, Option.map_some, Option.some.injEq] at e
      have e4 : b[k].at_ = a[k].at_ + (q : Int) := (congrArg Tk.at_ e).symm
      have hzk := HZ.out b[k] (List.getElem_mem hkb)
      have ca' := fun m => tk_at (HA.out.below (HBr.out.trans (below_drewN _ wr m))) k hka
      have cb' := fun m => tk_at (HB.out.below (HBr.out.trans (below_drewN _ wr m))) k hkb
      obtain ⟨z, hz⟩ : ∃ z, a[k].at_ = z := ⟨_, rfl⟩
      obtain ⟨y, hy⟩ : ∃ y, b[k].at_ = y := ⟨_, rfl⟩
      rw [hy] at cb' hzk e4
      rw [hz] at ca' e4
      have p3 : ∀ m, (wr.drewN m).cell? ⟨ba, oa + k * 4 + 3, none⟩ = some (.int .i64 z) := fun m => (ca' m).2.2.2
      have q3 : ∀ m, (wr.drewN m).cell? ⟨bb, ob + k * 4 + 3, none⟩ = some (.int .i64 y) := fun m => (cb' m).2.2.2
      have z1 : IntKind.i64.wrap (z + (q : Int)) = y := by rw [IntWalk.i64_in _ (by omega)]; exact e4.symm
      have k1 : (0 : Int) ≤ (k : Int) := by omega
      have k2 : (k : Int) < (n : Int) := by omega
      have k3 : IntKind.i64.wrap ((k : Int) + 1) = (k : Int) + 1 := IntWalk.i64_in _ (by omega)
      clear ca' cb' e e4 hz hy hzk
      go_wp2_with fail
      go_quiet (fail)
      go_wp2_with fail
      go_roundw
      case rel => exact ⟨k + 1, by omega, by simp, HBr.out.trans (below_drewN _ _ _)⟩
      case measure => simp [intOf]; omega
    · go_wp2_with fail
      go_ret
      exact ⟨rfl, HBr.out⟩
set_option maxRecDepth 100000 in
theorem gaps_any (t : Txt) (b : Bool) (hb : decide (gap t = t.length) = b) (hl : t.length ≤ 100000) (w : World) :
    Calls Tryd.prog 14 #[str t] w fun e w' => e = .returned (.bool b) ∧ w = w' := by
  have hsz := sz t
  obtain ⟨g, hg⟩ : ∃ g, gap t = g := ⟨_, rfl⟩
  have C := Lib.hid (fun W => (show Calls Tryd.prog 19 #[str t, .int .i64 0] W (fun e w' => e = .returned (.int .i64 (g : Int)) ∧ W = w') by
    have := gap_rf t 0 (by omega) hl W
    rw [List.drop_zero, hg] at this
    exact this))
  have d : ((g : Int) == (t.length : Int)) = b := by
    rw [← hb, hg]
    by_cases h : g = t.length
    · rw [decide_eq_true h, beq_iff_eq, h]
    · rw [decide_eq_false h, beq_eq_false_iff_ne]
      omega
  clear hg hb
  go_enter Tryd.func14, Tryd.ntmps14
  go_wp2_with (go_at_call 19; refine (C.out _).mono ?_; rintro e w1 ⟨rfl, rfl⟩)
  go_ret
  exact ⟨rfl, rfl⟩
end Go.Proofs.YtblgfillaenemaaDoor
