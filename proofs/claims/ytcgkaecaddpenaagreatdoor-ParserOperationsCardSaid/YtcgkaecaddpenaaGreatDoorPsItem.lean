/- The program's items. -/
import Derived.Test.YtcgkaecaddpenaaGreatDoorPsQry
namespace Go.Proofs.YtcgkaecaddpenaaGreatDoor
open Go.RowKit
open L7 (Tk)
open L8
set_option linter.unusedSimpArgs false

def itVs (g : Nat) : List Value := [.nilFunc, .func (Fn.func 44) #[ptr g] #[], .func (Fn.func 45) #[ptr g] #[], .func (Fn.func 46) #[ptr g] #[], .func (Fn.func 47) #[ptr g] #[], .func (Fn.func 48) #[ptr g] #[], .func (Fn.func 49) #[ptr g] #[], .func (Fn.func 50) #[ptr g] #[], .func (Fn.func 51) #[ptr g] #[], .func (Fn.func 52) #[ptr g] #[], .func (Fn.func 53) #[ptr g] #[]]
theorem itVs_nodup (g : Nat) : (itVs g).Nodup := by simp [itVs]
theorem kinds_len : kindsW.length = 10 := rfl
theorem item_fn {p : Ps} {lv : Int} (hlv : lv = 12 - ((12 : Nat) : Int)) {v : Value} {k : Int} (h1 : 1 ≤ k) (h2 : k ≤ 10) (hv : (itVs p.g)[k.toNat]? = some v) :
    ∃ F : Nat, v = .func (Fn.func F) #[ptr p.g] #[] ∧ (∀ args w, (callFunc F args).run Tryz.prog w = .ok (.enter F args) w) ∧ ∀ (W : World) (r : List Tk), Sta W p r lv → Calls Tryz.prog F #[ptr p.g] W (PPost p lv W (isIt W.heap.size) (kindP2 k r)) := by
  rcases (by omega : k = 1 ∨ k = 2 ∨ k = 3 ∨ k = 4 ∨ k = 5 ∨ k = 6 ∨ k = 7 ∨ k = 8 ∨ k = 9 ∨ k = 10) with rfl | rfl | rfl | rfl | rfl | rfl | rfl | rfl | rfl | rfl
  · cases hv
    exact ⟨44, rfl, enters_of Tryz.func44 (by kernel_rfl) rfl, fun W r h => table_any W h⟩
  · cases hv
    exact ⟨45, rfl, enters_of Tryz.func45 (by kernel_rfl) rfl, fun W r h => origin_any W h⟩
  · cases hv
    exact ⟨46, rfl, enters_of Tryz.func46 (by kernel_rfl) rfl, fun W r h => block_any W h⟩
  · cases hv
    exact ⟨47, rfl, enters_of Tryz.func47 (by kernel_rfl) rfl, fun W r h => match_any W h⟩
  · cases hv
    exact ⟨48, rfl, enters_of Tryz.func48 (by kernel_rfl) rfl, fun W r h => keep_any W h⟩
  · cases hv
    exact ⟨49, rfl, enters_of Tryz.func49 (by kernel_rfl) rfl, fun W r h => unique_any W h⟩
  · cases hv
    exact ⟨50, rfl, enters_of Tryz.func50 (by kernel_rfl) rfl, fun W r h => depend_any W h⟩
  · cases hv
    exact ⟨51, rfl, enters_of Tryz.func51 (by kernel_rfl) rfl, fun W r h => include_any W h⟩
  · cases hv
    exact ⟨52, rfl, enters_of Tryz.func52 (by kernel_rfl) rfl, fun W r h => deny_any W h⟩
  · cases hv
    exact ⟨53, rfl, enters_of Tryz.func53 (by kernel_rfl) rfl, fun W r h => query_any hlv W h⟩
set_option maxRecDepth 100000 in
set_option maxHeartbeats 8000000 in
theorem item_any {p : Ps} {r : List Tk} {lv : Int} (hlv : lv = 12 - ((12 : Nat) : Int)) (w : World) (h : Sta w p r lv) :
    Calls Tryz.prog 32 #[ptr p.g] w (PPost p lv w (isIt w.heap.size) (itemP r)) := by
  obtain ⟨R, hR⟩ : ∃ R, itemP r = R := ⟨_, rfl⟩
  rw [hR]
  have R0 := Lib.hid hR.symm
  have G := Lib.hid (And.intro h.lt h.lt2)
  have S0 := Lib.hid h
  have N0 := Lib.hid (Tch.refl (fun b => b = p.g) w)
  obtain ⟨A, hA⟩ : ∃ A, w.heap.size = A := ⟨_, rfl⟩
  have HA := Lib.hid hA
  rw [hA] at G
  rw [hA]
  clear hR h
  obtain ⟨a0, ha0⟩ : ∃ a0, ((r.head?.map (·.at_)).getD 0) = a0 := ⟨_, rfl⟩
  have AT := Lib.hid ha0
  have R0b := Lib.hid (show R = (oneP kindsW >>= fun k => kindP2 k >>= fun i => (pure { i with at_ := a0 } : P It)) r from R0.out.trans (by rw [← ha0]; exact bnd_ok rfl))
  clear R0 ha0
  have R0 := R0b
  clear R0b
  have k1 : ∀ o, ∃ off cap, (w.alloc o).cell? ⟨p.g, 0, none⟩ = some (.slice (some ⟨p.b, off, none⟩) (r.length + 1) cap) ∧ (w.alloc o).cell? ⟨p.b, off + 3, none⟩ = some (.int .i64 (hdT p.n r).at_) ∧ r.length + 1 ≤ cap := fun o => by obtain ⟨off, cap, hst⟩ := S0.out; exact ⟨off, cap, (hst.keep (below_box w o)).c0, (hst.keep (below_box w o)).head.2.2.2, hst.hc⟩
  obtain ⟨off, cap, k2, k3, k4⟩ := k1 (.cells #[.int .i64 0, str [], .int .i64 0, str [], str [], .slice none 0 0, .slice none 0 0, .int .i64 0, .int .i64 0, .int .i64 0, .slice none 0 0, str [], str [], .slice none 0 0, .slice none 0 0, .slice none 0 0, .int .i64 0, str [], .slice none 0 0, .slice none 0 0, .slice none 0 0, str [], str [], .int .i64 0, .int .i64 0] 51)
  clear k1
  have HLV := Lib.hid hlv
  clear hlv
  go_enter Tryz.func32, Tryz.ntmps32
  obtain ⟨f, f0, hu, ht, hb⟩ := tab_chain (w.alloc (.cells #[.int .i64 0, str [], .int .i64 0, str [], str [], .slice none 0 0, .slice none 0 0, .int .i64 0, .int .i64 0, .int .i64 0, .slice none 0 0, str [], str [], .slice none 0 0, .slice none 0 0, .slice none 0 0, .int .i64 0, str [], .slice none 0 0, .slice none 0 0, .slice none 0 0, str [], str [], .int .i64 0, .int .i64 0] 51)) [.nilFunc, .func (Fn.func 44) #[ptr p.g] #[], .func (Fn.func 45) #[ptr p.g] #[], .func (Fn.func 46) #[ptr p.g] #[], .func (Fn.func 47) #[ptr p.g] #[], .func (Fn.func 48) #[ptr p.g] #[], .func (Fn.func 49) #[ptr p.g] #[], .func (Fn.func 50) #[ptr p.g] #[], .func (Fn.func 51) #[ptr p.g] #[], .func (Fn.func 52) #[ptr p.g] #[], .func (Fn.func 53) #[ptr p.g] #[]] (by simp) [[116, 97, 98, 108, 101], [115, 111, 117, 114, 99, 101], [98, 108, 111, 99, 107], [109, 97, 116, 99, 104], [107, 101, 101, 112], [117, 110, 105, 113, 117, 101], [100, 101, 112, 101, 110, 100], [105, 110, 99, 108, 117, 100, 101], [100, 101, 110, 121], [113, 117, 101, 114, 121]] (by decide) (by decide) (by decide) rfl Tryz.underlying105 (e := 87) 10 (by decide)
  have u0 : (Instr.mapUpdate 105 (.map (some (w.alloc (.cells #[.int .i64 0, str [], .int .i64 0, str [], str [], .slice none 0 0, .slice none 0 0, .int .i64 0, .int .i64 0, .int .i64 0, .slice none 0 0, str [], str [], .slice none 0 0, .slice none 0 0, .slice none 0 0, .int .i64 0, str [], .slice none 0 0, .slice none 0 0, .slice none 0 0, str [], str [], .int .i64 0, .int .i64 0] 51)).heap.size)) (str [116, 97, 98, 108, 101]) (.func (Fn.func 44) #[ptr p.g] #[])).run Tryz.prog (f 0) = .ok () (f 1) := hu 0 _ _ (by decide) rfl rfl
  have u1 : (Instr.mapUpdate 105 (.map (some (w.alloc (.cells #[.int .i64 0, str [], .int .i64 0, str [], str [], .slice none 0 0, .slice none 0 0, .int .i64 0, .int .i64 0, .int .i64 0, .slice none 0 0, str [], str [], .slice none 0 0, .slice none 0 0, .slice none 0 0, .int .i64 0, str [], .slice none 0 0, .slice none 0 0, .slice none 0 0, str [], str [], .int .i64 0, .int .i64 0] 51)).heap.size)) (str [115, 111, 117, 114, 99, 101]) (.func (Fn.func 45) #[ptr p.g] #[])).run Tryz.prog (f 1) = .ok () (f 2) := hu 1 _ _ (by decide) rfl rfl
  have u2 : (Instr.mapUpdate 105 (.map (some (w.alloc (.cells #[.int .i64 0, str [], .int .i64 0, str [], str [], .slice none 0 0, .slice none 0 0, .int .i64 0, .int .i64 0, .int .i64 0, .slice none 0 0, str [], str [], .slice none 0 0, .slice none 0 0, .slice none 0 0, .int .i64 0, str [], .slice none 0 0, .slice none 0 0, .slice none 0 0, str [], str [], .int .i64 0, .int .i64 0] 51)).heap.size)) (str [98, 108, 111, 99, 107]) (.func (Fn.func 46) #[ptr p.g] #[])).run Tryz.prog (f 2) = .ok () (f 3) := hu 2 _ _ (by decide) rfl rfl
  have u3 : (Instr.mapUpdate 105 (.map (some (w.alloc (.cells #[.int .i64 0, str [], .int .i64 0, str [], str [], .slice none 0 0, .slice none 0 0, .int .i64 0, .int .i64 0, .int .i64 0, .slice none 0 0, str [], str [], .slice none 0 0, .slice none 0 0, .slice none 0 0, .int .i64 0, str [], .slice none 0 0, .slice none 0 0, .slice none 0 0, str [], str [], .int .i64 0, .int .i64 0] 51)).heap.size)) (str [109, 97, 116, 99, 104]) (.func (Fn.func 47) #[ptr p.g] #[])).run Tryz.prog (f 3) = .ok () (f 4) := hu 3 _ _ (by decide) rfl rfl
  have u4 : (Instr.mapUpdate 105 (.map (some (w.alloc (.cells #[.int .i64 0, str [], .int .i64 0, str [], str [], .slice none 0 0, .slice none 0 0, .int .i64 0, .int .i64 0, .int .i64 0, .slice none 0 0, str [], str [], .slice none 0 0, .slice none 0 0, .slice none 0 0, .int .i64 0, str [], .slice none 0 0, .slice none 0 0, .slice none 0 0, str [], str [], .int .i64 0, .int .i64 0] 51)).heap.size)) (str [107, 101, 101, 112]) (.func (Fn.func 48) #[ptr p.g] #[])).run Tryz.prog (f 4) = .ok () (f 5) := hu 4 _ _ (by decide) rfl rfl
  have u5 : (Instr.mapUpdate 105 (.map (some (w.alloc (.cells #[.int .i64 0, str [], .int .i64 0, str [], str [], .slice none 0 0, .slice none 0 0, .int .i64 0, .int .i64 0, .int .i64 0, .slice none 0 0, str [], str [], .slice none 0 0, .slice none 0 0, .slice none 0 0, .int .i64 0, str [], .slice none 0 0, .slice none 0 0, .slice none 0 0, str [], str [], .int .i64 0, .int .i64 0] 51)).heap.size)) (str [117, 110, 105, 113, 117, 101]) (.func (Fn.func 49) #[ptr p.g] #[])).run Tryz.prog (f 5) = .ok () (f 6) := hu 5 _ _ (by decide) rfl rfl
  have u6 : (Instr.mapUpdate 105 (.map (some (w.alloc (.cells #[.int .i64 0, str [], .int .i64 0, str [], str [], .slice none 0 0, .slice none 0 0, .int .i64 0, .int .i64 0, .int .i64 0, .slice none 0 0, str [], str [], .slice none 0 0, .slice none 0 0, .slice none 0 0, .int .i64 0, str [], .slice none 0 0, .slice none 0 0, .slice none 0 0, str [], str [], .int .i64 0, .int .i64 0] 51)).heap.size)) (str [100, 101, 112, 101, 110, 100]) (.func (Fn.func 50) #[ptr p.g] #[])).run Tryz.prog (f 6) = .ok () (f 7) := hu 6 _ _ (by decide) rfl rfl
  have u7 : (Instr.mapUpdate 105 (.map (some (w.alloc (.cells #[.int .i64 0, str [], .int .i64 0, str [], str [], .slice none 0 0, .slice none 0 0, .int .i64 0, .int .i64 0, .int .i64 0, .slice none 0 0, str [], str [], .slice none 0 0, .slice none 0 0, .slice none 0 0, .int .i64 0, str [], .slice none 0 0, .slice none 0 0, .slice none 0 0, str [], str [], .int .i64 0, .int .i64 0] 51)).heap.size)) (str [105, 110, 99, 108, 117, 100, 101]) (.func (Fn.func 51) #[ptr p.g] #[])).run Tryz.prog (f 7) = .ok () (f 8) := hu 7 _ _ (by decide) rfl rfl
  have u8 : (Instr.mapUpdate 105 (.map (some (w.alloc (.cells #[.int .i64 0, str [], .int .i64 0, str [], str [], .slice none 0 0, .slice none 0 0, .int .i64 0, .int .i64 0, .int .i64 0, .slice none 0 0, str [], str [], .slice none 0 0, .slice none 0 0, .slice none 0 0, .int .i64 0, str [], .slice none 0 0, .slice none 0 0, .slice none 0 0, str [], str [], .int .i64 0, .int .i64 0] 51)).heap.size)) (str [100, 101, 110, 121]) (.func (Fn.func 52) #[ptr p.g] #[])).run Tryz.prog (f 8) = .ok () (f 9) := hu 8 _ _ (by decide) rfl rfl
  have u9 : (Instr.mapUpdate 105 (.map (some (w.alloc (.cells #[.int .i64 0, str [], .int .i64 0, str [], str [], .slice none 0 0, .slice none 0 0, .int .i64 0, .int .i64 0, .int .i64 0, .slice none 0 0, str [], str [], .slice none 0 0, .slice none 0 0, .slice none 0 0, .int .i64 0, str [], .slice none 0 0, .slice none 0 0, .slice none 0 0, str [], str [], .int .i64 0, .int .i64 0] 51)).heap.size)) (str [113, 117, 101, 114, 121]) (.func (Fn.func 53) #[ptr p.g] #[])).run Tryz.prog (f 9) = .ok () (f 10) := hu 9 _ _ (by decide) rfl rfl
  rw [f0] at u0
  obtain ⟨m1, e1⟩ : ∃ x, f 1 = x := ⟨_, rfl⟩
  rw [e1] at u0 u1
  obtain ⟨m2, e2⟩ : ∃ x, f 2 = x := ⟨_, rfl⟩
  rw [e2] at u1 u2
  obtain ⟨m3, e3⟩ : ∃ x, f 3 = x := ⟨_, rfl⟩
  rw [e3] at u2 u3
  obtain ⟨m4, e4⟩ : ∃ x, f 4 = x := ⟨_, rfl⟩
  rw [e4] at u3 u4
  obtain ⟨m5, e5⟩ : ∃ x, f 5 = x := ⟨_, rfl⟩
  rw [e5] at u4 u5
  obtain ⟨m6, e6⟩ : ∃ x, f 6 = x := ⟨_, rfl⟩
  rw [e6] at u5 u6
  obtain ⟨m7, e7⟩ : ∃ x, f 7 = x := ⟨_, rfl⟩
  rw [e7] at u6 u7
  obtain ⟨m8, e8⟩ : ∃ x, f 8 = x := ⟨_, rfl⟩
  rw [e8] at u7 u8
  obtain ⟨m9, e9⟩ : ∃ x, f 9 = x := ⟨_, rfl⟩
  rw [e9] at u8 u9
  obtain ⟨m10, e10⟩ : ∃ x, f 10 = x := ⟨_, rfl⟩
  rw [e10] at u9 ht hb
  have HM0 := Lib.hid hb
  have hmm := @run_makeMap Tryz.prog
  simp only [List.take_succ_cons, List.take_zero] at ht
  try simp only [World.size_alloc, World.size_setCell, hA] at u0 u1 u2 u3 u4 u5 u6 u7 u8 u9 ht
  have HT0 := Lib.hid ht
  clear f0 hu ht hb e1 e2 e3 e4 e5 e6 e7 e8 e9 e10
  go_wp2_with fail
  refine (chF_any (itVs p.g) kindsW _ (itVs_nodup p.g) rfl (by decide) rfl _ HT0.out ((S0.out.keep (below_box _ (.cells #[.int .i64 0, str [], .int .i64 0, str [], str [], .slice none 0 0, .slice none 0 0, .int .i64 0, .int .i64 0, .int .i64 0, .slice none 0 0, str [], str [], .slice none 0 0, .slice none 0 0, .slice none 0 0, .int .i64 0, str [], .slice none 0 0, .slice none 0 0, .slice none 0 0, str [], str [], .int .i64 0, .int .i64 0] 51))).keep HM0.out)).mono ?_
  intro e w1 hp
  rcases h1 : oneP kindsW r with ⟨a1, r1⟩ | ⟨b1, r1⟩
  · obtain ⟨v1, rfl, ⟨i1, hk1, hv1⟩, hs, hn⟩ := ppost_ok h1 hp
    have R1 := Lib.hid (R0.out.trans (bnd_ok h1))
    have S1 := Lib.hid hs
    have hA : Blk w1 A 51 #[.int .i64 0, str [], .int .i64 0, str [], str [], .slice none 0 0, .slice none 0 0, .int .i64 0, .int .i64 0, .int .i64 0, .slice none 0 0, str [], str [], .slice none 0 0, .slice none 0 0, .slice none 0 0, .int .i64 0, str [], .slice none 0 0, .slice none 0 0, .slice none 0 0, str [], str [], .int .i64 0, .int .i64 0] := by
      have q := (((Blk.new w 51 #[.int .i64 0, str [], .int .i64 0, str [], str [], .slice none 0 0, .slice none 0 0, .int .i64 0, .int .i64 0, .int .i64 0, .slice none 0 0, str [], str [], .slice none 0 0, .slice none 0 0, .slice none 0 0, .int .i64 0, str [], .slice none 0 0, .slice none 0 0, .slice none 0 0, str [], str [], .int .i64 0, .int .i64 0]).keep HM0.out) : Blk _ _ _ _)
      rw [HA.out] at q
      exact q.near hn (Nat.ne_of_gt G.out.1)
    have BA1 := Lib.hid hA
    have N1 := Lib.hid (((N0.out.trans (Tch.of_below (below_box _ (.cells #[.int .i64 0, str [], .int .i64 0, str [], str [], .slice none 0 0, .slice none 0 0, .int .i64 0, .int .i64 0, .int .i64 0, .slice none 0 0, str [], str [], .slice none 0 0, .slice none 0 0, .slice none 0 0, .int .i64 0, str [], .slice none 0 0, .slice none 0 0, .slice none 0 0, str [], str [], .int .i64 0, .int .i64 0] 51)))).trans (Tch.of_below HM0.out)).trans hn)
    have Y1 := Lib.hid h1
    clear hs hn hp hA h1
    have RG := Lib.hid (show 1 ≤ a1 ∧ a1 ≤ 10 from one_rng Y1.out)
    obtain ⟨F, hF1, hF2, hF3⟩ := item_fn (p := p) HLV.out RG.out.1 RG.out.2 (v := v1) (by rw [hk1]; rw [show ((i1 : Int) + 1).toNat = i1 + 1 by omega]; exact hv1)
    subst hF1
    have HF3 := Lib.hid hF3
    have hat : (hdT p.n r).at_ = a0 := by
      have q := Y1.out; have q2 := AT.out
      cases r with
      | nil => exact absurd q (by simp [oneP])
      | cons t r => rw [← q2]; rfl
    rw [hat]
    clear hF3 hk1 hv1 hat k2 k3 k4
    go_wp2_with fail
    refine (HF3.out _ _ S1.out).mono ?_
    intro e w2 hp
    rcases h2 : kindP2 a1 r1 with ⟨a2, r2⟩ | ⟨b2, r2⟩
    · obtain ⟨v2, rfl, hv2, hs, hn⟩ := ppost_ok h2 hp
      have R2 := Lib.hid (R1.out.trans (bnd_ok h2))
      obtain ⟨D2, hD2⟩ : ∃ x, w1.heap.size = x := ⟨_, rfl⟩
      have GD2 := Lib.hid (show p.g < D2 ∧ A < D2 ∧ w.heap.size ≤ D2 from by have q0 := (S1.out).lt; have q1 := (BA1.out).lt; have qq := (N1.out).size; have eA := HA.out; omega)
      rw [hD2] at hv2
      obtain ⟨⟨z1, z2, z3, z4, z5, z6, z7, z8, z9⟩, hvv, hv2⟩ := hv2
      have hs1 : IsSl z1 := hv2.cols.isSl
      have hs2 : IsSl z2 := hv2.names.isSl
      have hs3 : IsSl z3 := hv2.terms.isSl
      have hs4 : IsSl z4 := hv2.fixed.isSl
      have hs5 : IsSl z5 := hv2.vars.isSl
      have hs6 : IsSl z6 := hv2.conds.isSl
      have hs7 : IsSl z7 := hv2.ex.isSl.1
      have hs8 : IsSl z8 := hv2.ex.isSl.2.1
      have hs9 : IsSl z9 := hv2.ex.isSl.2.2
      obtain ⟨sA1, sn1, sc1, rfl⟩ := hs1; obtain ⟨sA2, sn2, sc2, rfl⟩ := hs2; obtain ⟨sA3, sn3, sc3, rfl⟩ := hs3; obtain ⟨sA4, sn4, sc4, rfl⟩ := hs4; obtain ⟨sA5, sn5, sc5, rfl⟩ := hs5; obtain ⟨sA6, sn6, sc6, rfl⟩ := hs6; obtain ⟨sA7, sn7, sc7, rfl⟩ := hs7; obtain ⟨sA8, sn8, sc8, rfl⟩ := hs8; obtain ⟨sA9, sn9, sc9, rfl⟩ := hs9
      have hv2b : v2 = .agg #[.int .i64 a2.kind, str a2.name, .int .i64 a2.at_, str a2.table, str a2.attr, .slice sA1 sn1 sc1, .slice sA2 sn2 sc2, .int .i64 a2.by_, .int .i64 a2.n, .int .i64 a2.m, .slice sA3 sn3 sc3, str a2.other, str a2.oattr, .slice sA4 sn4 sc4, .slice sA5 sn5 sc5, .slice sA6 sn6 sc6, .int .i64 (hd a2.ex).kind, str (hd a2.ex).table, .slice sA7 sn7 sc7, .slice sA8 sn8 sc8, .slice sA9 sn9 sc9, str (hd a2.ex).attr, str (hd a2.ex).as_, .int .i64 (hd a2.ex).agg, .int .i64 (hd a2.ex).at_] := hvv
      subst hv2b
      have V2 := Lib.hid hv2
      have K2_2 := Lib.hid (Kept.refl D2 w2)
      clear hv2 hD2
      have S2 := Lib.hid hs
      have hA : Blk w2 A 51 #[.int .i64 0, str [], .int .i64 0, str [], str [], .slice none 0 0, .slice none 0 0, .int .i64 0, .int .i64 0, .int .i64 0, .slice none 0 0, str [], str [], .slice none 0 0, .slice none 0 0, .slice none 0 0, .int .i64 0, str [], .slice none 0 0, .slice none 0 0, .slice none 0 0, str [], str [], .int .i64 0, .int .i64 0] := BA1.out.near hn (Nat.ne_of_gt G.out.1)
      have BA2 := Lib.hid hA
      have N2 := Lib.hid (N1.out.trans hn)
      have Y2 := Lib.hid h2
      clear hs hn hp hA h2
      obtain ⟨B, hB⟩ : ∃ x, w2.heap.size = x := ⟨_, rfl⟩
      have HB := Lib.hid hB
      have GB := Lib.hid (show p.g < B ∧ p.b < B ∧ w.heap.size ≤ B ∧ A < B from by have q1 := S2.out.lt; have q2 := S2.out.lt2; have q3 := N2.out.size; have q4 := BA2.out.lt; omega)
      have HL := Lib.hid (Blk.new w2 51 #[.int .i64 a2.kind, str a2.name, .int .i64 a0, str a2.table, str a2.attr, .slice sA1 sn1 sc1, .slice sA2 sn2 sc2, .int .i64 a2.by_, .int .i64 a2.n, .int .i64 a2.m, .slice sA3 sn3 sc3, str a2.other, str a2.oattr, .slice sA4 sn4 sc4, .slice sA5 sn5 sc5, .slice sA6 sn6 sc6, .int .i64 (hd a2.ex).kind, str (hd a2.ex).table, .slice sA7 sn7 sc7, .slice sA8 sn8 sc8, .slice sA9 sn9 sc9, str (hd a2.ex).attr, str (hd a2.ex).as_, .int .i64 (hd a2.ex).agg, .int .i64 (hd a2.ex).at_])
      have HQ := Lib.hid (show Blk (w2.alloc (.cells #[.int .i64 a2.kind, str a2.name, .int .i64 a0, str a2.table, str a2.attr, .slice sA1 sn1 sc1, .slice sA2 sn2 sc2, .int .i64 a2.by_, .int .i64 a2.n, .int .i64 a2.m, .slice sA3 sn3 sc3, str a2.other, str a2.oattr, .slice sA4 sn4 sc4, .slice sA5 sn5 sc5, .slice sA6 sn6 sc6, .int .i64 (hd a2.ex).kind, str (hd a2.ex).table, .slice sA7 sn7 sc7, .slice sA8 sn8 sc8, .slice sA9 sn9 sc9, str (hd a2.ex).attr, str (hd a2.ex).as_, .int .i64 (hd a2.ex).agg, .int .i64 (hd a2.ex).at_] 51)) A 51 #[.int .i64 0, str [], .int .i64 0, str [], str [], .slice none 0 0, .slice none 0 0, .int .i64 0, .int .i64 0, .int .i64 0, .slice none 0 0, str [], str [], .slice none 0 0, .slice none 0 0, .slice none 0 0, .int .i64 0, str [], .slice none 0 0, .slice none 0 0, .slice none 0 0, str [], str [], .int .i64 0, .int .i64 0] from BA2.out.alloc _)
      have hfe := hF2
      clear hB
      go_wp2_with (first | (refine wpList_store_new rfl 51 (.tmp 5) (.tmp 38) rfl w2.heap.size _ #[.int .i64 a2.kind, str a2.name, .int .i64 a2.at_, str a2.table, str a2.attr, .slice sA1 sn1 sc1, .slice sA2 sn2 sc2, .int .i64 a2.by_, .int .i64 a2.n, .int .i64 a2.m, .slice sA3 sn3 sc3, str a2.other, str a2.oattr, .slice sA4 sn4 sc4, .slice sA5 sn5 sc5, .slice sA6 sn6 sc6, .int .i64 (hd a2.ex).kind, str (hd a2.ex).table, .slice sA7 sn7 sc7, .slice sA8 sn8 sc8, .slice sA9 sn9 sc9, str (hd a2.ex).attr, str (hd a2.ex).as_, .int .i64 (hd a2.ex).agg, .int .i64 (hd a2.ex).at_] rfl rfl rfl infoIt rfl (by simp [oc_int, oc_str, oc_slice]) ?_) | (refine wpList_load_row rfl 51 (.tmp 5) rfl w2.heap.size rfl _ #[.int .i64 a2.kind, str a2.name, .int .i64 a0, str a2.table, str a2.attr, .slice sA1 sn1 sc1, .slice sA2 sn2 sc2, .int .i64 a2.by_, .int .i64 a2.n, .int .i64 a2.m, .slice sA3 sn3 sc3, str a2.other, str a2.oattr, .slice sA4 sn4 sc4, .slice sA5 sn5 sc5, .slice sA6 sn6 sc6, .int .i64 (hd a2.ex).kind, str (hd a2.ex).table, .slice sA7 sn7 sc7, .slice sA8 sn8 sc8, .slice sA9 sn9 sc9, str (hd a2.ex).attr, str (hd a2.ex).as_, .int .i64 (hd a2.ex).agg, .int .i64 (hd a2.ex).at_] _ _ HL.out Tryz.underlying51 rfl infoIt ?_) | (refine wpList_store_row rfl 51 (.tmp 2) (.tmp 41) rfl A #[.int .i64 a2.kind, str a2.name, .int .i64 a0, str a2.table, str a2.attr, .slice sA1 sn1 sc1, .slice sA2 sn2 sc2, .int .i64 a2.by_, .int .i64 a2.n, .int .i64 a2.m, .slice sA3 sn3 sc3, str a2.other, str a2.oattr, .slice sA4 sn4 sc4, .slice sA5 sn5 sc5, .slice sA6 sn6 sc6, .int .i64 (hd a2.ex).kind, str (hd a2.ex).table, .slice sA7 sn7 sc7, .slice sA8 sn8 sc8, .slice sA9 sn9 sc9, str (hd a2.ex).attr, str (hd a2.ex).as_, .int .i64 (hd a2.ex).agg, .int .i64 (hd a2.ex).at_] rfl rfl _ _ HQ.out infoIt rfl (by simp [oc_int, oc_str, oc_slice]) ?_))
      have hres := (HQ.out.row #[.int .i64 a2.kind, str a2.name, .int .i64 a0, str a2.table, str a2.attr, .slice sA1 sn1 sc1, .slice sA2 sn2 sc2, .int .i64 a2.by_, .int .i64 a2.n, .int .i64 a2.m, .slice sA3 sn3 sc3, str a2.other, str a2.oattr, .slice sA4 sn4 sc4, .slice sA5 sn5 sc5, .slice sA6 sn6 sc6, .int .i64 (hd a2.ex).kind, str (hd a2.ex).table, .slice sA7 sn7 sc7, .slice sA8 sn8 sc8, .slice sA9 sn9 sc9, str (hd a2.ex).attr, str (hd a2.ex).as_, .int .i64 (hd a2.ex).agg, .int .i64 (hd a2.ex).at_])
      have KK := Lib.hid (((Kept.refl D2 w2).keep (below_box _ (.cells #[.int .i64 a2.kind, str a2.name, .int .i64 a0, str a2.table, str a2.attr, .slice sA1 sn1 sc1, .slice sA2 sn2 sc2, .int .i64 a2.by_, .int .i64 a2.n, .int .i64 a2.m, .slice sA3 sn3 sc3, str a2.other, str a2.oattr, .slice sA4 sn4 sc4, .slice sA5 sn5 sc5, .slice sA6 sn6 sc6, .int .i64 (hd a2.ex).kind, str (hd a2.ex).table, .slice sA7 sn7 sc7, .slice sA8 sn8 sc8, .slice sA9 sn9 sc9, str (hd a2.ex).attr, str (hd a2.ex).as_, .int .i64 (hd a2.ex).agg, .int .i64 (hd a2.ex).at_] 51))).row GD2.out.2.1 #[.int .i64 a2.kind, str a2.name, .int .i64 a0, str a2.table, str a2.attr, .slice sA1 sn1 sc1, .slice sA2 sn2 sc2, .int .i64 a2.by_, .int .i64 a2.n, .int .i64 a2.m, .slice sA3 sn3 sc3, str a2.other, str a2.oattr, .slice sA4 sn4 sc4, .slice sA5 sn5 sc5, .slice sA6 sn6 sc6, .int .i64 (hd a2.ex).kind, str (hd a2.ex).table, .slice sA7 sn7 sc7, .slice sA8 sn8 sc8, .slice sA9 sn9 sc9, str (hd a2.ex).attr, str (hd a2.ex).as_, .int .i64 (hd a2.ex).agg, .int .i64 (hd a2.ex).at_])
      have IT := Lib.hid ((V2.out.stay KK.out).lower (Nat.le_of_lt GD2.out.2.1))
      exact bodyPost_ret (v := .agg #[.int .i64 a2.kind, str a2.name, .int .i64 a0, str a2.table, str a2.attr, .slice sA1 sn1 sc1, .slice sA2 sn2 sc2, .int .i64 a2.by_, .int .i64 a2.n, .int .i64 a2.m, .slice sA3 sn3 sc3, str a2.other, str a2.oattr, .slice sA4 sn4 sc4, .slice sA5 sn5 sc5, .slice sA6 sn6 sc6, .int .i64 (hd a2.ex).kind, str (hd a2.ex).table, .slice sA7 sn7 sc7, .slice sA8 sn8 sc8, .slice sA9 sn9 sc9, str (hd a2.ex).attr, str (hd a2.ex).as_, .int .i64 (hd a2.ex).agg, .int .i64 (hd a2.ex).at_]) (results_cell_row rfl _ _ A _ _ _ _ rfl hres Tryz.underlying51 rfl infoIt) rfl
        (ppost_of_ok (V := isIt A) (R2.out.trans rfl) ⟨⟨.slice sA1 sn1 sc1, .slice sA2 sn2 sc2, .slice sA3 sn3 sc3, .slice sA4 sn4 sc4, .slice sA5 sn5 sc5, .slice sA6 sn6 sc6, .slice sA7 sn7 sc7, .slice sA8 sn8 sc8, .slice sA9 sn9 sc9⟩, rfl, ⟨IT.out.cols, IT.out.names, IT.out.terms, IT.out.fixed, IT.out.vars, IT.out.conds, IT.out.ex⟩⟩
          ((S2.out.keep (below_box _ (.cells #[.int .i64 a2.kind, str a2.name, .int .i64 a0, str a2.table, str a2.attr, .slice sA1 sn1 sc1, .slice sA2 sn2 sc2, .int .i64 a2.by_, .int .i64 a2.n, .int .i64 a2.m, .slice sA3 sn3 sc3, str a2.other, str a2.oattr, .slice sA4 sn4 sc4, .slice sA5 sn5 sc5, .slice sA6 sn6 sc6, .int .i64 (hd a2.ex).kind, str (hd a2.ex).table, .slice sA7 sn7 sc7, .slice sA8 sn8 sc8, .slice sA9 sn9 sc9, str (hd a2.ex).attr, str (hd a2.ex).as_, .int .i64 (hd a2.ex).agg, .int .i64 (hd a2.ex).at_] 51))).row G.out.1 G.out.2 _) ((N2.out.trans (Tch.of_below (below_box _ (.cells #[.int .i64 a2.kind, str a2.name, .int .i64 a0, str a2.table, str a2.attr, .slice sA1 sn1 sc1, .slice sA2 sn2 sc2, .int .i64 a2.by_, .int .i64 a2.n, .int .i64 a2.m, .slice sA3 sn3 sc3, str a2.other, str a2.oattr, .slice sA4 sn4 sc4, .slice sA5 sn5 sc5, .slice sA6 sn6 sc6, .int .i64 (hd a2.ex).kind, str (hd a2.ex).table, .slice sA7 sn7 sc7, .slice sA8 sn8 sc8, .slice sA9 sn9 sc9, str (hd a2.ex).attr, str (hd a2.ex).as_, .int .i64 (hd a2.ex).agg, .int .i64 (hd a2.ex).at_] 51)))).row (Nat.le_of_eq HA.out) _))
    · obtain ⟨rfl, hn⟩ := ppost_bad h2 hp
      exact ⟨rfl, ppost_of_bad (R1.out.trans (bnd_bad h2)) (N1.out.trans hn)⟩
  · obtain ⟨rfl, hn⟩ := ppost_bad h1 hp
    exact ⟨rfl, ppost_of_bad (R0.out.trans (bnd_bad h1)) (((N0.out.trans (Tch.of_below (below_box _ (.cells #[.int .i64 0, str [], .int .i64 0, str [], str [], .slice none 0 0, .slice none 0 0, .int .i64 0, .int .i64 0, .int .i64 0, .slice none 0 0, str [], str [], .slice none 0 0, .slice none 0 0, .slice none 0 0, .int .i64 0, str [], .slice none 0 0, .slice none 0 0, .slice none 0 0, str [], str [], .int .i64 0, .int .i64 0] 51)))).trans (Tch.of_below HM0.out)).trans hn)⟩
end Go.Proofs.YtcgkaecaddpenaaGreatDoor
