/- The contract of the reference's Small. -/
import Derived.Test.YteokcgfbhaeklaaGreatDoorPFind
import Derived.Test.YteokcgfbhaeklaaGreatDoorPMath
namespace Go.Proofs.YteokcgfbhaeklaaGreatDoor
open Go.RowKit

def SmallA (a : AttrT) : Prop := a.was.length ≤ 10 ∧ a.dft.2.2.length ≤ 300
def SmallT (t : TabT) : Prop := (t.attrs.length ≤ 20 ∧ t.key.length ≤ 20 ∧ t.name.length ≤ 100) ∧ ∀ a ∈ t.attrs, SmallA a
def SmallS (s : List TabT) : Prop := s.length ≤ 24 ∧ ∀ t ∈ s, SmallT t
theorem SmallS.mid {s : List TabT} (h : SmallS s) : Mid s := ⟨h.1, fun t ht => by
  have := (h.2 t ht).1
  exact ⟨by omega, by omega, fun a ha => by have := ((h.2 t ht).2 a ha).1; omega⟩⟩
def SmT (s : List TabT) (k : Nat) : Prop := ∀ j (_ : j < k) (hl : j < s.length), SmallT s[j]
def SmA (l : List AttrT) (k : Nat) : Prop := ∀ j (_ : j < k) (hl : j < l.length), SmallA l[j]
theorem smA_succ {l : List AttrT} {k : Nat} (h : SmA l k) (hk : k < l.length) (h1 : SmallA l[k]) : SmA l (k + 1) := fun j hj hl => by
  by_cases e : j = k
  · subst e; exact h1
  · exact h j (by omega) hl
theorem smT_succ {l : List TabT} {k : Nat} (h : SmT l k) (hk : k < l.length) (h1 : SmallT l[k]) : SmT l (k + 1) := fun j hj hl => by
  by_cases e : j = k
  · subst e; exact h1
  · exact h j (by omega) hl
theorem smT_bad {s : List TabT} {k : Nat} (hk : k < s.length) (h : ¬ SmallT s[k]) : ¬ SmallS s := fun x => h (x.2 _ (List.getElem_mem hk))
theorem smA_bad {t : TabT} {k : Nat} (hk : k < t.attrs.length) (h : ¬ SmallA t.attrs[k]) : ¬ SmallT t := fun x => h (x.2 _ (List.getElem_mem hk))
theorem smA_all {t : TabT} {k : Nat} (h0 : t.attrs.length ≤ 20 ∧ t.key.length ≤ 20 ∧ t.name.length ≤ 100) (h : SmA t.attrs k) (hk : t.attrs.length ≤ k) : SmallT t := ⟨h0, fun a ha => by
  obtain ⟨j, hj, rfl⟩ := List.getElem_of_mem ha
  exact h j (by omega) hj⟩
theorem smT_all {s : List TabT} {k : Nat} (h0 : s.length ≤ 24) (h : SmT s k) (hk : s.length ≤ k) : SmallS s := ⟨h0, fun t ht => by
  obtain ⟨j, hj, rfl⟩ := List.getElem_of_mem ht
  exact h j (by omega) hj⟩
/-- What Small returns. -/
def SmallPost (w : World) (s : List TabT) (e : Ending) (w' : World) : Prop := (∃ r : Bool, e = .returned (.bool r) ∧ (r = true ↔ SmallS s)) ∧ Below w.heap.size w w'
theorem small_no {s : List TabT} (h : ¬ SmallS s) : ∃ r : Bool, Ending.returned (.bool false) = .returned (.bool r) ∧ (r = true ↔ SmallS s) := ⟨false, rfl, by simp [h]⟩
theorem small_yes {s : List TabT} (h : SmallS s) : ∃ r : Bool, Ending.returned (.bool true) = .returned (.bool r) ∧ (r = true ↔ SmallS s) := ⟨true, rfl, by simp [h]⟩
set_option maxRecDepth 100000 in
set_option maxHeartbeats 8000000 in
theorem small_ref (s : List TabT) (v : Value) (w : World) (h : Tabs w v s) :
    Calls Tryz.prog 30 #[.agg #[v]] w (SmallPost w s) := by
  obtain ⟨A, cap, rfl, hcap⟩ := h.form
  have HS := Lib.hid h
  clear h
  by_cases hl : 24 < s.length
  · have HF := Lib.hid (small_no (s := s) (fun x => by have := x.1; omega))
    go_enter Tryz.func30, Tryz.ntmps30
    go_wp2_with fail
    go_ret
    exact ⟨HF.out, below_box w _⟩
  · go_enter Tryz.func30, Tryz.ntmps30
    go_wp2_with fail
    go_loopw [3] (fun i wr => ∃ k : Nat, k ≤ s.length ∧ i = .int .i64 (k : Int) ∧ SmT s k ∧ Below (w.heap.size + 1) (w.alloc (.cells #[.slice A s.length cap] 24)) wr) (fun i _ => s.length - (intOf i).toNat)
    case atStart => exact ⟨0, by omega, by simp, fun j hj => by omega, Below.refl _ _⟩
    case round =>
      obtain ⟨k, hk, rfl, hty, hb⟩ := hrel
      obtain ⟨wo, rfl⟩ : ∃ wo, wo = wr := ⟨_, rfl⟩
      have HT := Lib.hid hty
      have HB := Lib.hid hb
      have hsz : w.heap.size + 1 ≤ wo.heap.size := by have := hb.size; simpa using this
      have e0 : wo.cell? ⟨w.heap.size, 0, none⟩ = some (.slice A s.length cap) := (hb.cell (p := ⟨w.heap.size, 0, none⟩) (by simp)).trans (by simp [go_sem])
      have HB2 := Lib.hid (show Below w.heap.size w wo from below_up (below_box w _) hb (by simp))
      clear hty hb
      by_cases hlt : k < s.length
      · obtain ⟨_, _, b, off, rfl, hcell⟩ := Slc.spot HS.out (by omega)
        obtain ⟨t, hx⟩ : ∃ t, s[k] = t := ⟨_, rfl⟩
        have hk1 := hcell k hlt
        rw [hx] at hk1
        obtain ⟨va, vk, hat, hva, hvk⟩ := hk1
        obtain ⟨Aa, na, rfl, _⟩ := hva.form
        obtain ⟨Ak, nk, rfl, _⟩ := hvk.form
        have HVA := Lib.hid hva
        have hat2 := hat.below HB2.out
        have c0 := hat2.c0; have c1 := hat2.c1; have c2 := hat2.c2
        have HX := Lib.hid hx
        have i1 : (0 : Int) ≤ (k : Int) := by omega
        have i2 : (k : Int) < (s.length : Int) := by omega
        clear hx hcell hat hat2 hva hvk
        by_cases g1 : 20 < t.attrs.length
        · have HF := Lib.hid (small_no (smT_bad hlt (by rw [HX.out]; intro x; have := x.1.1; omega)))
          go_wp2_with fail
          go_ret
          exact ⟨HF.out, HB2.out.trans ((below_box wo _).mono HB2.out.size)⟩
        · by_cases g2 : 20 < t.key.length
          · have HF := Lib.hid (small_no (smT_bad hlt (by rw [HX.out]; intro x; have := x.1.2.1; omega)))
            go_wp2_with fail
            go_ret
            exact ⟨HF.out, HB2.out.trans ((below_box wo _).mono HB2.out.size)⟩
          · by_cases g3 : 100 < t.name.length
            · have HF := Lib.hid (small_no (smT_bad hlt (by rw [HX.out]; intro x; have := x.1.2.2; omega)))
              go_wp2_with fail
              go_ret
              exact ⟨HF.out, HB2.out.trans ((below_box wo _).mono HB2.out.size)⟩
            · go_wp2_with fail
              go_loopw [5] (fun i wr => ∃ m : Nat, m ≤ t.attrs.length ∧ i = .int .i64 (m : Int) ∧ SmA t.attrs m ∧ Below (wo.heap.size + 1) (wo.alloc (.cells #[str t.name, .slice Aa t.attrs.length na, .slice Ak t.key.length nk] 44)) wr) (fun i _ => t.attrs.length - (intOf i).toNat)
              case atStart => exact ⟨0, by omega, by simp, fun j hj => by omega, Below.refl _ _⟩
              case round =>
                obtain ⟨m, hm, rfl, hsm, hb⟩ := hrel
                have HM := Lib.hid hsm
                have HBI := Lib.hid hb
                have f1 : wr.cell? ⟨wo.heap.size, 1, none⟩ = some (.slice Aa t.attrs.length na) := (hb.cell (p := ⟨wo.heap.size, 1, none⟩) (by simp)).trans (by simp [go_sem])
                have HB3 := Lib.hid (show Below w.heap.size w wr from HB2.out.trans (((below_box wo _).trans (hb.mono (by omega))).mono HB2.out.size))
                have HB4 := Lib.hid (show Below (w.heap.size + 1) (w.alloc (.cells #[.slice (some ⟨b, off, none⟩) s.length cap] 24)) wr from HB.out.trans (((below_box wo _).trans (hb.mono (by omega))).mono hsz))
                clear hsm hb
                by_cases hmt : m < t.attrs.length
                · obtain ⟨_, _, b2, o2, rfl, hc2⟩ := Slc.spot HVA.out (by omega)
                  obtain ⟨a, ha⟩ : ∃ a, t.attrs[m] = a := ⟨_, rfl⟩
                  have hk2 := hc2 m hmt
                  rw [ha] at hk2
                  obtain ⟨wv, haa, hws⟩ := hk2
                  obtain ⟨Aw, cw, rfl, _⟩ : ∃ A c, wv = .slice A a.was.length c ∧ a.was.length ≤ c := by
                    obtain ⟨A, c, e, hc, _⟩ := hws
                    exact ⟨A, c, e, hc⟩
                  have x2 := (haa.below HB3.out).c2
                  have x5 : wr.cell? ⟨b2, o2 + m * 6 + 3 + 2, none⟩ = some (str a.dft.2.2) := (haa.below HB3.out).c5
                  have HA := Lib.hid ha
                  have j1 : (0 : Int) ≤ (m : Int) := by omega
                  have j2 : (m : Int) < (t.attrs.length : Int) := by omega
                  clear ha hc2 haa hws
                  by_cases g4 : 10 < a.was.length
                  · have HF := Lib.hid (small_no (smT_bad hlt (by rw [HX.out]; exact smA_bad hmt (by rw [HA.out]; intro x; have := x.1; omega))))
                    go_wp2_with fail
                    go_ret
                    exact ⟨HF.out, HB3.out⟩
                  · by_cases g5 : 300 < a.dft.2.2.length
                    · have HF := Lib.hid (small_no (smT_bad hlt (by rw [HX.out]; exact smA_bad hmt (by rw [HA.out]; intro x; have := x.2; omega))))
                      go_wp2_with fail
                      go_ret
                      exact ⟨HF.out, HB3.out⟩
                    · have HN := Lib.hid (smA_succ HM.out hmt (by rw [HA.out]; exact ⟨by omega, by omega⟩))
                      go_wp2_with fail
                      go_roundw
                      case rel => exact ⟨m + 1, by omega, by simp, HN.out, HBI.out⟩
                      case measure => simp [intOf]; omega
                · have HN := Lib.hid (smT_succ HT.out hlt (by rw [HX.out]; exact smA_all ⟨by omega, by omega, by omega⟩ HM.out (by omega)))
                  go_wp2_with fail
                  go_roundw
                  case rel => exact ⟨k + 1, by omega, by simp, HN.out, HB4.out⟩
                  case measure => simp [intOf]; omega
      · have HF := Lib.hid (small_yes (smT_all (by omega) HT.out (by omega)))
        go_wp2_with fail
        go_ret
        exact ⟨HF.out, HB2.out⟩
end Go.Proofs.YteokcgfbhaeklaaGreatDoor

/- The law's helpers: moved and small. -/
namespace Go.Proofs.YteokcgfbhaeklaaGreatDoor
open Go.RowKit

theorem moved_any (n : Txt) (l : List AttrT) (va vk : Value) (c : ChgT) (i : Int) (hl : l.length ≤ 4000) (hws : ∀ a ∈ l, a.was.length ≤ 4000) (hi : -4000 ≤ i ∧ i ≤ 4000) (w : World) (h : Attrs w va l) :
    Calls Tryz.prog 26 #[.agg #[str n, va, vk], Cv c, .int .i64 i] w (IntPost w (movT l c i)) := by
  by_cases hk : c.kind = 2
  · obtain ⟨r, hr⟩ : ∃ r, colT l c.attr = r := ⟨_, rfl⟩
    have C := fun W (hW : Attrs W va l) => column_any n l va vk c.attr hl hws W hW
    rw [hr] at C
    replace C := Lib.hid C
    have HM := Lib.hid (show movT l c i = if i = r then -1 else if r < i then i - 1 else i by unfold movT; rw [if_neg (by omega), hr])
    have H := Lib.hid h
    have hr1 := (colT_range l c.attr)
    rw [hr] at hr1
    obtain ⟨hr2, hr3⟩ := hr1
    clear h hr hws
    go_enter Tryz.func26, Tryz.ntmps26
    go_wp2_with fail
    refine (C.out _ (H.out.below ((below_box w _).alloc (by simp) _))).mono ?_
    rintro e w1 ⟨rfl, hb⟩
    have HB := Lib.hid (below_up ((below_box w _).alloc (by simp) _) hb (by simp; omega))
    clear hb C
    by_cases e1 : i = r
    · have HF := Lib.hid (show movT l c i = -1 by rw [HM.out, if_pos e1])
      go_wp2_with fail
      go_ret
      exact ⟨ret_int HF.out.symm, HB.out⟩
    · by_cases e2 : r < i
      · have HF := Lib.hid (show movT l c i = i - 1 by rw [HM.out, if_neg e1, if_pos e2])
        go_wp2_with fail
        go_ret
        exact ⟨ret_int HF.out.symm, HB.out⟩
      · have HF := Lib.hid (show movT l c i = i by rw [HM.out, if_neg e1, if_neg e2])
        go_wp2_with fail
        go_ret
        exact ⟨ret_int HF.out.symm, HB.out⟩
  · have HF := Lib.hid (show movT l c i = i from movT_same hk)
    go_enter Tryz.func26, Tryz.ntmps26
    go_wp2_with fail
    go_ret
    exact ⟨ret_int HF.out.symm, (below_box w _).alloc (by simp) _⟩

/-- What small asks. -/
def SmallC (s : List TabT) (c : ChgT) (row : List T3) : Prop := SmallS s ∧ c.name.length ≤ 100 ∧ c.dft.2.2.length ≤ 300 ∧ row.length ≤ 20
def SmallCPost (w : World) (s : List TabT) (c : ChgT) (row : List T3) (e : Ending) (w' : World) : Prop := (∃ r : Bool, e = .returned (.bool r) ∧ (r = true ↔ SmallC s c row)) ∧ Below w.heap.size w w'
theorem smallC_no {s : List TabT} {c : ChgT} {row : List T3} (h : ¬ SmallC s c row) : ∃ r : Bool, Ending.returned (.bool false) = .returned (.bool r) ∧ (r = true ↔ SmallC s c row) := ⟨false, rfl, by simp [h]⟩
theorem smallC_yes {s : List TabT} {c : ChgT} {row : List T3} (h : SmallC s c row) : ∃ r : Bool, Ending.returned (.bool true) = .returned (.bool r) ∧ (r = true ↔ SmallC s c row) := ⟨true, rfl, by simp [h]⟩
theorem smallC_any (s : List TabT) (v rv : Value) (c : ChgT) (row : List T3) (w : World) (h : Tabs w v s) (hr : ∃ A cp, rv = .slice A row.length cp) :
    Calls Tryz.prog 10 #[.agg #[v], Cv c, rv] w (SmallCPost w s c row) := by
  obtain ⟨A, cp, rfl⟩ := hr
  have C := Lib.hid (fun W (hW : Tabs W v s) => small_ref s v W hW)
  have H := Lib.hid h
  clear h
  go_enter Tryz.func10, Tryz.ntmps10
  go_wp2_with fail
  refine (C.out _ (H.out.below ((below_box w _).alloc (by simp) _))).mono ?_
  rintro e w1 ⟨⟨r, rfl, hrr⟩, hb⟩
  have HR := Lib.hid hrr
  have c3 : w1.cell? ⟨w.heap.size + 1, 3, none⟩ = some (str c.name) := cellB hb (by simp [go_sem])
  have c5 : w1.cell? ⟨w.heap.size + 1, 5 + 2, none⟩ = some (str c.dft.2.2) := cellB hb (by simp [go_sem])
  have HB := Lib.hid (below_up ((below_box w _).alloc (by simp) _) hb (by simp; omega))
  clear hb C hrr
  cases r with
  | false =>
    have HF := Lib.hid (smallC_no (s := s) (c := c) (row := row) (fun x => by have := HR.out.2 x.1; cases this))
    go_wp2_with fail
    go_ret
    exact ⟨HF.out, HB.out⟩
  | true =>
    have hs := HR.out.1 rfl
    by_cases g1 : c.name.length ≤ 100
    · by_cases g2 : c.dft.2.2.length ≤ 300
      · by_cases g3 : row.length ≤ 20
        · have HF := Lib.hid (smallC_yes (s := s) (c := c) (row := row) ⟨hs, g1, g2, g3⟩)
          have hd : decide ((row.length : Int) ≤ 20) = true := decide_eq_true (by omega)
          go_wp2_with fail
          go_ret
          exact ⟨HF.out, HB.out⟩
        · have HF := Lib.hid (smallC_no (s := s) (c := c) (row := row) (fun x => g3 x.2.2.2))
          have hd : decide ((row.length : Int) ≤ 20) = false := decide_eq_false (by omega)
          go_wp2_with fail
          go_ret
          exact ⟨HF.out, HB.out⟩
      · have HF := Lib.hid (smallC_no (s := s) (c := c) (row := row) (fun x => g2 x.2.2.1))
        go_wp2_with fail
        go_ret
        exact ⟨HF.out, HB.out⟩
    · have HF := Lib.hid (smallC_no (s := s) (c := c) (row := row) (fun x => g1 x.2.1))
      go_wp2_with fail
      go_ret
      exact ⟨HF.out, HB.out⟩
end Go.Proofs.YteokcgfbhaeklaaGreatDoor

/- The law's fixed row and schema. -/
namespace Go.Proofs.YteokcgfbhaeklaaGreatDoor
open Go.RowKit

def RowLit (w : World) (e : Ending) (w' : World) : Prop := ∃ v, e = .returned v ∧ Vals w' v rowS ∧ Below w.heap.size w w'
theorem row_any (w : World) : Calls Tryz.prog 29 #[] w (RowLit w) := by
  go_enter Tryz.func29, Tryz.ntmps29
  go_wp2_with fail
  go_ret
  refine ⟨_, rfl, ⟨_, _, rfl, by decide, (fun e => by cases e), fun i hi => ⟨_, 0, rfl, ?_⟩⟩, below_box w _⟩
  have hi2 : i < 2 := hi
  rcases (show i = 0 ∨ i = 1 by omega) with rfl | rfl
  · exact ⟨by simp [go_sem]; rfl, by simp [go_sem]; rfl, by simp [go_sem]; rfl⟩
  · exact ⟨by simp [go_sem]; rfl, by simp [go_sem]; rfl, by simp [go_sem]; rfl⟩

def SampLit (w : World) (e : Ending) (w' : World) : Prop := ∃ v, e = .returned (.agg #[v]) ∧ Tabs w' v sampleT ∧ Below w.heap.size w w'
theorem sample_any (w : World) : Calls Tryz.prog 28 #[] w (SampLit w) := by
  go_enter Tryz.func28, Tryz.ntmps28
  go_wp2_with fail
  refine bodyPost_ret (v := .agg #[.slice (some ⟨w.heap.size + 4, 0, none⟩) 1 1]) (by simp [results, Tryz.results28, go_sem]) rfl ?_
  refine ⟨_, rfl, ⟨_, _, rfl, Nat.le_refl _, (fun e => by cases e), fun i hi => ⟨_, 0, rfl, ?_⟩⟩, ?_⟩
  · have hi1 : i < 1 := hi
    obtain rfl : i = 0 := by omega
    refine ⟨.slice (some ⟨w.heap.size + 1 + 1, 0, none⟩) 2 2, .slice (some ⟨w.heap.size + 1 + 1 + 1, 0, none⟩) 1 1, ⟨by simp [go_sem]; rfl, by simp [go_sem], by simp [go_sem]⟩,
      ⟨_, _, rfl, Nat.le_refl _, (fun e => by cases e), fun j hj => ⟨_, 0, rfl, ?_⟩⟩, ⟨_, _, rfl, Nat.le_refl _, (fun e => by cases e), fun j hj => ⟨_, 0, rfl, ?_⟩⟩⟩
    · have hj1 : j < 2 := hj
      rcases (show j = 0 ∨ j = 1 by omega) with rfl | rfl
      · exact ⟨.slice none 0 0, ⟨by simp [go_sem]; rfl, by simp [go_sem]; rfl, by simp [go_sem], by simp [go_sem]; rfl, by simp [go_sem]; rfl, by simp [go_sem]; rfl⟩, ⟨none, 0, rfl, Nat.le_refl _, (fun _ => rfl), fun m hm => absurd hm (Nat.not_lt_zero _)⟩⟩
      · refine ⟨.slice (some ⟨w.heap.size + 1, 0, none⟩) 1 1, ⟨by simp [go_sem]; rfl, by simp [go_sem]; rfl, by simp [go_sem], by simp [go_sem]; rfl, by simp [go_sem]; rfl, by simp [go_sem]; rfl⟩, ⟨_, _, rfl, Nat.le_refl _, (fun e => by cases e), fun m hm => ⟨_, 0, rfl, ?_⟩⟩⟩
        have hm1 : m < 1 := hm
        obtain rfl : m = 0 := by omega
        simp [go_sem]
        rfl
    · have hj1 : j < 1 := hj
      obtain rfl : j = 0 := by omega
      simp [go_sem]
      rfl
  · exact ((((below_box w _).alloc (by simp) _).alloc (by simp; omega) _).alloc (by simp; omega) _).alloc (by simp; omega) _
end Go.Proofs.YteokcgfbhaeklaaGreatDoor

