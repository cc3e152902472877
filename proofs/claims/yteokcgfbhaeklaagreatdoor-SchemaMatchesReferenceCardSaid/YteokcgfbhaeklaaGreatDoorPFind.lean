/- The contracts of slices.IndexFunc at the closures of Find and Column, and of Find and Column. -/
import Derived.Test.YteokcgfbhaeklaaGreatDoorPBase
import Derived.ShutString
import Derived.Lib.SlicesS
import Derived.Maps.AppendAt
import Derived.Laws.OwnMore
import Derived.Deep.RegionLaw
import Derived.Deep.AppendLies
import Derived.Sort.OwnSorted
namespace Go.Proofs.YteokcgfbhaeklaaGreatDoor
open Go.RowKit

theorem str_eq (a b : Txt) (x : Bool) (h : x = true ↔ a = b) : decide (a = b) = x := by rw [Bool.eq_iff_iff]; simp [h]
/-! ### The closures. -/
set_option maxHeartbeats 400000 in
theorem find1_any (n : Txt) (va vk : Value) (q : Nat) (nm : Txt) (w : World) (hq : w.cell? ⟨q, 0, none⟩ = some (str nm)) :
    Calls Tryz.prog 40 #[.agg #[str n, va, vk], .pointer (some ⟨q, 0, none⟩)] w (BoolPost w (decide (n = nm))) := by
  have hq2 := Cell.alloc hq (.cells #[str n, va, vk] 44)
  by_cases e : n = nm
  · subst e
    rw [decide_eq_true rfl]
    go_enter Tryz.func40, Tryz.ntmps40
    go_wp2_with fail
    go_ret
    exact ⟨bool_ret (by simp), below_box w _⟩
  · rw [decide_eq_false e]
    have HE := Lib.hid e
    clear e
    go_enter Tryz.func40, Tryz.ntmps40
    go_wp2_with fail
    go_ret
    exact ⟨bool_ret (by have := HE.out; simp [this]), below_box w _⟩
set_option maxHeartbeats 400000 in
theorem col1_any (n : Txt) (k : Int) (wv : Value) (a b : Int) (t : Txt) (q : Nat) (nm : Txt) (w : World) (hq : w.cell? ⟨q, 0, none⟩ = some (str nm)) :
    Calls Tryz.prog 44 #[.agg #[str n, .int .i64 k, wv, .int .i64 a, .int .i64 b, str t], .pointer (some ⟨q, 0, none⟩)] w (BoolPost w (decide (n = nm))) := by
  have hq2 := Cell.alloc hq (.cells #[str n, .int .i64 k, wv, .int .i64 a, .int .i64 b, str t] 53)
  by_cases e : n = nm
  · subst e
    rw [decide_eq_true rfl]
    go_enter Tryz.func44, Tryz.ntmps44
    go_wp2_with fail
    go_ret
    exact ⟨bool_ret (by simp), below_box w _⟩
  · rw [decide_eq_false e]
    have HE := Lib.hid e
    clear e
    go_enter Tryz.func44, Tryz.ntmps44
    go_wp2_with fail
    go_ret
    exact ⟨bool_ret (by have := HE.out; simp [this]), below_box w _⟩
theorem contains_any (l : List Txt) (x : Txt) (v : Value) (hl : l.length ≤ 4000) (w : World) (h : Strs w v l) :
    Calls Tryz.prog 46 #[v, str x] w fun e w' => e = .returned (.bool (decide (x ∈ l))) ∧ w' = w := by
  obtain ⟨A, cap, rfl, hcap, _, hc⟩ := h
  by_cases h0 : l = []
  · subst h0
    exact Any.slices_Contains_string_empty Tryz.lays110 A cap ⟨x.toArray⟩ w
  · have hp : 0 < l.length := List.length_pos_iff.2 h0
    obtain ⟨b, off, rfl, _⟩ := hc 0 hp
    have C := Any.slices_Contains_string Tryz.lays110 b off l.length cap (l.map fun t => (⟨t.toArray⟩ : ByteArray)) ⟨x.toArray⟩ w (by simp) (by omega) (fun j hj => by
      rw [List.length_map] at hj
      obtain ⟨b', off', e, h2⟩ := hc j hj
      cases e
      rw [h2]
      simp [List.getD, hj])
    rw [show (l.map fun t => (⟨t.toArray⟩ : ByteArray)).take l.length = l.map fun t => (⟨t.toArray⟩ : ByteArray) from List.take_of_length_le (by simp)] at C
    rw [show Lib.containsS (l.map fun t => (⟨t.toArray⟩ : ByteArray)) ⟨x.toArray⟩ = decide (x ∈ l) by
      rw [Bool.eq_iff_iff, Lib.containsS_iff, decide_eq_true_eq, List.mem_map]
      constructor
      · rintro ⟨t, ht, e⟩
        have : t = x := by injection e with e; exact List.toArray_inj e
        exact this ▸ ht
      · intro hx; exact ⟨x, hx, rfl⟩] at C
    exact C
theorem containsI_any (l : List Int) (x : Int) (v : Value) (hl : l.length ≤ 4000) (w : World) (h : Ints w v l) :
    Calls Tryz.prog 103 #[v, .int .i64 x] w fun e w' => e = .returned (.bool (decide (x ∈ l))) ∧ w' = w := by
  obtain ⟨A, cap, rfl, hcap, _, hc⟩ := h
  by_cases h0 : l = []
  · subst h0
    exact Any.slices_Contains_int_empty Tryz.lays107 A cap x w
  · have hp : 0 < l.length := List.length_pos_iff.2 h0
    obtain ⟨b, off, rfl, _⟩ := hc 0 hp
    have C := Any.slices_Contains_int Tryz.lays107 b off l.length cap l x w (Nat.le_refl _) (by omega) (fun j hj => by
      obtain ⟨b', off', e, h2⟩ := hc j hj
      cases e
      rw [Nat.mul_one] at h2
      rw [h2]
      simp [List.getD, hj])
    rw [List.take_of_length_le (Nat.le_refl _)] at C
    rw [show l.contains x = decide (x ∈ l) by rw [Bool.eq_iff_iff]; simp] at C
    exact C
set_option maxHeartbeats 400000 in
theorem col2_any (n : Txt) (k : Int) (wv : Value) (l : List Txt) (a b : Int) (t : Txt) (q : Nat) (nm : Txt) (hl : l.length ≤ 4000) (w : World) (hw : Strs w wv l) (hq : w.cell? ⟨q, 0, none⟩ = some (str nm)) :
    Calls Tryz.prog 45 #[.agg #[str n, .int .i64 k, wv, .int .i64 a, .int .i64 b, str t], .pointer (some ⟨q, 0, none⟩)] w (BoolPost w (decide (nm ∈ l))) := by
  have hq2 := Cell.alloc hq (.cells #[str n, .int .i64 k, wv, .int .i64 a, .int .i64 b, str t] 53)
  obtain ⟨r, hr⟩ : ∃ r, decide (nm ∈ l) = r := ⟨_, rfl⟩
  have C := contains_any l nm wv hl _ (hw.below (below_box w (.cells #[str n, .int .i64 k, wv, .int .i64 a, .int .i64 b, str t] 53)))
  rw [hr] at C ⊢
  replace C := Lib.hid C
  clear hr hw
  go_enter Tryz.func45, Tryz.ntmps45
  go_wp2_with fail
  refine C.out.mono ?_
  rintro e w1 ⟨rfl, rfl⟩
  go_wp2_with fail
  go_ret
  exact ⟨rfl, below_box w _⟩

set_option maxRecDepth 100000 in
set_option maxHeartbeats 1000000 in
theorem idxT_any (l : List TabT) (v : Value) (q : Nat) (nm : Txt) (hl : l.length ≤ 4000) (w : World) (h : Tabs w v l) (hq : w.cell? ⟨q, 0, none⟩ = some (str nm)) :
    Calls Tryz.prog 39 #[v, .func (Fn.func 40) #[] #[.pointer (some ⟨q, 0, none⟩)]] w (IntPost w (idx (fun x => decide (x.name = nm)) l)) := by
  obtain ⟨A, cap, rfl, hcap⟩ := h.form
  obtain ⟨p, hp⟩ : ∃ p : TabT → Bool, (fun x => decide (x.name = nm)) = p := ⟨_, rfl⟩
  rw [hp]
  have HPx : Hid (∀ x, (decide (x.name = nm)) = p x) := Lib.hid (fun x => congrFun hp x)
  have H := Lib.hid h
  have HQ := Lib.hid hq
  clear h hq hp
  go_enter Tryz.func39, Tryz.ntmps39
  go_wp2_with fail
  go_loopw [8] (fun i wr => ∃ k : Nat, k ≤ l.length ∧ i = .int .i64 (k : Int) ∧ (∀ j (hj : j < k) (hl : j < l.length), p l[j] = false) ∧ Below w.heap.size w wr) (fun i _ => l.length - (intOf i).toNat)
  case atStart => exact ⟨0, by omega, by simp, fun j hj => by omega, Below.refl _ _⟩
  case round =>
    obtain ⟨k, hk, rfl, hno, hb⟩ := hrel
    have HN := Lib.hid hno
    have HB := Lib.hid hb
    clear hno hb
    by_cases hlt : k < l.length
    · obtain ⟨_, _, b, off, rfl, hcell⟩ := Slc.spot H.out (by omega)
      obtain ⟨x, hx⟩ : ∃ x, l[k] = x := ⟨_, rfl⟩
      have hk1 := hcell k hlt
      rw [hx] at hk1
      obtain ⟨va, vk, hat, _, _⟩ := hk1
      have hat2 := hat.below HB.out
      have c0 := hat2.c0; have c1 := hat2.c1; have c2 := hat2.c2
      clear hat hat2
      have HX := Lib.hid hx
      have i1 : (0 : Int) ≤ (k : Int) := by omega
      have i2 : (k : Int) < (l.length : Int) := by omega
      clear hx hcell
      obtain ⟨r, hr⟩ : ∃ r, p x = r := ⟨_, rfl⟩
      have C := fun W (hW : W.cell? ⟨q, 0, none⟩ = some (str nm)) => find1_any x.name va vk q nm W hW
      rw [HPx.out x, hr] at C
      replace C := Lib.hid C
      have HR := Lib.hid hr
      clear hr
      go_wp2_with fail
      refine (C.out _ (cellB HB.out HQ.out)).mono ?_
      rintro e w1 ⟨rfl, hb1⟩
      have HB1 := Lib.hid (below_up HB.out hb1 HB.out.size)
      clear hb1 C c0 c1 c2
      cases r
      · have HN2 : Hid (∀ j (hj : j < k + 1) (hl : j < l.length), p l[j] = false) := Lib.hid (fun j hj hl => by
          by_cases e : j = k
          · subst e; rw [HX.out]; exact HR.out
          · exact HN.out j (by omega) hl)
        go_wp2_with fail
        go_roundw
        case rel => exact ⟨k + 1, by omega, by simp, HN2.out, HB1.out⟩
        case measure => simp [intOf]; omega
      · have HF := Lib.hid (idx_eq (p := p) hlt (by rw [HX.out]; exact HR.out) (fun j hj => HN.out j hj (by omega)))
        go_wp2_with fail
        go_ret
        exact ⟨ret_int HF.out.symm, HB1.out⟩
    · have HF := Lib.hid (idx_neg (p := p) (l := l) (fun a ha => by
        obtain ⟨j, hj, rfl⟩ := List.getElem_of_mem ha
        exact HN.out j (by omega) hj))
      go_wp2_with fail
      go_ret
      exact ⟨ret_int HF.out.symm, HB.out⟩

set_option maxRecDepth 100000 in
set_option maxHeartbeats 1000000 in
theorem idxN_any (l : List AttrT) (v : Value) (q : Nat) (nm : Txt) (hl : l.length ≤ 4000) (w : World) (h : Attrs w v l) (hq : w.cell? ⟨q, 0, none⟩ = some (str nm)) :
    Calls Tryz.prog 43 #[v, .func (Fn.func 44) #[] #[.pointer (some ⟨q, 0, none⟩)]] w (IntPost w (idx (fun x => decide (x.name = nm)) l)) := by
  obtain ⟨A, cap, rfl, hcap⟩ := h.form
  obtain ⟨p, hp⟩ : ∃ p : AttrT → Bool, (fun x => decide (x.name = nm)) = p := ⟨_, rfl⟩
  rw [hp]
  have HPx : Hid (∀ x, (decide (x.name = nm)) = p x) := Lib.hid (fun x => congrFun hp x)
  have H := Lib.hid h
  have HQ := Lib.hid hq
  clear h hq hp
  go_enter Tryz.func43, Tryz.ntmps43
  go_wp2_with fail
  go_loopw [8] (fun i wr => ∃ k : Nat, k ≤ l.length ∧ i = .int .i64 (k : Int) ∧ (∀ j (hj : j < k) (hl : j < l.length), p l[j] = false) ∧ Below w.heap.size w wr) (fun i _ => l.length - (intOf i).toNat)
  case atStart => exact ⟨0, by omega, by simp, fun j hj => by omega, Below.refl _ _⟩
  case round =>
    obtain ⟨k, hk, rfl, hno, hb⟩ := hrel
    have HN := Lib.hid hno
    have HB := Lib.hid hb
    clear hno hb
    by_cases hlt : k < l.length
    · obtain ⟨_, _, b, off, rfl, hcell⟩ := Slc.spot H.out (by omega)
      obtain ⟨x, hx⟩ : ∃ x, l[k] = x := ⟨_, rfl⟩
      have hk1 := hcell k hlt
      rw [hx] at hk1
      obtain ⟨wv, hat, hws⟩ := hk1
      have hat2 := hat.below HB.out
      have HW := Lib.hid (hws.below HB.out)
      have c0 := hat2.c0; have c1 := hat2.c1; have c2 := hat2.c2; have c3 := hat2.c3; have c4 := hat2.c4; have c5 := hat2.c5
      clear hat hat2 hws
      have HX := Lib.hid hx
      have i1 : (0 : Int) ≤ (k : Int) := by omega
      have i2 : (k : Int) < (l.length : Int) := by omega
      clear hx hcell
      obtain ⟨r, hr⟩ : ∃ r, p x = r := ⟨_, rfl⟩
      have C := fun W (hW : W.cell? ⟨q, 0, none⟩ = some (str nm)) => col1_any x.name x.kind wv x.dft.1 x.dft.2.1 x.dft.2.2 q nm W hW
      rw [HPx.out x, hr] at C
      replace C := Lib.hid C
      have HR := Lib.hid hr
      clear hr
      go_wp2_with fail
      refine (C.out _ (cellB HB.out HQ.out)).mono ?_
      rintro e w1 ⟨rfl, hb1⟩
      have HB1 := Lib.hid (below_up HB.out hb1 HB.out.size)
      clear hb1 C c0 c1 c2 c3 c4 c5
      cases r
      · have HN2 : Hid (∀ j (hj : j < k + 1) (hl : j < l.length), p l[j] = false) := Lib.hid (fun j hj hl => by
          by_cases e : j = k
          · subst e; rw [HX.out]; exact HR.out
          · exact HN.out j (by omega) hl)
        go_wp2_with fail
        go_roundw
        case rel => exact ⟨k + 1, by omega, by simp, HN2.out, HB1.out⟩
        case measure => simp [intOf]; omega
      · have HF := Lib.hid (idx_eq (p := p) hlt (by rw [HX.out]; exact HR.out) (fun j hj => HN.out j hj (by omega)))
        go_wp2_with fail
        go_ret
        exact ⟨ret_int HF.out.symm, HB1.out⟩
    · have HF := Lib.hid (idx_neg (p := p) (l := l) (fun a ha => by
        obtain ⟨j, hj, rfl⟩ := List.getElem_of_mem ha
        exact HN.out j (by omega) hj))
      go_wp2_with fail
      go_ret
      exact ⟨ret_int HF.out.symm, HB.out⟩

set_option maxRecDepth 100000 in
set_option maxHeartbeats 1000000 in
theorem idxW_any (l : List AttrT) (v : Value) (q : Nat) (nm : Txt) (hl : l.length ≤ 4000) (hws : ∀ a ∈ l, a.was.length ≤ 4000) (w : World) (h : Attrs w v l) (hq : w.cell? ⟨q, 0, none⟩ = some (str nm)) :
    Calls Tryz.prog 43 #[v, .func (Fn.func 45) #[] #[.pointer (some ⟨q, 0, none⟩)]] w (IntPost w (idx (fun x => decide (nm ∈ x.was)) l)) := by
  obtain ⟨A, cap, rfl, hcap⟩ := h.form
  obtain ⟨p, hp⟩ : ∃ p : AttrT → Bool, (fun x => decide (nm ∈ x.was)) = p := ⟨_, rfl⟩
  rw [hp]
  have HPx : Hid (∀ x, (decide (nm ∈ x.was)) = p x) := Lib.hid (fun x => congrFun hp x)
  have H := Lib.hid h
  have HQ := Lib.hid hq
  have HWS := Lib.hid hws
  clear h hq hp hws
  go_enter Tryz.func43, Tryz.ntmps43
  go_wp2_with fail
  go_loopw [8] (fun i wr => ∃ k : Nat, k ≤ l.length ∧ i = .int .i64 (k : Int) ∧ (∀ j (hj : j < k) (hl : j < l.length), p l[j] = false) ∧ Below w.heap.size w wr) (fun i _ => l.length - (intOf i).toNat)
  case atStart => exact ⟨0, by omega, by simp, fun j hj => by omega, Below.refl _ _⟩
  case round =>
    obtain ⟨k, hk, rfl, hno, hb⟩ := hrel
    have HN := Lib.hid hno
    have HB := Lib.hid hb
    clear hno hb
    by_cases hlt : k < l.length
    · obtain ⟨_, _, b, off, rfl, hcell⟩ := Slc.spot H.out (by omega)
      obtain ⟨x, hx⟩ : ∃ x, l[k] = x := ⟨_, rfl⟩
      have hk1 := hcell k hlt
      rw [hx] at hk1
      obtain ⟨wv, hat, hws⟩ := hk1
      have hat2 := hat.below HB.out
      have HW := Lib.hid (hws.below HB.out)
      have c0 := hat2.c0; have c1 := hat2.c1; have c2 := hat2.c2; have c3 := hat2.c3; have c4 := hat2.c4; have c5 := hat2.c5
      clear hat hat2 hws
      have HWL := Lib.hid (HWS.out x (by rw [← hx]; exact List.getElem_mem hlt))
      have HX := Lib.hid hx
      have i1 : (0 : Int) ≤ (k : Int) := by omega
      have i2 : (k : Int) < (l.length : Int) := by omega
      clear hx hcell
      obtain ⟨r, hr⟩ : ∃ r, p x = r := ⟨_, rfl⟩
      have C := fun W (hW : Strs W wv x.was ∧ W.cell? ⟨q, 0, none⟩ = some (str nm)) => col2_any x.name x.kind wv x.was x.dft.1 x.dft.2.1 x.dft.2.2 q nm HWL.out W hW.1 hW.2
      rw [HPx.out x, hr] at C
      replace C := Lib.hid C
      have HR := Lib.hid hr
      clear hr
      go_wp2_with fail
      refine (C.out _ ⟨HW.out, cellB HB.out HQ.out⟩).mono ?_
      rintro e w1 ⟨rfl, hb1⟩
      have HB1 := Lib.hid (below_up HB.out hb1 HB.out.size)
      clear hb1 C c0 c1 c2 c3 c4 c5
      cases r
      · have HN2 : Hid (∀ j (hj : j < k + 1) (hl : j < l.length), p l[j] = false) := Lib.hid (fun j hj hl => by
          by_cases e : j = k
          · subst e; rw [HX.out]; exact HR.out
          · exact HN.out j (by omega) hl)
        go_wp2_with fail
        go_roundw
        case rel => exact ⟨k + 1, by omega, by simp, HN2.out, HB1.out⟩
        case measure => simp [intOf]; omega
      · have HF := Lib.hid (idx_eq (p := p) hlt (by rw [HX.out]; exact HR.out) (fun j hj => HN.out j hj (by omega)))
        go_wp2_with fail
        go_ret
        exact ⟨ret_int HF.out.symm, HB1.out⟩
    · have HF := Lib.hid (idx_neg (p := p) (l := l) (fun a ha => by
        obtain ⟨j, hj, rfl⟩ := List.getElem_of_mem ha
        exact HN.out j (by omega) hj))
      go_wp2_with fail
      go_ret
      exact ⟨ret_int HF.out.symm, HB.out⟩

/-! ### Find and Column. -/
set_option maxHeartbeats 400000 in
theorem find_any (s : List TabT) (v : Value) (nm : Txt) (hl : s.length ≤ 4000) (w : World) (h : Tabs w v s) :
    Calls Tryz.prog 19 #[.agg #[v], str nm] w (IntPost w (findT s nm)) := by
  obtain ⟨r, hr⟩ : ∃ r, findT s nm = r := ⟨_, rfl⟩
  have C := fun W (hW : Tabs W v s ∧ W.cell? ⟨w.heap.size + 1, 0, none⟩ = some (str nm)) => idxT_any s v (w.heap.size + 1) nm hl W hW.1 hW.2
  have hr' : idx (fun x => decide (x.name = nm)) s = r := hr
  rw [hr'] at C
  rw [hr]
  replace C := Lib.hid C
  have H := Lib.hid h
  clear hr hr' h
  go_enter Tryz.func19, Tryz.ntmps19
  go_wp2_with fail
  refine (C.out _ ⟨H.out.below ((below_box w _).alloc (by simp) _), by simp [go_sem]⟩).mono ?_
  rintro e w1 ⟨rfl, hb⟩
  have HB := Lib.hid (below_up ((below_box w _).alloc (by simp) _) hb (by simp; omega))
  clear hb
  go_wp2_with fail
  go_ret
  exact ⟨rfl, HB.out⟩

set_option maxHeartbeats 1000000 in
theorem column_any (n : Txt) (l : List AttrT) (va vk : Value) (nm : Txt) (hl : l.length ≤ 4000) (hws : ∀ a ∈ l, a.was.length ≤ 4000) (w : World) (h : Attrs w va l) :
    Calls Tryz.prog 23 #[.agg #[str n, va, vk], str nm] w (IntPost w (colT l nm)) := by
  obtain ⟨r, hr⟩ : ∃ r, colN l nm = r := ⟨_, rfl⟩
  have C := fun W (hW : Attrs W va l ∧ W.cell? ⟨w.heap.size + 1, 0, none⟩ = some (str nm)) => idxN_any l va (w.heap.size + 1) nm hl W hW.1 hW.2
  have D := fun W (hW : Attrs W va l ∧ W.cell? ⟨w.heap.size + 1, 0, none⟩ = some (str nm)) => idxW_any l va (w.heap.size + 1) nm hl hws W hW.1 hW.2
  have hr' : idx (fun x => decide (x.name = nm)) l = r := hr
  rw [hr'] at C
  have HD : idx (fun x => decide (nm ∈ x.was)) l = colW l nm := rfl
  rw [HD] at D
  replace C := Lib.hid C
  replace D := Lib.hid D
  have H := Lib.hid h
  have HR := Lib.hid hr
  clear hr hr' h HD hws
  go_enter Tryz.func23, Tryz.ntmps23
  go_wp2_with fail
  refine (C.out _ ⟨H.out.below ((below_box w _).alloc (by simp) _), by simp [go_sem]⟩).mono ?_
  rintro e w1 ⟨rfl, hb⟩
  have c1 : w1.cell? ⟨w.heap.size, 1, none⟩ = some va := cellB hb (by simp [go_sem])
  have HQ := Lib.hid (show w1.cell? ⟨w.heap.size + 1, 0, none⟩ = some (str nm) from cellB hb (by simp [go_sem]))
  have HB := Lib.hid (below_up ((below_box w _).alloc (by simp) _) hb (by simp; omega))
  clear hb C
  by_cases hn : r < 0
  · have HF := Lib.hid (show colT l nm = colW l nm by unfold colT; rw [HR.out, if_pos hn])
    go_wp2_with fail
    refine (D.out _ ⟨H.out.below HB.out, HQ.out⟩).mono ?_
    rintro e w2 ⟨rfl, hb2⟩
    have HB2 := Lib.hid (below_up HB.out hb2 HB.out.size)
    clear hb2 c1
    go_wp2_with fail
    go_ret
    exact ⟨ret_int HF.out.symm, HB2.out⟩
  · have HF := Lib.hid (show colT l nm = r by unfold colT; rw [HR.out, if_neg hn])
    go_wp2_with fail
    go_ret
    exact ⟨ret_int HF.out.symm, HB.out⟩
end Go.Proofs.YteokcgfbhaeklaaGreatDoor

/- Appending to rows of the call's own, whatever the elements; what a slice's cells are, laid flat. -/
namespace Go.Proofs.YteokcgfbhaeklaaGreatDoor
open Go.RowKit

/-- What append asks of an element type. -/
structure Elem (t e : TypeId) (z : Value) (size bytes : Nat) : Prop where
  ht : Tryz.prog.underlying t = some (.slice e)
  hi : (Tryz.prog.info? e).map (fun i => (i.zero, i.size, i.bytes)) = some (some z, size, bytes)
  hzs : z.cells.size = size
  hpos : 0 < size
  hby : bytes ≤ 200
/-- A list that is to be appended: its cells. -/
structure Src (w : World) (B : Option Addr) (m c : Nat) (size : Nat) (news : List Value) : Prop where
  len : news.length = m * size
  cap : m ≤ c
  nil : B = none → c = 0
  cell : ∀ ad, B = some ad → ∀ j u, news[j]? = some u → w.cell? (ad.add j) = some u
  one : ∀ u ∈ news, u.oneCell' = true
theorem Src.keep {w w1 : World} {B : Option Addr} {m c size : Nat} {news : List Value} (h : Src w B m c size news) (hk : ∀ ad, B = some ad → ∀ j u, w.cell? (ad.add j) = some u → w1.cell? (ad.add j) = some u) : Src w1 B m c size news :=
  ⟨h.len, h.cap, h.nil, fun ad e j u hj => hk ad e j u (h.cell ad e j u hj), h.one⟩
theorem cellBA {w w1 : World} {a : Addr} {v : Value} (hb : Below w.heap.size w w1) (hc : w.cell? a = some v) : w1.cell? a = some v := by
  refine (hb.cell (p := a) ?_).trans hc
  rcases Nat.lt_or_ge a.block w.heap.size with h | h
  · exact h
  · simp [World.cell?, Array.getElem?_eq_none h] at hc
theorem Src.below {w w1 : World} {B : Option Addr} {m c size : Nat} {news : List Value} (h : Src w B m c size news) (hb : Below w.heap.size w w1) : Src w1 B m c size news :=
  h.keep fun _ _ _ _ hc => cellBA hb hc
theorem run_app {t e : TypeId} {z : Value} {size bytes : Nat} (E : Elem t e z size bytes) {w : World} {base ty : Nat} {v : Value} {n : Nat} {xs : List Value} (hown : w.ownsRow base e size v n xs)
    {B : Option Addr} {m c : Nat} {news : List Value} (hs : Src w B m c size news) (hl : n + m ≤ 100000) (hbase : base ≤ w.heap.size) :
    ∃ v' w', (Builtin.append_ #[t, t] ty #[v, .slice B m c]).run Tryz.prog w = .ok v' w' ∧ w'.ownsRow base e size v' (n + m) (xs ++ news) ∧ w.grownBy w' v.ownBlock ∧ (v'.ownBlock = v.ownBlock ∨ v'.ownBlock = some w.heap.size) := by
  obtain ⟨i0, hi, hz0, hz1, hz2⟩ := info_parts E.hi
  cases B with
  | none =>
    have h0 := hs.nil rfl
    have hc := hs.cap
    subst h0
    obtain rfl : m = 0 := by omega
    have hn : news = [] := List.eq_nil_of_length_eq_zero (by simpa using hs.len)
    subst hn
    exact ⟨v, w, run_append_owned_none w base t ty e i0 size E.ht hi v n xs hown, by simpa using hown, World.grownBy.refl w _, Or.inl rfl⟩
  | some ad =>
    obtain ⟨v', w', h1, h2, h3, _, h5⟩ := run_append_own_at (P := Tryz.prog) w base t ty e i0 z size bytes E.ht hi hz0 hz1 hz2 E.hzs E.hpos v n xs hown ad m c news hs.len (hs.cell ad rfl) hs.one (by unfold maxLen; omega)
      (Nat.le_trans (Nat.mul_le_mul hl E.hby) (by omega)) hbase
    exact ⟨v', w', h1, h2, h3, h5⟩
theorem wp_app {t e : TypeId} {z : Value} {size bytes : Nat} (E : Elem t e z size bytes) {w : World} {o : Oper} {a : Act} {K : Act → World → Prop} {Q : Exit → Act → World → Prop} (s x : Operand)
    (ho : o.op = .call { callee := .builtin .append, args := #[s, x], argTypes := #[t, t] }) {base : Nat} {v : Value} {n : Nat} {xs : List Value} (hs : a.eval s = v) (hown : w.ownsRow base e size v n xs)
    {B : Option Addr} {m c : Nat} {news : List Value} (hx : a.eval x = .slice B m c) (hsrc : Src w B m c size news) (hl : n + m ≤ 100000) (hbase : base ≤ w.heap.size)
    (h : ∀ v' w', w'.ownsRow base e size v' (n + m) (xs ++ news) → w.grownBy w' v.ownBlock → (v'.ownBlock = v.ownBlock ∨ v'.ownBlock = some w.heap.size) → K (a.put o.dst v') w') : o.wp Tryz.prog a w K Q := by
  obtain ⟨v', w', hrun, h2, h3, h4⟩ := run_app E (ty := o.type) hown hsrc hl hbase
  unfold Oper.wp execOp
  simp only [ho, resolve, invoke, builtin, Sem.run_bind, Sem.run_pure, Result.andThen_ok, List.map_toArray, List.map_cons, List.map_nil, hs, hx, hrun]
  exact h v' w' h2 h3 h4
theorem wpList_app {t e : TypeId} {z : Value} {size bytes : Nat} (E : Elem t e z size bytes) {w : World} {ops : Array Oper} {rest : List Oper} {o : Oper} {a : Act} {Q : Exit → Act → World → Prop} (hgd : o.guard = none) (s x : Operand)
    (ho : o.op = .call { callee := .builtin .append, args := #[s, x], argTypes := #[t, t] }) {base : Nat} {v : Value} {n : Nat} {xs : List Value} (hs : a.eval s = v) (hown : w.ownsRow base e size v n xs)
    {B : Option Addr} {m c : Nat} {news : List Value} (hx : a.eval x = .slice B m c) (hsrc : Src w B m c size news) (hl : n + m ≤ 100000) (hbase : base ≤ w.heap.size)
    (h : ∀ v' w', w'.ownsRow base e size v' (n + m) (xs ++ news) → w.grownBy w' v.ownBlock → (v'.ownBlock = v.ownBlock ∨ v'.ownBlock = some w.heap.size) → wpList Tryz.prog ops Q rest (a.put o.dst v') w') : wpList Tryz.prog ops Q (o :: rest) a w :=
  wpList_plain hgd fun _ hK => wp_app E s x ho hs hown hx hsrc hl hbase fun v' w' h2 h3 h4 => hK _ _ (h v' w' h2 h3 h4)
theorem step_app {t e : TypeId} {z : Value} {size bytes : Nat} (E : Elem t e z size bytes) {w : World} {ops : Array Oper} {o : Oper} {a : Act} {K : Act → World → Prop} {Q : Exit → Act → World → Prop} {G : Prop} (hgd : o.guard = none) (s x : Operand)
    (ho : o.op = .call { callee := .builtin .append, args := #[s, x], argTypes := #[t, t] }) {base : Nat} {v : Value} {n : Nat} {xs : List Value} (hs : a.eval s = v) (hown : w.ownsRow base e size v n xs)
    {B : Option Addr} {m c : Nat} {news : List Value} (hx : a.eval x = .slice B m c) (hsrc : Src w B m c size news) (hl : n + m ≤ 100000) (hbase : base ≤ w.heap.size)
    (h : ∀ v' w', w'.ownsRow base e size v' (n + m) (xs ++ news) → w.grownBy w' v.ownBlock → (v'.ownBlock = v.ownBlock ∨ v'.ownBlock = some w.heap.size) → K (a.put o.dst v') w') :
    if Region.wanted o (yielded ops a.tmps) = true then Oper.wp Tryz.prog o a w K Q else G := by
  have hw : Region.wanted o (yielded ops a.tmps) = true := by simp [Region.wanted, hgd]
  rw [if_pos hw]
  exact wp_app E s x ho hs hown hx hsrc hl hbase h

theorem elemStr : Elem 51 9 (.string ⟨#[]⟩) 1 16 := ⟨Tryz.underlying51, by kernel_rfl, rfl, by decide, by decide⟩
theorem elemInt : Elem 42 3 (.int .i64 0) 1 8 := ⟨Tryz.underlying42, by kernel_rfl, rfl, by decide, by decide⟩
theorem elemVal : Elem 29 26 (.agg #[.int .i64 0, .int .i64 0, .string ⟨#[]⟩]) 3 32 := ⟨Tryz.underlying29, by kernel_rfl, rfl, by decide, by decide⟩
theorem elemAttr : Elem 41 53 (.agg #[.string ⟨#[]⟩, .int .i64 0, .slice none 0 0, .int .i64 0, .int .i64 0, .string ⟨#[]⟩]) 6 80 := ⟨Tryz.underlying41, by kernel_rfl, rfl, by decide, by decide⟩
theorem elemTab : Elem 22 44 (.agg #[.string ⟨#[]⟩, .slice none 0 0, .slice none 0 0]) 3 64 := ⟨Tryz.underlying22, by kernel_rfl, rfl, by decide, by decide⟩

/-! ### Elements laid flat. -/
theorem flat_len {α : Type} {sz : Nat} {f : α → List Value} (hf : ∀ x, (f x).length = sz) : ∀ l : List α, (l.flatMap f).length = l.length * sz
  | [] => by simp
  | x :: l => by rw [List.flatMap_cons, List.length_append, flat_len hf l, hf, List.length_cons, Nat.succ_mul]; omega
theorem flat_get {α : Type} {sz : Nat} {f : α → List Value} (hf : ∀ x, (f x).length = sz) : ∀ (l : List α) (i k : Nat) (hi : i < l.length), k < sz → (l.flatMap f)[i * sz + k]? = (f l[i])[k]?
  | [], i, k, hi, _ => by simp at hi
  | x :: l, 0, k, _, hk => by
    rw [List.flatMap_cons, Nat.zero_mul, Nat.zero_add, List.getElem?_append_left (by rw [hf]; exact hk)]
    rfl
  | x :: l, i + 1, k, hi, hk => by
    rw [List.flatMap_cons, List.getElem?_append_right (by rw [hf, Nat.succ_mul]; omega), hf, show (i + 1) * sz + k - sz = i * sz + k by rw [Nat.succ_mul]; omega]
    exact flat_get hf l i k (by simpa using hi) hk
theorem add_none (b off n : Nat) : (⟨b, off, none⟩ : Addr).add n = ⟨b, off + n, none⟩ := by
  unfold Addr.add
  split
  · rename_i h
    subst h
    rfl
  · rfl
/-- A slice of elements, whose cells f tells. -/
theorem src_of_slc {α : Type} {sz : Nat} {R : World → Nat → Nat → α → Prop} {f : α → List Value} (hf : ∀ x, (f x).length = sz) (hs : 0 < sz)
    {w : World} {A : Option Addr} {n cap : Nat} {l : List α} (h : Slc sz R w (.slice A n cap) l) (h1 : ∀ x ∈ l, ∀ u ∈ f x, u.oneCell' = true) (hR : ∀ b o x, R w b o x → ∀ k, k < sz → w.cell? ⟨b, o + k, none⟩ = (f x)[k]?) : n = l.length ∧ Src w A n cap sz (l.flatMap f) := by
  obtain ⟨e, hc, hn⟩ := h.size
  obtain ⟨A', cap', e', _, _, hx⟩ := h
  injection e' with e1 e2 e3
  subst e1 e3
  refine ⟨e, by rw [flat_len hf, e], hc, hn, fun ad ea j u hj => ?_, fun u hu => ?_⟩
  · have hjl : j < l.length * sz := by
      have := (List.getElem?_eq_some_iff.1 hj).1
      rwa [flat_len hf] at this
    have hi : j / sz < l.length := Nat.div_lt_of_lt_mul (by rw [Nat.mul_comm]; exact hjl)
    have hk : j % sz < sz := Nat.mod_lt _ hs
    have hjd : j / sz * sz + j % sz = j := by rw [Nat.mul_comm]; exact Nat.div_add_mod j sz
    obtain ⟨b, off, eb, hr⟩ := hx (j / sz) hi
    rw [ea] at eb
    cases eb
    have h2 := hR _ _ _ hr (j % sz) hk
    rw [Nat.add_assoc, hjd] at h2
    rw [add_none, h2, ← flat_get hf l _ _ hi hk, hjd]
    exact hj
  · obtain ⟨x, hm, hx⟩ := List.mem_flatMap.1 hu
    exact h1 x hm u hx
/-- A row of the call's own is a slice of elements. -/
theorem slc_of_own {α : Type} {sz : Nat} {R : World → Nat → Nat → α → Prop} {f : α → List Value} (hf : ∀ x, (f x).length = sz) {w : World} {base : Nat} {e : TypeId} {v : Value} {n : Nat} {l : List α}
    (hn : n = l.length) (h : w.ownsRow base e sz v n (l.flatMap f)) (hR : ∀ b o x, (∀ k, k < sz → w.cell? ⟨b, o + k, none⟩ = (f x)[k]?) → R w b o x) : Slc sz R w v l := by
  subst hn
  rcases h.2 with ⟨rfl, h0⟩ | ⟨g, cap, cur, rfl, _, hg, hle, _, hsz, htk⟩
  · have : l = [] := List.length_eq_zero_iff.1 h0
    subst this
    exact Slc.nil w
  · refine ⟨_, cap, rfl, hle, (fun x => by cases x), fun i hi => ⟨g, 0, rfl, hR _ _ _ fun k hk => ?_⟩⟩
    have hlt : i * sz + k < l.length * sz := by
      have : (i + 1) * sz ≤ l.length * sz := Nat.mul_le_mul_right _ hi
      rw [Nat.succ_mul] at this
      omega
    have h1 : (cur.toList.take (l.length * sz))[i * sz + k]? = (f l[i])[k]? := by rw [htk, flat_get hf l i k hi hk]
    rw [List.getElem?_take_of_lt hlt, Array.getElem?_toList] at h1
    rw [Nat.zero_add]
    simp [World.cell?, hg, h1]
def intC (x : Int) : List Value := [.int .i64 x]
def valC (v : T3) : List Value := [.int .i64 v.1, .int .i64 v.2.1, str v.2.2]
def attrC (p : AttrT × Value) : List Value := [str p.1.name, .int .i64 p.1.kind, p.2, .int .i64 p.1.dft.1, .int .i64 p.1.dft.2.1, str p.1.dft.2.2]
def tabC (p : TabT × Value × Value) : List Value := [str p.1.name, p.2.1, p.2.2]
theorem intC_len (x : Int) : (intC x).length = 1 := rfl
theorem valC_len (x : T3) : (valC x).length = 3 := rfl
theorem attrC_len (x : AttrT × Value) : (attrC x).length = 6 := rfl
theorem tabC_len (x : TabT × Value × Value) : (tabC x).length = 3 := rfl
/-- A slice value. -/
def IsSl (v : Value) : Prop := ∃ A n c, v = .slice A n c
theorem IsSl.one {v : Value} (h : IsSl v) : v.oneCell' = true := by obtain ⟨A, n, c, rfl⟩ := h; rfl
theorem Strs.isSl {w : World} {v : Value} {l : List Txt} (h : Strs w v l) : IsSl v := by obtain ⟨A, c, e, _⟩ := h; exact ⟨A, _, c, e⟩
theorem src_ints {w : World} {A : Option Addr} {n cap : Nat} {l : List Int} (h : Ints w (.slice A n cap) l) : n = l.length ∧ Src w A n cap 1 (l.flatMap intC) :=
  src_of_slc intC_len (by decide) h (fun x _ u hu => by simp [intC] at hu; subst hu; rfl) (fun b o x hx k hk => by
    obtain rfl : k = 0 := by omega
    exact hx)
theorem src_vals {w : World} {A : Option Addr} {n cap : Nat} {l : List T3} (h : Vals w (.slice A n cap) l) : n = l.length ∧ Src w A n cap 3 (l.flatMap valC) :=
  src_of_slc valC_len (by decide) h (fun x _ u hu => by simp [valC] at hu; rcases hu with rfl | rfl | rfl <;> rfl) (fun b o x hx k hk => by
    match k, hk with
    | 0, _ => exact hx.c0
    | 1, _ => exact hx.c1
    | 2, _ => exact hx.c2)
theorem vals_of_own {w : World} {base : Nat} {e : TypeId} {v : Value} {n : Nat} {l : List T3} (hn : n = l.length) (h : w.ownsRow base e 3 v n (l.flatMap valC)) : Vals w v l :=
  slc_of_own valC_len hn h (fun b o x hx => ⟨hx 0 (by decide), hx 1 (by decide), hx 2 (by decide)⟩)
theorem ints_of_own {w : World} {base : Nat} {e : TypeId} {v : Value} {n : Nat} {l : List Int} (hn : n = l.length) (h : w.ownsRow base e 1 v n (l.flatMap intC)) : Ints w v l :=
  slc_of_own intC_len hn h (fun b o x hx => hx 0 (by decide))
theorem src_strs {w : World} {A : Option Addr} {n cap : Nat} {l : List Txt} (h : Strs w (.slice A n cap) l) : n = l.length ∧ Src w A n cap 1 (l.map str) := by
  obtain ⟨A', cap', e', hc, hn, hx⟩ := h
  injection e' with e1 e2 e3
  subst e1 e3
  refine ⟨e2, by rw [List.length_map, e2, Nat.mul_one], by omega, hn, fun ad ea j u hj => ?_, fun u hu => ?_⟩
  · have hjl : j < l.length := by
      have := (List.getElem?_eq_some_iff.1 hj).1
      rwa [List.length_map] at this
    obtain ⟨b, off, eb, h2⟩ := hx j hjl
    rw [ea] at eb
    cases eb
    rw [List.getElem?_map, List.getElem?_eq_getElem hjl] at hj
    cases hj
    rw [add_none]
    exact h2
  · obtain ⟨t, _, rfl⟩ := List.mem_map.1 hu
    rfl
/-- The attributes of a slice, each with the value of its former names. -/
def AttrsP (w : World) (v : Value) (ps : List (AttrT × Value)) : Prop := Slc 6 (fun w b o p => AttrAt w b o p.2 p.1) w v ps
theorem Attrs.open {w : World} {v : Value} {l : List AttrT} (h : Attrs w v l) : ∃ ps : List (AttrT × Value), ps.map Prod.fst = l ∧ AttrsP w v ps ∧ ∀ p ∈ ps, Strs w p.2 p.1.was := by
  obtain ⟨A, cap, rfl, hc, hn, hx⟩ := h
  have each : ∀ i, ∃ wv : Value, ∀ (hi : i < l.length), ∃ b off, A = some ⟨b, off, none⟩ ∧ AttrAt w b (off + i * 6) wv l[i] ∧ Strs w wv l[i].was := by
    intro i
    by_cases hi : i < l.length
    · obtain ⟨b, off, e, wv, h1, h2⟩ := hx i hi
      exact ⟨wv, fun _ => ⟨b, off, e, h1, h2⟩⟩
    · exact ⟨.bool false, fun h => absurd h hi⟩
  obtain ⟨f, hf⟩ := Classical.skolem.1 each
  refine ⟨l.zipIdx.map fun x => (x.1, f x.2), ?_, ⟨A, cap, by simp, by simpa using hc, hn, fun i hi => ?_⟩, fun p hp => ?_⟩
  · apply List.ext_getElem (by simp)
    intro i h1 h2
    simp
  · simp only [List.length_map, List.length_zipIdx] at hi
    obtain ⟨b, off, e, h1, h2⟩ := hf i hi
    refine ⟨b, off, e, ?_⟩
    simpa using h1
  · obtain ⟨i, hi, rfl⟩ := List.getElem_of_mem hp
    simp only [List.length_map, List.length_zipIdx] at hi
    obtain ⟨b, off, e, h1, h2⟩ := hf i hi
    simpa using h2
theorem attrs_shut {w : World} {v : Value} {ps : List (AttrT × Value)} (h : AttrsP w v ps) (hs : ∀ p ∈ ps, Strs w p.2 p.1.was) : Attrs w v (ps.map Prod.fst) := by
  obtain ⟨A, cap, rfl, hc, hn, hx⟩ := h
  refine ⟨A, cap, by simp, by simpa using hc, hn, fun i hi => ?_⟩
  simp only [List.length_map] at hi
  obtain ⟨b, off, e, h1⟩ := hx i hi
  exact ⟨b, off, e, ps[i].2, by simpa using h1, by simpa using hs _ (List.getElem_mem hi)⟩
theorem src_attrs {w : World} {A : Option Addr} {n cap : Nat} {ps : List (AttrT × Value)} (h : AttrsP w (.slice A n cap) ps) (hs : ∀ p ∈ ps, IsSl p.2) : n = ps.length ∧ Src w A n cap 6 (ps.flatMap attrC) := by
  exact src_of_slc attrC_len (by decide) h (fun x hx u hu => by
    simp only [attrC, List.mem_cons, List.not_mem_nil, or_false] at hu
    rcases hu with rfl | rfl | rfl | rfl | rfl | rfl <;> first | exact (hs _ hx).one | rfl) (fun b o x hx k hk => by
    match k, hk with
    | 0, _ => exact hx.c0
    | 1, _ => exact hx.c1
    | 2, _ => exact hx.c2
    | 3, _ => exact hx.c3
    | 4, _ => exact hx.c4
    | 5, _ => exact hx.c5)
theorem attrs_of_own {w : World} {base : Nat} {e : TypeId} {v : Value} {n : Nat} {ps : List (AttrT × Value)} (hn : n = ps.length) (h : w.ownsRow base e 6 v n (ps.flatMap attrC)) : AttrsP w v ps :=
  slc_of_own attrC_len hn h (fun b o x hx => ⟨hx 0 (by decide), hx 1 (by decide), hx 2 (by decide), hx 3 (by decide), hx 4 (by decide), hx 5 (by decide)⟩)

/-- The tables of a slice, each with the values of its attributes and its key. -/
def TabsP (w : World) (v : Value) (ps : List (TabT × Value × Value)) : Prop := Slc 3 (fun w b o p => TabAt w b o p.2.1 p.2.2 p.1.name) w v ps
theorem Attrs.isSl {w : World} {v : Value} {l : List AttrT} (h : Attrs w v l) : IsSl v := by obtain ⟨A, c, e, _⟩ := h; exact ⟨A, _, c, e⟩
theorem Ints.isSl {w : World} {v : Value} {l : List Int} (h : Ints w v l) : IsSl v := by obtain ⟨A, c, e, _⟩ := h; exact ⟨A, _, c, e⟩
theorem Tabs.open {w : World} {v : Value} {l : List TabT} (h : Tabs w v l) : ∃ ps : List (TabT × Value × Value), ps.map Prod.fst = l ∧ TabsP w v ps ∧ ∀ p ∈ ps, Attrs w p.2.1 p.1.attrs ∧ Ints w p.2.2 p.1.key := by
  obtain ⟨A, cap, rfl, hc, hn, hx⟩ := h
  have each : ∀ i, ∃ wv : Value × Value, ∀ (hi : i < l.length), ∃ b off, A = some ⟨b, off, none⟩ ∧ TabAt w b (off + i * 3) wv.1 wv.2 l[i].name ∧ Attrs w wv.1 l[i].attrs ∧ Ints w wv.2 l[i].key := by
    intro i
    by_cases hi : i < l.length
    · obtain ⟨b, off, e, va, vk, h1, h2, h3⟩ := hx i hi
      exact ⟨(va, vk), fun _ => ⟨b, off, e, h1, h2, h3⟩⟩
    · exact ⟨(.bool false, .bool false), fun h => absurd h hi⟩
  obtain ⟨f, hf⟩ := Classical.skolem.1 each
  refine ⟨l.zipIdx.map fun x => (x.1, f x.2), ?_, ⟨A, cap, by simp, by simpa using hc, hn, fun i hi => ?_⟩, fun p hp => ?_⟩
  · apply List.ext_getElem (by simp)
    intro i h1 h2
    simp
  · simp only [List.length_map, List.length_zipIdx] at hi
    obtain ⟨b, off, e, h1, h2⟩ := hf i hi
    refine ⟨b, off, e, ?_⟩
    simpa using h1
  · obtain ⟨i, hi, rfl⟩ := List.getElem_of_mem hp
    simp only [List.length_map, List.length_zipIdx] at hi
    obtain ⟨b, off, e, h1, h2⟩ := hf i hi
    simpa using h2
theorem tabs_shut {w : World} {v : Value} {ps : List (TabT × Value × Value)} (h : TabsP w v ps) (hs : ∀ p ∈ ps, Attrs w p.2.1 p.1.attrs ∧ Ints w p.2.2 p.1.key) : Tabs w v (ps.map Prod.fst) := by
  obtain ⟨A, cap, rfl, hc, hn, hx⟩ := h
  refine ⟨A, cap, by simp, by simpa using hc, hn, fun i hi => ?_⟩
  simp only [List.length_map] at hi
  obtain ⟨b, off, e, h1⟩ := hx i hi
  have h2 := hs _ (List.getElem_mem hi)
  exact ⟨b, off, e, ps[i].2.1, ps[i].2.2, by simpa using h1, by simpa using h2.1, by simpa using h2.2⟩
theorem src_tabs {w : World} {A : Option Addr} {n cap : Nat} {ps : List (TabT × Value × Value)} (h : TabsP w (.slice A n cap) ps) (hs : ∀ p ∈ ps, IsSl p.2.1 ∧ IsSl p.2.2) : n = ps.length ∧ Src w A n cap 3 (ps.flatMap tabC) := by
  exact src_of_slc tabC_len (by decide) h (fun x hx u hu => by
    simp only [tabC, List.mem_cons, List.not_mem_nil, or_false] at hu
    rcases hu with rfl | rfl | rfl <;> first | exact (hs _ hx).1.one | exact (hs _ hx).2.one | rfl) (fun b o x hx k hk => by
    match k, hk with
    | 0, _ => exact hx.c0
    | 1, _ => exact hx.c1
    | 2, _ => exact hx.c2)
theorem tabs_of_own {w : World} {base : Nat} {e : TypeId} {v : Value} {n : Nat} {ps : List (TabT × Value × Value)} (hn : n = ps.length) (h : w.ownsRow base e 3 v n (ps.flatMap tabC)) : TabsP w v ps :=
  slc_of_own tabC_len hn h (fun b o x hx => ⟨hx 0 (by decide), hx 1 (by decide), hx 2 (by decide)⟩)
end Go.Proofs.YteokcgfbhaeklaaGreatDoor

