import Derived.Test.YteokcgfbhaeklaaGreatDoorPFit
import Derived.Test.YteokcgfbhaeklaaGreatDoorPRefA
import Derived.Test.YteokcgfbhaeklaaGreatDoorPFind
import Derived.Test.YteokcgfbhaeklaaGreatDoorScTab
import Derived.Test.YteokcgfbhaeklaaGreatDoorScValid
/- The reference's Name, kind and Fit. -/
namespace Go.Proofs.YteokcgfbhaeklaaGreatDoor
open Go.RowKit

theorem letB_yes {c : UInt8} (h : ((97 : Int) ≤ (c.toNat : Int) ∧ (c.toNat : Int) ≤ 122) ∨ ((65 : Int) ≤ (c.toNat : Int) ∧ (c.toNat : Int) ≤ 90)) : letB c = true := decide_eq_true (by unfold Let; omega)
theorem letB_no {c : UInt8} (h : (c.toNat : Int) < 65 ∨ ((90 : Int) < (c.toNat : Int) ∧ (c.toNat : Int) < 97) ∨ (122 : Int) < (c.toNat : Int)) : letB c = false := decide_eq_false (by unfold Let; omega)
/-- The first k bytes are those of a name. -/
def NmTo (t : Txt) (k : Nat) : Prop := (∀ j (_ : j < k) (hl : j < t.length), othB t[j] = true) ∧ (0 < k → letB (t.getD 0 0) = true)
theorem nmTo_let {t : Txt} {k : Nat} (h : NmTo t k) (hk : k < t.length) (hl : letB t[k] = true) : NmTo t (k + 1) := by
  refine ⟨fun j hj hl' => ?_, fun _ => ?_⟩
  · by_cases e : j = k
    · subst e; exact othB_let hl
    · exact h.1 j (by omega) hl'
  · by_cases e : k = 0
    · subst e
      rw [List.getD_eq_getElem?_getD, List.getElem?_eq_getElem hk]; exact hl
    · exact h.2 (by omega)
theorem nmTo_oth {t : Txt} {k : Nat} (h : NmTo t k) (hk : k < t.length) (h0 : k ≠ 0) (hl : othB t[k] = true) : NmTo t (k + 1) := by
  refine ⟨fun j hj hl' => ?_, fun _ => h.2 (by omega)⟩
  by_cases e : j = k
  · subst e; exact hl
  · exact h.1 j (by omega) hl'
set_option maxRecDepth 100000 in
set_option maxHeartbeats 4000000 in
theorem name_ref (t : Txt) (htl : t.length ≤ maxLen) (w : World) :
    Calls Tryz.prog 59 #[str t] w fun e w' => e = .returned (.bool (nameB t)) ∧ w = w' := by
  have htl2 : t.length ≤ 9223372036854775807 := Nat.le_trans htl (by unfold maxLen; decide)
  clear htl
  go_enter Tryz.func59, Tryz.ntmps59
  go_wp2_with fail
  go_loop [3] (fun i => ∃ k : Nat, k ≤ t.length ∧ i = .int .i64 (k : Int) ∧ NmTo t k) (fun i => t.length - (intOf i).toNat)
  case atStart => exact ⟨0, by omega, by simp, fun j hj => by omega, fun h => absurd h (by omega)⟩
  case round =>
    obtain ⟨k, hk, rfl, hall⟩ := hrel
    have HA := Lib.hid hall
    clear hall
    by_cases hlt : k < t.length
    · obtain ⟨d, hd⟩ : ∃ d, t[k] = d := ⟨_, rfl⟩
      have hix : ∀ (h : k < (ByteArray.mk t.toArray).size), (⟨t.toArray⟩ : ByteArray)[k]'h = d := fun _ => hd
      have HD := Lib.hid hd
      clear hd
      have h256 := d.toNat_lt
      have HL : Hid (letB d = true → NmTo t (k + 1)) := Lib.hid (fun h => nmTo_let HA.out hlt (by rw [HD.out]; exact h))
      have HO : Hid (k ≠ 0 → othB d = true → NmTo t (k + 1)) := Lib.hid (fun h0 h => nmTo_oth HA.out hlt h0 (by rw [HD.out]; exact h))
      have HX : Hid (othB d = false → nameB t = false) := Lib.hid (fun ho => nameB_bad hlt (by rw [HD.out]; exact ho))
      have HZ : Hid (k = 0 → letB d = false → nameB t = false) := Lib.hid (fun h0 h => nameB_head (by
        subst h0
        rw [List.getD_eq_getElem?_getD, List.getElem?_eq_getElem hlt]; show letB t[0] = false; rw [HD.out]; exact h))
      rcases (show ((65 : Int) ≤ (d.toNat : Int) ∧ (d.toNat : Int) ≤ 90) ∨ ((97 : Int) ≤ (d.toNat : Int) ∧ (d.toNat : Int) ≤ 122) ∨ ((48 : Int) ≤ (d.toNat : Int) ∧ (d.toNat : Int) ≤ 57) ∨ (d.toNat : Int) = 95 ∨ (d.toNat : Int) < 48 ∨ ((57 : Int) < (d.toNat : Int) ∧ (d.toNat : Int) < 65) ∨ ((90 : Int) < (d.toNat : Int) ∧ (d.toNat : Int) < 95) ∨ (d.toNat : Int) = 96 ∨ (122 : Int) < (d.toNat : Int) by omega) with q | q | q | q | q | q | q | q | q
      · have HN := Lib.hid (HL.out (letB_yes (Or.inr q)))
        obtain ⟨q1, q2⟩ := q
        have b3 : ((d.toNat : Int) == 95) = false := beq_eq_false_iff_ne.2 (by omega)
        go_wp2_with fail
        go_round
        case rel => exact ⟨k + 1, by omega, by simp, HN.out⟩
        case measure => simp [intOf]; omega
      · have HN := Lib.hid (HL.out (letB_yes (Or.inl q)))
        obtain ⟨q1, q2⟩ := q
        have b3 : ((d.toNat : Int) == 95) = false := beq_eq_false_iff_ne.2 (by omega)
        go_wp2_with fail
        go_round
        case rel => exact ⟨k + 1, by omega, by simp, HN.out⟩
        case measure => simp [intOf]; omega
      · have HNO := Lib.hid (letB_no (c := d) (by omega))
        have HOO := Lib.hid (othB_dig (c := d) (by omega) (by omega))
        obtain ⟨q1, q2⟩ := q
        have b3 : ((d.toNat : Int) == 95) = false := beq_eq_false_iff_ne.2 (by omega)
        by_cases k0 : k = 0
        · have HF := Lib.hid (HZ.out k0 HNO.out)
          have z : ((k : Int) == 0) = true := by simpa using k0
          clear k0
          go_wp2_with fail
          go_ret
          exact ⟨bool_ret HF.out.symm, rfl⟩
        · have HN := Lib.hid (HO.out k0 HOO.out)
          have z : ((k : Int) == 0) = false := by simpa using k0
          go_wp2_with fail
          go_round
          case rel => exact ⟨k + 1, by omega, by simp, HN.out⟩
          case measure => simp [intOf]; omega
      · have HNO := Lib.hid (letB_no (c := d) (by omega))
        have HOO := Lib.hid (othB_low (c := d) q)
        have b3 : ((d.toNat : Int) == 95) = true := beq_iff_eq.2 q
        by_cases k0 : k = 0
        · have HF := Lib.hid (HZ.out k0 HNO.out)
          have z : ((k : Int) == 0) = true := by simpa using k0
          clear k0
          go_wp2_with fail
          go_ret
          exact ⟨bool_ret HF.out.symm, rfl⟩
        · have HN := Lib.hid (HO.out k0 HOO.out)
          have z : ((k : Int) == 0) = false := by simpa using k0
          go_wp2_with fail
          go_round
          case rel => exact ⟨k + 1, by omega, by simp, HN.out⟩
          case measure => simp [intOf]; omega
      all_goals
        have HF := Lib.hid (HX.out (othB_no (c := d) (letB_no (by omega)) (by omega) (by omega)))
        (try obtain ⟨q1, q2⟩ := q)
        first | have p1 : decide ((97 : Int) ≤ (d.toNat : Int)) = true := decide_eq_true (by omega) | have p1 : decide ((97 : Int) ≤ (d.toNat : Int)) = false := decide_eq_false (by omega)
        first | have p2 : decide ((d.toNat : Int) ≤ 122) = true := decide_eq_true (by omega) | have p2 : decide ((d.toNat : Int) ≤ 122) = false := decide_eq_false (by omega)
        first | have p3 : decide ((65 : Int) ≤ (d.toNat : Int)) = true := decide_eq_true (by omega) | have p3 : decide ((65 : Int) ≤ (d.toNat : Int)) = false := decide_eq_false (by omega)
        first | have p4 : decide ((d.toNat : Int) ≤ 90) = true := decide_eq_true (by omega) | have p4 : decide ((d.toNat : Int) ≤ 90) = false := decide_eq_false (by omega)
        first | have p5 : decide ((48 : Int) ≤ (d.toNat : Int)) = true := decide_eq_true (by omega) | have p5 : decide ((48 : Int) ≤ (d.toNat : Int)) = false := decide_eq_false (by omega)
        first | have p6 : decide ((d.toNat : Int) ≤ 57) = true := decide_eq_true (by omega) | have p6 : decide ((d.toNat : Int) ≤ 57) = false := decide_eq_false (by omega)
        have b3 : ((d.toNat : Int) == 95) = false := beq_eq_false_iff_ne.2 (by omega)
        by_cases k0 : k = 0
        · have z : ((k : Int) == 0) = true := by simpa using k0
          clear k0
          go_wp2_with fail
          go_ret
          exact ⟨bool_ret HF.out.symm, rfl⟩
        · have z : ((k : Int) == 0) = false := by simpa using k0
          go_wp2_with fail
          go_ret
          exact ⟨bool_ret HF.out.symm, rfl⟩
    · by_cases g1 : 1 ≤ t.length
      · by_cases g2 : t.length ≤ 24
        · have HF := Lib.hid (nameB_good (t := t) ⟨g1, g2⟩ (HA.out.2 (by omega)) (fun j hj => HA.out.1 j (by omega) hj))
          have hd : decide ((t.length : Int) ≤ 24) = true := decide_eq_true (by omega)
          go_wp2_with fail
          go_ret
          exact ⟨bool_ret HF.out.symm, rfl⟩
        · have HF := Lib.hid (nameB_len (t := t) (by omega))
          have hd : decide ((t.length : Int) ≤ 24) = false := decide_eq_false (by omega)
          go_wp2_with fail
          go_ret
          exact ⟨bool_ret HF.out.symm, rfl⟩
      · have HF := Lib.hid (nameB_len (t := t) (by omega))
        go_wp2_with fail
        go_ret
        exact ⟨bool_ret HF.out.symm, rfl⟩

theorem kind_ref (k : Int) (w : World) :
    Calls Tryz.prog 60 #[.int .i64 k] w fun e w' => e = .returned (.bool (decide (1 ≤ k ∧ k ≤ 4))) ∧ w = w' := by
  by_cases h1 : 1 ≤ k
  · by_cases h2 : k ≤ 4
    · have HF := Lib.hid (show decide (1 ≤ k ∧ k ≤ 4) = true from decide_eq_true ⟨h1, h2⟩)
      rw [HF.out]
      go_enter Tryz.func60, Tryz.ntmps60
      go_wp2_with fail
      go_ret
      exact ⟨rfl, rfl⟩
    · have HF := Lib.hid (show decide (1 ≤ k ∧ k ≤ 4) = false from decide_eq_false (by omega))
      rw [HF.out]
      go_enter Tryz.func60, Tryz.ntmps60
      go_wp2_with fail
      go_ret
      exact ⟨rfl, rfl⟩
  · have HF := Lib.hid (show decide (1 ≤ k ∧ k ≤ 4) = false from decide_eq_false (by omega))
    rw [HF.out]
    go_enter Tryz.func60, Tryz.ntmps60
    go_wp2_with fail
    go_ret
    exact ⟨rfl, rfl⟩
theorem fit_raw_ref (a n : Int) (t : Txt) (k : Int) (w : World) :
    Calls Tryz.prog 42 #[.int .i64 k, .agg #[.int .i64 a, .int .i64 n, str t]] w (BoolPost w (fitB (a, n, t) k)) := by
  have C := fun W => L2.refvalid_any a n t W
  cases hv : L2.vldB a n t
  · have HF := Lib.hid (show fitB (a, n, t) k = false by unfold fitB vB; simp [hv])
    rw [hv] at C
    clear hv
    go_enter Tryz.func42, Tryz.ntmps42
    go_wp2_with fail
    refine (C _).mono ?_
    clear C
    rintro e w1 ⟨rfl, hb⟩
    have HB := Lib.hid (below_up (below_box w _) hb (by simp))
    clear hb
    go_wp2_with fail
    go_ret
    exact ⟨bool_ret HF.out.symm, HB.out⟩
  · have HF := Lib.hid (show fitB (a, n, t) k = (decide (a = 0) || decide (a = k)) by unfold fitB vB; simp [hv])
    rw [hv] at C
    clear hv
    by_cases h0 : a = 0
    · have HG := Lib.hid (show fitB (a, n, t) k = true by rw [HF.out, h0]; rfl)
      have b0 : (a == 0) = true := by simpa using h0
      clear h0
      go_enter Tryz.func42, Tryz.ntmps42
      go_wp2_with fail
      refine (C _).mono ?_
      clear C
      rintro e w1 ⟨rfl, hb⟩
      have c0 : w1.cell? ⟨w.heap.size, 0, none⟩ = some (.int .i64 a) := cellB hb (by simp [go_sem])
      have HB := Lib.hid (below_up (below_box w _) hb (by simp))
      clear hb
      go_wp2_with fail
      go_ret
      exact ⟨bool_ret HG.out.symm, HB.out⟩
    · have b0 : (a == 0) = false := by simpa using h0
      have HG := Lib.hid (show fitB (a, n, t) k = decide (a = k) by rw [HF.out, decide_eq_false h0]; rfl)
      clear h0
      go_enter Tryz.func42, Tryz.ntmps42
      go_wp2_with fail
      refine (C _).mono ?_
      clear C
      rintro e w1 ⟨rfl, hb⟩
      have c0 : w1.cell? ⟨w.heap.size, 0, none⟩ = some (.int .i64 a) := cellB hb (by simp [go_sem])
      have HB := Lib.hid (below_up (below_box w _) hb (by simp))
      clear hb
      go_wp2_with fail
      go_ret
      exact ⟨bool_ret (by rw [HG.out, Bool.eq_iff_iff]; simp), HB.out⟩
theorem fit_ref (v : T3) (k : Int) (w : World) : Calls Tryz.prog 42 #[.int .i64 k, Vv v] w (BoolPost w (fitB v k)) := fit_raw_ref v.1 v.2.1 v.2.2 k w
end Go.Proofs.YteokcgfbhaeklaaGreatDoor

/- The reference's Find, Column, in and formed. -/
namespace Go.Proofs.YteokcgfbhaeklaaGreatDoor
open Go.RowKit

theorem tab_row {w : World} {A : Option Addr} {n cp : Nat} {s : List TabT} (h : Tabs w (.slice A n cp) s) {k : Nat} (hk : k < s.length) :
    ∃ b o, A = some ⟨b, o, none⟩ ∧ TabR w b (o + k * 3) s[k] := by
  obtain ⟨_, _, b, o, e, f⟩ := Slc.spot h (by omega)
  exact ⟨b, o, e, f k hk⟩
theorem attr_row {w : World} {A : Option Addr} {n cp : Nat} {l : List AttrT} (h : Attrs w (.slice A n cp) l) {k : Nat} (hk : k < l.length) :
    ∃ b o, A = some ⟨b, o, none⟩ ∧ AttrR w b (o + k * 6) l[k] := by
  obtain ⟨_, _, b, o, e, f⟩ := Slc.spot h (by omega)
  exact ⟨b, o, e, f k hk⟩
set_option maxRecDepth 100000 in
set_option maxHeartbeats 2000000 in
theorem find_rf (s : List TabT) (v : Value) (nm : Txt) (hsl : s.length ≤ 4000) (w : World) (h : Tabs w v s) :
    Calls Tryz.prog 20 #[.agg #[v], str nm] w (IntPost w (findT s nm)) := by
  obtain ⟨A, cap, rfl, _⟩ := h.form
  have HS := Lib.hid (h.below (below_box w (.cells #[.slice A s.length cap] 24)))
  clear h
  obtain ⟨X, hX⟩ : ∃ X, w.alloc (.cells #[.slice A s.length cap] 24) = X := ⟨_, rfl⟩
  have z0 : X.cell? ⟨w.heap.size, 0, none⟩ = some (.slice A s.length cap) := by rw [← hX]; simp [go_sem]
  have HB : Hid (Below w.heap.size w X) := Lib.hid (by rw [← hX]; exact below_box w _)
  have HX := Lib.hid hX
  rw [hX] at HS
  clear hX
  go_enter Tryz.func20, Tryz.ntmps20
  go_wp2_with fail
  rw [HX.out]
  go_loop [5] (fun i => ∃ k : Nat, k ≤ s.length ∧ i = .int .i64 (k : Int) ∧ ∀ j (_ : j < k) (hl : j < s.length), s[j].name ≠ nm) (fun i => s.length - (intOf i).toNat)
  case atStart => exact ⟨0, by omega, by simp, fun j hj => by omega⟩
  case round =>
    obtain ⟨k, hk, rfl, hall⟩ := hrel
    have HA := Lib.hid hall
    clear hall
    by_cases hlt : k < s.length
    · obtain ⟨b, o, rfl, va, vk, hat, _, _⟩ := tab_row HS.out hlt
      have x0 := hat.c0
      have i1 : (0 : Int) ≤ (k : Int) := by omega
      have i2 : (k : Int) < (s.length : Int) := by omega
      by_cases e : s[k].name = nm
      · have HF := Lib.hid (show findT s nm = (k : Int) from idx_eq hlt (by simpa using e) (fun j hj => by simpa using HA.out j hj (by omega)))
        have d1 : (s[k].name == nm) = true := by simpa using e
        clear e hat
        go_wp2_with fail
        go_ret
        exact ⟨ret_int HF.out.symm, HB.out⟩
      · have HN : Hid (∀ j (_ : j < k + 1) (hl : j < s.length), s[j].name ≠ nm) := Lib.hid (fun j hj hl => by
          by_cases q : j = k
          · subst q; exact e
          · exact HA.out j (by omega) hl)
        have d1 : (s[k].name == nm) = false := by simpa using e
        clear e hat
        go_wp2_with fail
        go_round
        case rel => exact ⟨k + 1, by omega, by simp, HN.out⟩
        case measure => simp [intOf]; omega
    · have HF := Lib.hid (show findT s nm = -1 from idx_neg (fun a ha => by
        obtain ⟨j, hj, rfl⟩ := List.getElem_of_mem ha
        simpa using HA.out j (by omega) hj))
      go_wp2_with fail
      go_ret
      exact ⟨ret_int HF.out.symm, HB.out⟩
set_option maxRecDepth 100000 in
set_option maxHeartbeats 4000000 in
theorem column_rf (n : Txt) (l : List AttrT) (va vk : Value) (nm : Txt) (hll : l.length ≤ 4000) (hws : ∀ a ∈ l, a.was.length ≤ 4000) (w : World) (h : Attrs w va l) :
    Calls Tryz.prog 24 #[.agg #[str n, va, vk], str nm] w (IntPost w (colT l nm)) := by
  obtain ⟨A, cap, rfl, _⟩ := h.form
  have HS := Lib.hid (h.below (below_box w (.cells #[str n, .slice A l.length cap, vk] 44)))
  clear h
  have HWL := Lib.hid hws
  clear hws
  obtain ⟨X, hX⟩ : ∃ X, w.alloc (.cells #[str n, .slice A l.length cap, vk] 44) = X := ⟨_, rfl⟩
  have z1 : X.cell? ⟨w.heap.size, 1, none⟩ = some (.slice A l.length cap) := by rw [← hX]; simp [go_sem]
  have HB : Hid (Below w.heap.size w X) := Lib.hid (by rw [← hX]; exact below_box w _)
  have HX := Lib.hid hX
  rw [hX] at HS
  clear hX
  go_enter Tryz.func24, Tryz.ntmps24
  go_wp2_with fail
  rw [HX.out]
  go_loop [5] (fun i => ∃ k : Nat, k ≤ l.length ∧ i = .int .i64 (k : Int) ∧ ∀ j (_ : j < k) (hl : j < l.length), l[j].name ≠ nm) (fun i => l.length - (intOf i).toNat)
  case atStart => exact ⟨0, by omega, by simp, fun j hj => by omega⟩
  case round =>
    obtain ⟨k, hk, rfl, hall⟩ := hrel
    have HA := Lib.hid hall
    clear hall
    by_cases hlt : k < l.length
    · obtain ⟨b, o, rfl, wv, hat, _⟩ := attr_row HS.out hlt
      have x0 := hat.c0
      have i1 : (0 : Int) ≤ (k : Int) := by omega
      have i2 : (k : Int) < (l.length : Int) := by omega
      by_cases e : l[k].name = nm
      · have HF := Lib.hid (show colT l nm = (k : Int) by
          have e1 : colN l nm = (k : Int) := idx_eq hlt (by simpa using e) (fun j hj => by simpa using HA.out j hj (by omega))
          unfold colT
          rw [e1, if_neg (by omega)])
        have d1 : (l[k].name == nm) = true := by simpa using e
        clear e hat
        go_wp2_with fail
        go_ret
        exact ⟨ret_int HF.out.symm, HB.out⟩
      · have HN : Hid (∀ j (_ : j < k + 1) (hl : j < l.length), l[j].name ≠ nm) := Lib.hid (fun j hj hl => by
          by_cases q : j = k
          · subst q; exact e
          · exact HA.out j (by omega) hl)
        have d1 : (l[k].name == nm) = false := by simpa using e
        clear e hat
        go_wp2_with fail
        go_round
        case rel => exact ⟨k + 1, by omega, by simp, HN.out⟩
        case measure => simp [intOf]; omega
    · have HF := Lib.hid (show colT l nm = colW l nm by
        have e1 : colN l nm = -1 := idx_neg (fun a ha => by
          obtain ⟨j, hj, rfl⟩ := List.getElem_of_mem ha
          simpa using HA.out j (by omega) hj)
        unfold colT
        rw [e1, if_pos (by omega)])
      clear HA
      go_wp2_with fail
      clear hlt hk
      go_loop [6] (fun i => ∃ k : Nat, k ≤ l.length ∧ i = .int .i64 (k : Int) ∧ ∀ j (_ : j < k) (hl : j < l.length), nm ∉ l[j].was) (fun i => l.length - (intOf i).toNat)
      case atStart => exact ⟨0, by omega, by simp, fun j hj => by omega⟩
      case round =>
        obtain ⟨p, hp, rfl, hall⟩ := hrel
        have HA := Lib.hid hall
        clear hall
        by_cases hlt : p < l.length
        · obtain ⟨b, o, rfl, wv, hat, hws⟩ := attr_row HS.out hlt
          obtain ⟨Aw, cw, rfl, _⟩ : ∃ A c, wv = .slice A l[p].was.length c ∧ l[p].was.length ≤ c := by
            obtain ⟨A, c, e, hc, _⟩ := hws
            exact ⟨A, c, e, hc⟩
          have x2 := hat.c2
          have i1 : (0 : Int) ≤ (p : Int) := by omega
          have i2 : (p : Int) < (l.length : Int) := by omega
          obtain ⟨a, ha⟩ : ∃ a, l[p] = a := ⟨_, rfl⟩
          have hwl : a.was.length ≤ 4000 := by rw [← ha]; exact HWL.out _ (List.getElem_mem hlt)
          rw [ha] at x2 hws
          have HW := Lib.hid hws
          have HAA := Lib.hid ha
          clear hat hws ha
          go_wp2_with fail
          go_loop [7] (fun i => ∃ m : Nat, m ≤ a.was.length ∧ i = .int .i64 (m : Int) ∧ ∀ j (_ : j < m) (hl : j < a.was.length), a.was[j] ≠ nm) (fun i => a.was.length - (intOf i).toNat)
          case atStart => exact ⟨0, by omega, by simp, fun j hj => by omega⟩
          case round =>
            obtain ⟨m, hm, rfl, hin⟩ := hrel
            have HI := Lib.hid hin
            clear hin
            by_cases hmt : m < a.was.length
            · obtain ⟨_, _, e1, _, _, f⟩ := HW.out
              cases e1
              obtain ⟨bw, ow, rfl, y0⟩ := f m hmt
              have j1 : (0 : Int) ≤ (m : Int) := by omega
              have j2 : (m : Int) < (a.was.length : Int) := by omega
              clear f
              by_cases e : a.was[m] = nm
              · have HG := Lib.hid (show colT l nm = (p : Int) by
                  rw [HF.out]
                  refine idx_eq hlt ?_ (fun j hj => by simpa using HA.out j hj (by omega))
                  rw [HAA.out]
                  exact decide_eq_true (e ▸ List.getElem_mem hmt))
                have d1 : (a.was[m] == nm) = true := by simpa using e
                clear e
                go_wp2_with fail
                go_ret
                exact ⟨ret_int HG.out.symm, HB.out⟩
              · have HN : Hid (∀ j (_ : j < m + 1) (hl : j < a.was.length), a.was[j] ≠ nm) := Lib.hid (fun j hj hl => by
                  by_cases q : j = m
                  · subst q; exact e
                  · exact HI.out j (by omega) hl)
                have d1 : (a.was[m] == nm) = false := by simpa using e
                clear e
                go_wp2_with fail
                go_round
                case rel => exact ⟨m + 1, by omega, by simp, HN.out⟩
                case measure => simp [intOf]; omega
            · have HN : Hid (∀ j (_ : j < p + 1) (hl : j < l.length), nm ∉ l[j].was) := Lib.hid (fun j hj hl => by
                by_cases q : j = p
                · subst q
                  rw [HAA.out]
                  intro hx
                  obtain ⟨i, hi, e⟩ := List.getElem_of_mem hx
                  exact HI.out i (by omega) hi e
                · exact HA.out j (by omega) hl)
              go_wp2_with fail
              go_round
              case rel => exact ⟨p + 1, by omega, by simp, HN.out⟩
              case measure => simp [intOf]; omega
        · have HG := Lib.hid (show colT l nm = -1 by
            rw [HF.out]
            exact idx_neg (fun a ha => by
              obtain ⟨j, hj, rfl⟩ := List.getElem_of_mem ha
              simpa using HA.out j (by omega) hj))
          go_wp2_with fail
          go_ret
          exact ⟨ret_int HG.out.symm, HB.out⟩
set_option maxRecDepth 100000 in
set_option maxHeartbeats 2000000 in
theorem in_rf (l : List Int) (v : Value) (n : Int) (hll : l.length ≤ 4000) (w : World) (h : Ints w v l) :
    Calls Tryz.prog 61 #[v, .int .i64 n] w fun e w' => e = .returned (.bool (decide (n ∈ l))) ∧ w = w' := by
  obtain ⟨A, cap, rfl, _⟩ := h.form
  have HS := Lib.hid h
  clear h
  go_enter Tryz.func61, Tryz.ntmps61
  go_wp2_with fail
  go_loop [5] (fun i => ∃ k : Nat, k ≤ l.length ∧ i = .int .i64 (k : Int) ∧ ∀ j (_ : j < k) (hl : j < l.length), l[j] ≠ n) (fun i => l.length - (intOf i).toNat)
  case atStart => exact ⟨0, by omega, by simp, fun j hj => by omega⟩
  case round =>
    obtain ⟨k, hk, rfl, hall⟩ := hrel
    have HA := Lib.hid hall
    clear hall
    by_cases hlt : k < l.length
    · obtain ⟨_, _, b, o, rfl, f⟩ := Slc.spot HS.out (by omega)
      have x0 := f k hlt
      rw [Nat.mul_one] at x0
      have i1 : (0 : Int) ≤ (k : Int) := by omega
      have i2 : (k : Int) < (l.length : Int) := by omega
      clear f
      by_cases e : l[k] = n
      · have HF := Lib.hid (show decide (n ∈ l) = true from decide_eq_true (e ▸ List.getElem_mem hlt))
        have d1 : (l[k] == n) = true := by simpa using e
        clear e
        go_wp2_with fail
        go_ret
        exact ⟨bool_ret HF.out.symm, rfl⟩
      · have HN : Hid (∀ j (_ : j < k + 1) (hl : j < l.length), l[j] ≠ n) := Lib.hid (fun j hj hl => by
          by_cases q : j = k
          · subst q; exact e
          · exact HA.out j (by omega) hl)
        have d1 : (l[k] == n) = false := by simpa using e
        clear e
        go_wp2_with fail
        go_round
        case rel => exact ⟨k + 1, by omega, by simp, HN.out⟩
        case measure => simp [intOf]; omega
    · have HF := Lib.hid (show decide (n ∈ l) = false from decide_eq_false (fun hx => by
        obtain ⟨j, hj, e⟩ := List.getElem_of_mem hx
        exact HA.out j (by omega) hj e))
      go_wp2_with fail
      go_ret
      exact ⟨bool_ret HF.out.symm, rfl⟩

/-! ### formed. -/
theorem eqz_rule (v : T3) (W : World) : (binOp .eql 26 (.agg #[.int .i64 v.1, .int .i64 v.2.1, str v.2.2]) (.agg #[.int .i64 0, .int .i64 0, .string ⟨#[]⟩])).run Tryz.prog W = .ok (.bool (decide (v = z3))) W := by
  obtain ⟨a, n, t⟩ := v
  by_cases e : (a, n, t) = z3
  · have e' : a = 0 ∧ n = 0 ∧ t = [] := by unfold z3 at e; simpa using e
    obtain ⟨rfl, rfl, rfl⟩ := e'
    rw [decide_eq_true e]
    exact L2.eql_yes 0 0 [] W
  · rw [decide_eq_false e]
    exact L2.eql_no (k := a) (n := n) (t := t) (k2 := 0) (n2 := 0) (t2 := []) (fun h => e (by obtain ⟨rfl, rfl, rfl⟩ := h; rfl)) W
set_option maxRecDepth 100000 in
set_option maxHeartbeats 2000000 in
theorem formed_rf (c : ChgT) (w : World) : Calls Tryz.prog 58 #[Cv c] w (BoolPost w (formedB c)) := by
  obtain ⟨k, tb, at_, nm, to, df⟩ := c
  obtain ⟨r, hr⟩ : ∃ r, decide (df = z3) = r := ⟨_, rfl⟩
  have D := fun W => eqz_rule df W
  rw [hr] at D
  have HR := Lib.hid hr
  clear hr
  by_cases h1 : k = 1
  · have k1 : (k == 1) = true := by simpa using h1
    by_cases e : at_ = []
    · have HF := Lib.hid (show formedB ⟨k, tb, at_, nm, to, df⟩ = true by unfold formedB; rw [if_pos h1]; simpa using e)
      subst e
      clear h1
      go_enter Tryz.func58, Tryz.ntmps58
      go_wp2_with fail
      go_ret
      exact ⟨bool_ret HF.out.symm, (below_box w _).alloc (by simp) _⟩
    · have HF := Lib.hid (show formedB ⟨k, tb, at_, nm, to, df⟩ = false by unfold formedB; rw [if_pos h1]; simpa using e)
      have em : at_.isEmpty = false := by simpa using e
      clear h1 e
      go_enter Tryz.func58, Tryz.ntmps58
      go_wp2_with fail
      go_ret
      exact ⟨bool_ret HF.out.symm, (below_box w _).alloc (by simp) _⟩
  · have k1 : (k == 1) = false := by simpa using h1
    by_cases h2 : k = 2
    · have k2 : (k == 2) = true := by simpa using h2
      have HD := Lib.hid (show formedB ⟨k, tb, at_, nm, to, df⟩ = decide (nm = [] ∧ to = 0 ∧ df = z3) by unfold formedB; rw [if_neg h1, if_pos h2])
      clear h1 h2
      by_cases e : nm = []
      · subst e
        by_cases e2 : to = 0
        · have HF := Lib.hid (show formedB ⟨k, tb, at_, [], to, df⟩ = r by rw [HD.out, ← HR.out]; simp [e2])
          have eb : (to == 0) = true := by simpa using e2
          clear e2
          go_enter Tryz.func58, Tryz.ntmps58
          go_wp2_with fail
          go_ret
          exact ⟨bool_ret HF.out.symm, (below_box w _).alloc (by simp) _⟩
        · have HF := Lib.hid (show formedB ⟨k, tb, at_, [], to, df⟩ = false by rw [HD.out]; simp [e2])
          have eb : (to == 0) = false := by simpa using e2
          clear e2
          go_enter Tryz.func58, Tryz.ntmps58
          go_wp2_with fail
          go_ret
          exact ⟨bool_ret HF.out.symm, (below_box w _).alloc (by simp) _⟩
      · have HF := Lib.hid (show formedB ⟨k, tb, at_, nm, to, df⟩ = false by rw [HD.out]; simp [e])
        have em : nm.isEmpty = false := by simpa using e
        clear e
        go_enter Tryz.func58, Tryz.ntmps58
        go_wp2_with fail
        go_ret
        exact ⟨bool_ret HF.out.symm, (below_box w _).alloc (by simp) _⟩
    · have k2 : (k == 2) = false := by simpa using h2
      by_cases h3 : k = 3
      · have k3 : (k == 3) = true := by simpa using h3
        have HD := Lib.hid (show formedB ⟨k, tb, at_, nm, to, df⟩ = decide (to = 0 ∧ df = z3) by unfold formedB; rw [if_neg h1, if_neg h2, if_pos h3])
        clear h1 h2 h3
        by_cases e2 : to = 0
        · have HF := Lib.hid (show formedB ⟨k, tb, at_, nm, to, df⟩ = r by rw [HD.out, ← HR.out]; simp [e2])
          have eb : (to == 0) = true := by simpa using e2
          clear e2
          go_enter Tryz.func58, Tryz.ntmps58
          go_wp2_with fail
          go_ret
          exact ⟨bool_ret HF.out.symm, (below_box w _).alloc (by simp) _⟩
        · have HF := Lib.hid (show formedB ⟨k, tb, at_, nm, to, df⟩ = false by rw [HD.out]; simp [e2])
          have eb : (to == 0) = false := by simpa using e2
          clear e2
          go_enter Tryz.func58, Tryz.ntmps58
          go_wp2_with fail
          go_ret
          exact ⟨bool_ret HF.out.symm, (below_box w _).alloc (by simp) _⟩
      · have k3 : (k == 3) = false := by simpa using h3
        by_cases h4 : k = 4
        · have k4 : (k == 4) = true := by simpa using h4
          have HD := Lib.hid (show formedB ⟨k, tb, at_, nm, to, df⟩ = decide (nm = []) by unfold formedB; rw [if_neg h1, if_neg h2, if_neg h3, if_pos h4])
          clear h1 h2 h3 h4
          by_cases e : nm = []
          · have HF := Lib.hid (show formedB ⟨k, tb, at_, nm, to, df⟩ = true by rw [HD.out]; simpa using e)
            subst e
            go_enter Tryz.func58, Tryz.ntmps58
            go_wp2_with fail
            go_ret
            exact ⟨bool_ret HF.out.symm, (below_box w _).alloc (by simp) _⟩
          · have HF := Lib.hid (show formedB ⟨k, tb, at_, nm, to, df⟩ = false by rw [HD.out]; simpa using e)
            have em : nm.isEmpty = false := by simpa using e
            clear e
            go_enter Tryz.func58, Tryz.ntmps58
            go_wp2_with fail
            go_ret
            exact ⟨bool_ret HF.out.symm, (below_box w _).alloc (by simp) _⟩
        · have k4 : (k == 4) = false := by simpa using h4
          have HF := Lib.hid (show formedB ⟨k, tb, at_, nm, to, df⟩ = false by unfold formedB; rw [if_neg h1, if_neg h2, if_neg h3, if_neg h4])
          clear h1 h2 h3 h4
          go_enter Tryz.func58, Tryz.ntmps58
          go_wp2_with fail
          go_ret
          exact ⟨bool_ret HF.out.symm, (below_box w _).alloc (by simp) _⟩
end Go.Proofs.YteokcgfbhaeklaaGreatDoor

/- The reference's names and right. -/
namespace Go.Proofs.YteokcgfbhaeklaaGreatDoor
open Go.RowKit

theorem cellLow {B : Nat} {w w' : World} {b o : Nat} {v : Value} (hb : Below B w w') (h : b < B) (hc : w.cell? ⟨b, o, none⟩ = some v) : w'.cell? ⟨b, o, none⟩ = some v := (hb.cell (p := ⟨b, o, none⟩) h).trans hc
set_option maxRecDepth 100000 in
set_option maxHeartbeats 4000000 in
theorem names_rf (n : Txt) (l : List AttrT) (va vk : Value) (hl : l.length ≤ 24) (hw : ∀ a ∈ l, a.was.length ≤ 24) (w : World) (ha : Attrs w va l) :
    Calls Tryz.prog 69 #[.agg #[str n, va, vk]] w fun e w' => ∃ v, e = .returned v ∧ OwnS w' (w.heap.size + 1) v (namesT l) ∧ Below w.heap.size w w' := by
  obtain ⟨A, cap, rfl, hcap⟩ := ha.form
  have HA := Lib.hid ha
  have HW := Lib.hid hw
  clear ha hw
  obtain ⟨X, hX⟩ : ∃ X, w.alloc (.cells #[str n, .slice A l.length cap, vk] 44) = X := ⟨_, rfl⟩
  have HX := Lib.hid hX
  have HX1 : Hid (X.cell? ⟨w.heap.size, 1, none⟩ = some (.slice A l.length cap)) := Lib.hid (by rw [← hX]; simp [go_sem])
  have HBX : Hid (Below w.heap.size w X) := Lib.hid (by rw [← hX]; exact below_box w _)
  have HSX : Hid (X.heap.size = w.heap.size + 1) := Lib.hid (by rw [← hX]; simp)
  clear hX
  go_enter Tryz.func69, Tryz.ntmps69
  go_wp2_with fail
  rw [HX.out]
  go_loopw [3, 4] (fun v i wr => ∃ k : Nat, k ≤ l.length ∧ i = .int .i64 (k : Int) ∧ OwnS wr (w.heap.size + 1) v (namesT (l.take k)) ∧ Below (w.heap.size + 1) X wr) (fun _ i _ => l.length - (intOf i).toNat)
  case atStart => exact ⟨0, by omega, by simp, World.ownsRow_nil _ _ _ _, Below.refl _ _⟩
  case round =>
    obtain ⟨v, rfl⟩ : ∃ v, v = u3 := ⟨_, rfl⟩
    obtain ⟨k, hk, rfl, hown, hb⟩ := hrel
    have HO := Lib.hid hown
    have HB := Lib.hid hb
    have hsz : w.heap.size + 1 ≤ wr.heap.size := by have := hb.size; rw [HSX.out] at this; exact this
    have HB2 := Lib.hid (show Below w.heap.size w wr from below_up HBX.out hb (by omega))
    have z1 : wr.cell? ⟨w.heap.size, 1, none⟩ = some (.slice A l.length cap) := cellLow hb (by omega) HX1.out
    clear hown hb
    by_cases hlt : k < l.length
    · obtain ⟨b, off, rfl, wv, hat0, hws⟩ := attr_row HA.out hlt
      obtain ⟨a, hx⟩ : ∃ a, l[k] = a := ⟨_, rfl⟩
      rw [hx] at hat0 hws
      obtain ⟨Aw, cw, rfl, _⟩ : ∃ A cap, wv = .slice A a.was.length cap ∧ a.was.length ≤ cap := by
        obtain ⟨A, cap, e, hc, _⟩ := hws
        exact ⟨A, cap, e, hc⟩
      have hbl : b < w.heap.size := cellLt hat0.c0
      have HAT := Lib.hid (hat0.below HBX.out)
      have c0 : wr.cell? ⟨b, off + k * 6, none⟩ = some (str a.name) := cellLow HB.out (by omega) HAT.out.c0
      have HWS := Lib.hid (hws.below HBX.out)
      have hwx : a.was.length ≤ 24 := by rw [← hx]; exact HW.out _ (List.getElem_mem hlt)
      have HXX := Lib.hid hx
      have i1 : (0 : Int) ≤ (k : Int) := by omega
      have i2 : (k : Int) < (l.length : Int) := by omega
      clear hx hat0 hws
      have HNT := Lib.hid (namesT_take hlt)
      have HNL := Lib.hid (namesT_len (l.take (k + 1)) (by simp; omega) (fun x hx => HW.out x (List.mem_of_mem_take hx)))
      have n1 : (namesT (l.take k)).length + 1 ≤ 100000 := by have := HNL.out; rw [HNT.out, List.length_append] at this; omega
      have n2 : ((namesT (l.take k)).length + 1) + a.was.length ≤ 100000 := by have := HNL.out; rw [HNT.out, HXX.out, List.length_append, List.length_cons] at this; omega
      have BB : Hid (∀ W1, (wr.alloc (.cells #[str a.name] 9)).grownBy W1 v.ownBlock → Below (w.heap.size + 1) X W1) := Lib.hid (fun W1 g =>
        (HB.out.alloc hsz _).grown g (by simp; omega) (fun k hk => (HO.out.lt k hk).1))
      have SR : Hid (∀ W1, Below (w.heap.size + 1) X W1 → Strs W1 (.slice Aw a.was.length cw) a.was) := Lib.hid (fun W1 h => by
        refine HWS.out.below (h.mono ?_)
        rw [HSX.out]
        exact Nat.le_refl _)
      clear HWS
      go_wp2_with (first
        | (at_builtin; refine wpList_app elemStr rfl (.tmp 12) (.tmp 19) rfl (base := w.heap.size + 1) (by rfl) (World.ownsRow.alloc HO.out _) (by rfl) (src_new wr _ _ rfl) n1 (by simp; omega) ?_; intro v1 W1 hown1 hg1 hat1; have hB1 := BB.out W1 hg1; have o1 := Lib.hid hown1; have b1 := Lib.hid hB1; have y1 : W1.cell? ⟨w.heap.size, 1, none⟩ = some (.slice (some ⟨b, off, none⟩) l.length cap) := cellLow hB1 (by omega) HX1.out; have y2 : W1.cell? ⟨b, off + k * 6 + 2, none⟩ = some (.slice Aw a.was.length cw) := cellLow hB1 (by omega) HAT.out.c2; clear hown1 hg1 hat1 hB1)
        | (at_builtin; refine wpList_app elemStr rfl (.tmp 21) (.tmp 27) rfl (base := w.heap.size + 1) (by rfl) o1.out (by rfl) (src_strs (SR.out _ b1.out)).2 n2 (by have := b1.out.size; rw [HSX.out] at this; exact this) ?_; intro v2 W2 hown2 hg2 hat2))
      have HO2 : Hid (OwnS W2 (w.heap.size + 1) v2 (namesT (l.take (k + 1)))) := Lib.hid (by
        unfold OwnS
        rw [HNT.out, HXX.out]
        have := hown2
        rw [show (namesT (l.take k)).length + 1 + a.was.length = (namesT (l.take k)).length + (a.was.length + 1) by omega] at this
        simpa [List.append_assoc] using this)
      have HB4 : Hid (Below (w.heap.size + 1) X W2) := Lib.hid (b1.out.grown hg2 (by have := b1.out.size; rw [HSX.out] at this; exact this) (fun k hk => (o1.out.lt k hk).1))
      clear hown2 hg2 hat2 y1 y2
      go_wp2_with fail
      go_roundw
      case rel => exact ⟨k + 1, by omega, by simp, HO2.out, HB4.out⟩
      case measure => simp [intOf]; omega
    · have hkk : l.take k = l := List.take_of_length_le (by omega)
      have HO2 := Lib.hid (show OwnS wr (w.heap.size + 1) v (namesT l) by have := HO.out; rwa [hkk] at this)
      clear hkk
      go_wp2_with fail
      go_ret
      exact ⟨v, rfl, HO2.out, HB2.out⟩
end Go.Proofs.YteokcgfbhaeklaaGreatDoor

/- The reference's right. -/
namespace Go.Proofs.YteokcgfbhaeklaaGreatDoor
open Go.RowKit

def rightB (t : TabT) : Bool := nameB t.name && tabB t
theorem right_nm {t : TabT} (h : nameB t.name = false) : rightB t = false := by unfold rightB; rw [h]; rfl
theorem right_tab {t : TabT} (h : tabB t = false) : rightB t = false := by unfold rightB; rw [h]; simp
theorem right_ok {t : TabT} (h : nameB t.name = true) (h2 : tabB t = true) : rightB t = true := by unfold rightB; rw [h, h2]; rfl
theorem namesB_bad {l : List Txt} {k : Nat} (hk : k < l.length) (h : nameB l[k] = false) : namesB l = false := by
  have : l.all nameB = false := by
    rw [List.all_eq_false]
    exact ⟨_, List.getElem_mem hk, by simpa using h⟩
  unfold namesB
  rw [this]
  rfl
theorem namesB_dup {l : List Txt} {i k : Nat} (hi : i < l.length) (hk : k < i) (h : l[k]'(by omega) = l[i]) : namesB l = false := by
  have : decide l.Nodup = false := decide_eq_false (fun hn => by
    have := (List.getElem_inj (i := k) (j := i) (h₀ := by omega) (h₁ := hi) hn).1 h
    omega)
  unfold namesB
  rw [this]
  simp
/-- The first i names are names, and all different. -/
def NmsTo (l : List Txt) (i : Nat) : Prop := ∀ j (_ : j < i) (hl : j < l.length), nameB l[j] = true ∧ ∀ k (hk : k < j), l[k] ≠ l[j]
theorem nmsTo_succ {l : List Txt} {i : Nat} (h : NmsTo l i) (hi : i < l.length) (h1 : nameB l[i] = true) (h2 : ∀ k (hk : k < i), l[k] ≠ l[i]) : NmsTo l (i + 1) := fun j hj hl => by
  by_cases e : j = i
  · subst e; exact ⟨h1, h2⟩
  · exact h j (by omega) hl
theorem namesB_ok {l : List Txt} {i : Nat} (h : NmsTo l i) (hi : l.length ≤ i) : namesB l = true := by
  unfold namesB
  rw [Bool.and_eq_true, decide_eq_true_eq, List.all_eq_true]
  refine ⟨fun x hx => ?_, ?_⟩
  · obtain ⟨j, hj, rfl⟩ := List.getElem_of_mem hx
    exact (h j (by omega) hj).1
  · rw [List.nodup_iff_pairwise_ne, List.pairwise_iff_getElem]
    intro a b ha hb hab
    exact (h b (by omega) hb).2 a hab
theorem tabB_names {t : TabT} (h : namesB (namesT t.attrs) = false) : tabB t = false := by unfold tabB; rw [h]; simp
theorem tabB_keyno {t : TabT} (h : keyB t.key t.attrs.length = false) : tabB t = false := by unfold tabB; rw [h]; simp
theorem tabB_ok {t : TabT} (h1 : 1 ≤ t.attrs.length ∧ t.attrs.length ≤ 12) (h2 : ∀ k (hk : k < t.attrs.length), typedB t.attrs[k].kind t.attrs[k].dft = true) (h3 : namesB (namesT t.attrs) = true) (h4 : keyB t.key t.attrs.length = true) : tabB t = true := by
  rw [tabB_rest h1 h2, h3, h4]; rfl
theorem typed_no {k : Int} {v : T3} (h : ¬ (1 ≤ k ∧ k ≤ 4)) : typedB k v = false := by unfold typedB; rw [decide_eq_false h]; rfl
theorem typed_yes {k : Int} {v : T3} (h : 1 ≤ k ∧ k ≤ 4) : typedB k v = fitB v k := by unfold typedB; rw [decide_eq_true h]; rfl
theorem str_row {w : World} {A : Option Addr} {n cp : Nat} {l : List Txt} (h : Strs w (.slice A n cp) l) {k : Nat} (hk : k < l.length) :
    ∃ b o, A = some ⟨b, o, none⟩ ∧ ∀ j (hj : j < l.length), w.cell? ⟨b, o + j, none⟩ = some (str l[j]) := by
  obtain ⟨A', cap', e, _, _, f⟩ := h
  injection e with e1 e2 e3
  subst e1 e3
  obtain ⟨b, o, e, _⟩ := f k hk
  refine ⟨b, o, e, fun j hj => ?_⟩
  obtain ⟨b2, o2, e', h2⟩ := f j hj
  rw [e] at e'
  cases e'
  exact h2
set_option maxRecDepth 100000 in
set_option maxHeartbeats 8000000 in
theorem right_rf (t : TabT) (va vk : Value) (hl : t.attrs.length ≤ 24) (hw : ∀ a ∈ t.attrs, a.was.length ≤ 24) (hkl : t.key.length ≤ 24) (hln : t.name.length ≤ maxLen) (hnl : ∀ x ∈ namesT t.attrs, x.length ≤ maxLen) (w : World) (ha : Attrs w va t.attrs) (hk : Ints w vk t.key) :
    Calls Tryz.prog 38 #[.agg #[str t.name, va, vk]] w (BoolPost w (rightB t)) := by
  obtain ⟨A, cap, rfl, hcap⟩ := ha.form
  obtain ⟨B, cb, rfl, hcb⟩ := hk.form
  have HA := Lib.hid ha
  have HK := Lib.hid hk
  have HW := Lib.hid hw
  have HNL := Lib.hid hnl
  have CN := fun W => name_ref t.name hln W
  obtain ⟨rn, hrn⟩ : ∃ r, nameB t.name = r := ⟨_, rfl⟩
  rw [hrn] at CN
  have HRN := Lib.hid hrn
  replace CN := Lib.hid CN
  clear ha hk hw hnl hln hrn
  obtain ⟨X, hX⟩ : ∃ X, w.alloc (.cells #[str t.name, .slice A t.attrs.length cap, .slice B t.key.length cb] 44) = X := ⟨_, rfl⟩
  have HX := Lib.hid hX
  have z0 : X.cell? ⟨w.heap.size, 0, none⟩ = some (str t.name) := by rw [← hX]; simp [go_sem]
  have z1 : X.cell? ⟨w.heap.size, 1, none⟩ = some (.slice A t.attrs.length cap) := by rw [← hX]; simp [go_sem]
  have z2 : X.cell? ⟨w.heap.size, 2, none⟩ = some (.slice B t.key.length cb) := by rw [← hX]; simp [go_sem]
  have HBX : Hid (Below w.heap.size w X) := Lib.hid (by rw [← hX]; exact below_box w _)
  clear hX
  have ABC : Hid (nameB t.name = false ∨ t.attrs.length < 1 ∨ 12 < t.attrs.length ∨ t.key.length < 1 → rightB t = false) := Lib.hid (fun h => by
    rcases h with h | h | h | h
    · exact right_nm h
    · exact right_tab (tabB_len (by omega))
    · exact right_tab (tabB_len (by omega))
    · refine right_tab (tabB_keyno ?_)
      rw [List.eq_nil_of_length_eq_zero (show t.key.length = 0 by omega)]
      exact keyB_nil _)
  go_enter Tryz.func38, Tryz.ntmps38
  go_wp2_with fail
  rw [HX.out]
  refine (CN.out _).mono ?_
  clear CN
  rintro e w1 ⟨rfl, rfl⟩
  cases rn with
  | false =>
    have HF := Lib.hid (ABC.out (Or.inl HRN.out))
    go_wp2_with fail
    go_ret
    exact ⟨bool_ret HF.out.symm, HBX.out⟩
  | true =>
    by_cases g1 : t.attrs.length < 1
    · have HF := Lib.hid (ABC.out (Or.inr (Or.inl g1)))
      go_wp2_with fail
      go_ret
      exact ⟨bool_ret HF.out.symm, HBX.out⟩
    · by_cases g2 : 12 < t.attrs.length
      · have HF := Lib.hid (ABC.out (Or.inr (Or.inr (Or.inl g2))))
        go_wp2_with fail
        go_ret
        exact ⟨bool_ret HF.out.symm, HBX.out⟩
      · by_cases g3 : t.key.length < 1
        · have HF := Lib.hid (ABC.out (Or.inr (Or.inr (Or.inr g3))))
          have g4 : decide ((t.key.length : Int) < 1) = true := decide_eq_true (by omega)
          go_wp2_with fail
          go_ret
          exact ⟨bool_ret HF.out.symm, HBX.out⟩
        · have g4 : decide ((t.key.length : Int) < 1) = false := decide_eq_false (by omega)
          have HG : Hid (1 ≤ t.attrs.length ∧ t.attrs.length ≤ 12) := Lib.hid ⟨by omega, by omega⟩
          clear ABC
          go_wp2_with fail
          refine (names_rf t.name t.attrs _ _ hl HW.out X (HA.out.below HBX.out)).mono ?_
          rintro e W2 ⟨nv, rfl, hown, hb⟩
          obtain ⟨NL, hNL⟩ : ∃ NL, namesT t.attrs = NL := ⟨_, rfl⟩
          rw [hNL] at hown
          have HNN := Lib.hid hNL
          have hnn : NL.length ≤ 600 := by rw [← hNL]; exact namesT_len t.attrs hl HW.out
          have HNX : Hid (∀ x ∈ NL, x.length ≤ maxLen) := Lib.hid (by rw [← hNL]; exact HNL.out)
          have HS := Lib.hid (strs_of_own hown)
          obtain ⟨An, cn, rfl, _⟩ : ∃ A c, nv = .slice A NL.length c ∧ NL.length ≤ c := by
            obtain ⟨A, c, e, hc, _⟩ := HS.out
            exact ⟨A, c, e, hc⟩
          replace z0 := cellB hb z0
          replace z1 := cellB hb z1
          replace z2 := cellB hb z2
          have HB := Lib.hid (below_up HBX.out hb HBX.out.size)
          clear hown hb hNL HNL HBX z0
          have HA2 := Lib.hid (HA.out.below HB.out)
          have HK2 := Lib.hid (HK.out.below HB.out)
          clear HA HK
          go_wp2_with fail
          go_loopw [4] (fun i wr => ∃ k : Nat, k ≤ NL.length ∧ i = .int .i64 (k : Int) ∧ NmsTo NL k ∧ Below W2.heap.size W2 wr) (fun i _ => NL.length - (intOf i).toNat)
          case atStart => exact ⟨0, by omega, by simp, fun j hj => by omega, Below.refl _ _⟩
          case round =>
            obtain ⟨k, hk, rfl, hnm, hv⟩ := hrel
            obtain ⟨wo, rfl⟩ : ∃ wo, wo = wr := ⟨_, rfl⟩
            have HM := Lib.hid hnm
            have HV := Lib.hid hv
            have HS := Lib.hid (HS.out.below hv)
            have HBW := Lib.hid (below_up HB.out hv HB.out.size)
            clear hnm hv
            by_cases hlt : k < NL.length
            · obtain ⟨b, o, e, hc⟩ := str_row HS.out hlt
              subst e
              have HC := Lib.hid hc
              have y0 := hc k hlt
              obtain ⟨x, hx⟩ : ∃ x, NL[k] = x := ⟨_, rfl⟩
              obtain ⟨r, hr⟩ : ∃ r, nameB x = r := ⟨_, rfl⟩
              have CN := Lib.hid (fun W => hr ▸ name_ref x (by rw [← hx]; exact HNX.out _ (List.getElem_mem hlt)) W)
              rw [hx] at y0
              have HXX := Lib.hid hx
              have HR := Lib.hid hr
              have i1 : (0 : Int) ≤ (k : Int) := by omega
              have i2 : (k : Int) < (NL.length : Int) := by omega
              clear hc hx hr
              go_wp2_with fail
              refine (CN.out _).mono ?_
              clear CN
              rintro e w1 ⟨rfl, rfl⟩
              cases r with
              | false =>
                have HF := Lib.hid (right_tab (tabB_names (by rw [HNN.out]; exact namesB_bad hlt (by rw [HXX.out]; exact HR.out))))
                go_wp2_with fail
                go_ret
                exact ⟨bool_ret HF.out.symm, HBW.out⟩
              | true =>
                go_wp2_with fail
                go_loopw [5] (fun i wr => ∃ q : Nat, q ≤ k ∧ i = .int .i64 (q : Int) ∧ (∀ j (_ : j < q) (hl : j < NL.length), NL[j] ≠ x) ∧ Below wo.heap.size wo wr) (fun i _ => k - (intOf i).toNat)
                case atStart => exact ⟨0, by omega, by simp, fun j hj => by omega, Below.refl _ _⟩
                case round =>
                  obtain ⟨q, hq, rfl, hne, hu⟩ := hrel
                  have HN := Lib.hid hne
                  have HU := Lib.hid hu
                  have HBU := Lib.hid (below_up HBW.out hu HBW.out.size)
                  have HVU := Lib.hid (below_up HV.out hu HV.out.size)
                  have m0 : ∀ m, (wr.drewN m).cell? ⟨b, o + k, none⟩ = some (str x) := fun m => cellB (dN hu m) y0
                  clear hne hu
                  by_cases hqt : q < k
                  · have m1 : ∀ m, (wr.drewN m).cell? ⟨b, o + q, none⟩ = some (str (NL[q]'(by omega))) := fun m => cellB (dN HU.out m) (HC.out q (by omega))
                    obtain ⟨y, hy⟩ : ∃ y, NL[q]'(by omega) = y := ⟨_, rfl⟩
                    rw [hy] at m1
                    have HY := Lib.hid hy
                    have j1 : (0 : Int) ≤ (q : Int) := by omega
                    have j2 : (q : Int) < (NL.length : Int) := by omega
                    have j3 : (q : Int) < (k : Int) := by omega
                    clear hy
                    by_cases e : y = x
                    · have HF := Lib.hid (right_tab (tabB_names (by rw [HNN.out]; exact namesB_dup hlt hqt (by rw [HY.out, HXX.out]; exact e))))
                      have d1 : (y == x) = true := by simpa using e
                      clear e
                      go_wp2_with fail
                      go_quiet (fail)
                      go_wp2_with fail
                      go_ret
                      exact ⟨bool_ret HF.out.symm, dN HBU.out _⟩
                    · have HN2 : Hid (∀ j (_ : j < q + 1) (hl : j < NL.length), NL[j] ≠ x) := Lib.hid (fun j hj hl => by
                        by_cases e2 : j = q
                        · subst e2; rw [HY.out]; exact e
                        · exact HN.out j (by omega) hl)
                      have d1 : (y == x) = false := by simpa using e
                      clear e
                      go_wp2_with fail
                      go_quiet (fail)
                      go_wp2_with fail
                      go_roundw
                      case rel => exact ⟨q + 1, by omega, by simp, HN2.out, dN HU.out _⟩
                      case measure => simp [intOf]; omega
                  · have HM2 := Lib.hid (nmsTo_succ HM.out hlt (by rw [HXX.out]; exact HR.out) (fun j hj => by rw [HXX.out]; exact HN.out j (by omega) (by omega)))
                    clear m0
                    go_wp2_with fail
                    go_roundw
                    case rel => exact ⟨k + 1, by omega, by simp, HM2.out, HVU.out⟩
                    case measure => simp [intOf]; omega
            · have HNB := Lib.hid (namesB_ok HM.out (by omega))
              replace z1 := cellB HV.out z1
              replace z2 := cellB HV.out z2
              have HA2 := Lib.hid (HA2.out.below HV.out)
              have HK2 := Lib.hid (HK2.out.below HV.out)
              clear HM HV HB HS
              go_wp2_with fail
              clear hlt hk
              go_loopw [6] (fun i wr => ∃ k : Nat, k ≤ t.attrs.length ∧ i = .int .i64 (k : Int) ∧ Typed t.attrs k ∧ Below wo.heap.size wo wr) (fun i _ => t.attrs.length - (intOf i).toNat)
              case atStart => exact ⟨0, by omega, by simp, fun j hj => by omega, Below.refl _ _⟩
              case round =>
                obtain ⟨p, hp, rfl, hty, hv⟩ := hrel
                have HT := Lib.hid hty
                have HV := Lib.hid hv
                have HB := Lib.hid (below_up HBW.out hv HBW.out.size)
                have z1 := cellB hv z1
                have z2 := cellB hv z2
                have HA3 := Lib.hid (HA2.out.below hv)
                have HK3 := Lib.hid (HK2.out.below hv)
                clear hty hv
                by_cases hpt : p < t.attrs.length
                · obtain ⟨b, o, e, wv, hat, _⟩ := attr_row HA3.out hpt
                  subst e
                  obtain ⟨a, ha⟩ : ∃ a, t.attrs[p] = a := ⟨_, rfl⟩
                  rw [ha] at hat
                  have a1 := hat.c1
                  have a3 := hat.c3
                  have a4 := hat.c4
                  have a5 := hat.c5
                  have HAA := Lib.hid ha
                  have i1 : (0 : Int) ≤ (p : Int) := by omega
                  have i2 : (p : Int) < (t.attrs.length : Int) := by omega
                  clear hat ha
                  have CK := fun W => kind_ref a.kind W
                  by_cases hkk : 1 ≤ a.kind ∧ a.kind ≤ 4
                  · rw [decide_eq_true hkk] at CK
                    obtain ⟨r, hr⟩ : ∃ r, fitB a.dft a.kind = r := ⟨_, rfl⟩
                    have CF := Lib.hid (fun W => hr ▸ fit_ref a.dft a.kind W)
                    have HR := Lib.hid ((typed_yes hkk).trans hr)
                    replace CK := Lib.hid CK
                    clear hr hkk
                    go_wp2_with fail
                    go_region_held3 (fun w' => w'.cell? ⟨w.heap.size, 1, none⟩ = some (.slice (some ⟨b, o, none⟩) t.attrs.length cap) ∧ w'.cell? ⟨b, o + p * 6 + 1, none⟩ = some (.int .i64 a.kind) ∧ w'.cell? ⟨b, o + p * 6 + 3, none⟩ = some (.int .i64 a.dft.1) ∧ w'.cell? ⟨b, o + p * 6 + 3 + 1, none⟩ = some (.int .i64 a.dft.2.1) ∧ w'.cell? ⟨b, o + p * 6 + 3 + 2, none⟩ = some (str a.dft.2.2)) (go_keep)
                      (first | (go_at_call 60; refine (CK.out _).mono ?_; rintro e w5 ⟨rfl, rfl⟩) | (go_at_call 42; refine (CF.out _).mono ?_; rintro e w6 ⟨rfl, hb⟩; have hb1 := (below_drewN wr.heap.size wr 1).trans hb; have g1 := Lib.hid hb1; have p1 := cellB hb1 z1; have p2 := cellB hb1 a1; have p3 := cellB hb1 a3; have p4 := cellB hb1 a4; have p5 := cellB hb1 a5; clear hb hb1))
                    have HV2 := Lib.hid (HV.out.trans (g1.out.mono HV.out.size))
                    have HB2 := Lib.hid (HB.out.trans (g1.out.mono HB.out.size))
                    clear p1 p2 p3 p4 p5 a1 a3 a4 a5 g1 CK CF
                    cases r with
                    | false =>
                      have HF := Lib.hid (right_tab (tabB_typed (t := t) hpt (by rw [HAA.out]; exact HR.out)))
                      go_wp2_with fail
                      go_ret
                      exact ⟨bool_ret HF.out.symm, HB2.out⟩
                    | true =>
                      have HT2 := Lib.hid (typed_succ HT.out hpt (by rw [HAA.out]; exact HR.out))
                      go_wp2_with fail
                      go_roundw
                      case rel => exact ⟨p + 1, by omega, by simp, HT2.out, HV2.out⟩
                      case measure => simp [intOf]; omega
                  · rw [decide_eq_false hkk] at CK
                    have HF := Lib.hid (right_tab (tabB_typed (t := t) hpt (by rw [HAA.out]; exact typed_no hkk)))
                    replace CK := Lib.hid CK
                    clear hkk
                    go_wp2_with fail
                    refine wp_region_held_drew (S := (fun w' => w'.cell? ⟨w.heap.size, 1, none⟩ = some (.slice (some ⟨b, o, none⟩) t.attrs.length cap) ∧ w'.cell? ⟨b, o + p * 6 + 1, none⟩ = some (.int .i64 a.kind))) (by kernel_rfl) ?_ (fun hHeld => ?_)
                    · try dsimp only
                      go_keep
                    refine wpAnyH_take (i := 0) (v := ?_) (by (simp only [List.getElem?_toArray, List.getElem?_cons_zero]; rfl)) (by kernel_rfl) (by kernel_rfl) (by kernel_rfl) (by intro _ _ _ h; exact h) (Or.inl ⟨by kernel_rfl, ?_⟩) hHeld ?_
                    case refine_2 =>
                      intro w hSw
                      try dsimp only at hSw
                      go_simp
                      try with_reducible rfl
                    try simp only [Act.put, List.setIfInBounds_toArray, List.set_cons_zero, List.set_cons_succ]
                    refine wpAnyH_take (i := 1) (v := ?_) (by (simp only [List.getElem?_toArray, List.getElem?_cons_succ, List.getElem?_cons_zero]; rfl)) (by kernel_rfl) (by kernel_rfl) (by kernel_rfl) (by intro _ _ _ h; exact h) (Or.inl ⟨by kernel_rfl, ?_⟩) hHeld ?_
                    case refine_2 =>
                      intro w hSw
                      try dsimp only at hSw
                      go_simp
                      try with_reducible rfl
                    try simp only [Act.put, List.setIfInBounds_toArray, List.set_cons_zero, List.set_cons_succ]
                    refine wpAnyH_take (i := 2) (v := ?_) (by (simp only [List.getElem?_toArray, List.getElem?_cons_succ, List.getElem?_cons_zero]; rfl)) (by kernel_rfl) (by kernel_rfl) (by kernel_rfl) (by intro _ _ _ h; exact h) (Or.inl ⟨by kernel_rfl, ?_⟩) hHeld ?_
                    case refine_2 =>
                      intro w hSw
                      try dsimp only at hSw
                      go_simp
                      try with_reducible rfl
                    try simp only [Act.put, List.setIfInBounds_toArray, List.set_cons_zero, List.set_cons_succ]
                    refine wpAnyH_take (i := 3) (v := ?_) (by (simp only [List.getElem?_toArray, List.getElem?_cons_succ, List.getElem?_cons_zero]; rfl)) (by kernel_rfl) (by kernel_rfl) (by kernel_rfl) (by intro _ _ _ h; exact h) (Or.inl ⟨by kernel_rfl, ?_⟩) hHeld ?_
                    case refine_2 =>
                      intro w hSw
                      try dsimp only at hSw
                      go_simp
                      try with_reducible rfl
                    try simp only [Act.put, List.setIfInBounds_toArray, List.set_cons_zero, List.set_cons_succ]
                    refine wpAnyH_take (i := 4) (v := ?_) (by (simp only [List.getElem?_toArray, List.getElem?_cons_succ, List.getElem?_cons_zero]; rfl)) (by kernel_rfl) (by kernel_rfl) (by kernel_rfl) (by intro _ _ _ h; exact h) (Or.inl ⟨by kernel_rfl, ?_⟩) hHeld ?_
                    case refine_2 =>
                      intro w hSw
                      try dsimp only at hSw
                      go_simp
                      try with_reducible rfl
                    try simp only [Act.put, List.setIfInBounds_toArray, List.set_cons_zero, List.set_cons_succ]
                    refine wpAnyH_take (i := 5) (v := ?_) (by (simp only [List.getElem?_toArray, List.getElem?_cons_succ, List.getElem?_cons_zero]; rfl)) (by kernel_rfl) (by kernel_rfl) (by kernel_rfl) (by intro _ _ _ h; exact h) (Or.inl ⟨by kernel_rfl, ?_⟩) hHeld ?_
                    case refine_2 =>
                      intro w hSw
                      try dsimp only at hSw
                      go_simp
                      try with_reducible rfl
                    try simp only [Act.put, List.setIfInBounds_toArray, List.set_cons_zero, List.set_cons_succ]
                    refine wpAnyH_ready (rs := [6]) (by kernel_rfl) (by simp) ?_
                    refine AllReadyH.cons (by (simp only [List.getElem?_toArray, List.getElem?_cons_succ, List.getElem?_cons_zero]; rfl)) (fun K hK => ?_) AllReadyH.nil
                    go_simp
                    refine (CK.out _).mono ?_
                    rintro e w5 ⟨rfl, rfl⟩
                    try go_wp2_with fail
                    clear hHeld
                    refine hK.out _ _ ?_ (fun hHeld => ?_)
                    · try dsimp only
                      go_keep
                    clear hK K
                    try simp only [Act.put, List.setIfInBounds_toArray, List.set_cons_zero, List.set_cons_succ]
                    refine wpAnyH_take (i := 7) (v := ?_) (by (simp only [List.getElem?_toArray, List.getElem?_cons_succ, List.getElem?_cons_zero]; rfl)) (by kernel_rfl) (by kernel_rfl) (by kernel_rfl) (by intro _ _ _ h; exact h) (Or.inl ⟨by kernel_rfl, ?_⟩) hHeld ?_
                    case refine_2 =>
                      intro w hSw
                      try dsimp only at hSw
                      go_simp
                      try with_reducible rfl
                    try simp only [Act.put, List.setIfInBounds_toArray, List.set_cons_zero, List.set_cons_succ]
                    refine wpAnyH_take (i := 8) (v := ?_) (by (simp only [List.getElem?_toArray, List.getElem?_cons_succ, List.getElem?_cons_zero]; rfl)) (by kernel_rfl) (by kernel_rfl) (by kernel_rfl) (by intro _ _ _ h; exact h) (Or.inl ⟨by kernel_rfl, ?_⟩) hHeld ?_
                    case refine_2 =>
                      intro w hSw
                      try dsimp only at hSw
                      go_simp
                      try with_reducible rfl
                    try simp only [Act.put, List.setIfInBounds_toArray, List.set_cons_zero, List.set_cons_succ]
                    refine wpAnyH_take (i := 9) (v := undef) (by (simp only [List.getElem?_toArray, List.getElem?_cons_succ, List.getElem?_cons_zero]; rfl)) (by kernel_rfl) (by kernel_rfl) (by kernel_rfl) (by intro _ _ _ h; exact h) (Or.inr ⟨by kernel_rfl, rfl⟩) hHeld ?_
                    try simp only [Act.put, List.setIfInBounds_toArray, List.set_cons_zero, List.set_cons_succ]
                    refine wpAnyH_take (i := 10) (v := undef) (by (simp only [List.getElem?_toArray, List.getElem?_cons_succ, List.getElem?_cons_zero]; rfl)) (by kernel_rfl) (by kernel_rfl) (by kernel_rfl) (by intro _ _ _ h; exact h) (Or.inr ⟨by kernel_rfl, rfl⟩) hHeld ?_
                    try simp only [Act.put, List.setIfInBounds_toArray, List.set_cons_zero, List.set_cons_succ]
                    refine wpAnyH_take (i := 11) (v := undef) (by (simp only [List.getElem?_toArray, List.getElem?_cons_succ, List.getElem?_cons_zero]; rfl)) (by kernel_rfl) (by kernel_rfl) (by kernel_rfl) (by intro _ _ _ h; exact h) (Or.inr ⟨by kernel_rfl, rfl⟩) hHeld ?_
                    try simp only [Act.put, List.setIfInBounds_toArray, List.set_cons_zero, List.set_cons_succ]
                    refine wpAnyH_take (i := 12) (v := undef) (by (simp only [List.getElem?_toArray, List.getElem?_cons_succ, List.getElem?_cons_zero]; rfl)) (by kernel_rfl) (by kernel_rfl) (by kernel_rfl) (by intro _ _ _ h; exact h) (Or.inr ⟨by kernel_rfl, rfl⟩) hHeld ?_
                    try simp only [Act.put, List.setIfInBounds_toArray, List.set_cons_zero, List.set_cons_succ]
                    refine wpAnyH_take (i := 13) (v := undef) (by (simp only [List.getElem?_toArray, List.getElem?_cons_succ, List.getElem?_cons_zero]; rfl)) (by kernel_rfl) (by kernel_rfl) (by kernel_rfl) (by intro _ _ _ h; exact h) (Or.inr ⟨by kernel_rfl, rfl⟩) hHeld ?_
                    try simp only [Act.put, List.setIfInBounds_toArray, List.set_cons_zero, List.set_cons_succ]
                    refine wpAnyH_take (i := 14) (v := undef) (by (simp only [List.getElem?_toArray, List.getElem?_cons_succ, List.getElem?_cons_zero]; rfl)) (by kernel_rfl) (by kernel_rfl) (by kernel_rfl) (by intro _ _ _ h; exact h) (Or.inr ⟨by kernel_rfl, rfl⟩) hHeld ?_
                    try simp only [Act.put, List.setIfInBounds_toArray, List.set_cons_zero, List.set_cons_succ]
                    refine wpAnyH_take (i := 15) (v := undef) (by (simp only [List.getElem?_toArray, List.getElem?_cons_succ, List.getElem?_cons_zero]; rfl)) (by kernel_rfl) (by kernel_rfl) (by kernel_rfl) (by intro _ _ _ h; exact h) (Or.inr ⟨by kernel_rfl, rfl⟩) hHeld ?_
                    try simp only [Act.put, List.setIfInBounds_toArray, List.set_cons_zero, List.set_cons_succ]
                    refine wpAnyH_take (i := 16) (v := undef) (by (simp only [List.getElem?_toArray, List.getElem?_cons_succ, List.getElem?_cons_zero]; rfl)) (by kernel_rfl) (by kernel_rfl) (by kernel_rfl) (by intro _ _ _ h; exact h) (Or.inr ⟨by kernel_rfl, rfl⟩) hHeld ?_
                    try simp only [Act.put, List.setIfInBounds_toArray, List.set_cons_zero, List.set_cons_succ]
                    refine wpAnyH_take (i := 17) (v := undef) (by (simp only [List.getElem?_toArray, List.getElem?_cons_succ, List.getElem?_cons_zero]; rfl)) (by kernel_rfl) (by kernel_rfl) (by kernel_rfl) (by intro _ _ _ h; exact h) (Or.inr ⟨by kernel_rfl, rfl⟩) hHeld ?_
                    try simp only [Act.put, List.setIfInBounds_toArray, List.set_cons_zero, List.set_cons_succ]
                    refine wpAnyH_take (i := 18) (v := undef) (by (simp only [List.getElem?_toArray, List.getElem?_cons_succ, List.getElem?_cons_zero]; rfl)) (by kernel_rfl) (by kernel_rfl) (by kernel_rfl) (by intro _ _ _ h; exact h) (Or.inr ⟨by kernel_rfl, rfl⟩) hHeld ?_
                    try simp only [Act.put, List.setIfInBounds_toArray, List.set_cons_zero, List.set_cons_succ]
                    refine wpAnyH_take (i := 19) (v := undef) (by (simp only [List.getElem?_toArray, List.getElem?_cons_succ, List.getElem?_cons_zero]; rfl)) (by kernel_rfl) (by kernel_rfl) (by kernel_rfl) (by intro _ _ _ h; exact h) (Or.inr ⟨by kernel_rfl, rfl⟩) hHeld ?_
                    try simp only [Act.put, List.setIfInBounds_toArray, List.set_cons_zero, List.set_cons_succ]
                    refine wpAnyH_take (i := 20) (v := undef) (by (simp only [List.getElem?_toArray, List.getElem?_cons_succ, List.getElem?_cons_zero]; rfl)) (by kernel_rfl) (by kernel_rfl) (by kernel_rfl) (by intro _ _ _ h; exact h) (Or.inr ⟨by kernel_rfl, rfl⟩) hHeld ?_
                    try simp only [Act.put, List.setIfInBounds_toArray, List.set_cons_zero, List.set_cons_succ]
                    refine wpAnyH_take (i := 21) (v := undef) (by (simp only [List.getElem?_toArray, List.getElem?_cons_succ, List.getElem?_cons_zero]; rfl)) (by kernel_rfl) (by kernel_rfl) (by kernel_rfl) (by intro _ _ _ h; exact h) (Or.inr ⟨by kernel_rfl, rfl⟩) hHeld ?_
                    try simp only [Act.put, List.setIfInBounds_toArray, List.set_cons_zero, List.set_cons_succ]
                    refine wpAnyH_take (i := 22) (v := undef) (by (simp only [List.getElem?_toArray, List.getElem?_cons_succ, List.getElem?_cons_zero]; rfl)) (by kernel_rfl) (by kernel_rfl) (by kernel_rfl) (by intro _ _ _ h; exact h) (Or.inr ⟨by kernel_rfl, rfl⟩) hHeld ?_
                    try simp only [Act.put, List.setIfInBounds_toArray, List.set_cons_zero, List.set_cons_succ]
                    refine wpAnyH_take (i := 23) (v := ?_) (by (simp only [List.getElem?_toArray, List.getElem?_cons_succ, List.getElem?_cons_zero]; rfl)) (by kernel_rfl) (by kernel_rfl) (by kernel_rfl) (by intro _ _ _ h; exact h) (Or.inl ⟨by kernel_rfl, ?_⟩) hHeld ?_
                    case refine_2 =>
                      intro w hSw
                      try dsimp only at hSw
                      go_simp
                      try with_reducible rfl
                    try simp only [Act.put, List.setIfInBounds_toArray, List.set_cons_zero, List.set_cons_succ]
                    refine wpAnyH_done (by kernel_rfl) ?_ _
                    go_wp2_with fail
                    go_ret
                    exact ⟨bool_ret HF.out.symm, dN HB.out _⟩
                · obtain ⟨wx, rfl⟩ : ∃ wx, wx = wr := ⟨_, rfl⟩
                  have hty2 : ∀ j (hj : j < t.attrs.length), typedB t.attrs[j].kind t.attrs[j].dft = true := fun j hj => HT.out j (by omega) hj
                  have HTT := Lib.hid hty2
                  clear hty2 HT HV HA3
                  go_wp2_with fail
                  clear hpt hp
                  go_loopw [7] (fun i wr => ∃ k : Nat, k ≤ t.key.length ∧ i = .int .i64 (k : Int) ∧ (∀ j (_ : j < k) (hl : j < t.key.length), 0 ≤ t.key[j] ∧ t.key[j] < (t.attrs.length : Int)) ∧ UpTo t.key k ∧ Below wx.heap.size wx wr) (fun i _ => t.key.length - (intOf i).toNat)
                  case atStart => exact ⟨0, by omega, by simp, fun j hj => by omega, fun j hj => by omega, Below.refl _ _⟩
                  case round =>
                    obtain ⟨k, hk, rfl, hin, hup, hb⟩ := hrel
                    have HI := Lib.hid hin
                    have HU := Lib.hid hup
                    have HQ := Lib.hid hb
                    have HBQ := Lib.hid (below_up HB.out hb HB.out.size)
                    have zz1 : ∀ m, (wr.drewN m).cell? ⟨w.heap.size, 1, none⟩ = some (.slice A t.attrs.length cap) := fun m => cellB (dN hb m) z1
                    have zz2 : ∀ m, (wr.drewN m).cell? ⟨w.heap.size, 2, none⟩ = some (.slice B t.key.length cb) := fun m => cellB (dN hb m) z2
                    have z2' : wr.cell? ⟨w.heap.size, 2, none⟩ = some (.slice B t.key.length cb) := cellB hb z2
                    clear hin hup hb
                    by_cases hlt : k < t.key.length
                    · obtain ⟨_, _, b, off, rfl, hcell⟩ := Slc.spot HK3.out (by omega)
                      obtain ⟨x, hx⟩ : ∃ x, t.key[k] = x := ⟨_, rfl⟩
                      have HX := Lib.hid hx
                      have c0 : ∀ m, (wr.drewN m).cell? ⟨b, off + k, none⟩ = some (.int .i64 x) := fun m => by
                        have := cellB HQ.out (hcell k hlt)
                        rw [Nat.mul_one, hx] at this
                        exact this
                      have i1 : (0 : Int) ≤ (k : Int) := by omega
                      have i2 : (k : Int) < (t.key.length : Int) := by omega
                      clear hx
                      by_cases q1 : x < 0
                      · have d1 : decide (x < 0) = true := decide_eq_true q1
                        have HF := Lib.hid (right_tab (tabB_keyno (keyB_bad (n := t.attrs.length) hlt (Or.inl (by rw [HX.out]; exact q1)))))
                        clear hcell
                        go_wp2_with fail
                        go_quiet (fail)
                        go_wp2_with fail
                        go_ret
                        exact ⟨bool_ret HF.out.symm, dN HBQ.out _⟩
                      · have d1 : decide (x < 0) = false := decide_eq_false q1
                        by_cases q2 : (t.attrs.length : Int) ≤ x
                        · have d2 : decide ((t.attrs.length : Int) ≤ x) = true := decide_eq_true q2
                          have HF := Lib.hid (right_tab (tabB_keyno (keyB_bad (n := t.attrs.length) hlt (Or.inr (by rw [HX.out]; exact q2)))))
                          clear hcell
                          go_wp2_with fail
                          go_quiet (fail)
                          go_wp2_with fail
                          go_ret
                          exact ⟨bool_ret HF.out.symm, dN HBQ.out _⟩
                        · have d2 : decide ((t.attrs.length : Int) ≤ x) = false := decide_eq_false q2
                          have HI2 : Hid (∀ j (_ : j < k + 1) (hl : j < t.key.length), 0 ≤ t.key[j] ∧ t.key[j] < (t.attrs.length : Int)) := Lib.hid (fun j hj hl => by
                            by_cases e : j = k
                            · subst e; rw [HX.out]; omega
                            · exact HI.out j (by omega) hl)
                          by_cases hk0 : k = 0
                          · have hk1 : ¬ 0 < k := by omega
                            have HU2 : Hid (UpTo t.key (k + 1)) := Lib.hid (fun j hj hl h0 => by omega)
                            have d4 : decide ((0 : Int) < (k : Int)) = false := decide_eq_false (by omega)
                            have d5 : decide (0 < k) = false := decide_eq_false hk1
                            clear hk0 hk1
                            clear hcell
                            go_wp2_with fail
                            go_quiet (fail)
                            go_wp2_with fail
                            go_roundw
                            case rel => exact ⟨k + 1, by omega, by simp, HI2.out, HU2.out, dN HQ.out _⟩
                            case measure => simp [intOf]; omega
                          · have hk1 : 0 < k := by omega
                            obtain ⟨y, hy⟩ : ∃ y, t.key[k - 1] = y := ⟨_, rfl⟩
                            have HY := Lib.hid hy
                            have e0 : ∀ m, (wr.drewN m).cell? ⟨b, off + (k - 1), none⟩ = some (.int .i64 y) := fun m => by
                              have := cellB HQ.out (hcell (k - 1) (by omega))
                              rw [Nat.mul_one, hy] at this
                              exact this
                            have d4 : decide ((0 : Int) < (k : Int)) = true := decide_eq_true (by omega)
                            have d5 : decide (0 < k) = true := decide_eq_true hk1
                            have i3 : IntKind.i64.wrap ((k : Int) - 1) = (k : Int) - 1 := IntWalk.i64_in _ (by omega)
                            have i4 : (0 : Int) ≤ (k : Int) - 1 := by omega
                            have i5 : (k : Int) - 1 < (t.key.length : Int) := by omega
                            have i6 : ((k : Int) - 1).toNat = k - 1 := by omega
                            clear hy hcell
                            by_cases q3 : x ≤ y
                            · have d3 : decide (x ≤ y) = true := decide_eq_true q3
                              have HF := Lib.hid (right_tab (tabB_keyno (keyB_low (n := t.attrs.length) hlt hk1 (by rw [HX.out, HY.out]; exact q3))))
                              go_wp2_with fail
                              go_quiet (fail)
                              clear i3 i6
                              go_wp2_with fail
                              go_ret
                              exact ⟨bool_ret HF.out.symm, dN HBQ.out _⟩
                            · have d3 : decide (x ≤ y) = false := decide_eq_false q3
                              have HU2 : Hid (UpTo t.key (k + 1)) := Lib.hid (fun j hj hl h0 => by
                                by_cases e : j = k
                                · subst e; rw [HX.out, HY.out]; omega
                                · exact HU.out j (by omega) hl h0)
                              go_wp2_with fail
                              go_quiet (fail)
                              clear i3 i6
                              go_wp2_with fail
                              go_roundw
                              case rel => exact ⟨k + 1, by omega, by simp, HI2.out, HU2.out, dN HQ.out _⟩
                              case measure => simp [intOf]; omega
                    · have HF := Lib.hid (right_ok HRN.out (tabB_ok HG.out HTT.out (by rw [HNN.out]; exact HNB.out) (keyB_good (by omega) (fun j hj => HI.out j (by omega) hj) (fun j hj h0 => HU.out j (by omega) hj h0))))
                      go_wp2_with fail
                      go_ret
                      exact ⟨bool_ret HF.out.symm, HBQ.out⟩
end Go.Proofs.YteokcgfbhaeklaaGreatDoor

/- The reference's Valid and Fits. -/
namespace Go.Proofs.YteokcgfbhaeklaaGreatDoor
open Go.RowKit

/-- The lengths of the names in a schema are those of texts. -/
def Lens (s : List TabT) : Prop := ∀ t ∈ s, t.name.length ≤ maxLen ∧ ∀ x ∈ namesT t.attrs, x.length ≤ maxLen
def VldTo (s : List TabT) (k : Nat) : Prop := ∀ j (_ : j < k) (hl : j < s.length), rightB s[j] = true ∧ findT s s[j].name = (j : Int)
theorem vldTo_succ {s : List TabT} {k : Nat} (h : VldTo s k) (hk : k < s.length) (h1 : rightB s[k] = true) (h2 : findT s s[k].name = (k : Int)) : VldTo s (k + 1) := fun j hj hl => by
  by_cases e : j = k
  · subst e; exact ⟨h1, h2⟩
  · exact h j (by omega) hl
theorem right_parts {t : TabT} (h : rightB t = true) : nameB t.name = true ∧ tabB t = true := by
  unfold rightB at h
  rwa [Bool.and_eq_true] at h
theorem vldB_long {s : List TabT} (h : 20 < s.length) : validB s = false := by unfold validB; rw [decide_eq_false (by omega)]; rfl
theorem vldB_bad {s : List TabT} {k : Nat} (hk : k < s.length) (h : rightB s[k] = false) : validB s = false := by
  refine Bool.eq_false_iff.2 (fun hv => ?_)
  unfold validB at hv
  simp only [Bool.and_eq_true, decide_eq_true_eq, List.all_eq_true] at hv
  have h1 := hv.2.1 _ (List.getElem_mem hk)
  have h2 := hv.2.2
  unfold namesB at h2
  rw [Bool.and_eq_true, List.all_eq_true] at h2
  have h3 := h2.1 s[k].name (List.mem_map.2 ⟨_, List.getElem_mem hk, rfl⟩)
  unfold rightB at h
  rw [h1, h3] at h
  cases h
theorem vldB_find {s : List TabT} {k : Nat} (hk : k < s.length) (h : findT s s[k].name ≠ (k : Int)) : validB s = false := by
  refine Bool.eq_false_iff.2 (fun hv => ?_)
  unfold validB at hv
  simp only [Bool.and_eq_true] at hv
  have h2 := hv.2.2
  have h0 : 0 ≤ findT s s[k].name := by
    refine Int.not_lt.1 fun hn => ?_
    have := idx_none hn s[k] (List.getElem_mem hk)
    simp at this
  obtain ⟨j, hj, e, h1, h3⟩ := idx_spec h0
  have hjk : j ≠ k := fun x => h (by subst x; exact e)
  have hname : s[j].name = s[k].name := by simpa using h1
  rcases Nat.lt_or_gt_of_ne hjk with hlt | hlt
  · have := namesB_dup (l := s.map TabT.name) (i := k) (k := j) (by simpa using hk) hlt (by simpa using hname)
    rw [this] at h2
    cases h2
  · have := h3 k hlt
    simp at this
theorem vldB_ok {s : List TabT} {k : Nat} (h0 : s.length ≤ 20) (h : VldTo s k) (hk : s.length ≤ k) : validB s = true := by
  unfold validB
  simp only [Bool.and_eq_true, decide_eq_true_eq, List.all_eq_true]
  refine ⟨h0, fun t ht => ?_, namesB_ok (i := s.length) (fun j hj hl => ⟨?_, fun i hi => ?_⟩) (by simp)⟩
  · obtain ⟨j, hj, rfl⟩ := List.getElem_of_mem ht
    exact (right_parts (h j (by omega) hj).1).2
  · simp only [List.getElem_map]
    exact (right_parts (h j (by omega) (by simpa using hl)).1).1
  · simp only [List.getElem_map]
    intro e
    have h2 := (h j (by omega) (by simpa using hl)).2
    obtain ⟨q, hq, e2, _, h3⟩ := idx_spec (p := fun t : TabT => decide (t.name = (s[j]'(by simpa using hl)).name)) (l := s) (by rw [show idx (fun t : TabT => decide (t.name = (s[j]'(by simpa using hl)).name)) s = (j : Int) from h2]; omega)
    have e3 : q = j := by
      have : (q : Int) = j := e2.symm.trans h2
      omega
    have := h3 i (by omega)
    simp at this
    exact this e
set_option maxRecDepth 100000 in
set_option maxHeartbeats 8000000 in
theorem valid_rf (s : List TabT) (v : Value) (hm : Mid s) (hlen : Lens s) (w : World) (h : Tabs w v s) :
    Calls Tryz.prog 18 #[.agg #[v]] w (BoolPost w (validB s)) := by
  obtain ⟨A, cap, rfl, _⟩ := h.form
  have HS0 := Lib.hid h
  have HM := Lib.hid hm
  have HLN := Lib.hid hlen
  have hsl : s.length ≤ 24 := hm.1
  clear h hm hlen
  obtain ⟨X, hX⟩ : ∃ X, w.alloc (.cells #[.slice A s.length cap] 24) = X := ⟨_, rfl⟩
  have z0 : X.cell? ⟨w.heap.size, 0, none⟩ = some (.slice A s.length cap) := by rw [← hX]; simp [go_sem]
  have HBX : Hid (Below w.heap.size w X) := Lib.hid (by rw [← hX]; exact below_box w _)
  have HX := Lib.hid hX
  have HS := Lib.hid (HS0.out.below HBX.out)
  clear hX HS0
  by_cases hl : 20 < s.length
  · have HF := Lib.hid (vldB_long hl)
    go_enter Tryz.func18, Tryz.ntmps18
    go_wp2_with fail
    rw [HX.out]
    go_ret
    exact ⟨bool_ret HF.out.symm, HBX.out⟩
  · go_enter Tryz.func18, Tryz.ntmps18
    go_wp2_with fail
    rw [HX.out]
    go_loopw [3] (fun i wr => ∃ k : Nat, k ≤ s.length ∧ i = .int .i64 (k : Int) ∧ VldTo s k ∧ Below X.heap.size X wr) (fun i _ => s.length - (intOf i).toNat)
    case atStart => exact ⟨0, by omega, by simp, fun j hj => by omega, Below.refl _ _⟩
    case round =>
      obtain ⟨k, hk, rfl, hvt, hv⟩ := hrel
      have HVT := Lib.hid hvt
      have HV := Lib.hid hv
      have HB := Lib.hid (below_up HBX.out hv HBX.out.size)
      have z0 := cellB hv z0
      have HS := Lib.hid (HS.out.below hv)
      clear hvt hv
      by_cases hlt : k < s.length
      · obtain ⟨b, o, e, va, vk, hat, hva, hvk⟩ := tab_row HS.out hlt
        subst e
        obtain ⟨Aa, na, rfl, _⟩ := hva.form
        obtain ⟨Ak, nk, rfl, _⟩ := hvk.form
        have x0 := hat.c0
        have x1 := hat.c1
        have x2 := hat.c2
        have hmt := HM.out.2 s[k] (List.getElem_mem hlt)
        have hln := HLN.out s[k] (List.getElem_mem hlt)
        obtain ⟨r, hr⟩ : ∃ r, rightB s[k] = r := ⟨_, rfl⟩
        have CR := Lib.hid (fun W (hW : Below wr.heap.size wr W) => hr ▸ right_rf s[k] _ _ hmt.1 hmt.2.2 hmt.2.1 hln.1 hln.2 W (hva.below hW) (hvk.below hW))
        obtain ⟨f, hf⟩ : ∃ f, findT s s[k].name = f := ⟨_, rfl⟩
        have CF := Lib.hid (fun W (hW : Below wr.heap.size wr W) => hf ▸ find_rf s _ s[k].name (by omega) W (HS.out.below hW))
        have HR := Lib.hid hr
        have HFF := Lib.hid hf
        obtain ⟨t, ht⟩ : ∃ t, s[k] = t := ⟨_, rfl⟩
        rw [ht] at x0 x1 x2 CR CF
        have i1 : (0 : Int) ≤ (k : Int) := by omega
        have i2 : (k : Int) < (s.length : Int) := by omega
        clear hat hva hvk hmt hln hr hf ht
        cases r with
        | false =>
          have HN := Lib.hid (vldB_bad hlt HR.out)
          go_wp2_with fail
          refine wp_region_held_drew (S := (fun w' => w'.cell? ⟨w.heap.size, 0, none⟩ = some (.slice (some ⟨b, o, none⟩) s.length cap) ∧ w'.cell? ⟨b, o + k * 3, none⟩ = some (str t.name) ∧ w'.cell? ⟨b, o + k * 3 + 1, none⟩ = some (.slice Aa t.attrs.length na) ∧ w'.cell? ⟨b, o + k * 3 + 2, none⟩ = some (.slice Ak t.key.length nk))) (by kernel_rfl) ?_ (fun hHeld => ?_)
          · try dsimp only
            go_keep
          refine wpAnyH_take (i := 0) (v := ?_) (by (simp only [List.getElem?_toArray, List.getElem?_cons_zero]; rfl)) (by kernel_rfl) (by kernel_rfl) (by kernel_rfl) (by intro _ _ _ h; exact h) (Or.inl ⟨by kernel_rfl, ?_⟩) hHeld ?_
          case refine_2 =>
            intro w hSw
            try dsimp only at hSw
            go_simp
            try with_reducible rfl
          try simp only [Act.put, List.setIfInBounds_toArray, List.set_cons_zero, List.set_cons_succ]
          refine wpAnyH_take (i := 1) (v := ?_) (by (simp only [List.getElem?_toArray, List.getElem?_cons_succ, List.getElem?_cons_zero]; rfl)) (by kernel_rfl) (by kernel_rfl) (by kernel_rfl) (by intro _ _ _ h; exact h) (Or.inl ⟨by kernel_rfl, ?_⟩) hHeld ?_
          case refine_2 =>
            intro w hSw
            try dsimp only at hSw
            go_simp
            try with_reducible rfl
          try simp only [Act.put, List.setIfInBounds_toArray, List.set_cons_zero, List.set_cons_succ]
          refine wpAnyH_take (i := 2) (v := ?_) (by (simp only [List.getElem?_toArray, List.getElem?_cons_succ, List.getElem?_cons_zero]; rfl)) (by kernel_rfl) (by kernel_rfl) (by kernel_rfl) (by intro _ _ _ h; exact h) (Or.inl ⟨by kernel_rfl, ?_⟩) hHeld ?_
          case refine_2 =>
            intro w hSw
            try dsimp only at hSw
            go_simp
            try with_reducible rfl
          try simp only [Act.put, List.setIfInBounds_toArray, List.set_cons_zero, List.set_cons_succ]
          refine wpAnyH_take (i := 3) (v := ?_) (by (simp only [List.getElem?_toArray, List.getElem?_cons_succ, List.getElem?_cons_zero]; rfl)) (by kernel_rfl) (by kernel_rfl) (by kernel_rfl) (by intro _ _ _ h; exact h) (Or.inl ⟨by kernel_rfl, ?_⟩) hHeld ?_
          case refine_2 =>
            intro w hSw
            try dsimp only at hSw
            go_simp
            try with_reducible rfl
          try simp only [Act.put, List.setIfInBounds_toArray, List.set_cons_zero, List.set_cons_succ]
          refine wpAnyH_take (i := 4) (v := ?_) (by (simp only [List.getElem?_toArray, List.getElem?_cons_succ, List.getElem?_cons_zero]; rfl)) (by kernel_rfl) (by kernel_rfl) (by kernel_rfl) (by intro _ _ _ h; exact h) (Or.inl ⟨by kernel_rfl, ?_⟩) hHeld ?_
          case refine_2 =>
            intro w hSw
            try dsimp only at hSw
            go_simp
            try with_reducible rfl
          try simp only [Act.put, List.setIfInBounds_toArray, List.set_cons_zero, List.set_cons_succ]
          refine wpAnyH_ready (rs := [5]) (by kernel_rfl) (by simp) ?_
          refine AllReadyH.cons (by (simp only [List.getElem?_toArray, List.getElem?_cons_succ, List.getElem?_cons_zero]; rfl)) (fun K hK => ?_) AllReadyH.nil
          go_simp
          refine (CR.out _ (below_drewN _ _ 1)).mono ?_
          rintro e w5 ⟨rfl, hb⟩
          have hb1 := (below_drewN wr.heap.size wr 1).trans hb
          have HB2 := Lib.hid (HB.out.trans (hb1.mono HB.out.size))
          have p1 := cellB hb1 z0
          have p2 := cellB hb1 x0
          have p3 := cellB hb1 x1
          have p4 := cellB hb1 x2
          clear hb hb1
          try go_wp2_with fail
          clear hHeld
          refine hK.out _ _ ?_ (fun hHeld => ?_)
          · try dsimp only
            go_keep
          clear hK K
          try simp only [Act.put, List.setIfInBounds_toArray, List.set_cons_zero, List.set_cons_succ]
          refine wpAnyH_take (i := 6) (v := ?_) (by (simp only [List.getElem?_toArray, List.getElem?_cons_succ, List.getElem?_cons_zero]; rfl)) (by kernel_rfl) (by kernel_rfl) (by kernel_rfl) (by intro _ _ _ h; exact h) (Or.inl ⟨by kernel_rfl, ?_⟩) hHeld ?_
          case refine_2 =>
            intro w hSw
            try dsimp only at hSw
            go_simp
            try with_reducible rfl
          try simp only [Act.put, List.setIfInBounds_toArray, List.set_cons_zero, List.set_cons_succ]
          refine wpAnyH_take (i := 7) (v := ?_) (by (simp only [List.getElem?_toArray, List.getElem?_cons_succ, List.getElem?_cons_zero]; rfl)) (by kernel_rfl) (by kernel_rfl) (by kernel_rfl) (by intro _ _ _ h; exact h) (Or.inl ⟨by kernel_rfl, ?_⟩) hHeld ?_
          case refine_2 =>
            intro w hSw
            try dsimp only at hSw
            go_simp
            try with_reducible rfl
          try simp only [Act.put, List.setIfInBounds_toArray, List.set_cons_zero, List.set_cons_succ]
          refine wpAnyH_take (i := 8) (v := undef) (by (simp only [List.getElem?_toArray, List.getElem?_cons_succ, List.getElem?_cons_zero]; rfl)) (by kernel_rfl) (by kernel_rfl) (by kernel_rfl) (by intro _ _ _ h; exact h) (Or.inr ⟨by kernel_rfl, rfl⟩) hHeld ?_
          try simp only [Act.put, List.setIfInBounds_toArray, List.set_cons_zero, List.set_cons_succ]
          refine wpAnyH_take (i := 9) (v := undef) (by (simp only [List.getElem?_toArray, List.getElem?_cons_succ, List.getElem?_cons_zero]; rfl)) (by kernel_rfl) (by kernel_rfl) (by kernel_rfl) (by intro _ _ _ h; exact h) (Or.inr ⟨by kernel_rfl, rfl⟩) hHeld ?_
          try simp only [Act.put, List.setIfInBounds_toArray, List.set_cons_zero, List.set_cons_succ]
          refine wpAnyH_take (i := 10) (v := undef) (by (simp only [List.getElem?_toArray, List.getElem?_cons_succ, List.getElem?_cons_zero]; rfl)) (by kernel_rfl) (by kernel_rfl) (by kernel_rfl) (by intro _ _ _ h; exact h) (Or.inr ⟨by kernel_rfl, rfl⟩) hHeld ?_
          try simp only [Act.put, List.setIfInBounds_toArray, List.set_cons_zero, List.set_cons_succ]
          refine wpAnyH_take (i := 11) (v := undef) (by (simp only [List.getElem?_toArray, List.getElem?_cons_succ, List.getElem?_cons_zero]; rfl)) (by kernel_rfl) (by kernel_rfl) (by kernel_rfl) (by intro _ _ _ h; exact h) (Or.inr ⟨by kernel_rfl, rfl⟩) hHeld ?_
          try simp only [Act.put, List.setIfInBounds_toArray, List.set_cons_zero, List.set_cons_succ]
          refine wpAnyH_take (i := 12) (v := undef) (by (simp only [List.getElem?_toArray, List.getElem?_cons_succ, List.getElem?_cons_zero]; rfl)) (by kernel_rfl) (by kernel_rfl) (by kernel_rfl) (by intro _ _ _ h; exact h) (Or.inr ⟨by kernel_rfl, rfl⟩) hHeld ?_
          try simp only [Act.put, List.setIfInBounds_toArray, List.set_cons_zero, List.set_cons_succ]
          refine wpAnyH_take (i := 13) (v := undef) (by (simp only [List.getElem?_toArray, List.getElem?_cons_succ, List.getElem?_cons_zero]; rfl)) (by kernel_rfl) (by kernel_rfl) (by kernel_rfl) (by intro _ _ _ h; exact h) (Or.inr ⟨by kernel_rfl, rfl⟩) hHeld ?_
          try simp only [Act.put, List.setIfInBounds_toArray, List.set_cons_zero, List.set_cons_succ]
          refine wpAnyH_take (i := 14) (v := undef) (by (simp only [List.getElem?_toArray, List.getElem?_cons_succ, List.getElem?_cons_zero]; rfl)) (by kernel_rfl) (by kernel_rfl) (by kernel_rfl) (by intro _ _ _ h; exact h) (Or.inr ⟨by kernel_rfl, rfl⟩) hHeld ?_
          try simp only [Act.put, List.setIfInBounds_toArray, List.set_cons_zero, List.set_cons_succ]
          refine wpAnyH_take (i := 15) (v := undef) (by (simp only [List.getElem?_toArray, List.getElem?_cons_succ, List.getElem?_cons_zero]; rfl)) (by kernel_rfl) (by kernel_rfl) (by kernel_rfl) (by intro _ _ _ h; exact h) (Or.inr ⟨by kernel_rfl, rfl⟩) hHeld ?_
          try simp only [Act.put, List.setIfInBounds_toArray, List.set_cons_zero, List.set_cons_succ]
          refine wpAnyH_take (i := 16) (v := undef) (by (simp only [List.getElem?_toArray, List.getElem?_cons_succ, List.getElem?_cons_zero]; rfl)) (by kernel_rfl) (by kernel_rfl) (by kernel_rfl) (by intro _ _ _ h; exact h) (Or.inr ⟨by kernel_rfl, rfl⟩) hHeld ?_
          try simp only [Act.put, List.setIfInBounds_toArray, List.set_cons_zero, List.set_cons_succ]
          refine wpAnyH_take (i := 17) (v := undef) (by (simp only [List.getElem?_toArray, List.getElem?_cons_succ, List.getElem?_cons_zero]; rfl)) (by kernel_rfl) (by kernel_rfl) (by kernel_rfl) (by intro _ _ _ h; exact h) (Or.inr ⟨by kernel_rfl, rfl⟩) hHeld ?_
          try simp only [Act.put, List.setIfInBounds_toArray, List.set_cons_zero, List.set_cons_succ]
          refine wpAnyH_take (i := 18) (v := ?_) (by (simp only [List.getElem?_toArray, List.getElem?_cons_succ, List.getElem?_cons_zero]; rfl)) (by kernel_rfl) (by kernel_rfl) (by kernel_rfl) (by intro _ _ _ h; exact h) (Or.inl ⟨by kernel_rfl, ?_⟩) hHeld ?_
          case refine_2 =>
            intro w hSw
            try dsimp only at hSw
            go_simp
            try with_reducible rfl
          try simp only [Act.put, List.setIfInBounds_toArray, List.set_cons_zero, List.set_cons_succ]
          refine wpAnyH_done (by kernel_rfl) ?_ _
          go_wp2_with fail
          go_ret
          exact ⟨bool_ret HN.out.symm, HB2.out⟩
        | true =>
          go_wp2_with fail
          go_region_held3 (fun w' => w'.cell? ⟨w.heap.size, 0, none⟩ = some (.slice (some ⟨b, o, none⟩) s.length cap) ∧ w'.cell? ⟨b, o + k * 3, none⟩ = some (str t.name) ∧ w'.cell? ⟨b, o + k * 3 + 1, none⟩ = some (.slice Aa t.attrs.length na) ∧ w'.cell? ⟨b, o + k * 3 + 2, none⟩ = some (.slice Ak t.key.length nk)) (go_keep)
            (first | (go_at_call 38; refine (CR.out _ (below_drewN _ _ 1)).mono ?_; rintro e w5 ⟨rfl, hb⟩; have hb1 := (below_drewN wr.heap.size wr 1).trans hb; have g1 := Lib.hid hb1; have p1 := cellB hb1 z0; have p2 := cellB hb1 x0; have p3 := cellB hb1 x1; have p4 := cellB hb1 x2; clear hb hb1) | (go_at_call 20; refine (CF.out _ g1.out).mono ?_; rintro e w6 ⟨rfl, hb⟩; have g2 := Lib.hid (g1.out.trans (hb.mono g1.out.size)); have r1 := cellB hb p1; have r2 := cellB hb p2; have r3 := cellB hb p3; have r4 := cellB hb p4; clear hb))
          have HV2 := Lib.hid (HV.out.trans (g2.out.mono HV.out.size))
          have HB2 := Lib.hid (HB.out.trans (g2.out.mono HB.out.size))
          clear p1 p2 p3 p4 r1 r2 r3 r4 g1 g2 z0 x0 x1 x2 CR CF
          by_cases e : f = (k : Int)
          · have HN := Lib.hid (vldTo_succ HVT.out hlt HR.out (HFF.out.trans e))
            have d1 : (f != (k : Int)) = false := by simp [e]
            clear e
            go_wp2_with fail
            go_roundw
            case rel => exact ⟨k + 1, by omega, by simp, HN.out, HV2.out⟩
            case measure => simp [intOf]; omega
          · have HN := Lib.hid (vldB_find hlt (by rw [HFF.out]; exact e))
            have d1 : (f != (k : Int)) = true := by simpa using e
            clear e
            go_wp2_with fail
            go_ret
            exact ⟨bool_ret HN.out.symm, HB2.out⟩
      · have HN := Lib.hid (vldB_ok (by omega) HVT.out (by omega))
        go_wp2_with fail
        go_ret
        exact ⟨bool_ret HN.out.symm, HB.out⟩
set_option maxRecDepth 100000 in
set_option maxHeartbeats 4000000 in
theorem fits_rf (n : Txt) (l : List AttrT) (row : List T3) (va vk rv : Value) (hl : l.length ≤ 4000) (hr : row.length ≤ 4000) (w : World) (ha : Attrs w va l) (hv : Vals w rv row) :
    Calls Tryz.prog 22 #[.agg #[str n, va, vk], rv] w (BoolPost w (fitsB l row)) := by
  obtain ⟨A, cap, rfl, hcap⟩ := ha.form
  obtain ⟨B, cb, rfl, hcb⟩ := hv.form
  have HA := Lib.hid ha
  have HV := Lib.hid hv
  clear ha hv
  by_cases h0 : row.length = l.length
  · have H0 := Lib.hid h0
    have q0 : ((row.length : Int) != (l.length : Int)) = false := by simp [h0]
    have hle : row.length ≤ l.length := by omega
    clear h0
    go_enter Tryz.func22, Tryz.ntmps22
    go_wp2_with fail
    go_loopw [5] (fun i wr => ∃ k : Nat, k ≤ row.length ∧ i = .int .i64 (k : Int) ∧ FitTo l row k ∧ Below (w.heap.size + 1) (w.alloc (.cells #[str n, .slice A l.length cap, vk] 44)) wr) (fun i _ => row.length - (intOf i).toNat)
    case atStart => exact ⟨0, by omega, by simp, fun j hj => by omega, Below.refl _ _⟩
    case round =>
      obtain ⟨k, hk, rfl, hty, hb⟩ := hrel
      have HT := Lib.hid hty
      have HB := Lib.hid hb
      have hsz : w.heap.size + 1 ≤ wr.heap.size := by have := hb.size; simpa using this
      have e1 : ∀ m, (wr.drewN m).cell? ⟨w.heap.size, 1, none⟩ = some (.slice A l.length cap) := fun m => (hb.cell (p := ⟨w.heap.size, 1, none⟩) (by simp)).trans (by simp [go_sem])
      have HB2 := Lib.hid (show Below w.heap.size w wr from below_up (below_box w _) hb (by simp))
      clear hty hb
      by_cases hlt : k < row.length
      · obtain ⟨_, _, b, off, rfl, hcell⟩ := Slc.spot HA.out (by omega)
        obtain ⟨_, _, b2, off2, rfl, hcell2⟩ := Slc.spot HV.out (by omega)
        obtain ⟨a, hx⟩ : ∃ a, l[k] = a := ⟨_, rfl⟩
        obtain ⟨y, hy⟩ : ∃ y, row[k] = y := ⟨_, rfl⟩
        have hk1 := hcell k (by omega)
        rw [hx] at hk1
        obtain ⟨wv, hat, _⟩ := hk1
        have hk2 := hcell2 k hlt
        rw [hy] at hk2
        have c1 : wr.cell? ⟨b, off + k * 6 + 1, none⟩ = some (.int .i64 a.kind) := (hat.below HB2.out).c1
        have y0 : wr.cell? ⟨b2, off2 + k * 3, none⟩ = some (.int .i64 y.1) := (hk2.below HB2.out).c0
        have y1 : wr.cell? ⟨b2, off2 + k * 3 + 1, none⟩ = some (.int .i64 y.2.1) := (hk2.below HB2.out).c1
        have y2 : wr.cell? ⟨b2, off2 + k * 3 + 2, none⟩ = some (str y.2.2) := (hk2.below HB2.out).c2
        have e1' : wr.cell? ⟨w.heap.size, 1, none⟩ = some (.slice (some ⟨b, off, none⟩) l.length cap) := e1 0
        have HX := Lib.hid hx
        have HY := Lib.hid hy
        have i1 : (0 : Int) ≤ (k : Int) := by omega
        have i2 : (k : Int) < (l.length : Int) := by omega
        have i3 : (k : Int) < (row.length : Int) := by omega
        clear hx hy hcell hcell2 hat hk2 e1
        obtain ⟨r, hr⟩ : ∃ r, fitB y a.kind = r := ⟨_, rfl⟩
        have C := fun W => fit_ref y a.kind W
        rw [hr] at C
        replace C := Lib.hid C
        have HR := Lib.hid hr
        clear hr
        go_wp2_with fail
        go_region_held3 (fun w' => w'.cell? ⟨b, off + k * 6 + 1, none⟩ = some (.int .i64 a.kind) ∧ w'.cell? ⟨b2, off2 + k * 3, none⟩ = some (.int .i64 y.1) ∧ w'.cell? ⟨b2, off2 + k * 3 + 1, none⟩ = some (.int .i64 y.2.1) ∧ w'.cell? ⟨b2, off2 + k * 3 + 2, none⟩ = some (str y.2.2) ∧ w'.cell? ⟨w.heap.size, 1, none⟩ = some (.slice (some ⟨b, off, none⟩) l.length cap)) (go_keep)
          (first | (go_at_call 42; refine (C.out _).mono ?_; rintro e v1 ⟨rfl, hv1⟩; have g1 := Lib.hid ((below_drewN _ wr 1).trans hv1); clear hv1; have p0 := cellB g1.out c1; have p1 := cellB g1.out y0; have p2 := cellB g1.out y1; have q0 := cellB g1.out y2; have q1 := cellB g1.out e1'))
        have HB3 := Lib.hid (HB.out.trans (g1.out.mono hsz))
        have HB4 := Lib.hid (HB2.out.trans (g1.out.mono HB2.out.size))
        clear g1 p0 p1 p2 q0 q1 c1 y0 y1 y2 e1' C
        cases r
        · have HF := Lib.hid (fitsB_bad (l := l) (row := row) hlt (by omega) (by rw [HX.out, HY.out]; exact HR.out))
          go_wp2_with fail
          go_ret
          exact ⟨bool_ret HF.out.symm, HB4.out⟩
        · have HT2 : Hid (FitTo l row (k + 1)) := Lib.hid (fun j hj hk' hl' => by
            by_cases e : j = k
            · subst e; rw [HX.out, HY.out]; exact HR.out
            · exact HT.out j (by omega) hk' hl')
          go_wp2_with fail
          go_roundw
          case rel => exact ⟨k + 1, by omega, by simp, HT2.out, HB3.out⟩
          case measure => simp [intOf]; omega
      · have HF := Lib.hid (fitsB_good (l := l) (row := row) H0.out (fun j hj hl' => HT.out j (by omega) hj hl'))
        go_wp2_with fail
        go_ret
        exact ⟨bool_ret HF.out.symm, HB2.out⟩
  · have HF := Lib.hid (fitsB_len (l := l) (row := row) h0)
    have q0 : ((row.length : Int) != (l.length : Int)) = true := by simp; omega
    go_enter Tryz.func22, Tryz.ntmps22
    go_wp2_with fail
    go_ret
    exact ⟨bool_ret HF.out.symm, below_box w _⟩
end Go.Proofs.YteokcgfbhaeklaaGreatDoor

