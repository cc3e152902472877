/- The program's choose. -/
import Derived.Test.YtcgkaecaddpenaaGreatDoorPsMap
namespace Go.Proofs.YtcgkaecaddpenaaGreatDoor
open Go.RowKit
open L7 (Tk)
open L8

/-- The value with a number, from 1 on. -/
def isAt (vs : List Value) (_ : World) (v : Value) (k : Int) : Prop := ∃ i : Nat, k = (i : Int) + 1 ∧ vs[i + 1]? = some v
theorem zerochI (W : World) : (zeroValue 3).run Tryz.prog W = .ok (.int .i64 0) W := by kernel_rfl
theorem zerochF (W : World) : (zeroValue 87).run Tryz.prog W = .ok .nilFunc W := by kernel_rfl
set_option maxRecDepth 100000 in
set_option maxHeartbeats 4000000 in
theorem chI_hit {p : Ps} {t : Tk} {r : List Tk} {lv : Int} (vs : List Value) (ks : List Txt) (m : Nat) (hd : vs.Nodup) (hz0 : vs[0]? = some (.int .i64 0)) (i : Nat) (hi : ks[i]? = some (wordT t)) (v : Value) (hv : vs[i + 1]? = some v) (w : World) (ht : Tab w vs m ks) (h : Sta w p (t :: r) lv) :
    Calls Tryz.prog 67 #[ptr p.g, .map (some m)] w (fun e w' => e = .returned v ∧ Sta w' p r lv ∧ Near p.g w w') := by
  obtain ⟨off, cap, h⟩ := h
  obtain ⟨k0, k1, k2, k3⟩ := h.first
  have c0 := h.c0
  have f0 := h.f0
  have hcap := h.hc
  simp only [List.length_cons] at c0 hcap
  have hlen : (wordT t).length ≤ 200000 := by
    have := (h.good t (by simp)).len
    unfold wordT
    split
    · omega
    · simp
  have HS := Lib.hid h
  have C := Lib.hid (fun W => word_any t W)
  obtain ⟨x, hx⟩ : ∃ x, wordT t = x := ⟨_, rfl⟩
  rw [hx] at C hi hlen
  have HL := Lib.hid (fun W (hb : Below w.heap.size w W) => (tab_look (ht.keep hb) (Tryz.underlying119) hd (zerochI W) hz0 x hlen).1 i hi)
  have HV := Lib.hid hv
  clear h hx hi hz0 hd ht hv hlen
  obtain ⟨tk, tx, tn, ta⟩ := t
  go_enter Tryz.func67, Tryz.ntmps67
  go_wp2_with fail
  refine (C.out _).mono ?_
  rintro e w1 ⟨rfl, hb⟩
  have HB := Lib.hid hb
  obtain ⟨c0', f0'⟩ := And.intro (cellB hb c0) (frozenB hb c0 f0)
  obtain ⟨v', hv', hl⟩ := HL.out w1 hb
  obtain rfl : v = v' := by
    have := HV.out
    rw [hv'] at this
    cases this
    rfl
  clear hb hv'
  go_wp2_with fail
  go_ret
  exact ⟨rfl, ⟨_, _, (HS.out.keep HB.out).next⟩, (Tch.of_below HB.out).trans (near_set _ _ _ _)⟩
set_option maxRecDepth 100000 in
set_option maxHeartbeats 4000000 in
theorem chI_miss {α : Type} {V : World → Value → α → Prop} {R : Res α} {p : Ps} {r : List Tk} {lv : Int} (vs : List Value) (ks : List Txt) (m : Nat) (hd : vs.Nodup) (hz0 : vs[0]? = some (.int .i64 0)) (hi : headW r ∉ ks) (hR : R = .bad false r) (w : World) (ht : Tab w vs m ks) (h : Sta w p r lv) :
    Calls Tryz.prog 67 #[ptr p.g, .map (some m)] w (PPost p lv w V R) := by
  obtain ⟨off, cap, h⟩ := h
  obtain ⟨k0, k1, k2, k3⟩ := h.head
  have c0 := h.c0
  have hcap := h.hc
  have hlen : (wordT (hdT p.n r)).length ≤ 200000 := by
    cases r with
    | nil => exact Nat.zero_le _
    | cons t r =>
      have := (h.good t (by simp)).len
      show (wordT t).length ≤ 200000
      unfold wordT
      split
      · omega
      · simp
  have HS := Lib.hid h
  have F := Lib.hid (fun W (q : Sta W p r lv) => fail_post (V := V) false hR W q)
  have HR := Lib.hid hR
  rw [headW_hd p.n r] at hi
  have C := Lib.hid (fun W => word_any (hdT p.n r) W)
  obtain ⟨x, hx⟩ : ∃ x, wordT (hdT p.n r) = x := ⟨_, rfl⟩
  rw [hx] at C hi hlen
  have HL := Lib.hid (fun W (hb : Below w.heap.size w W) => (tab_look (ht.keep hb) (Tryz.underlying119) hd (zerochI W) hz0 x hlen).2 hi)
  obtain ⟨⟨tk, tx, tn, ta⟩, hh⟩ : ∃ x, hdT p.n r = x := ⟨_, rfl⟩
  rw [hh] at k0 k1 k2 k3 C
  clear h hx hi hz0 hd ht hlen hh hR
  go_enter Tryz.func67, Tryz.ntmps67
  go_wp2_with fail
  refine (C.out _).mono ?_
  rintro e w1 ⟨rfl, hb⟩
  have HB := Lib.hid hb
  have hl := HL.out w1 hb
  clear hb
  go_wp2_with fail
  refine (F.out _ ⟨_, _, HS.out.keep HB.out⟩).mono ?_
  intro e w2 hp
  obtain ⟨rfl, hn⟩ := ppost_bad HR.out hp
  exact ⟨rfl, ppost_of_bad HR.out ((Tch.of_below HB.out).trans hn)⟩
/-- choose, whatever comes. -/
theorem chI_any {p : Ps} {r : List Tk} {lv : Int} (vs : List Value) (ks : List Txt) (m : Nat) (hd : vs.Nodup) (hz0 : vs[0]? = some (.int .i64 0)) (hks : [] ∉ ks) (hl : vs.length = ks.length + 1) (w : World) (ht : Tab w vs m ks) (h : Sta w p r lv) :
    Calls Tryz.prog 67 #[ptr p.g, .map (some m)] w (PPost p lv w (isAt vs) (oneP ks r)) := by
  by_cases hr : headW r ∈ ks ∧ r ≠ []
  · have hR : oneP ks r = .ok ((ks.idxOf (headW r) : Int) + 1) r.tail := if_pos hr
    cases r with
    | nil => exact absurd rfl hr.2
    | cons t r =>
      have hlt : ks.idxOf (wordT t) < ks.length := List.idxOf_lt_length_iff.2 hr.1
      have hi : ks[ks.idxOf (wordT t)]? = some (wordT t) := by
        rw [List.getElem?_eq_getElem hlt]
        exact congrArg some (List.getElem_idxOf hlt)
      obtain ⟨v, hv⟩ : ∃ v, vs[ks.idxOf (wordT t) + 1]? = some v := ⟨_, List.getElem?_eq_getElem (by rw [hl]; exact Nat.succ_lt_succ hlt)⟩
      exact (chI_hit vs ks m hd hz0 _ hi v hv w ht h).mono fun e w' ⟨he, hs, hn⟩ => by subst he; exact ppost_of_ok hR ⟨_, rfl, hv⟩ hs hn
  · have hR : oneP ks r = .bad false r := if_neg hr
    have hx : headW r ∉ ks := fun e => hr ⟨e, fun q => by subst q; exact hks e⟩
    exact chI_miss vs ks m hd hz0 hx hR w ht h
set_option maxRecDepth 100000 in
set_option maxHeartbeats 4000000 in
theorem chF_hit {p : Ps} {t : Tk} {r : List Tk} {lv : Int} (vs : List Value) (ks : List Txt) (m : Nat) (hd : vs.Nodup) (hz0 : vs[0]? = some .nilFunc) (i : Nat) (hi : ks[i]? = some (wordT t)) (v : Value) (hv : vs[i + 1]? = some v) (w : World) (ht : Tab w vs m ks) (h : Sta w p (t :: r) lv) :
    Calls Tryz.prog 43 #[ptr p.g, .map (some m)] w (fun e w' => e = .returned v ∧ Sta w' p r lv ∧ Near p.g w w') := by
  obtain ⟨off, cap, h⟩ := h
  obtain ⟨k0, k1, k2, k3⟩ := h.first
  have c0 := h.c0
  have f0 := h.f0
  have hcap := h.hc
  simp only [List.length_cons] at c0 hcap
  have hlen : (wordT t).length ≤ 200000 := by
    have := (h.good t (by simp)).len
    unfold wordT
    split
    · omega
    · simp
  have HS := Lib.hid h
  have C := Lib.hid (fun W => word_any t W)
  obtain ⟨x, hx⟩ : ∃ x, wordT t = x := ⟨_, rfl⟩
  rw [hx] at C hi hlen
  have HL := Lib.hid (fun W (hb : Below w.heap.size w W) => (tab_look (ht.keep hb) (Tryz.underlying105) hd (zerochF W) hz0 x hlen).1 i hi)
  have HV := Lib.hid hv
  clear h hx hi hz0 hd ht hv hlen
  obtain ⟨tk, tx, tn, ta⟩ := t
  go_enter Tryz.func43, Tryz.ntmps43
  go_wp2_with fail
  refine (C.out _).mono ?_
  rintro e w1 ⟨rfl, hb⟩
  have HB := Lib.hid hb
  obtain ⟨c0', f0'⟩ := And.intro (cellB hb c0) (frozenB hb c0 f0)
  obtain ⟨v', hv', hl⟩ := HL.out w1 hb
  obtain rfl : v = v' := by
    have := HV.out
    rw [hv'] at this
    cases this
    rfl
  clear hb hv'
  go_wp2_with fail
  go_ret
  exact ⟨rfl, ⟨_, _, (HS.out.keep HB.out).next⟩, (Tch.of_below HB.out).trans (near_set _ _ _ _)⟩
set_option maxRecDepth 100000 in
set_option maxHeartbeats 4000000 in
theorem chF_miss {α : Type} {V : World → Value → α → Prop} {R : Res α} {p : Ps} {r : List Tk} {lv : Int} (vs : List Value) (ks : List Txt) (m : Nat) (hd : vs.Nodup) (hz0 : vs[0]? = some .nilFunc) (hi : headW r ∉ ks) (hR : R = .bad false r) (w : World) (ht : Tab w vs m ks) (h : Sta w p r lv) :
    Calls Tryz.prog 43 #[ptr p.g, .map (some m)] w (PPost p lv w V R) := by
  obtain ⟨off, cap, h⟩ := h
  obtain ⟨k0, k1, k2, k3⟩ := h.head
  have c0 := h.c0
  have hcap := h.hc
  have hlen : (wordT (hdT p.n r)).length ≤ 200000 := by
    cases r with
    | nil => exact Nat.zero_le _
    | cons t r =>
      have := (h.good t (by simp)).len
      show (wordT t).length ≤ 200000
      unfold wordT
      split
      · omega
      · simp
  have HS := Lib.hid h
  have F := Lib.hid (fun W (q : Sta W p r lv) => fail_post (V := V) false hR W q)
  have HR := Lib.hid hR
  rw [headW_hd p.n r] at hi
  have C := Lib.hid (fun W => word_any (hdT p.n r) W)
  obtain ⟨x, hx⟩ : ∃ x, wordT (hdT p.n r) = x := ⟨_, rfl⟩
  rw [hx] at C hi hlen
  have HL := Lib.hid (fun W (hb : Below w.heap.size w W) => (tab_look (ht.keep hb) (Tryz.underlying105) hd (zerochF W) hz0 x hlen).2 hi)
  obtain ⟨⟨tk, tx, tn, ta⟩, hh⟩ : ∃ x, hdT p.n r = x := ⟨_, rfl⟩
  rw [hh] at k0 k1 k2 k3 C
  clear h hx hi hz0 hd ht hlen hh hR
  go_enter Tryz.func43, Tryz.ntmps43
  go_wp2_with fail
  refine (C.out _).mono ?_
  rintro e w1 ⟨rfl, hb⟩
  have HB := Lib.hid hb
  have hl := HL.out w1 hb
  clear hb
  go_wp2_with fail
  refine (F.out _ ⟨_, _, HS.out.keep HB.out⟩).mono ?_
  intro e w2 hp
  obtain ⟨rfl, hn⟩ := ppost_bad HR.out hp
  exact ⟨rfl, ppost_of_bad HR.out ((Tch.of_below HB.out).trans hn)⟩
/-- choose, whatever comes. -/
theorem chF_any {p : Ps} {r : List Tk} {lv : Int} (vs : List Value) (ks : List Txt) (m : Nat) (hd : vs.Nodup) (hz0 : vs[0]? = some .nilFunc) (hks : [] ∉ ks) (hl : vs.length = ks.length + 1) (w : World) (ht : Tab w vs m ks) (h : Sta w p r lv) :
    Calls Tryz.prog 43 #[ptr p.g, .map (some m)] w (PPost p lv w (isAt vs) (oneP ks r)) := by
  by_cases hr : headW r ∈ ks ∧ r ≠ []
  · have hR : oneP ks r = .ok ((ks.idxOf (headW r) : Int) + 1) r.tail := if_pos hr
    cases r with
    | nil => exact absurd rfl hr.2
    | cons t r =>
      have hlt : ks.idxOf (wordT t) < ks.length := List.idxOf_lt_length_iff.2 hr.1
      have hi : ks[ks.idxOf (wordT t)]? = some (wordT t) := by
        rw [List.getElem?_eq_getElem hlt]
        exact congrArg some (List.getElem_idxOf hlt)
      obtain ⟨v, hv⟩ : ∃ v, vs[ks.idxOf (wordT t) + 1]? = some v := ⟨_, List.getElem?_eq_getElem (by rw [hl]; exact Nat.succ_lt_succ hlt)⟩
      exact (chF_hit vs ks m hd hz0 _ hi v hv w ht h).mono fun e w' ⟨he, hs, hn⟩ => by subst he; exact ppost_of_ok hR ⟨_, rfl, hv⟩ hs hn
  · have hR : oneP ks r = .bad false r := if_neg hr
    have hx : headW r ∉ ks := fun e => hr ⟨e, fun q => by subst q; exact hks e⟩
    exact chF_miss vs ks m hd hz0 hx hR w ht h
theorem chI4_any {p : Ps} {r : List Tk} {lv : Int} (ks : List Txt) (hks : [] ∉ ks) (hl : ks.length = 4) (m : Nat) (w : World) (ht : Tab w [.int .i64 0, .int .i64 1, .int .i64 2, .int .i64 3, .int .i64 4] m ks) (h : Sta w p r lv) :
    Calls Tryz.prog 67 #[ptr p.g, .map (some m)] w (PPost p lv w isInt (oneP ks r)) :=
  (chI_any [.int .i64 0, .int .i64 1, .int .i64 2, .int .i64 3, .int .i64 4] ks m (by simp) rfl hks (by rw [hl]; rfl) w ht h).mono fun e w' hp => ppost_mono hp fun v a ⟨i, hk, hv⟩ => by
    have hi := (List.getElem?_eq_some_iff.1 hv).1
    simp at hi
    subst hk
    rcases (by omega : i = 0 ∨ i = 1 ∨ i = 2 ∨ i = 3) with rfl | rfl | rfl | rfl
    all_goals (cases hv; rfl)
theorem chI5_any {p : Ps} {r : List Tk} {lv : Int} (ks : List Txt) (hks : [] ∉ ks) (hl : ks.length = 5) (m : Nat) (w : World) (ht : Tab w [.int .i64 0, .int .i64 1, .int .i64 2, .int .i64 3, .int .i64 4, .int .i64 5] m ks) (h : Sta w p r lv) :
    Calls Tryz.prog 67 #[ptr p.g, .map (some m)] w (PPost p lv w isInt (oneP ks r)) :=
  (chI_any [.int .i64 0, .int .i64 1, .int .i64 2, .int .i64 3, .int .i64 4, .int .i64 5] ks m (by simp) rfl hks (by rw [hl]; rfl) w ht h).mono fun e w' hp => ppost_mono hp fun v a ⟨i, hk, hv⟩ => by
    have hi := (List.getElem?_eq_some_iff.1 hv).1
    simp at hi
    subst hk
    rcases (by omega : i = 0 ∨ i = 1 ∨ i = 2 ∨ i = 3 ∨ i = 4) with rfl | rfl | rfl | rfl | rfl
    all_goals (cases hv; rfl)
theorem chI6_any {p : Ps} {r : List Tk} {lv : Int} (ks : List Txt) (hks : [] ∉ ks) (hl : ks.length = 6) (m : Nat) (w : World) (ht : Tab w [.int .i64 0, .int .i64 1, .int .i64 2, .int .i64 3, .int .i64 4, .int .i64 5, .int .i64 6] m ks) (h : Sta w p r lv) :
    Calls Tryz.prog 67 #[ptr p.g, .map (some m)] w (PPost p lv w isInt (oneP ks r)) :=
  (chI_any [.int .i64 0, .int .i64 1, .int .i64 2, .int .i64 3, .int .i64 4, .int .i64 5, .int .i64 6] ks m (by simp) rfl hks (by rw [hl]; rfl) w ht h).mono fun e w' hp => ppost_mono hp fun v a ⟨i, hk, hv⟩ => by
    have hi := (List.getElem?_eq_some_iff.1 hv).1
    simp at hi
    subst hk
    rcases (by omega : i = 0 ∨ i = 1 ∨ i = 2 ∨ i = 3 ∨ i = 4 ∨ i = 5) with rfl | rfl | rfl | rfl | rfl | rfl
    all_goals (cases hv; rfl)
end Go.Proofs.YtcgkaecaddpenaaGreatDoor
