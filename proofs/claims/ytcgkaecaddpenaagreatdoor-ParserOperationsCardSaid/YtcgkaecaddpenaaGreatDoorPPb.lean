import Derived.Test.YtcgkaecaddpenaaGreatDoorPsBase
/- The program's first readers: word, fail, accept, take, name, number. -/
namespace Go.Proofs.YtcgkaecaddpenaaGreatDoor
open Go.RowKit
open L7 (Tk)
open L8

set_option maxRecDepth 100000 in
set_option maxHeartbeats 4000000 in
theorem word_any (t : Tk) (w : World) : Calls Tryz.prog 59 #[.agg #[.int .i64 t.kind, str t.text, .int .i64 t.n, .int .i64 t.at_]] w (fun e w' => e = .returned (str (wordT t)) ∧ Below w.heap.size w w') := by
  obtain ⟨k, x, n, a⟩ := t
  by_cases h1 : k = 1
  · have HF := Lib.hid (show wordT ⟨k, x, n, a⟩ = x from if_pos (.inl h1))
    rw [HF.out]
    have d1 : ((k : Int) == 1) = true := by rw [beq_iff_eq]; exact h1
    clear h1
    go_enter Tryz.func59, Tryz.ntmps59
    go_wp2_with fail
    go_ret
    exact ⟨rfl, below_box _ _⟩
  · have d1 : ((k : Int) == 1) = false := by rw [beq_eq_false_iff_ne]; exact h1
    by_cases h4 : k = 4
    · have HF := Lib.hid (show wordT ⟨k, x, n, a⟩ = x from if_pos (.inr h4))
      rw [HF.out]
      have d4 : ((k : Int) == 4) = true := by rw [beq_iff_eq]; exact h4
      clear h1 h4
      go_enter Tryz.func59, Tryz.ntmps59
      go_wp2_with fail
      go_ret
      exact ⟨rfl, below_box _ _⟩
    · have HF := Lib.hid (show wordT ⟨k, x, n, a⟩ = [] from if_neg (fun q => q.elim h1 h4))
      rw [HF.out]
      have d4 : ((k : Int) == 4) = false := by rw [beq_eq_false_iff_ne]; exact h4
      clear h1 h4
      go_enter Tryz.func59, Tryz.ntmps59
      go_wp2_with fail
      go_ret
      exact ⟨rfl, below_box _ _⟩
set_option maxRecDepth 100000 in
set_option maxHeartbeats 4000000 in
theorem fail_any {p : Ps} {r : List Tk} {lv : Int} (er : Int) (w : World) (h : Sta w p r lv) :
    Calls Tryz.prog 31 #[ptr p.g, .int .i64 er] w (fun e w' => e = Pf (if r = [] then 7 else er) (atOf p.n r) ∧ Below w.heap.size w w') := by
  obtain ⟨off, cap, h⟩ := h
  obtain ⟨k0, k1, k2, k3⟩ := h.head
  have c0 := h.c0
  have hcap := h.hc
  rw [atOf_hd]
  obtain ⟨er', he'⟩ : ∃ er', (if r = [] then 7 else er) = er' := ⟨_, rfl⟩
  rw [he']
  by_cases hr : r = []
  · rw [if_pos hr] at he'
    have d0 : ((hdT p.n r).kind == 0) = true := by rw [hr]; rfl
    subst he'
    obtain ⟨⟨hk, hx, hn, ha⟩, hh⟩ : ∃ x, hdT p.n r = x := ⟨_, rfl⟩
    rw [hh] at k0 k1 k2 k3 d0
    rw [hh]
    clear h hr hh
    go_enter Tryz.func31, Tryz.ntmps31
    go_wp2_with fail
    exact ⟨rfl, rfl, Below.refl _ _⟩
  · rw [if_neg hr] at he'
    have d0 : ((hdT p.n r).kind == 0) = false := by
      rw [beq_eq_false_iff_ne]
      cases r with
      | nil => exact absurd rfl hr
      | cons t r => exact (h.good t (by simp)).kind
    subst he'
    obtain ⟨⟨hk, hx, hn, ha⟩, hh⟩ : ∃ x, hdT p.n r = x := ⟨_, rfl⟩
    rw [hh] at k0 k1 k2 k3 d0
    rw [hh]
    clear h hr hh
    go_enter Tryz.func31, Tryz.ntmps31
    go_wp2_with fail
    exact ⟨rfl, rfl, Below.refl _ _⟩
theorem fail_post {α : Type} {p : Ps} {r : List Tk} {lv : Int} {V : World → Value → α → Prop} {R : Res α} (b : Bool) (hR : R = .bad b r) (w : World) (h : Sta w p r lv) :
    Calls Tryz.prog 31 #[ptr p.g, .int .i64 (if b = true then 3 else 4)] w (PPost p lv w V R) :=
  (fail_any _ w h).mono fun e w' ⟨he, hb⟩ => by
    subst he
    have := ppost_of_bad (V := V) (w := w) (lv := lv) (p := p) hR (Tch.of_below (S := fun b => b = p.g) hb)
    unfold errOf at this
    exact this
theorem ext4 (b off : Nat) : (⟨b, off, none⟩ : Addr).add 4 = ⟨b, off + 4, none⟩ := rfl
set_option maxRecDepth 100000 in
set_option maxHeartbeats 4000000 in
theorem accept_yes {p : Ps} {t : Tk} {r : List Tk} {lv : Int} (x : Txt) (hx : wordT t = x) (w : World) (h : Sta w p (t :: r) lv) :
    Calls Tryz.prog 68 #[ptr p.g, str x] w (fun e w' => e = .returned (.bool true) ∧ Sta w' p r lv ∧ Near p.g w w') := by
  subst hx
  obtain ⟨off, cap, h⟩ := h
  obtain ⟨k0, k1, k2, k3⟩ := h.first
  have c0 := h.c0
  have f0 := h.f0
  have hcap := h.hc
  simp only [List.length_cons] at c0 hcap
  have HS := Lib.hid h
  have C := Lib.hid (fun W => word_any t W)
  obtain ⟨x, hx⟩ : ∃ x, wordT t = x := ⟨_, rfl⟩
  rw [hx] at C ⊢
  clear h hx
  obtain ⟨tk, tx, tn, ta⟩ := t
  go_enter Tryz.func68, Tryz.ntmps68
  go_wp2_with fail
  refine (C.out _).mono ?_
  rintro e w1 ⟨rfl, hb⟩
  have HB := Lib.hid hb
  obtain ⟨c0', f0'⟩ := And.intro (cellB hb c0) (frozenB hb c0 f0)
  clear hb
  go_wp2_with fail
  go_ret
  exact ⟨rfl, ⟨_, _, (HS.out.keep HB.out).next⟩, (Tch.of_below HB.out).trans (near_set _ _ _ _)⟩
set_option maxRecDepth 100000 in
set_option maxHeartbeats 4000000 in
theorem accept_no {p : Ps} {r : List Tk} {lv : Int} (x : Txt) (hx : headW r ≠ x) (w : World) (h : Sta w p r lv) :
    Calls Tryz.prog 68 #[ptr p.g, str x] w (fun e w' => e = .returned (.bool false) ∧ Sta w' p r lv ∧ Near p.g w w') := by
  obtain ⟨off, cap, h⟩ := h
  obtain ⟨k0, k1, k2, k3⟩ := h.head
  have c0 := h.c0
  have hcap := h.hc
  have HS := Lib.hid h
  rw [headW_hd p.n r] at hx
  have C := Lib.hid (fun W => word_any (hdT p.n r) W)
  obtain ⟨y, hy⟩ : ∃ y, wordT (hdT p.n r) = y := ⟨_, rfl⟩
  rw [hy] at C hx
  obtain ⟨⟨tk, tx, tn, ta⟩, hh⟩ : ∃ x, hdT p.n r = x := ⟨_, rfl⟩
  rw [hh] at k0 k1 k2 k3 C
  have hxy : (y == x) = false := by rw [beq_eq_false_iff_ne]; exact hx
  clear h hy hh hx
  go_enter Tryz.func68, Tryz.ntmps68
  go_wp2_with fail
  refine (C.out _).mono ?_
  rintro e w1 ⟨rfl, hb⟩
  have HB := Lib.hid hb
  clear hb
  go_wp2_with fail
  go_ret
  exact ⟨rfl, ⟨_, _, HS.out.keep HB.out⟩, Tch.of_below HB.out⟩
/-- accept, whatever comes. -/
theorem accept_any {p : Ps} {r : List Tk} {lv : Int} (x : Txt) (hx0 : x ≠ []) (w : World) (h : Sta w p r lv) :
    Calls Tryz.prog 68 #[ptr p.g, str x] w (PPost p lv w isBool (accP x r)) := by
  by_cases hr : headW r = x ∧ r ≠ []
  · have hR : accP x r = .ok true r.tail := if_pos hr
    cases r with
    | nil => exact absurd rfl hr.2
    | cons t r => exact (accept_yes x hr.1 w h).mono fun e w' ⟨he, hs, hn⟩ => by subst he; exact ppost_of_ok hR rfl hs hn
  · have hR : accP x r = .ok false r := if_neg hr
    have hx : headW r ≠ x := fun e => hr ⟨e, fun q => by subst q; exact hx0 e.symm⟩
    exact (accept_no x hx w h).mono fun e w' ⟨he, hs, hn⟩ => by subst he; exact ppost_of_ok hR rfl hs hn
set_option maxRecDepth 100000 in
set_option maxHeartbeats 4000000 in
theorem take_yes {p : Ps} {t : Tk} {r : List Tk} {lv : Int} (w : World) (h : Sta w p (t :: r) lv) :
    Calls Tryz.prog 83 #[ptr p.g, .int .i64 t.kind] w (fun e w' => e = .returned (.agg #[.int .i64 t.kind, str t.text, .int .i64 t.n, .int .i64 t.at_]) ∧ Sta w' p r lv ∧ Near p.g w w') := by
  obtain ⟨off, cap, h⟩ := h
  have h1 := fun o => h.keep (below_box w o)
  have h2 := fun o o2 => (h1 o).keep (below_box (w.alloc o) o2)
  have k0 := fun o => (h1 o).first.1
  have k1 := fun o => (h1 o).first.2.1
  have k2 := fun o => (h1 o).first.2.2.1
  have k3 := fun o => (h1 o).first.2.2.2
  have c0 := fun o => (h1 o).c0
  have c2 := fun o o2 => (h2 o o2).c0
  have f2 := fun o o2 => (h2 o o2).f0
  have hcap := h.hc
  simp only [List.length_cons] at c0 c2 hcap
  have hg := cellLt h.c0
  have n1 : (p.g = w.heap.size) = False := eq_false (by omega)
  have n2 : (p.g = w.heap.size + 1) = False := eq_false (by omega)
  have n3 : (w.heap.size = p.g) = False := eq_false (by omega)
  have n4 : (w.heap.size + 1 = p.g) = False := eq_false (by omega)
  have HS := Lib.hid h
  clear h h1 h2
  obtain ⟨tk, tx, tn, ta⟩ := t
  go_enter Tryz.func83, Tryz.ntmps83
  go_wp2_with fail
  exact bodyPost_ret (v := .agg #[.int .i64 tk, str tx, .int .i64 tn, .int .i64 ta]) (by simp [results, Tryz.results83, go_sem]) rfl
    ⟨rfl, ⟨_, _, (HS.out.next.keep (below_box _ _)).keep (below_box _ _)⟩, ((near_set _ _ _ _).trans (Tch.of_below (below_box _ _))).trans (Tch.of_below (below_box _ _))⟩
set_option maxRecDepth 100000 in
set_option maxHeartbeats 4000000 in
theorem take_no {α : Type} {p : Ps} {r : List Tk} {lv : Int} {V : World → Value → α → Prop} {R : Res α} (k : Int) (hk : (hdT p.n r).kind ≠ k) (hR : R = .bad false r) (w : World) (h : Sta w p r lv) :
    Calls Tryz.prog 83 #[ptr p.g, .int .i64 k] w (PPost p lv w V R) := by
  obtain ⟨off, cap, h⟩ := h
  have h1 := fun o => h.keep (below_box w o)
  have k0 := fun o => (h1 o).head.1
  have k1 := fun o => (h1 o).head.2.1
  have k2 := fun o => (h1 o).head.2.2.1
  have k3 := fun o => (h1 o).head.2.2.2
  have c0 := fun o => (h1 o).c0
  have hcap := h.hc
  have HS := Lib.hid h
  obtain ⟨⟨tk, tx, tn, ta⟩, hh⟩ : ∃ x, hdT p.n r = x := ⟨_, rfl⟩
  rw [hh] at hk
  simp only [hh] at k0 k1 k2 k3
  have hd : (tk == k) = false := by rw [beq_eq_false_iff_ne]; exact hk
  have F := Lib.hid (fun W (q : Sta W p r lv) => fail_post (V := V) false hR W q)
  have HR := Lib.hid hR
  clear h h1 hh hk hR
  go_enter Tryz.func83, Tryz.ntmps83
  go_wp2_with fail
  refine (F.out _ ⟨_, _, (HS.out.keep (below_box _ _)).keep (below_box _ _)⟩).mono ?_
  intro e w1 hp
  obtain ⟨rfl, hn⟩ := ppost_bad HR.out hp
  exact ⟨rfl, ppost_of_bad HR.out (((Tch.of_below (below_box _ _)).trans (Tch.of_below (below_box _ _))).trans hn)⟩
/-- take, whatever comes. -/
theorem take_any {p : Ps} {r : List Tk} {lv : Int} (k : Int) (hk0 : k ≠ 0) (w : World) (h : Sta w p r lv) :
    Calls Tryz.prog 83 #[ptr p.g, .int .i64 k] w (PPost p lv w isTok (takeP k r)) := by
  cases r with
  | nil => exact take_no (p := p) (r := []) k (show (ending p.n).kind ≠ k from fun e => hk0 e.symm) rfl w h
  | cons t r =>
    by_cases ht : t.kind = k
    · subst ht
      exact (take_yes w h).mono fun e w' ⟨he, hs, hn⟩ => by
        subst he
        exact ppost_of_ok (a := t) (r := r) (if_pos rfl) rfl hs hn
    · exact take_no k (show (hdT p.n (t :: r)).kind ≠ k from ht) (if_neg ht) w h
theorem field1 (a b c d : Value) (W : World) : (Instr.field 37 (.agg #[a, b, c, d]) 1).run Tryz.prog W = .ok b W := by kernel_rfl
theorem field2 (a b c d : Value) (W : World) : (Instr.field 37 (.agg #[a, b, c, d]) 2).run Tryz.prog W = .ok c W := by kernel_rfl
set_option maxRecDepth 100000 in
set_option maxHeartbeats 4000000 in
theorem name_any {p : Ps} {r : List Tk} {lv : Int} (w : World) (h : Sta w p r lv) :
    Calls Tryz.prog 60 #[ptr p.g] w (PPost p lv w isStr (nameP r)) := by
  have C := Lib.hid (take_any 1 (by decide) w h)
  rcases hr : takeP 1 r with ⟨t, r1⟩ | ⟨b, r1⟩
  · have HR := Lib.hid (show nameP r = .ok t.text r1 from bnd_ok hr)
    have HT := Lib.hid hr
    clear hr
    have hf := field1
    go_enter Tryz.func60, Tryz.ntmps60
    go_wp2_with fail
    refine C.out.mono ?_
    intro e w1 hp
    obtain ⟨v, rfl, rfl, hs, hn⟩ := ppost_ok HT.out hp
    have HS := Lib.hid hs
    have HN := Lib.hid hn
    clear hs hn hp
    go_wp2_with fail
    go_ret
    exact ppost_of_ok HR.out rfl HS.out HN.out
  · have HR := Lib.hid (show nameP r = .bad b r1 from bnd_bad hr)
    have HT := Lib.hid hr
    clear hr
    go_enter Tryz.func60, Tryz.ntmps60
    go_wp2_with fail
    refine C.out.mono ?_
    intro e w1 hp
    obtain ⟨rfl, hn⟩ := ppost_bad HT.out hp
    exact ⟨rfl, ppost_of_bad HR.out hn⟩
set_option maxRecDepth 100000 in
set_option maxHeartbeats 4000000 in
theorem number_any {p : Ps} {r : List Tk} {lv : Int} (w : World) (h : Sta w p r lv) :
    Calls Tryz.prog 65 #[ptr p.g] w (PPost p lv w isInt (numP r)) := by
  have C := Lib.hid (take_any 2 (by decide) w h)
  rcases hr : takeP 2 r with ⟨t, r1⟩ | ⟨b, r1⟩
  · have HR := Lib.hid (show numP r = .ok t.n r1 from bnd_ok hr)
    have HT := Lib.hid hr
    clear hr
    have hf := field2
    go_enter Tryz.func65, Tryz.ntmps65
    go_wp2_with fail
    refine C.out.mono ?_
    intro e w1 hp
    obtain ⟨v, rfl, rfl, hs, hn⟩ := ppost_ok HT.out hp
    have HS := Lib.hid hs
    have HN := Lib.hid hn
    clear hs hn hp
    go_wp2_with fail
    go_ret
    exact ppost_of_ok HR.out rfl HS.out HN.out
  · have HR := Lib.hid (show numP r = .bad b r1 from bnd_bad hr)
    have HT := Lib.hid hr
    clear hr
    go_enter Tryz.func65, Tryz.ntmps65
    go_wp2_with fail
    refine C.out.mono ?_
    intro e w1 hp
    obtain ⟨rfl, hn⟩ := ppost_bad HT.out hp
    exact ⟨rfl, ppost_of_bad HR.out hn⟩
end Go.Proofs.YtcgkaecaddpenaaGreatDoor

/- The program's expect. -/
namespace Go.Proofs.YtcgkaecaddpenaaGreatDoor
open Go.RowKit
open L7 (Tk)
open L8

def expsP : List Txt → P Unit
  | [] => pure ()
  | w :: l => do
    let _ ← expP w
    expsP l
theorem exp_cases (x : Txt) (r : List Tk) : expP x r = .ok () r.tail ∨ expP x r = .bad false r := by
  unfold expP
  split
  · exact .inl rfl
  · exact .inr rfl
theorem exps_one (x : Txt) (r : List Tk) : expsP [x] r = expP x r := by
  rcases exp_cases x r with h | h
  · rw [h]
    exact bnd_ok h
  · rw [h]
    exact bnd_bad h
theorem exp_acc_yes {x : Txt} {r r1 : List Tk} (h : accP x r = .ok true r1) : expP x r = .ok () r1 := by
  unfold accP at h
  unfold expP
  split at h
  · rename_i q
    rw [if_pos q]
    cases h
    rfl
  · cases h
theorem exp_acc_no {x : Txt} {r r1 : List Tk} (h : accP x r = .ok false r1) : expP x r = .bad false r ∧ r1 = r := by
  unfold accP at h
  unfold expP
  split at h
  · cases h
  · rename_i q
    rw [if_neg q]
    cases h
    exact ⟨rfl, rfl⟩
theorem acc_ok (x : Txt) (r : List Tk) : ∃ c r1, accP x r = .ok c r1 := by
  unfold accP
  split
  · exact ⟨_, _, rfl⟩
  · exact ⟨_, _, rfl⟩
theorem near_below {g : Nat} {a b c : World} (h : Near g a b) (k : Below b.heap.size b c) : Near g a c := h.trans (Tch.of_below k)
/-- A list in memory that the parser does not touch. -/
theorem Strs.near {w w1 : World} {g : Nat} {v : Value} {l : List Txt} (h : Strs w v l) (hn : Near g w w1) (hg : ∀ b o c, v = .slice (some ⟨b, o, none⟩) l.length c → b ≠ g) : Strs w1 v l := by
  obtain ⟨A, cap, e, hc, hn0, f⟩ := h
  refine ⟨A, cap, e, hc, hn0, fun i hi => ?_⟩
  obtain ⟨b, off, h1, h2⟩ := f i hi
  exact ⟨b, off, h1, hn.cell h2 (hg b off cap (by rw [e, h1]))⟩
set_option maxRecDepth 100000 in
set_option maxHeartbeats 4000000 in
theorem expect_any {p : Ps} {r : List Tk} {lv : Int} (ws : List Txt) (hws : ∀ x ∈ ws, x ≠ []) (hl : ws.length ≤ 1000) (v : Value) (w : World) (hv : Strs w v ws) (hg : ∀ b o c, v = .slice (some ⟨b, o, none⟩) ws.length c → b ≠ p.g) (h : Sta w p r lv) :
    Calls Tryz.prog 61 #[ptr p.g, v] w (PPost p lv w isUnit (expsP ws r)) := by
  obtain ⟨R, hR⟩ : ∃ R, expsP ws r = R := ⟨_, rfl⟩
  rw [hR]
  obtain ⟨A, cap, rfl, hcap, hnil, hcell⟩ := hv
  have HV := Lib.hid (show Strs w (.slice A ws.length cap) ws from ⟨A, cap, rfl, hcap, hnil, hcell⟩)
  have HG := Lib.hid hg
  have HW := Lib.hid hws
  have HR := Lib.hid hR
  have HS := Lib.hid h
  clear hcell hnil hg hws hR h
  go_enter Tryz.func61, Tryz.ntmps61
  go_wp2_with fail
  go_loopw [8] (fun i wr => ∃ (k : Nat) (rk : List Tk), k ≤ ws.length ∧ i = .int .i64 (k : Int) ∧ expsP (ws.drop k) rk = R ∧ Sta wr p rk lv ∧ Near p.g w wr) (fun i _ => ws.length - (intOf i).toNat)
  case atStart => exact ⟨0, r, by omega, rfl, HR.out, HS.out, Tch.refl _ _⟩
  case round =>
    obtain ⟨k, rk, hk, rfl, hrk, hsk, hnk⟩ := hrel
    have HK := Lib.hid hrk
    have HSk := Lib.hid hsk
    have HNk := Lib.hid hnk
    clear hrk hsk hnk
    by_cases hlt : k < ws.length
    · have i1 : (k : Int) < (ws.length : Int) := by omega
      obtain ⟨x, hx⟩ : ∃ x, ws[k] = x := ⟨_, rfl⟩
      have hx0 : x ≠ [] := by rw [← hx]; exact HW.out _ (List.getElem_mem hlt)
      obtain ⟨b, off, rfl, hc⟩ : ∃ b off, A = some ⟨b, off, none⟩ ∧ wr.cell? ⟨b, off + k, none⟩ = some (str x) := by
        have hV := HV.out.near HNk.out HG.out
        obtain ⟨A', cap', e, _, _, f⟩ := hV
        injection e with e1 e2 e3
        subst e1 e3
        obtain ⟨b, off, h1, h2⟩ := f k hlt
        rw [hx] at h2
        exact ⟨b, off, h1, h2⟩
      have HD := Lib.hid (show ws.drop k = x :: ws.drop (k + 1) by rw [List.drop_eq_getElem_cons hlt, hx])
      have C := Lib.hid (fun W (q : Sta W p rk lv) => accept_any x hx0 W q)
      obtain ⟨c, r1, hc1⟩ := acc_ok x rk
      rw [hc1] at C
      have hst := HK.out
      rw [HD.out] at hst
      clear hx hx0
      cases c
      · obtain ⟨he, hr1⟩ := exp_acc_no hc1
        have HC := Lib.hid (show R = .bad false rk from by rw [← hst]; exact bnd_bad he)
        subst hr1
        have F := Lib.hid (fun W (q : Sta W p r1 lv) => fail_post (V := isUnit) false HC.out W q)
        clear hst hc1 he
        go_wp2_with fail
        refine (C.out _ HSk.out).mono ?_
        intro e w1 hp
        obtain ⟨v1, rfl, rfl, hs1, hn1⟩ := ppost_ok rfl hp
        have HS1 := Lib.hid hs1
        have HN1 := Lib.hid hn1
        clear hp hs1 hn1
        go_wp2_with fail
        refine (F.out _ HS1.out).mono ?_
        intro e w2 hp
        obtain ⟨rfl, hn2⟩ := ppost_bad HC.out hp
        exact ⟨rfl, ppost_of_bad HC.out ((HNk.out.trans HN1.out).trans hn2)⟩
      · have he := exp_acc_yes hc1
        have HC := Lib.hid (show expsP (ws.drop (k + 1)) r1 = R from by rw [← hst]; exact (bnd_ok (q := fun _ => expsP (ws.drop (k + 1))) he).symm)
        clear hst hc1 he
        go_wp2_with fail
        refine (C.out _ HSk.out).mono ?_
        intro e w1 hp
        obtain ⟨v1, rfl, rfl, hs1, hn1⟩ := ppost_ok rfl hp
        have HS1 := Lib.hid hs1
        have HN1 := Lib.hid hn1
        clear hp hs1 hn1
        go_wp2_with fail
        go_roundw
        case rel => exact ⟨k + 1, r1, by omega, by go_num, HC.out, HS1.out, HNk.out.trans HN1.out⟩
        case measure => simp [intOf]; omega
    · have i1 : ¬ (k : Int) < (ws.length : Int) := by omega
      have HD := Lib.hid (show R = .ok () rk from by have q := HK.out; rw [List.drop_eq_nil_of_le (by omega)] at q; exact q.symm)
      go_wp2_with fail
      exact bodyPost_ret (v := .tuple #[]) (by simp [results, Tryz.results61, go_sem]) rfl (ppost_of_ok HD.out rfl HSk.out HNk.out)
/-- expect, one word. -/
theorem one_strs {w : World} {b : Nat} {x : Txt} (h : w.cell? ⟨b, 0, none⟩ = some (str x)) : Strs w (.slice (some ⟨b, 0, none⟩) 1 1) [x] :=
  ⟨some ⟨b, 0, none⟩, 1, rfl, Nat.le_refl _, (fun e => by cases e), fun i hi => ⟨b, 0, rfl, by
    obtain rfl : i = 0 := by simpa using hi
    exact h⟩⟩
theorem two_strs {w : World} {b : Nat} {x y : Txt} (h : w.cell? ⟨b, 0, none⟩ = some (str x)) (h2 : w.cell? ⟨b, 1, none⟩ = some (str y)) : Strs w (.slice (some ⟨b, 0, none⟩) 2 2) [x, y] :=
  ⟨some ⟨b, 0, none⟩, 2, rfl, Nat.le_refl _, (fun e => by cases e), fun i hi => ⟨b, 0, rfl, by
    rcases (by simp at hi; omega : i = 0 ∨ i = 1) with rfl | rfl
    · exact h
    · exact h2⟩⟩
theorem Sta.lt {w : World} {p : Ps} {r : List Tk} {lv : Int} (h : Sta w p r lv) : p.g < w.heap.size := by
  obtain ⟨off, cap, h⟩ := h
  exact cellLt h.c0
/-- expect at a slice that is made just before. -/
theorem expect_one {p : Ps} {r : List Tk} {lv : Int} (x : Txt) (hx : x ≠ []) (w : World) (T : TypeId) (c : Nat) (hc : w.heap.size = c) (h : Sta w p r lv) :
    Calls Tryz.prog 61 #[ptr p.g, .slice (some ⟨c, 0, none⟩) 1 1] (w.alloc (.cells #[str x] T)) (PPost p lv w isUnit (expP x r)) := by
  subst hc
  rw [← exps_one]
  refine (expect_any [x] (by simpa using hx) (by simp) _ _ (one_strs (by simp [go_sem])) (fun b o c e => ?_) (h.keep (below_box w _))).mono ?_
  · have := h.lt
    simp at e
    omega
  · intro e w' hp
    exact ppost_up hp (Tch.of_below (below_box _ _))
theorem expect_two {p : Ps} {r : List Tk} {lv : Int} (x y : Txt) (hx : x ≠ []) (hy : y ≠ []) (w : World) (T : TypeId) (c : Nat) (hc : w.heap.size = c) (h : Sta w p r lv) :
    Calls Tryz.prog 61 #[ptr p.g, .slice (some ⟨c, 0, none⟩) 2 2] (w.alloc (.cells #[str x, str y] T)) (PPost p lv w isUnit (expsP [x, y] r)) := by
  subst hc
  refine (expect_any [x, y] (by simpa using ⟨hx, hy⟩) (by simp) _ _ (two_strs (by simp [go_sem]) (by simp [go_sem])) (fun b o c e => ?_) (h.keep (below_box w _))).mono ?_
  · have := h.lt
    simp at e
    omega
  · intro e w' hp
    exact ppost_up hp (Tch.of_below (below_box _ _))
end Go.Proofs.YtcgkaecaddpenaaGreatDoor

