/- The contracts of isTable and Valid. -/
import Derived.Test.YteokcgfbhaeklaaGreatDoorScSort
import Derived.Test.YteokcgfbhaeklaaGreatDoorPFit
namespace Go.Proofs.YteokcgfbhaeklaaGreatDoor
open Go.RowKit

theorem namesT_len (l : List AttrT) (hl : l.length ≤ 24) (hw : ∀ a ∈ l, a.was.length ≤ 24) : (namesT l).length ≤ 600 := by
  have : ∀ l : List AttrT, (∀ a ∈ l, a.was.length ≤ 24) → (namesT l).length ≤ l.length * 25 := by
    intro l
    induction l with
    | nil => intro _; simp [namesT]
    | cons a l ih =>
      intro h
      have h1 := ih (fun x hx => h x (List.mem_cons_of_mem _ hx))
      have h2 := h a (List.mem_cons_self ..)
      unfold namesT at h1 ⊢
      rw [List.flatMap_cons, List.length_append, List.length_cons, List.length_cons, Nat.succ_mul]
      omega
  have := this l hw
  omega
theorem namesT_take {l : List AttrT} {k : Nat} (hk : k < l.length) : namesT (l.take (k + 1)) = namesT (l.take k) ++ (l[k].name :: l[k].was) := by
  unfold namesT
  rw [List.take_succ_eq_append_getElem hk, List.flatMap_append]
  simp
theorem tabB_len {t : TabT} (h : ¬ (1 ≤ t.attrs.length ∧ t.attrs.length ≤ 12)) : tabB t = false := by unfold tabB; rw [decide_eq_false h]; rfl
theorem tabB_typed {t : TabT} {k : Nat} (hk : k < t.attrs.length) (h : typedB t.attrs[k].kind t.attrs[k].dft = false) : tabB t = false := by
  have : t.attrs.all (fun a => typedB a.kind a.dft) = false := by
    rw [List.all_eq_false]
    exact ⟨_, List.getElem_mem hk, by simpa using h⟩
  unfold tabB
  rw [this]
  simp
theorem tabB_rest {t : TabT} (h1 : 1 ≤ t.attrs.length ∧ t.attrs.length ≤ 12) (h2 : ∀ k (hk : k < t.attrs.length), typedB t.attrs[k].kind t.attrs[k].dft = true) : tabB t = (namesB (namesT t.attrs) && keyB t.key t.attrs.length) := by
  have : t.attrs.all (fun a => typedB a.kind a.dft) = true := by
    rw [List.all_eq_true]
    intro x hx
    obtain ⟨k, hk, rfl⟩ := List.getElem_of_mem hx
    exact h2 k hk
  unfold tabB
  rw [decide_eq_true h1, this]
  rfl
/-- The first k attributes have a kind and a default that fits. -/
def Typed (l : List AttrT) (k : Nat) : Prop := ∀ j (_ : j < k) (hl : j < l.length), typedB l[j].kind l[j].dft = true
theorem typed_succ {l : List AttrT} {k : Nat} (h : Typed l k) (hk : k < l.length) (h1 : typedB l[k].kind l[k].dft = true) : Typed l (k + 1) := fun j hj hl => by
  by_cases e : j = k
  · subst e; exact h1
  · exact h j (by omega) hl

theorem Src.drew {w : World} {B : Option Addr} {m c size : Nat} {news : List Value} (h : Src w B m c size news) : Src w.drew B m c size news := h.keep fun _ _ _ _ hc => hc
theorem src_new (w : World) (x : Value) (t : TypeId) (h : x.oneCell' = true) : Src (w.alloc (.cells #[x] t)) (some ⟨w.heap.size, 0, none⟩) 1 1 1 [x] :=
  ⟨rfl, Nat.le_refl _, (fun e => by cases e), fun ad e j u hj => by cases e; exact cell_one_new w x t j u hj, fun u hu => by simp at hu; subst hu; exact h⟩
set_option maxRecDepth 100000 in
set_option maxHeartbeats 4000000 in
theorem isTable_any (t : TabT) (va vk : Value) (hw : ∀ a ∈ t.attrs, a.was.length ≤ 24) (hkl : t.key.length ≤ 24) (w : World) (ha : Attrs w va t.attrs) (hk : Ints w vk t.key) :
    Calls Tryz.prog 36 #[.agg #[str t.name, va, vk]] w (BoolPost w (tabB t)) := by
  obtain ⟨A, cap, rfl, hcap⟩ := ha.form
  have HA := Lib.hid ha
  have HK := Lib.hid hk
  have HW := Lib.hid hw
  clear ha hk hw
  obtain ⟨n, hn⟩ : ∃ n, t.name = n := ⟨_, rfl⟩
  rw [hn]
  clear hn
  by_cases h1 : t.attrs.length < 1
  · have HF := Lib.hid (tabB_len (t := t) (by omega))
    go_enter Tryz.func36, Tryz.ntmps36
    go_wp2_with fail
    go_ret
    exact ⟨bool_ret HF.out.symm, below_box w _⟩
  · by_cases h2 : 12 < t.attrs.length
    · have HF := Lib.hid (tabB_len (t := t) (by omega))
      go_enter Tryz.func36, Tryz.ntmps36
      go_wp2_with fail
      go_ret
      exact ⟨bool_ret HF.out.symm, below_box w _⟩
    · have HL : Hid (1 ≤ t.attrs.length ∧ t.attrs.length ≤ 12) := Lib.hid ⟨by omega, by omega⟩
      go_enter Tryz.func36, Tryz.ntmps36
      go_wp2_with fail
      go_loopw [3, 19] (fun v i wr => ∃ k : Nat, k ≤ t.attrs.length ∧ i = .int .i64 (k : Int) ∧ OwnS wr (w.heap.size + 1) v (namesT (t.attrs.take k)) ∧ Typed t.attrs k ∧ Below (w.heap.size + 1) (w.alloc (.cells #[str n, .slice A t.attrs.length cap, vk] 44)) wr) (fun _ i _ => t.attrs.length - (intOf i).toNat)
      case atStart => exact ⟨0, by omega, by simp, World.ownsRow_nil _ _ _ _, fun j hj => by omega, Below.refl _ _⟩
      case round =>
        obtain ⟨v, rfl⟩ : ∃ v, v = u3 := ⟨_, rfl⟩
        obtain ⟨k, hk, rfl, hown, hty, hb⟩ := hrel
        have HO := Lib.hid hown
        have HT := Lib.hid hty
        have HB := Lib.hid hb
        have hsz : w.heap.size + 1 ≤ wr.heap.size := by have := hb.size; simpa using this
        have e1 : wr.cell? ⟨w.heap.size, 1, none⟩ = some (.slice A t.attrs.length cap) := (hb.cell (p := ⟨w.heap.size, 1, none⟩) (by simp)).trans (by simp [go_sem])
        have e2 : wr.cell? ⟨w.heap.size, 2, none⟩ = some vk := (hb.cell (p := ⟨w.heap.size, 2, none⟩) (by simp)).trans (by simp [go_sem])
        have HB2 := Lib.hid (show Below w.heap.size w wr from below_up (below_box w _) hb (by simp))
        clear hown hty hb
        by_cases hlt : k < t.attrs.length
        · obtain ⟨_, _, b, off, rfl, hcell⟩ := Slc.spot HA.out (by omega)
          obtain ⟨a, hx⟩ : ∃ a, t.attrs[k] = a := ⟨_, rfl⟩
          have hk1 := hcell k hlt
          rw [hx] at hk1
          obtain ⟨wv, hat, hws⟩ := hk1
          obtain ⟨Aw, cw, rfl, _⟩ : ∃ A cap, wv = .slice A a.was.length cap ∧ a.was.length ≤ cap := by
            obtain ⟨A, cap, e, hc, _⟩ := hws
            exact ⟨A, cap, e, hc⟩
          have hat2 := hat.below HB2.out
          have HWS := Lib.hid hws
          have c0 := hat2.c0; have c1 := hat2.c1; have c2 := hat2.c2; have c3 := hat2.c3; have c4 := hat2.c4; have c5 := hat2.c5
          have HX := Lib.hid hx
          have i1 : (0 : Int) ≤ (k : Int) := by omega
          have i2 : (k : Int) < (t.attrs.length : Int) := by omega
          clear hx hcell hat hat2 hws
          obtain ⟨r, hr⟩ : ∃ r, typedB a.kind a.dft = r := ⟨_, rfl⟩
          have C := fun W => typed_any a.kind a.dft W
          rw [hr] at C
          replace C := Lib.hid C
          have HR := Lib.hid hr
          clear hr
          go_wp2_with fail
          refine (C.out _).mono ?_
          rintro e w1 ⟨rfl, hb1⟩
          have HB3 := Lib.hid (below_up (below_box wr _) hb1 (by simp))
          have a0 : w1.cell? ⟨wr.heap.size, 0, none⟩ = some (str a.name) := cellB hb1 (by simp [go_sem])
          have a2 : w1.cell? ⟨wr.heap.size, 2, none⟩ = some (.slice Aw a.was.length cw) := cellB hb1 (by simp [go_sem])
          have hs1 : wr.heap.size + 1 ≤ w1.heap.size := by have := hb1.size; simpa using this
          have HO1 := Lib.hid (HO.out.kept (grown_of_below HB3.out none) (by
            rcases HO.out.2 with ⟨h, _⟩ | ⟨g, _, _, h, _⟩
            · rw [h]; exact Or.inl rfl
            · rw [h]; exact Or.inr (by simp [Value.ownBlock])))
          have HBT := Lib.hid (HB.out.trans (HB3.out.mono hsz))
          clear hb1 C c0 c1 c2 c3 c4 c5
          cases r
          · have HF := Lib.hid (tabB_typed (t := t) hlt (by rw [HX.out]; exact HR.out))
            go_wp2_with fail
            go_ret
            exact ⟨bool_ret HF.out.symm, HB2.out.trans (HB3.out.mono HB2.out.size)⟩
          · have HT2 := Lib.hid (typed_succ HT.out hlt (by rw [HX.out]; exact HR.out))
            have HNT := Lib.hid (namesT_take hlt)
            have HNL := Lib.hid (namesT_len (t.attrs.take (k + 1)) (by simp; omega) (fun x hx => HW.out x (List.mem_of_mem_take hx)))
            have HNE : Hid (some wr.heap.size ≠ v.ownBlock) := Lib.hid (fun e => by
              have := (HO.out.lt _ e.symm).2
              omega)
            have NE : Hid (∀ v1 : Value, (v1.ownBlock = v.ownBlock ∨ v1.ownBlock = some ((w1.alloc (.cells #[str a.name] 9)).drew).heap.size) → some wr.heap.size ≠ v1.ownBlock) := Lib.hid (fun v1 h e => by
              rcases h with h | h
              · exact HNE.out (e.trans h)
              · rw [h] at e
                have := Option.some.inj e
                simp at this
                omega)
            have BB : Hid (∀ W1, ((w1.alloc (.cells #[str a.name] 9)).drew).grownBy W1 v.ownBlock → Below (w.heap.size + 1) w1 W1) := Lib.hid (fun W1 g =>
              ((((Below.refl _ w1).alloc (by omega) _).trans (below_drewN _ _ 1)).grown g (by simp; omega) (fun k hk => (HO.out.lt k hk).1)))
            have BW : Hid (∀ W1, ((w1.alloc (.cells #[str a.name] 9)).drew).grownBy W1 v.ownBlock → Below w.heap.size w W1) := Lib.hid (fun W1 g =>
              (HB2.out.trans (HB3.out.mono HB2.out.size)).trans ((BB.out W1 g).mono (by omega)))
            have BS : Hid (∀ W1, ((w1.alloc (.cells #[str a.name] 9)).drew).grownBy W1 v.ownBlock → w.heap.size + 1 ≤ W1.heap.size) := Lib.hid (fun W1 g => by
              have := (BB.out W1 g).size
              omega)
            have n1 : (namesT (t.attrs.take k)).length + 1 ≤ 100000 := by have := HNL.out; rw [HNT.out, List.length_append] at this; omega
            have n2 : ((namesT (t.attrs.take k)).length + 1) + a.was.length ≤ 100000 := by have := HNL.out; rw [HNT.out, HX.out, List.length_append, List.length_cons] at this; omega
            go_wp2_with fail
            go_region_held3 (fun w' => w'.cell? ⟨wr.heap.size, 0, none⟩ = some (str a.name) ∧ w'.cell? ⟨wr.heap.size, 2, none⟩ = some (.slice Aw a.was.length cw)) (go_keep)
              (first
                | (refine step_app elemStr rfl (.tmp 29) (.tmp 32) rfl (base := w.heap.size + 1) (by rfl) (HO1.out.alloc _) (by rfl) (src_new w1 _ _ rfl).drew n1 (by simp; omega) ?_; intro v1 W1 hown1 hg1 hat1; have x0 : W1.cell? ⟨wr.heap.size, 0, none⟩ = some (str a.name) := hg1.cell (a := ⟨wr.heap.size, 0, none⟩) (by simpa [go_sem] using Cell.alloc a0 _) HNE.out; have x2 : W1.cell? ⟨wr.heap.size, 2, none⟩ = some (.slice Aw a.was.length cw) := hg1.cell (a := ⟨wr.heap.size, 2, none⟩) (by simpa [go_sem] using Cell.alloc a2 _) HNE.out; have g1 := Lib.hid hg1; have o1 := Lib.hid hown1; have t1 := Lib.hid hat1; clear hown1 hg1 hat1)
                | (refine step_app elemStr rfl (.tmp 33) (.tmp 35) rfl (base := w.heap.size + 1) (by rfl) o1.out (by rfl) (src_strs (HWS.out.below (BW.out _ g1.out))).2 n2 (BS.out _ g1.out) ?_; intro v2 W2 hown2 hg2 hat2; have y0 : W2.cell? ⟨wr.heap.size, 0, none⟩ = some (str a.name) := hg2.cell (a := ⟨wr.heap.size, 0, none⟩) x0 (NE.out _ t1.out); have y2 : W2.cell? ⟨wr.heap.size, 2, none⟩ = some (.slice Aw a.was.length cw) := hg2.cell (a := ⟨wr.heap.size, 2, none⟩) x2 (NE.out _ t1.out); clear x0 x2))
            have HO2 : Hid (OwnS W2 (w.heap.size + 1) v2 (namesT (t.attrs.take (k + 1)))) := Lib.hid (by
              unfold OwnS
              rw [HNT.out, HX.out]
              have := hown2
              rw [show (namesT (t.attrs.take k)).length + 1 + a.was.length = (namesT (t.attrs.take k)).length + (a.was.length + 1) by omega] at this
              simpa [List.append_assoc] using this)
            have HB4 : Hid (Below (w.heap.size + 1) w1 W2) := Lib.hid ((BB.out W1 g1.out).grown hg2 (BS.out _ g1.out) (fun k hk => (o1.out.lt k hk).1))
            clear hown2 hg2 hat2 y0 y2
            go_wp2_with fail
            go_roundw
            case rel => exact ⟨k + 1, by omega, by simp, HO2.out, HT2.out, HBT.out.trans HB4.out⟩
            case measure => simp [intOf]; omega
        · have hkk : t.attrs.take k = t.attrs := List.take_of_length_le (by omega)
          have HO2 := Lib.hid (show OwnS wr (w.heap.size + 1) v (namesT t.attrs) by have := HO.out; rwa [hkk] at this)
          have HL2 := Lib.hid (namesT_len t.attrs (by omega) HW.out)
          have HF := Lib.hid (tabB_rest (t := t) HL.out (fun j hj => HT.out j (by omega) hj))
          have C := fun W (h : wr = W) => areNames_any (namesT t.attrs) v (w.heap.size + 1) (by have := HL2.out; omega) W (by rw [← h]; exact hsz) (by rw [← h]; exact HO2.out)
          obtain ⟨r, hr⟩ : ∃ r, namesB (namesT t.attrs) = r := ⟨_, rfl⟩
          rw [hr] at C
          rw [hr] at HF
          replace C := Lib.hid C
          clear hr hkk
          cases r
          · go_wp2_with fail
            refine (C.out _ rfl).mono ?_
            rintro e w1 ⟨rfl, hb1⟩
            have HB4 := Lib.hid (HB2.out.trans (hb1.mono (by omega)))
            clear hb1
            go_wp2_with fail
            go_ret
            exact ⟨bool_ret HF.out.symm, HB4.out⟩
          · go_wp2_with fail
            refine (C.out _ rfl).mono ?_
            rintro e w1 ⟨rfl, hb1⟩
            have HB4 := Lib.hid (HB2.out.trans (hb1.mono (by omega)))
            have d1 : w1.cell? ⟨w.heap.size, 1, none⟩ = some (.slice A t.attrs.length cap) := (hb1.cell (p := ⟨w.heap.size, 1, none⟩) (by simp)).trans e1
            have d2 : w1.cell? ⟨w.heap.size, 2, none⟩ = some vk := (hb1.cell (p := ⟨w.heap.size, 2, none⟩) (by simp)).trans e2
            clear hb1 e1 e2
            go_wp2_with fail
            refine (isKey_any t.key t.attrs.length vk (by omega) _ (HK.out.below HB4.out)).mono ?_
            rintro e w2 ⟨rfl, hb2⟩
            have HB5 := Lib.hid (HB4.out.trans (hb2.mono HB4.out.size))
            clear hb2 d1 d2
            go_wp2_with fail
            go_ret
            exact ⟨bool_ret HF.out.symm, HB5.out⟩
end Go.Proofs.YteokcgfbhaeklaaGreatDoor
