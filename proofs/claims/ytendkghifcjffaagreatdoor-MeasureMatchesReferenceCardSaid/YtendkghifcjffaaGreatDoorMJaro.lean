/- The contracts of matched and differences. -/
import Derived.Test.YtendkghifcjffaaGreatDoorMShare
import Derived.Test.YtendkghifcjffaaGreatDoorJQMath
import Derived.Laws.OwnMore
import Derived.OwnWalk
namespace Go.Proofs.YtendkghifcjffaaGreatDoor
open Go.RowKit

theorem max_if (a b : Int) : (if a < b then b else a) = max a b := by split <;> omega
theorem run_max2 {P : Program} (ts : Array TypeId) (t : TypeId) (a b : Int) (w : World) :
    (Builtin.max_ ts t #[.int .i64 a, .int .i64 b]).run P w = .ok (.int .i64 (max a b)) w := by
  simp [Builtin.max_, Builtin.max2, max_if]
abbrev OwnY (w : World) (base : Nat) (v : Value) (l : List UInt8) : Prop := w.ownsRow base 5 1 v l.length (bys l)
theorem ownY_below {w w1 : World} {base B : Nat} {v : Value} {l : List UInt8} (h : OwnY w base v l) (hB : w.heap.size ≤ B) (hb : Below B w w1) : OwnY w1 base v l :=
  h.kept ⟨hb.os, hb.tape, hb.output, hb.size, fun k hk _ => hb.block k (by omega)⟩ (by
    cases e : v.ownBlock with
    | none => exact Or.inl rfl
    | some k => exact Or.inr (by intro q; cases q) : v.ownBlock = none ∨ v.ownBlock ≠ (none : Option Nat))
theorem bools_own {w w1 : World} {base g : Nat} {v : Value} {l : List UInt8} {T : List Bool} (hB : Bools w g T) (h : OwnY w base v l) (hg : g < base) (hgr : w.grownBy w1 v.ownBlock) : Bools w1 g T := by
  refine (hgr.block g (Array.getElem?_eq_some_iff.1 hB).1 (fun e => ?_)).trans hB
  have := (h.lt g e.symm).1
  omega
theorem bools_alloc {w : World} {g : Nat} {T : List Bool} (h : Bools w g T) (o : Obj) : Bools (w.alloc o) g T := h.below ((Below.refl _ _).alloc (Nat.le_refl _) _)
theorem bools_drew {w : World} {g : Nat} {T : List Bool} (h : Bools w g T) : Bools w.drew g T := h.below (Below.refl _ _).drew
theorem own_one {w1 : World} {B : Nat} {v' : Value} {a : List UInt8} {c : UInt8} (h : w1.ownsRow B 5 1 v' (a.length + 1) (bys a ++ [.int .u8 (c.toNat : Int)])) : OwnY w1 B v' (a ++ [c]) := by
  show w1.ownsRow B 5 1 v' (a ++ [c]).length (bys (a ++ [c]))
  rw [bys_app, List.length_append]
  exact h
theorem below_app {B C T : Nat} {w wr w1 : World} {o : Obj} {v : Value} {n : Nat} {xs : List Value} (hb : Below B w wr) (hB : B ≤ wr.heap.size) (hBC : B ≤ C) (hown : wr.ownsRow C T 1 v n xs) (hg : (wr.alloc o).grownBy w1 v.ownBlock) : Below B w w1 :=
  (hb.alloc hB o).grown hg (by simp; omega) (fun j hj => Nat.le_trans hBC (hown.lt j hj).1)
theorem ownY_app {C D : Nat} {wr w1 : World} {o : Obj} {u v : Value} {l m : List UInt8} (h : OwnY wr C u l) (hlt : ∀ j, u.ownBlock = some j → j < D) (hv : OwnY wr D v m) (hg : (wr.alloc o).grownBy w1 v.ownBlock) : OwnY w1 C u l := by
  refine World.ownsRow.kept (h.alloc o) hg ?_
  cases e : u.ownBlock with
  | none => exact Or.inl rfl
  | some j =>
    refine Or.inr (fun q => ?_)
    have h1 := hlt j e
    have h2 := (hv.lt j q.symm).1
    omega
theorem own_low {w : World} {B C : Nat} {v : Value} {l : List UInt8} (h : OwnY w C v l) (hB : B ≤ C) : OwnY w B v l := by
  obtain ⟨h1, h2⟩ := h
  refine ⟨h1, h2.imp id ?_⟩
  rintro ⟨g, cap, cur, e, hg, r⟩
  exact ⟨g, cap, cur, e, Nat.le_trans hB hg, r⟩
theorem jw_eq (a b : List UInt8) {n : Nat} (h : max a.length b.length = n) : max (0 : Int) ((n : Int) / 2 - 1) = (jw a b : Int) := by
  unfold jw
  rw [h]
  omega

set_option maxRecDepth 100000 in
set_option maxHeartbeats 1600000 in
theorem matched_any (a b : List UInt8) (ha : a.length ≤ 200) (hb : b.length ≤ 200) (w : World) :
    Calls Tryz.prog 39 #[str a, str b] w fun e w' => ∃ u v, e = .returned (.tuple #[u, v]) ∧ OwnY w' w.heap.size u (IA a b (jw a b) a.length) ∧ OwnY w' w.heap.size v (IB a b (jw a b)) ∧ Below w.heap.size w w' := by
  obtain ⟨i0, hi, hz0, hz1, hz2⟩ := info_parts infoBool
  obtain ⟨n, hn⟩ : ∃ n, max a.length b.length = n := ⟨_, rfl⟩
  have hm1 : max (a.length : Int) (b.length : Int) = (n : Int) := by omega
  have hn2 : (n : Int) ≤ 200 := by omega
  have hm2 := jw_eq a b hn
  obtain ⟨k, hk⟩ : ∃ k, jw a b = k := ⟨_, rfl⟩
  rw [hk] at hm2 ⊢
  have HA := Lib.hid ha
  have HBb := Lib.hid hb
  have hk2 : (k : Int) ≤ 200 := by rw [← hm2]; omega
  clear hn hk ha hb
  have mx := fun (x y : Int) (W : World) => run_max2 (P := Tryz.prog) #[3, 3] 3 x y W
  go_enter Tryz.func39, Tryz.ntmps39
  go_wp2_with (at_make; refine wpList_make_full _ rfl _ _ 69 rfl w.heap.size 4 i0 (.bool false) 1 Tryz.underlying69 hi hz0 hz1 .i64 .i64 _ _ b.length rfl rfl rfl rfl (by rw [hz2]; have := HBb.out; omega) (by have := HBb.out; unfold maxLen; omega) (Nat.le_refl _) ?_)
  intro w1 hown hg1
  have HO := Lib.hid (bools_made hown).1
  have HC := Lib.hid ((Below.refl w.heap.size w).grown hg1 (Nat.le_refl _) (fun k e => by cases e))
  have HZ : Hid (w.heap.size < w1.heap.size) := Lib.hid (Array.getElem?_eq_some_iff.1 HO.out).1
  clear hown hg1 hi hz0 hz1 hz2
  obtain ⟨g, hgg⟩ : ∃ g, w.heap.size = g := ⟨_, rfl⟩
  have HG := Lib.hid hgg
  rw [hgg] at HO HC HZ ⊢
  clear hgg
  obtain ⟨b1, hb1⟩ : ∃ b1, w1.heap.size = b1 := ⟨_, rfl⟩
  rw [hb1] at HZ
  have HB1 := Lib.hid hb1
  clear hb1
  go_wp2_with fail
  obtain ⟨i1, hi1, hy0, hy1, hy2⟩ := info_parts infoByte
  go_loopw [4, 25] (fun u x wr => ∃ i : Nat, x = .int .i64 (i : Int) ∧ i ≤ a.length ∧ OwnY wr b1 u (IA a b k i) ∧ Bools wr g (tk a b k i) ∧ Below g w wr ∧ b1 ≤ wr.heap.size) (fun _ x _ => a.length + 1 - (intOf x).toNat)
  case atStart => exact ⟨0, by simp, by omega, World.ownsRow_nil _ _ _ _, HO.out, HC.out, Nat.le_of_eq HB1.out.symm⟩
  case round =>
    clear HO HC HB1
    obtain ⟨i, rfl, hi, hown, ho, hbr, hsz⟩ := hrel
    have HU := Lib.hid hown
    have HO := Lib.hid ho
    have HR := Lib.hid hbr
    have HS := Lib.hid hsz
    clear hown ho hbr hsz
    have hA := HA.out
    have hi2 : (i : Int) ≤ 200 := by omega
    by_cases hlt : i < a.length
    · have hm3 : max (0 : Int) ((i : Int) - (k : Int)) = ((i - k : Nat) : Int) := by omega
      obtain ⟨c, hc⟩ : ∃ c, a[i] = c := ⟨_, rfl⟩
      have ec : ∀ h, (⟨a.toArray⟩ : ByteArray)[i]'h = c := fun _ => hc
      have HH := Lib.hid (show hitA a b k i = hit b k i c (tk a b k i) by rw [hitA_at hlt, hc])
      have HSel := Lib.hid (fun (h : (hitA a b k i).isSome = true) => show IA a b k (i + 1) = IA a b k i ++ [c] from by unfold IA; rw [selTo_yes hlt h, hc])
      have HSelN := Lib.hid (fun (h : hitA a b k i = none) => show IA a b k (i + 1) = IA a b k i from by unfold IA; rw [selTo_no (by unfold fa; rw [h]; rfl)])
      have HTK := Lib.hid (tk_succ a b k i)
      have HL := Lib.hid (tk_len a b k i)
      have HIL : Hid ((IA a b k i).length ≤ 200) := Lib.hid (Nat.le_trans (selTo_len _ _ _) (by omega))
      obtain ⟨T, hT⟩ : ∃ T, tk a b k i = T := ⟨_, rfl⟩
      rw [hT] at HO HH HTK HL
      obtain ⟨I, hI⟩ : ∃ I, IA a b k i = I := ⟨_, rfl⟩
      rw [hI] at HU HSel HSelN HIL
      have hBb := HBb.out
      clear hc hT hI
      go_wp2_with fail
      obtain ⟨u0, hu0⟩ : ∃ u0, u4 = u0 := ⟨_, rfl⟩
      rw [hu0] at HU ⊢
      clear hu0
      obtain ⟨wo, rfl⟩ : ∃ wo, wo = wr := ⟨_, rfl⟩
      go_loopw [4, 9] (fun u x wr => ∃ j : Nat, x = .int .i64 (j : Int) ∧ u0 = u ∧ i - k ≤ j ∧ j ≤ 402 ∧ (∀ y < j, mayHit b k i c T y = false) ∧ OwnY wr b1 u0 I ∧ Bools wr g T ∧ Below g w wr ∧ b1 ≤ wr.heap.size) (fun _ x _ => 500 - (intOf x).toNat)
      case atStart =>
        refine ⟨i - k, rfl, rfl, Nat.le_refl _, by omega, fun y hy => ?_, HU.out, HO.out, HR.out, HS.out⟩
        cases e : mayHit b k i c T y with
        | false => rfl
        | true =>
          have := (mayHit_iff.1 e).2.2.1
          omega
      case round =>
        clear HU HO HR HS
        obtain ⟨j, rfl, rfl, hj0, hj1, hno, hown, ho, hbr, hsz⟩ := hrel
        have HU := Lib.hid hown
        have HO := Lib.hid ho
        have HR := Lib.hid hbr
        have HS := Lib.hid hsz
        have HN := Lib.hid hno
        clear hown ho hbr hsz hno
        have hj2 : (j : Int) ≤ 402 := by omega
        have hj3 : 0 ≤ (j : Int) := by omega
        by_cases hjl : j < b.length
        · by_cases hjw : j ≤ i + k
          · obtain ⟨d, hd⟩ : ∃ d, b[j] = d := ⟨_, rfl⟩
            have ed : ∀ h, (⟨b.toArray⟩ : ByteArray)[j]'h = d := fun _ => hd
            have HD : Hid (b[j]? = some d) := Lib.hid (by rw [List.getElem?_eq_getElem hjl, hd])
            have c0 := HO.out.cell (k := j) (by rw [HL.out]; exact hjl)
            have f0 := HO.out.free j
            obtain ⟨tb, htb⟩ : ∃ tb, T[j]'(by rw [HL.out]; exact hjl) = tb := ⟨_, rfl⟩
            rw [htb] at c0
            have HTB : Hid (T[j]? = some tb) := Lib.hid (by rw [List.getElem?_eq_getElem (by rw [HL.out]; exact hjl), htb])
            clear hd htb
            have HMH := Lib.hid (@mayHit_iff b k i c T j)
            rw [HTB.out, HD.out] at HMH
            cases tb
            · by_cases hcd : c = d
              · subst hcd
                have HIT : Hid (hitA a b k i = some j) := Lib.hid (by rw [HH.out]; exact hit_some hjl (HMH.out.2 ⟨rfl, rfl, by omega, hjw⟩) HN.out)
                have HSet := Lib.hid (HO.out.set j)
                have HN1 := Lib.hid (HSel.out (by rw [HIT.out]; rfl))
                have HN2 : Hid (tk a b k (i + 1) = T.set j true) := Lib.hid (by rw [HTK.out, HIT.out]; rfl)
                have HU5 := Lib.hid (fun m => show OwnY ((wr.drewN m).setCell ⟨g, j, none⟩ (.bool true)) b1 u0 I from ownsRow_setCell_below (w := wr.drewN m) HU.out (a := ⟨g, j, none⟩) HZ.out (.bool true))
                have HO5 := Lib.hid (fun m => show Bools ((wr.drewN m).setCell ⟨g, j, none⟩ (.bool true)) g (T.set j true) from Bools.set (w := wr.drewN m) HO.out j)
                have HR5 := Lib.hid (fun m => show Below g w ((wr.drewN m).setCell ⟨g, j, none⟩ (.bool true)) from (dN HR.out m).setCell (Nat.le_refl _) _)
                have HS5 := Lib.hid (fun m => show b1 ≤ ((wr.drewN m).setCell ⟨g, j, none⟩ (.bool true)).heap.size by simp; exact HS.out)
                go_wp2_with fail
                go_quiet (fail)
                go_wp2_with (at_builtin; refine wpList_append_own _ rfl _ _ 65 rfl b1 5 i1 (.int .u8 0) 1 1 Tryz.underlying65 hi1 hy0 hy1 hy2 rfl (by decide) _ _ _ rfl ((HU5.out _).alloc _) ⟨wr.heap.size, 0, none⟩ 1 1 [.int .u8 (c.toNat : Int)] rfl rfl ?c1 ?c2 ?c3 ?c4 ?c5 ?_)
                case c1 =>
                  intro j u hj
                  match j, hj with
                  | 0, hj => simp at hj; subst hj; simp [Addr.add, go_sem]
                case c2 => intro u hu; simp at hu; subst hu; rfl
                case c3 => have := HIL.out; unfold maxLen; omega
                case c4 => have := HIL.out; omega
                case c5 => have := HS.out; simp <;> omega
                intro v' w7 hown' hgrow _
                have R7 := Lib.hid (own_one hown')
                have HB7 := Lib.hid (below_app (HR5.out _) (Nat.le_trans (Nat.le_of_lt HZ.out) (HS5.out _)) (Nat.le_of_lt HZ.out) (HU5.out _) hgrow)
                have HO7 := Lib.hid (bools_own (bools_alloc (HO5.out _) _) ((HU5.out _).alloc _) HZ.out hgrow)
                have HS7 : Hid (b1 ≤ w7.heap.size) := Lib.hid (by have h1 := hgrow.size; have h2 := HS.out; simp at h1; omega)
                clear hown' hgrow
                go_wp2_with fail
                go_roundw
                case rel => exact ⟨i + 1, by simp, by omega, by rw [HN1.out]; exact R7.out, by rw [HN2.out]; exact HO7.out, HB7.out, HS7.out⟩
                case measure => simp [intOf]; omega
              · have hne : ((c.toNat : Int) == (d.toNat : Int)) = false := byte_ne hcd
                have HM : Hid (∀ y < j + 1, mayHit b k i c T y = false) := Lib.hid (fun y hy => by
                  rcases Nat.lt_or_ge y j with q | q
                  · exact HN.out y q
                  · rw [show y = j by omega]
                    cases e : mayHit b k i c T j with
                    | false => rfl
                    | true =>
                      have := (HMH.out.1 e).2.1
                      exact absurd (Option.some.inj this).symm hcd)
                go_wp2_with fail
                go_quiet (fail)
                go_wp2_with fail
                go_roundw
                case rel => exact ⟨j + 1, by simp, rfl, by omega, by omega, HM.out, HU.out, HO.out, dN HR.out _, HS.out⟩
                case measure => simp [intOf]; omega
            · have HM : Hid (∀ y < j + 1, mayHit b k i c T y = false) := Lib.hid (fun y hy => by
                rcases Nat.lt_or_ge y j with q | q
                · exact HN.out y q
                · rw [show y = j by omega]
                  cases e : mayHit b k i c T j with
                  | false => rfl
                  | true =>
                    have := (HMH.out.1 e).1
                    cases this)
              go_wp2_with fail
              go_quiet (fail)
              go_wp2_with fail
              go_roundw
              case rel => exact ⟨j + 1, by simp, rfl, by omega, by omega, HM.out, HU.out, HO.out, dN HR.out _, HS.out⟩
              case measure => simp [intOf]; omega
          · have HIT : Hid (hitA a b k i = none) := Lib.hid (by
              rw [HH.out]
              refine hit_none (fun y hy => ?_)
              rcases Nat.lt_or_ge y j with q | q
              · exact HN.out y q
              · cases e : mayHit b k i c T y with
                | false => rfl
                | true =>
                  have := (mayHit_iff.1 e).2.2.2
                  omega)
            have HN1 := Lib.hid (HSelN.out HIT.out)
            have HN2 : Hid (tk a b k (i + 1) = T) := Lib.hid (by rw [HTK.out, HIT.out]; rfl)
            go_wp2_with fail
            go_roundw
            case rel => exact ⟨i + 1, by simp, by omega, by rw [HN1.out]; exact HU.out, by rw [HN2.out]; exact HO.out, HR.out, HS.out⟩
            case measure => simp [intOf]; omega
        · have HIT : Hid (hitA a b k i = none) := Lib.hid (by
            rw [HH.out]
            exact hit_none (fun y hy => HN.out y (by omega)))
          have HN1 := Lib.hid (HSelN.out HIT.out)
          have HN2 : Hid (tk a b k (i + 1) = T) := Lib.hid (by rw [HTK.out, HIT.out]; rfl)
          go_wp2_with fail
          go_roundw
          case rel => exact ⟨i + 1, by simp, by omega, by rw [HN1.out]; exact HU.out, by rw [HN2.out]; exact HO.out, HR.out, HS.out⟩
          case measure => simp [intOf]; omega
    · obtain rfl : i = a.length := by omega
      have HL := Lib.hid (tk_len a b k a.length)
      have HIB := Lib.hid (show IB a b k = selTo b (tb (tk a b k a.length)) b.length from rfl)
      have HIL : Hid ((IA a b k a.length).length ≤ 200) := Lib.hid (Nat.le_trans (selTo_len _ _ _) (by omega))
      obtain ⟨T, hT⟩ : ∃ T, tk a b k a.length = T := ⟨_, rfl⟩
      rw [hT] at HO HL HIB
      obtain ⟨I, hI⟩ : ∃ I, IA a b k a.length = I := ⟨_, rfl⟩
      rw [hI] at HU HIL
      have HII := Lib.hid hI
      clear hT hI
      have hTl : T.length = b.length := HL.out
      have hBb := HBb.out
      obtain ⟨u0, hu0⟩ : ∃ u0, u4 = u0 := ⟨_, rfl⟩
      rw [hu0] at HU ⊢
      clear hu0
      go_wp2_with fail
      obtain ⟨wo, rfl⟩ : ∃ wo, wo = wr := ⟨_, rfl⟩
      obtain ⟨b2, hb2⟩ : ∃ b2, wo.heap.size = b2 := ⟨_, rfl⟩
      have HB2 := Lib.hid hb2
      clear hb2
      have HUL : Hid (∀ j, u0.ownBlock = some j → j < b2) := Lib.hid (fun j hj => by rw [← HB2.out]; exact (HU.out.lt j hj).2)
      have HBB : Hid (b1 ≤ b2) := Lib.hid (by rw [← HB2.out]; exact HS.out)
      go_loopw [5, 71] (fun v x wr => ∃ j : Nat, x = .int .i64 (j : Int) ∧ j ≤ b.length ∧ OwnY wr b2 v (selTo b (tb T) j) ∧ OwnY wr b1 u0 I ∧ Bools wr g T ∧ Below g w wr ∧ b2 ≤ wr.heap.size) (fun _ x _ => b.length + 1 - (intOf x).toNat)
      case atStart => exact ⟨0, by simp, by omega, World.ownsRow_nil _ _ _ _, HU.out, HO.out, HR.out, Nat.le_of_eq HB2.out.symm⟩
      case round =>
        clear HU HO HR HS HB2
        obtain ⟨j, rfl, hj, hv, hown, ho, hbr, hsz⟩ := hrel
        have HV := Lib.hid hv
        have HU := Lib.hid hown
        have HO := Lib.hid ho
        have HR := Lib.hid hbr
        have HS := Lib.hid hsz
        clear hv hown ho hbr hsz
        have hj2 : (j : Int) ≤ 200 := by omega
        by_cases hlj : j < b.length
        · have c0 := HO.out.cell (k := j) (by rw [HL.out]; exact hlj)
          obtain ⟨x, hx⟩ : ∃ x, T[j]'(by rw [HL.out]; exact hlj) = x := ⟨_, rfl⟩
          rw [hx] at c0
          have HTB : Hid (tb T j = x) := Lib.hid (by unfold tb; rw [List.getElem?_eq_getElem (by rw [HL.out]; exact hlj), hx]; cases x <;> rfl)
          clear hx
          cases x
          · have HN1 := Lib.hid (selTo_no (l := b) HTB.out)
            go_wp2_with fail
            go_roundw
            case rel => exact ⟨j + 1, by simp, by omega, by rw [HN1.out]; exact HV.out, HU.out, HO.out, HR.out, HS.out⟩
            case measure => simp [intOf]; omega
          · obtain ⟨d, hd⟩ : ∃ d, b[j] = d := ⟨_, rfl⟩
            have ed : ∀ h, (⟨b.toArray⟩ : ByteArray)[j]'h = d := fun _ => hd
            have HN1 := Lib.hid (show selTo b (tb T) (j + 1) = selTo b (tb T) j ++ [d] by rw [selTo_yes hlj HTB.out, hd])
            have HVL : Hid ((selTo b (tb T) j).length ≤ 200) := Lib.hid (Nat.le_trans (selTo_len _ _ _) (by omega))
            clear hd
            obtain ⟨J, hJ⟩ : ∃ J, selTo b (tb T) j = J := ⟨_, rfl⟩
            rw [hJ] at HV HN1 HVL
            clear hJ
            go_wp2_with (at_builtin; refine wpList_append_own _ rfl _ _ 65 rfl b2 5 i1 (.int .u8 0) 1 1 Tryz.underlying65 hi1 hy0 hy1 hy2 rfl (by decide) _ _ _ rfl (HV.out.alloc _) ⟨wr.heap.size, 0, none⟩ 1 1 [.int .u8 (d.toNat : Int)] rfl rfl ?c1 ?c2 ?c3 ?c4 ?c5 ?_)
            case c1 =>
              intro j u hj
              match j, hj with
              | 0, hj => simp at hj; subst hj; simp [Addr.add, go_sem]
            case c2 => intro u hu; simp at hu; subst hu; rfl
            case c3 => have := HVL.out; unfold maxLen; omega
            case c4 => have := HVL.out; omega
            case c5 => have := HS.out; simp <;> omega
            intro v' w7 hown' hgrow _
            have R7 := Lib.hid (own_one hown')
            have HB7 := Lib.hid (below_app HR.out (Nat.le_trans (Nat.le_of_lt HZ.out) (Nat.le_trans HBB.out HS.out)) (Nat.le_trans (Nat.le_of_lt HZ.out) HBB.out) HV.out hgrow)
            have HO7 := Lib.hid (bools_own (bools_alloc HO.out _) (HV.out.alloc _) (Nat.lt_of_lt_of_le HZ.out HBB.out) hgrow)
            have HU7 := Lib.hid (ownY_app HU.out HUL.out HV.out hgrow)
            have HS7 : Hid (b2 ≤ w7.heap.size) := Lib.hid (by have h1 := hgrow.size; have h2 := HS.out; simp at h1; omega)
            clear hown' hgrow
            go_wp2_with fail
            go_roundw
            case rel => exact ⟨j + 1, by simp, by omega, by rw [HN1.out]; exact R7.out, HU7.out, HO7.out, HB7.out, HS7.out⟩
            case measure => simp [intOf]; omega
        · obtain rfl : j = b.length := by omega
          have HV2 := HV
          rw [← HIB.out] at HV2
          have HU2 := Lib.hid (show OwnY wr b1 u0 (IA a b k a.length) by rw [HII.out]; exact HU.out)
          go_wp2_with fail
          go_ret2
          exact ⟨_, _, rfl, own_low HU2.out (by rw [HG.out]; exact Nat.le_of_lt HZ.out), own_low HV2.out (by rw [HG.out]; exact Nat.le_trans (Nat.le_of_lt HZ.out) HBB.out), by rw [HG.out]; exact HR.out⟩
end Go.Proofs.YtendkghifcjffaaGreatDoor
