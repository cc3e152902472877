/- What the library's package-level variables hold; strconv's and strings' contracts in these words. -/
import Derived.Test.YteokcgfbhaeklaaGreatDoorPBase
import Derived.Test.YteokcgfbhaeklaaGreatDoorShelf
import Derived.ShutString
import Derived.Lib.SmallJoins
import Derived.Laws.OwnMore
import Derived.Laws.IdiomStrings
import Derived.Test.YteokcgfbhaeklaaGreatDoorPMath
namespace Go.Proofs.YteokcgfbhaeklaaGreatDoor.L2
open Go.RowKit

/-- What the package-level variables of the library hold. -/
structure Env (w : World) : Prop where
  es : ∃ tp p, w.cell? ⟨1, 0, none⟩ = some (.iface tp p)
  er : ∃ tp p, w.cell? ⟨2, 0, none⟩ = some (.iface tp p)
  tab : ∃ t z, w.heap[0]? = some (.cells (Lib.pow10Tab.map fun z => Value.int .u64 z).toArray t z)

theorem Env.below {w w1 : World} (h : Env w) (hb : Below w.heap.size w w1) : Env w1 := by
  obtain ⟨t1, p1, h1⟩ := h.es
  obtain ⟨t2, p2, h2⟩ := h.er
  obtain ⟨t, z, ht⟩ := h.tab
  refine ⟨⟨t1, p1, cellB hb h1⟩, ⟨t2, p2, cellB hb h2⟩, t, z, ?_⟩
  rw [hb.block _ ?_, ht]
  rcases Nat.lt_or_ge 0 w.heap.size with h | h
  · exact h
  · rw [Array.getElem?_eq_none h] at ht
    cases ht
theorem Env.alloc {w : World} (h : Env w) (o : Obj) : Env (w.alloc o) := h.below ((Below.refl _ _).alloc (Nat.le_refl _) _)
theorem Env.drewN {w : World} (h : Env w) (k : Nat) : Env (w.drewN k) := h.below (below_drewN _ _ _)
theorem Env.next {w w1 : World} (h : Env w) {o : Obj} (hb : Below (w.alloc o).heap.size (w.alloc o) w1) : Env w1 := (h.alloc o).below hb

theorem Env.tabIs {w : World} (h : Env w) {name : String} (hn : Tryz.prog.globalNamed name = some 0) : Lib.TabIs Tryz.prog w name .u64 Lib.pow10Tab := by
  obtain ⟨t, z, ht⟩ := h.tab
  unfold Lib.TabIs World.var?
  rw [hn]
  simp only [Option.bind_some]
  rw [ht]

theorem below_grow (B : Nat) (w : World) (hB : B ≤ w.heap.size) (os : Array Obj) : Below B w (Go.Sort.grow w os) := by
  refine ⟨rfl, rfl, rfl, ?_, fun k hk => ?_⟩
  · simp [Go.Sort.grow]
  · simp only [Go.Sort.grow]
    rw [Array.getElem?_append_left (by omega)]

/-- strconv.Itoa. -/
theorem itoa_any (n : Int) (h0 : -9223372036854775808 ≤ n) (h1 : n ≤ 9223372036854775807) (w : World) (h : Env w) :
    Calls Tryz.prog 73 #[.int .i64 n] w fun e w' => e = .returned (.string ⟨(Lib.itoa n).toArray⟩) ∧ Below w.heap.size w w' := by
  refine (Any.strconv_Itoa Tryz.laysM171 n h0 h1 w (h.tabIs (by kernel_rfl))).mono ?_
  rintro e w' ⟨rfl, k, os, rfl⟩
  exact ⟨rfl, (below_drewN _ w k).trans (below_grow w.heap.size (w.drewN k) (Nat.le_refl _) os)⟩

/-- strings.CutPrefix, at a prefix of one byte. -/
theorem cutp_yes (c : UInt8) (l : List UInt8) (w : World) :
    Calls Tryz.prog 119 #[.string ⟨(c :: l).toArray⟩, .string ⟨#[c]⟩] w fun e w' => e = .returned (.tuple #[.string ⟨l.toArray⟩, .bool true]) ∧ w = w' := by
  refine (Any.strings_CutPrefix Tryz.lays103 ⟨(c :: l).toArray⟩ ⟨#[c]⟩ w).mono ?_
  rintro e w' ⟨rfl, rfl⟩
  have h : Lib.hasPrefix (c :: l) [c] = true := by simp [Lib.hasPrefix]
  refine ⟨?_, rfl⟩
  have h2 : Lib.trimPrefix (c :: l) [c] = l := by unfold Lib.trimPrefix; rw [h, if_pos rfl]; rfl
  show Ending.returned (.tuple #[.string ⟨(Lib.trimPrefix (c :: l) [c]).toArray⟩, .bool (Lib.hasPrefix (c :: l) [c])]) = _
  rw [h2, h]

theorem cutp_no (c : UInt8) (l : List UInt8) (hl : ∀ r, l ≠ c :: r) (w : World) :
    Calls Tryz.prog 119 #[.string ⟨l.toArray⟩, .string ⟨#[c]⟩] w fun e w' => e = .returned (.tuple #[.string ⟨l.toArray⟩, .bool false]) ∧ w = w' := by
  refine (Any.strings_CutPrefix Tryz.lays103 ⟨l.toArray⟩ ⟨#[c]⟩ w).mono ?_
  rintro e w' ⟨rfl, rfl⟩
  have h : Lib.hasPrefix l [c] = false := by
    cases l with
    | nil => rfl
    | cons d r => 
      have e : (c == d) = false := by rw [beq_eq_false_iff_ne]; exact fun h => hl r (h ▸ rfl)
      simp [Lib.hasPrefix, List.isPrefixOf, e]
  refine ⟨?_, rfl⟩
  have h2 : Lib.trimPrefix l [c] = l := by unfold Lib.trimPrefix; rw [h, if_neg (by decide)]
  show Ending.returned (.tuple #[.string ⟨(Lib.trimPrefix l [c]).toArray⟩, .bool (Lib.hasPrefix l [c])]) = _
  rw [h2, h]

/-- strings.TrimSuffix. -/
theorem trims_any (l p : List UInt8) (hl : l.length ≤ 9223372036854775807) (w : World) :
    Calls Tryz.prog 121 #[.string ⟨l.toArray⟩, .string ⟨p.toArray⟩] w fun e w' => e = .returned (.string ⟨(Lib.trimSuffix l p).toArray⟩) ∧ w = w' := by
  refine (Any.strings_TrimSuffix Tryz.lays102 ⟨l.toArray⟩ ⟨p.toArray⟩ w (by simpa [ByteArray.size] using hl)).mono ?_
  rintro e w' ⟨rfl, rfl⟩
  exact ⟨rfl, rfl⟩

/-- strconv.FormatBool. -/
theorem fbool_any (b : Bool) (w : World) :
    Calls Tryz.prog 74 #[.bool b] w fun e w' => e = .returned (.string ⟨(Lib.formatBool b).toArray⟩) ∧ w = w' := by
  refine (Any.strconv_FormatBool Tryz.lays121 b w).mono ?_
  rintro e w' ⟨rfl, rfl⟩
  exact ⟨rfl, rfl⟩

/-- What Atoi returns: a number, and whatever error; the number is the one that the text spells, if it spells one. -/
def AtoiPost (l : List UInt8) (w : World) (e : Ending) (w' : World) : Prop :=
  ∃ n f, e = .returned (.tuple #[.int .i64 n, f]) ∧ (∀ v, Lib.atoiAll l = .ok v → n = v) ∧ Below w.heap.size w w'

theorem atoi_any (l : List UInt8) (hl : l.length ≤ 1000) (w : World) (he : Env w) :
    Calls Tryz.prog 122 #[.string ⟨l.toArray⟩] w (AtoiPost l w) := by
  obtain ⟨t1, p1, h1⟩ := he.es
  obtain ⟨t2, p2, h2⟩ := he.er
  have hs : (⟨l.toArray⟩ : ByteArray).size ≤ 1000 := by simpa [ByteArray.size] using hl
  rcases hx : Lib.atoiAll l with v | _ | _
  · refine (Any.strconv_Atoi_ok Tryz.laysC172 ⟨l.toArray⟩ (by omega) v (by simpa using hx) w).mono ?_
    rintro e w' ⟨rfl, rfl | ⟨t, rfl⟩⟩
    · exact ⟨v, _, rfl, (fun u hu => by rw [hx] at hu; injection hu), Below.refl _ _⟩
    · exact ⟨v, _, rfl, (fun u hu => by rw [hx] at hu; injection hu), Joins.below_bytesWorld _ _ _ _ (Nat.le_refl _)⟩
  · refine (Any.strconv_Atoi_syntax Tryz.laysC172 ⟨l.toArray⟩ (by omega) (by simpa using hx) _ w h1 (Or.inr ⟨_, _, rfl⟩)).mono ?_
    rintro e w' ⟨N, rfl, -, -, hb⟩
    exact ⟨_, _, rfl, (fun u hu => by rw [hx] at hu; cases hu), hb⟩
  · refine (Any.strconv_Atoi_range Tryz.laysC172 ⟨l.toArray⟩ (by omega) (by simpa using hx) _ w h2 (Or.inr ⟨_, _, rfl⟩)).mono ?_
    rintro e w' ⟨N, rfl, -, -, hb⟩
    exact ⟨_, _, rfl, (fun u hu => by rw [hx] at hu; cases hu), hb⟩
end Go.Proofs.YteokcgfbhaeklaaGreatDoor.L2

/- The contract of quote. -/
namespace Go.Proofs.YteokcgfbhaeklaaGreatDoor.L2
open Go.RowKit

/-- Bytes as cells. -/
def bys (l : List UInt8) : List Value := l.map fun c => .int .u8 (c.toNat : Int)
theorem bys_app (a b : List UInt8) : bys (a ++ b) = bys a ++ bys b := List.map_append
theorem bys_len (a : List UInt8) : (bys a).length = a.length := List.length_map _
theorem info5 : (Tryz.prog.info? 5).map (fun i => (i.zero, i.size, i.bytes)) = some (some (.int .u8 0), 1, 1) := by kernel_rfl

/-- 'string(b)', where b's cells are the bytes l. -/
theorem conv_own {w : World} {B : Nat} {v : Value} {n : Nat} {l : List UInt8} (h : w.ownsRow B 5 1 v n (bys l)) :
    (convert 111 9 v).run Tryz.prog w = .ok (.string ⟨l.toArray⟩) w := by
  have hn : n = l.length := by have := h.1; rw [bys_len] at this; omega
  subst hn
  rcases Joins.ownsRow_forms h with ⟨rfl, h0⟩ | ⟨g, cap, rfl⟩
  · obtain rfl : l = [] := List.length_eq_zero_iff.1 h0
    rw [run_convert_bytes_string w 111 9 5 none 0 0 (by kernel_rfl) (by kernel_rfl) (by kernel_rfl)]
    simp [Conv.bytesToString]
    rfl
  · refine run_convert_bytes_back w 111 9 5 ⟨g, 0, none⟩ cap l (by kernel_rfl) (by kernel_rfl) (by kernel_rfl) (fun j hj => ?_)
    have h1 := h.cells (g := g) rfl j (.int .u8 (l[j].toNat : Int)) (by unfold bys; rw [List.getElem?_map, List.getElem?_eq_getElem hj]; rfl)
    exact h1

theorem own_step {w1 : World} {B T : Nat} {v' : Value} {a e : List UInt8} (h : w1.ownsRow B T 1 v' (a.length + e.length) (bys a ++ bys e)) : w1.ownsRow B T 1 v' (a ++ e).length (bys (a ++ e)) := by
  rw [bys_app, List.length_append]; exact h

theorem below_grown {B : Nat} {w wr w1 : World} {o : Obj} {v : Value} {n : Nat} {xs : List Value} {T : Nat} (hb : Below B w wr) (hB : B ≤ wr.heap.size) (hown : wr.ownsRow B T 1 v n xs) (hg : (wr.alloc o).grownBy w1 v.ownBlock) : Below B w w1 :=
  (hb.alloc hB o).grown hg (by simp; omega) (fun j hj => (hown.lt j hj).1)

set_option maxHeartbeats 1600000 in
theorem quote_any (l : List UInt8) (hl : l.length ≤ 1000) (w : World) :
    Calls Tryz.prog 72 #[.string ⟨l.toArray⟩] w fun e w' => e = .returned (.string ⟨(quo l).toArray⟩) ∧ Below w.heap.size w w' := by
  obtain ⟨i0, hi, hz0, hz1, hz2⟩ := info_parts info5
  have HL := Lib.hid hl
  clear hl
  go_enter Tryz.func72, Tryz.ntmps72
  go_wp2_with fail
  go_loopw [3, 9] (fun v i wr => ∃ k : Nat, k ≤ l.length ∧ i = .int .i64 (k : Int) ∧ wr.ownsRow w.heap.size 5 1 v (qk l k).length (bys (qk l k)) ∧ Below w.heap.size w wr) (fun _ i _ => l.length - (intOf i).toNat)
  case atStart => exact ⟨0, by omega, by simp, World.ownsRow_lit w #[.int .u8 34] 1 (Nat.le_refl _) (by decide) rfl, (Below.refl _ _).alloc (Nat.le_refl _) _⟩
  case round =>
    obtain ⟨k, hk, rfl, hown, hb⟩ := hrel
    have HB := Lib.hid hb
    have LQ := Lib.hid (qk_len l k)
    clear hb
    by_cases hlt : k < l.length
    · have hb2 : ∀ (h : k < (ByteArray.mk l.toArray).size), (⟨l.toArray⟩ : ByteArray)[k]'h = l[k] := fun _ => rfl
      have hs : ∀ e, esc l[k] = e → qk l (k + 1) = qk l k ++ e := fun e h => by rw [← h]; exact qk_succ l k hlt
      have HSU := Lib.hid hs
      clear hs
      by_cases h1 : l[k].toNat = 34
      · have e1 : ((l[k].toNat : Int) == 34) = true := by simp; omega
        have HE := Lib.hid (show esc l[k] = [92, l[k]] from by unfold esc; rw [if_pos (Or.inl h1)])
        clear h1
        go_wp2_with (at_builtin; refine wpList_append_own _ rfl _ _ 111 rfl w.heap.size 5 i0 (.int .u8 0) 1 1 Tryz.underlying111 hi hz0 hz1 hz2 rfl (by decide) _ _ _ rfl (hown.alloc _) ⟨wr.heap.size, 0, none⟩ 2 2 [.int .u8 92, .int .u8 (l[k].toNat : Int)] rfl rfl ?c1 ?c2 ?c3 ?c4 ?c5 ?_)
        case c1 =>
          intro j u hj
          match j, hj with
          | 0, hj => simp at hj; subst hj; simp [Addr.add, go_sem]
          | 1, hj => simp at hj; subst hj; simp [Addr.add, go_sem]
        case c2 => intro u hu; simp at hu; first | (subst hu; rfl) | (rcases hu with hu | hu <;> subst hu <;> rfl)
        case c3 => have := LQ.out; have := HL.out; unfold maxLen; omega
        case c4 => have := LQ.out; have := HL.out; omega
        case c5 => have := HB.out.size; simp; omega
        intro v' w1 hown' hgrow _
        have R := own_step (e := [92, l[k]]) hown'
        have HB1 := Lib.hid (below_grown HB.out HB.out.size hown hgrow)
        clear hown' hgrow hown
        have R1 := Lib.hid (show w1.ownsRow w.heap.size 5 1 v' (qk l (k + 1)).length (bys (qk l (k + 1))) by rw [HSU.out _ (HE.out)]; exact R)
        clear R
        have hL := HL.out
        go_wp2
        go_roundw
        case rel => exact ⟨k + 1, by omega, by simp, R1.out, HB1.out⟩
        case measure => simp [intOf]; omega
      · by_cases h2 : l[k].toNat = 92
        · have e1 : ((l[k].toNat : Int) == 34) = false := by simp; omega
          have e2 : ((l[k].toNat : Int) == 92) = true := by simp; omega
          have HE := Lib.hid (show esc l[k] = [92, l[k]] from by unfold esc; rw [if_pos (Or.inr h2)])
          clear h1 h2
          go_wp2_with (at_builtin; refine wpList_append_own _ rfl _ _ 111 rfl w.heap.size 5 i0 (.int .u8 0) 1 1 Tryz.underlying111 hi hz0 hz1 hz2 rfl (by decide) _ _ _ rfl (hown.alloc _) ⟨wr.heap.size, 0, none⟩ 2 2 [.int .u8 92, .int .u8 (l[k].toNat : Int)] rfl rfl ?c1 ?c2 ?c3 ?c4 ?c5 ?_)
          case c1 =>
            intro j u hj
            match j, hj with
            | 0, hj => simp at hj; subst hj; simp [Addr.add, go_sem]
            | 1, hj => simp at hj; subst hj; simp [Addr.add, go_sem]
          case c2 => intro u hu; simp at hu; first | (subst hu; rfl) | (rcases hu with hu | hu <;> subst hu <;> rfl)
          case c3 => have := LQ.out; have := HL.out; unfold maxLen; omega
          case c4 => have := LQ.out; have := HL.out; omega
          case c5 => have := HB.out.size; simp; omega
          intro v' w1 hown' hgrow _
          have R := own_step (e := [92, l[k]]) hown'
          have HB1 := Lib.hid (below_grown HB.out HB.out.size hown hgrow)
          clear hown' hgrow hown
          have R1 := Lib.hid (show w1.ownsRow w.heap.size 5 1 v' (qk l (k + 1)).length (bys (qk l (k + 1))) by rw [HSU.out _ (HE.out)]; exact R)
          clear R
          have hL := HL.out
          go_wp2
          go_roundw
          case rel => exact ⟨k + 1, by omega, by simp, R1.out, HB1.out⟩
          case measure => simp [intOf]; omega
        · by_cases h3 : l[k].toNat = 10
          · have e1 : ((l[k].toNat : Int) == 34) = false := by simp; omega
            have e2 : ((l[k].toNat : Int) == 92) = false := by simp; omega
            have e3 : ((l[k].toNat : Int) == 10) = true := by simp; omega
            have HE := Lib.hid (show esc l[k] = [92, 110] from by unfold esc; rw [if_neg (by omega), if_pos h3])
            clear h1 h2 h3
            go_wp2_with (at_builtin; refine wpList_append_own _ rfl _ _ 111 rfl w.heap.size 5 i0 (.int .u8 0) 1 1 Tryz.underlying111 hi hz0 hz1 hz2 rfl (by decide) _ _ _ rfl (hown.alloc _) ⟨wr.heap.size, 0, none⟩ 2 2 [.int .u8 92, .int .u8 110] rfl rfl ?c1 ?c2 ?c3 ?c4 ?c5 ?_)
            case c1 =>
              intro j u hj
              match j, hj with
              | 0, hj => simp at hj; subst hj; simp [Addr.add, go_sem]
              | 1, hj => simp at hj; subst hj; simp [Addr.add, go_sem]
            case c2 => intro u hu; simp at hu; first | (subst hu; rfl) | (rcases hu with hu | hu <;> subst hu <;> rfl)
            case c3 => have := LQ.out; have := HL.out; unfold maxLen; omega
            case c4 => have := LQ.out; have := HL.out; omega
            case c5 => have := HB.out.size; simp; omega
            intro v' w1 hown' hgrow _
            have R := own_step (e := [92, 110]) hown'
            have HB1 := Lib.hid (below_grown HB.out HB.out.size hown hgrow)
            clear hown' hgrow hown
            have R1 := Lib.hid (show w1.ownsRow w.heap.size 5 1 v' (qk l (k + 1)).length (bys (qk l (k + 1))) by rw [HSU.out _ (HE.out)]; exact R)
            clear R
            have hL := HL.out
            go_wp2
            go_roundw
            case rel => exact ⟨k + 1, by omega, by simp, R1.out, HB1.out⟩
            case measure => simp [intOf]; omega
          · have e1 : ((l[k].toNat : Int) == 34) = false := by simp; omega
            have e2 : ((l[k].toNat : Int) == 92) = false := by simp; omega
            have e3 : ((l[k].toNat : Int) == 10) = false := by simp; omega
            have HE := Lib.hid (show esc l[k] = [l[k]] from by unfold esc; rw [if_neg (by omega), if_neg h3])
            clear h1 h2 h3
            go_wp2_with (at_builtin; refine wpList_append_own _ rfl _ _ 111 rfl w.heap.size 5 i0 (.int .u8 0) 1 1 Tryz.underlying111 hi hz0 hz1 hz2 rfl (by decide) _ _ _ rfl (hown.alloc _) ⟨wr.heap.size, 0, none⟩ 1 1 [.int .u8 (l[k].toNat : Int)] rfl rfl ?c1 ?c2 ?c3 ?c4 ?c5 ?_)
            case c1 =>
              intro j u hj
              match j, hj with
              | 0, hj => simp at hj; subst hj; simp [Addr.add, go_sem]
            case c2 => intro u hu; simp at hu; first | (subst hu; rfl) | (rcases hu with hu | hu <;> subst hu <;> rfl)
            case c3 => have := LQ.out; have := HL.out; unfold maxLen; omega
            case c4 => have := LQ.out; have := HL.out; omega
            case c5 => have := HB.out.size; simp; omega
            intro v' w1 hown' hgrow _
            have R := own_step (e := [l[k]]) hown'
            have HB1 := Lib.hid (below_grown HB.out HB.out.size hown hgrow)
            clear hown' hgrow hown
            have R1 := Lib.hid (show w1.ownsRow w.heap.size 5 1 v' (qk l (k + 1)).length (bys (qk l (k + 1))) by rw [HSU.out _ (HE.out)]; exact R)
            clear R
            have hL := HL.out
            go_wp2
            go_roundw
            case rel => exact ⟨k + 1, by omega, by simp, R1.out, HB1.out⟩
            case measure => simp [intOf]; omega
    · have ke : k = l.length := by omega
      subst ke
      go_wp2_with (at_builtin; refine wpList_append_own _ rfl _ _ 111 rfl w.heap.size 5 i0 (.int .u8 0) 1 1 Tryz.underlying111 hi hz0 hz1 hz2 rfl (by decide) _ _ _ rfl (hown.alloc _) ⟨wr.heap.size, 0, none⟩ 1 1 [.int .u8 34] rfl rfl ?c1 ?c2 ?c3 ?c4 ?c5 ?_)
      case c1 =>
        intro j u hj
        match j, hj with
        | 0, hj => simp at hj; subst hj; simp [Addr.add, go_sem]
      case c2 => intro u hu; simp at hu; first | (subst hu; rfl) | (rcases hu with hu | hu <;> subst hu <;> rfl)
      case c3 => have := LQ.out; have := HL.out; unfold maxLen; omega
      case c4 => have := LQ.out; have := HL.out; omega
      case c5 => have := HB.out.size; simp; omega
      intro v' w1 hown' hgrow _
      have R := own_step (e := [34]) hown'
      have HB1 := Lib.hid (below_grown HB.out HB.out.size hown hgrow)
      clear hown' hgrow hown
      rw [← qk_end] at R
      have cv := conv_own R
      clear R
      go_wp2
      go_ret
      exact ⟨rfl, HB1.out⟩
end Go.Proofs.YteokcgfbhaeklaaGreatDoor.L2

/- The contract of Text. -/
namespace Go.Proofs.YteokcgfbhaeklaaGreatDoor.L2
open Go.RowKit

theorem text_bad (k n : Int) (t : List UInt8) (hv : vldB k n t = false) (w : World) :
    Calls Tryz.prog 50 #[V k n t] w fun e w' => e = .returned (.string ⟨#[]⟩) ∧ Below w.heap.size w w' := by
  go_enter Tryz.func50, Tryz.ntmps50
  go_wp2_with fail
  refine (valid_any k n t _).mono ?_
  rintro e w1 ⟨rfl, hb1⟩
  have HB := below_up (((Below.refl _ _).alloc (Nat.le_refl _) _)) hb1 (by simp)
  clear hb1
  go_wp2_with fail
  go_ret
  exact ⟨rfl, HB⟩

theorem text_null (n : Int) (t : List UInt8) (hv : vldB 0 n t = true) (w : World) :
    Calls Tryz.prog 50 #[V 0 n t] w fun e w' => e = .returned (.string ⟨#[110, 117, 108, 108]⟩) ∧ Below w.heap.size w w' := by
  go_enter Tryz.func50, Tryz.ntmps50
  go_wp2_with fail
  refine (valid_any 0 n t _).mono ?_
  rintro e w1 ⟨rfl, hb1⟩
  have A1 : Val3 w1 w.heap.size 0 n t := Val3.below ⟨by simp [go_sem], by simp [go_sem], by simp [go_sem]⟩ hb1
  have HB := below_up (((Below.refl _ _).alloc (Nat.le_refl _) _)) hb1 (by simp)
  have c0 := A1.c0
  clear hb1
  go_wp2_with fail
  go_ret
  exact ⟨rfl, HB⟩

theorem text_text (n : Int) (t : List UInt8) (hv : vldB 1 n t = true) (w : World) :
    Calls Tryz.prog 50 #[V 1 n t] w fun e w' => e = .returned (.string ⟨(quo t).toArray⟩) ∧ Below w.heap.size w w' := by
  have HL := Lib.hid (vld_len hv)
  go_enter Tryz.func50, Tryz.ntmps50
  go_wp2_with fail
  refine (valid_any 1 n t _).mono ?_
  rintro e w1 ⟨rfl, hb1⟩
  have A1 : Val3 w1 w.heap.size 1 n t := Val3.below ⟨by simp [go_sem], by simp [go_sem], by simp [go_sem]⟩ hb1
  have HB := below_up (((Below.refl _ _).alloc (Nat.le_refl _) _)) hb1 (by simp)
  have c0 := A1.c0; have c2 := A1.c2
  clear hb1
  go_wp2_with fail
  refine (quote_any t (by have := HL.out; omega) _).mono ?_
  rintro e w2 ⟨rfl, hb2⟩
  have HB2 := below_up HB hb2 HB.size
  clear hb2
  go_wp2_with fail
  go_ret
  exact ⟨rfl, HB2⟩

theorem text_num (n : Int) (t : List UInt8) (hv : vldB 2 n t = true) (w : World) (he : Env w) :
    Calls Tryz.prog 50 #[V 2 n t] w fun e w' => e = .returned (.string ⟨(Lib.itoa n).toArray⟩) ∧ Below w.heap.size w w' := by
  have HN := Lib.hid (vld_bound hv)
  go_enter Tryz.func50, Tryz.ntmps50
  go_wp2_with fail
  refine (valid_any 2 n t _).mono ?_
  rintro e w1 ⟨rfl, hb1⟩
  have A1 : Val3 w1 w.heap.size 2 n t := Val3.below ⟨by simp [go_sem], by simp [go_sem], by simp [go_sem]⟩ hb1
  have HB := below_up (((Below.refl _ _).alloc (Nat.le_refl _) _)) hb1 (by simp)
  have HE := Lib.hid (he.below HB)
  have c0 := A1.c0; have c1 := A1.c1
  clear hb1 he
  go_wp2_with fail
  refine (itoa_any n (by have := HN.out; omega) (by have := HN.out; omega) _ HE.out).mono ?_
  rintro e w2 ⟨rfl, hb2⟩
  have HB2 := below_up HB hb2 HB.size
  clear hb2
  go_wp2_with fail
  go_ret
  exact ⟨rfl, HB2⟩

theorem text_day (n : Int) (t : List UInt8) (hv : vldB 3 n t = true) (w : World) (he : Env w) :
    Calls Tryz.prog 50 #[V 3 n t] w fun e w' => e = .returned (.string ⟨(64 :: Lib.itoa n).toArray⟩) ∧ Below w.heap.size w w' := by
  have HN := Lib.hid (vld_bound hv)
  have HL := Lib.hid (Lib.itoa_length_le n (by have := HN.out; omega) (by have := HN.out; omega))
  go_enter Tryz.func50, Tryz.ntmps50
  go_wp2_with fail
  refine (valid_any 3 n t _).mono ?_
  rintro e w1 ⟨rfl, hb1⟩
  have A1 : Val3 w1 w.heap.size 3 n t := Val3.below ⟨by simp [go_sem], by simp [go_sem], by simp [go_sem]⟩ hb1
  have HB := below_up (((Below.refl _ _).alloc (Nat.le_refl _) _)) hb1 (by simp)
  have HE := Lib.hid (he.below HB)
  have c0 := A1.c0; have c1 := A1.c1
  clear hb1 he
  go_wp2_with fail
  refine (itoa_any n (by have := HN.out; omega) (by have := HN.out; omega) _ HE.out).mono ?_
  rintro e w2 ⟨rfl, hb2⟩
  have HB2 := below_up HB hb2 HB.size
  clear hb2
  have q : (9223372036854775807 < 1 + (Lib.itoa n).length) = False := eq_false (by have := HL.out; omega)
  go_wp2_with fail
  go_ret
  exact ⟨str_ret (by simp), HB2⟩

theorem text_flag (n : Int) (t : List UInt8) (hv : vldB 4 n t = true) (l : List UInt8) (hl : txt 4 n t = l) (w : World) :
    Calls Tryz.prog 50 #[V 4 n t] w fun e w' => e = .returned (.string ⟨l.toArray⟩) ∧ Below w.heap.size w w' := by
  have HL := Lib.hid hl
  clear hl
  go_enter Tryz.func50, Tryz.ntmps50
  go_wp2_with fail
  refine (valid_any 4 n t _).mono ?_
  rintro e w1 ⟨rfl, hb1⟩
  have A1 : Val3 w1 w.heap.size 4 n t := Val3.below ⟨by simp [go_sem], by simp [go_sem], by simp [go_sem]⟩ hb1
  have HB := below_up (((Below.refl _ _).alloc (Nat.le_refl _) _)) hb1 (by simp)
  have c0 := A1.c0; have c1 := A1.c1
  clear hb1
  by_cases h1 : n = 1
  · subst h1
    go_wp2_with fail
    refine (fbool_any true _).mono ?_
    rintro e w2 ⟨rfl, rfl⟩
    go_wp2_with fail
    go_ret
    exact ⟨str_ret (by rw [← HL.out, txt_flag hv, if_pos rfl]; rfl), HB⟩
  · have e1 : (n == 1) = false := by simpa using h1
    have HH := Lib.hid h1
    clear h1
    go_wp2_with fail
    refine (fbool_any false _).mono ?_
    rintro e w2 ⟨rfl, rfl⟩
    go_wp2_with fail
    go_ret
    exact ⟨str_ret (by rw [← HL.out, txt_flag hv, if_neg HH.out]; rfl), HB⟩

/-- Text, for every value. -/
theorem text_any (k n : Int) (t : List UInt8) (w : World) (he : Env w) :
    Calls Tryz.prog 50 #[V k n t] w fun e w' => e = .returned (.string ⟨(txt k n t).toArray⟩) ∧ Below w.heap.size w w' := by
  cases hv : vldB k n t
  · rw [txt_bad hv]; exact text_bad k n t hv w
  · rcases vld_cases hv with rfl | rfl | rfl | rfl | rfl
    · rw [txt_null hv]; exact text_null n t hv w
    · rw [txt_text hv]; exact text_text n t hv w
    · rw [txt_num hv]; exact text_num n t hv w he
    · rw [txt_day hv]; exact text_day n t hv w he
    · exact text_flag n t hv _ rfl w
end Go.Proofs.YteokcgfbhaeklaaGreatDoor.L2

