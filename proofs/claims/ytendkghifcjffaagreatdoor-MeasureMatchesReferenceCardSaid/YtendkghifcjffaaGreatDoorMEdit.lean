/- The contracts of trim, least and Edit. -/
import Derived.Test.YtendkghifcjffaaGreatDoorKBase
import Derived.Test.YtendkghifcjffaaGreatDoorPMath
namespace Go.Proofs.YtendkghifcjffaaGreatDoor
open Go.RowKit

theorem least_two (x y z : Int) (b : Nat) (w : World) (c0 : w.cell? ⟨b, 0, none⟩ = some (.int .i64 y)) (c1 : w.cell? ⟨b, 1, none⟩ = some (.int .i64 z)) :
    Calls Tryz.prog 28 #[.int .i64 x, .slice (some ⟨b, 0, none⟩) 2 2] w fun e w' => e = .returned (.int .i64 (min x (min y z))) ∧ w' = w := by
  go_enter Tryz.func28, Tryz.ntmps28
  go_wp2_with fail
  go_loopw [0, 9] (fun v i wr => ∃ (k : Nat) (m : Int), k ≤ 2 ∧ i = .int .i64 (k : Int) ∧ wr = w ∧ v = .int .i64 m ∧ (k = 0 → m = x) ∧ (k = 1 → m = min x y) ∧ (k = 2 → m = min x (min y z))) (fun _ i _ => 3 - (intOf i).toNat)
  case atStart => exact ⟨0, x, by omega, by simp, rfl, rfl, fun _ => rfl, by omega, by omega⟩
  case round =>
    obtain ⟨k, m, hk, rfl, rfl, rfl, h0, h1, h2⟩ := hrel
    rcases (by omega : k = 0 ∨ k = 1 ∨ k = 2) with rfl | rfl | rfl
    · obtain rfl := h0 rfl
      clear h0 h1 h2
      by_cases hx : y < m
      · go_wp2_with fail
        go_roundw
        case rel => exact ⟨1, y, by omega, by simp, trivial, rfl, by omega, by omega, by omega⟩
        case measure => simp [intOf]
      · go_wp2_with fail
        go_roundw
        case rel => exact ⟨1, m, by omega, by simp, trivial, rfl, by omega, by omega, by omega⟩
        case measure => simp [intOf]
    · obtain h1 := h1 rfl
      clear h0 h2
      by_cases hx : z < m
      · go_wp2_with fail
        go_roundw
        case rel => exact ⟨2, z, by omega, by simp, trivial, rfl, by omega, by omega, by omega⟩
        case measure => simp [intOf]
      · go_wp2_with fail
        go_roundw
        case rel => exact ⟨2, m, by omega, by simp, trivial, rfl, by omega, by omega, by omega⟩
        case measure => simp [intOf]
    · obtain h2 := h2 rfl
      clear h0 h1
      go_wp2_with fail
      go_ret
      exact ⟨ret_int (by first | rfl | exact h2), rfl⟩

/-- The length of a text. -/
def lenS : Value → Nat
  | .string s => s.size
  | _ => 0

theorem snoc_cases (l : List UInt8) : l = [] ∨ ∃ x c, l = x ++ [c] := by
  rcases List.eq_nil_or_concat l with h | ⟨x, c, h⟩
  · exact .inl h
  · exact .inr ⟨x, c, by rw [h]; simp⟩

theorem byte_ne {c d : UInt8} (h : c ≠ d) : ((c.toNat : Int) == (d.toNat : Int)) = false := by
  rw [beq_eq_false_iff_ne]
  intro e
  exact h (UInt8.toNat_inj.1 (by omega))
theorem last_split (c : UInt8) (x : List UInt8) : ∃ u e, c :: x = u ++ [e] ∧ u.length = x.length := by
  rcases List.eq_nil_or_concat (c :: x) with h | ⟨u, e, h⟩
  · cases h
  · refine ⟨u, e, by rw [h]; simp, ?_⟩
    have := congrArg List.length h
    simp at this
    omega
theorem last_byte {l u : List UInt8} {e : UInt8} {n : Nat} (hu : l = u ++ [e]) (hn : u.length = n) (h : n < (ByteArray.mk l.toArray).size) : (⟨l.toArray⟩ : ByteArray)[n]'h = e := by
  subst hu hn
  show (u ++ [e]).toArray[u.length] = e
  simp

set_option maxHeartbeats 1600000 in
theorem trim_any (a b : List UInt8) (ha : a.length ≤ 1000) (hb : b.length ≤ 1000) (w : World) :
    Calls Tryz.prog 27 #[str a, str b] w fun e w' => ∃ a' b', e = .returned (.tuple #[str a', str b']) ∧ lev a' b' = lev a b ∧ a'.length ≤ a.length ∧ b'.length ≤ b.length ∧ Below w.heap.size w w' := by
  go_enter Tryz.func27, Tryz.ntmps27
  go_wp2_with fail
  go_loopw [0, 1] (fun u v wr => ∃ a' b', u = str a' ∧ v = str b' ∧ lev a' b' = lev a b ∧ a'.length ≤ a.length ∧ b'.length ≤ b.length ∧ Below w.heap.size w wr) (fun u _ _ => lenS u)
  case atStart => exact ⟨a, b, rfl, rfl, rfl, Nat.le_refl _, Nat.le_refl _, Below.refl _ _⟩
  case round =>
    obtain ⟨a', b', rfl, rfl, hl, h1, h2, hbw⟩ := hrel
    have HL := Lib.hid hl
    have HB := Lib.hid hbw
    clear hl hbw
    by_cases hq : ∃ c x y, a' = c :: x ∧ b' = c :: y
    · obtain ⟨c, x, y, rfl, rfl⟩ := hq
      rw [lev_same] at HL
      simp only [List.length_cons] at h1 h2
      have hx : (⟨(c :: x).toArray⟩ : ByteArray).extract 1 (x.length + 1) = ⟨x.toArray⟩ := by rw [ext_eq]; simp
      have hy : (⟨(c :: y).toArray⟩ : ByteArray).extract 1 (y.length + 1) = ⟨y.toArray⟩ := by rw [ext_eq]; simp
      have ex : ∀ h, (⟨(c :: x).toArray⟩ : ByteArray)[0]'h = c := fun _ => rfl
      have ey : ∀ h, (⟨(c :: y).toArray⟩ : ByteArray)[0]'h = c := fun _ => rfl
      go_wp2_with fail
      go_quiet (fail)
      go_wp2_with fail
      go_region
      go_wp2_with fail
      go_roundw
      case rel => exact ⟨x, y, rfl, rfl, HL.out, by omega, by omega, (dN HB.out _).drew⟩
      case measure => simp [lenS, ByteArray.size]
    · have hx : (a' = []) ∨ (∃ c x, b' = [] ∧ a' = c :: x) ∨ ∃ c d x y, a' = c :: x ∧ b' = d :: y ∧ c ≠ d := by
        cases a' with
        | nil => exact .inl rfl
        | cons c x =>
          cases b' with
          | nil => exact .inr (.inl ⟨c, x, rfl, rfl⟩)
          | cons d y => exact .inr (.inr ⟨c, d, x, y, rfl, rfl, fun e => hq ⟨c, x, y, rfl, by rw [e]⟩⟩)
      clear hq
      rcases hx with rfl | ⟨c, x, rfl, rfl⟩ | ⟨c, d, x, y, rfl, rfl, hcd⟩
      · go_wp2_with fail
        go_quiet (fail)
        go_wp2_with fail
        go_loopw [0, 1] (fun u v wr => ∃ a2 b2, u = str a2 ∧ v = str b2 ∧ lev a2 b2 = lev a b ∧ a2.length ≤ a.length ∧ b2.length ≤ b.length ∧ Below w.heap.size w wr) (fun u _ _ => lenS u)
        case atStart => exact ⟨[], b', rfl, rfl, HL.out, h1, h2, dN HB.out _⟩
        case round =>
          clear h1 h2 HL HB
          obtain ⟨a2, b2, rfl, rfl, hl, h1, h2, hbw⟩ := hrel
          have HL := Lib.hid hl
          have HB := Lib.hid hbw
          clear hl hbw
          cases a2 with
          | nil =>
            go_wp2_with fail
            go_quiet (fail)
            go_wp2_with fail
            go_ret2
            exact ⟨_, _, rfl, HL.out, h1, h2, dN HB.out _⟩
          | cons c x =>
            cases b2 with
            | nil =>
              go_wp2_with fail
              go_quiet (fail)
              go_wp2_with fail
              go_ret2
              exact ⟨_, _, rfl, HL.out, h1, h2, dN HB.out _⟩
            | cons d y =>
              obtain ⟨u, e, hu, hul⟩ := last_split c x
              obtain ⟨v, f, hv, hvl⟩ := last_split d y
              have ex : ∀ h, (⟨(c :: x).toArray⟩ : ByteArray)[x.length]'h = e := fun h => last_byte hu hul h
              have ey : ∀ h, (⟨(d :: y).toArray⟩ : ByteArray)[y.length]'h = f := fun h => last_byte hv hvl h
              simp only [List.length_cons] at h1 h2
              by_cases hq : e = f
              · subst hq
                have hx : (⟨(c :: x).toArray⟩ : ByteArray).extract 0 x.length = ⟨u.toArray⟩ := by rw [ext_eq, hu, ← hul]; simp
                have hy : (⟨(d :: y).toArray⟩ : ByteArray).extract 0 y.length = ⟨v.toArray⟩ := by rw [ext_eq, hv, ← hvl]; simp
                rw [hu, hv, lev_suffix] at HL
                have HU := Lib.hid hul
                have HV := Lib.hid hvl
                clear hu hv hul hvl
                go_wp2_with fail
                go_quiet (fail)
                go_wp2_with fail
                go_quiet (fail)
                go_wp2_with fail
                go_roundw
                case rel => exact ⟨u, v, rfl, rfl, HL.out, by have := HU.out; omega, by have := HV.out; omega, dN (dN HB.out _) _⟩
                case measure => have := HU.out; simp [lenS, ByteArray.size]; omega
              · have hne : ((e.toNat : Int) == (f.toNat : Int)) = false := byte_ne hq
                clear hu hv hul hvl hq
                go_wp2_with fail
                go_quiet (fail)
                go_wp2_with fail
                go_ret2
                exact ⟨_, _, rfl, HL.out, by simp <;> omega, by simp <;> omega, dN HB.out _⟩
      · go_wp2_with fail
        go_quiet (fail)
        go_wp2_with fail
        go_loopw [0, 1] (fun u v wr => ∃ a2 b2, u = str a2 ∧ v = str b2 ∧ lev a2 b2 = lev a b ∧ a2.length ≤ a.length ∧ b2.length ≤ b.length ∧ Below w.heap.size w wr) (fun u _ _ => lenS u)
        case atStart => exact ⟨(c :: x), [], rfl, rfl, HL.out, h1, h2, dN HB.out _⟩
        case round =>
          clear h1 h2 HL HB
          obtain ⟨a2, b2, rfl, rfl, hl, h1, h2, hbw⟩ := hrel
          have HL := Lib.hid hl
          have HB := Lib.hid hbw
          clear hl hbw
          cases a2 with
          | nil =>
            go_wp2_with fail
            go_quiet (fail)
            go_wp2_with fail
            go_ret2
            exact ⟨_, _, rfl, HL.out, h1, h2, dN HB.out _⟩
          | cons c x =>
            cases b2 with
            | nil =>
              go_wp2_with fail
              go_quiet (fail)
              go_wp2_with fail
              go_ret2
              exact ⟨_, _, rfl, HL.out, h1, h2, dN HB.out _⟩
            | cons d y =>
              obtain ⟨u, e, hu, hul⟩ := last_split c x
              obtain ⟨v, f, hv, hvl⟩ := last_split d y
              have ex : ∀ h, (⟨(c :: x).toArray⟩ : ByteArray)[x.length]'h = e := fun h => last_byte hu hul h
              have ey : ∀ h, (⟨(d :: y).toArray⟩ : ByteArray)[y.length]'h = f := fun h => last_byte hv hvl h
              simp only [List.length_cons] at h1 h2
              by_cases hq : e = f
              · subst hq
                have hx : (⟨(c :: x).toArray⟩ : ByteArray).extract 0 x.length = ⟨u.toArray⟩ := by rw [ext_eq, hu, ← hul]; simp
                have hy : (⟨(d :: y).toArray⟩ : ByteArray).extract 0 y.length = ⟨v.toArray⟩ := by rw [ext_eq, hv, ← hvl]; simp
                rw [hu, hv, lev_suffix] at HL
                have HU := Lib.hid hul
                have HV := Lib.hid hvl
                clear hu hv hul hvl
                go_wp2_with fail
                go_quiet (fail)
                go_wp2_with fail
                go_quiet (fail)
                go_wp2_with fail
                go_roundw
                case rel => exact ⟨u, v, rfl, rfl, HL.out, by have := HU.out; omega, by have := HV.out; omega, dN (dN HB.out _) _⟩
                case measure => have := HU.out; simp [lenS, ByteArray.size]; omega
              · have hne : ((e.toNat : Int) == (f.toNat : Int)) = false := byte_ne hq
                clear hu hv hul hvl hq
                go_wp2_with fail
                go_quiet (fail)
                go_wp2_with fail
                go_ret2
                exact ⟨_, _, rfl, HL.out, by simp <;> omega, by simp <;> omega, dN HB.out _⟩
      · have hne : ((c.toNat : Int) == (d.toNat : Int)) = false := byte_ne hcd
        have ex : ∀ h, (⟨(c :: x).toArray⟩ : ByteArray)[0]'h = c := fun _ => rfl
        have ey : ∀ h, (⟨(d :: y).toArray⟩ : ByteArray)[0]'h = d := fun _ => rfl
        go_wp2_with fail
        go_quiet (fail)
        go_wp2_with fail
        go_loopw [0, 1] (fun u v wr => ∃ a2 b2, u = str a2 ∧ v = str b2 ∧ lev a2 b2 = lev a b ∧ a2.length ≤ a.length ∧ b2.length ≤ b.length ∧ Below w.heap.size w wr) (fun u _ _ => lenS u)
        case atStart => exact ⟨(c :: x), (d :: y), rfl, rfl, HL.out, h1, h2, dN HB.out _⟩
        case round =>
          clear h1 h2 HL HB
          obtain ⟨a2, b2, rfl, rfl, hl, h1, h2, hbw⟩ := hrel
          have HL := Lib.hid hl
          have HB := Lib.hid hbw
          clear hl hbw
          cases a2 with
          | nil =>
            go_wp2_with fail
            go_quiet (fail)
            go_wp2_with fail
            go_ret2
            exact ⟨_, _, rfl, HL.out, h1, h2, dN HB.out _⟩
          | cons c x =>
            cases b2 with
            | nil =>
              go_wp2_with fail
              go_quiet (fail)
              go_wp2_with fail
              go_ret2
              exact ⟨_, _, rfl, HL.out, h1, h2, dN HB.out _⟩
            | cons d y =>
              obtain ⟨u, e, hu, hul⟩ := last_split c x
              obtain ⟨v, f, hv, hvl⟩ := last_split d y
              have ex : ∀ h, (⟨(c :: x).toArray⟩ : ByteArray)[x.length]'h = e := fun h => last_byte hu hul h
              have ey : ∀ h, (⟨(d :: y).toArray⟩ : ByteArray)[y.length]'h = f := fun h => last_byte hv hvl h
              simp only [List.length_cons] at h1 h2
              by_cases hq : e = f
              · subst hq
                have hx : (⟨(c :: x).toArray⟩ : ByteArray).extract 0 x.length = ⟨u.toArray⟩ := by rw [ext_eq, hu, ← hul]; simp
                have hy : (⟨(d :: y).toArray⟩ : ByteArray).extract 0 y.length = ⟨v.toArray⟩ := by rw [ext_eq, hv, ← hvl]; simp
                rw [hu, hv, lev_suffix] at HL
                have HU := Lib.hid hul
                have HV := Lib.hid hvl
                clear hu hv hul hvl
                go_wp2_with fail
                go_quiet (fail)
                go_wp2_with fail
                go_quiet (fail)
                go_wp2_with fail
                go_roundw
                case rel => exact ⟨u, v, rfl, rfl, HL.out, by have := HU.out; omega, by have := HV.out; omega, dN (dN HB.out _) _⟩
                case measure => have := HU.out; simp [lenS, ByteArray.size]; omega
              · have hne : ((e.toNat : Int) == (f.toNat : Int)) = false := byte_ne hq
                clear hu hv hul hvl hq
                go_wp2_with fail
                go_quiet (fail)
                go_wp2_with fail
                go_ret2
                exact ⟨_, _, rfl, HL.out, by simp <;> omega, by simp <;> omega, dN HB.out _⟩

end Go.Proofs.YtendkghifcjffaaGreatDoor
