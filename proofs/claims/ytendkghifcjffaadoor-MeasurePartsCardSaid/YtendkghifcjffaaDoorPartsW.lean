/- MeasureParts in plain words: a common beginning or end does not change the edit distance; one more byte changes it by at most 1. -/
import Derived.Test.YtendkghifcjffaaDoorMLaw
namespace Go.Proofs.YtendkghifcjffaaDoor
open Go.RowKit

theorem conv_one (c : UInt8) (W : World) : (convert 26 9 (.slice (some ⟨W.heap.size, 0, none⟩) 1 1)).run Tryd.prog (W.alloc (.cells #[.int .u8 (c.toNat : Int)] 5)).drew = .ok (.string ⟨#[c]⟩) (W.alloc (.cells #[.int .u8 (c.toNat : Int)] 5)).drew :=
  run_convert_bytes_back _ _ _ 5 ⟨W.heap.size, 0, none⟩ 1 [c] Tryd.underlying26 Tryd.underlying5 Tryd.underlying9 (fun j hj => by
    have : j = 0 := by simpa using hj
    subst this
    simp [go_sem])
theorem str_add (a b : List UInt8) : (⟨a.toArray⟩ : ByteArray) ++ ⟨b.toArray⟩ = ⟨(a ++ b).toArray⟩ := by
  apply ByteArray.ext
  simp [ByteArray.data_append]

set_option maxRecDepth 100000 in
theorem parts_l (a b c : List UInt8) (p x : UInt8) (h : shortB 150 [a, b, c] = false) (w : World) :
    Calls Tryd.prog 4 #[str a, str b, str c, .int .u8 (p.toNat : Int), .int .u8 (x.toNat : Int)] w fun e w' => e = .returned (.bool true) ∧ Below w.heap.size w w' := by
  go_enter Tryd.func4, Tryd.ntmps4
  go_wp2_with fail
  refine (head_any _).mono ?_
  rintro e1 w1 ⟨rfl, hb⟩
  have HB1 := Lib.hid hb
  clear hb
  go_wp2_with fail
  refine (short_lit 150 [a, b, c] (by simp) w1).mono ?_
  rw [h]
  rintro e2 w2 ⟨rfl, hb⟩
  have HB2 := Lib.hid (below_up HB1.out hb HB1.out.size)
  clear hb
  go_wp2_with fail
  go_ret
  exact ⟨rfl, HB2.out⟩

set_option maxRecDepth 100000 in
set_option maxHeartbeats 4000000 in
theorem parts_m (a b c : List UInt8) (p x : UInt8) (k d e : Nat) (u v s1 s2 ca cb ac bc : List UInt8) (HH : Hid (shortB 150 [a, b, c] = true)) (hk : (p.toNat : Int).tmod ((a.length : Int) + 1) = (k : Int)) (hka : k ≤ a.length) (la : a.length ≤ 150) (lb : b.length ≤ 150) (lc : c.length ≤ 150)
    (h1 : (⟨a.toArray⟩ : ByteArray).extract 0 k = ⟨u.toArray⟩) (h2 : (⟨a.toArray⟩ : ByteArray).extract k a.length = ⟨v.toArray⟩) (h3 : (⟨u.toArray⟩ : ByteArray) ++ ⟨#[x]⟩ = ⟨s1.toArray⟩) (h4 : (⟨s1.toArray⟩ : ByteArray) ++ ⟨v.toArray⟩ = ⟨s2.toArray⟩)
    (h5 : (⟨c.toArray⟩ : ByteArray) ++ ⟨a.toArray⟩ = ⟨ca.toArray⟩) (h6 : (⟨c.toArray⟩ : ByteArray) ++ ⟨b.toArray⟩ = ⟨cb.toArray⟩) (h7 : (⟨a.toArray⟩ : ByteArray) ++ ⟨c.toArray⟩ = ⟨ac.toArray⟩) (h8 : (⟨b.toArray⟩ : ByteArray) ++ ⟨c.toArray⟩ = ⟨bc.toArray⟩)
    (lu : u.length ≤ 150) (lv : v.length ≤ 150) (ls : s1.length ≤ 151)
    (CD : Hid (∀ W, Calls Tryd.prog 11 #[str a, str b] W fun e w' => e = .returned (.int .i64 (d : Int)) ∧ Below W.heap.size W w'))
    (CE : Hid (∀ W, Calls Tryd.prog 11 #[str s2, str b] W fun r w' => r = .returned (.int .i64 (e : Int)) ∧ Below W.heap.size W w'))
    (C1 : Hid (∀ W, Calls Tryd.prog 11 #[str ca, str cb] W fun e w' => e = .returned (.int .i64 (d : Int)) ∧ Below W.heap.size W w'))
    (C2 : Hid (∀ W, Calls Tryd.prog 11 #[str ac, str bc] W fun e w' => e = .returned (.int .i64 (d : Int)) ∧ Below W.heap.size W w'))
    (he1 : e ≤ d + 1) (he2 : d ≤ e + 1) (hd : d ≤ 1000) (w : World) :
    Calls Tryd.prog 4 #[str a, str b, str c, .int .u8 (p.toNat : Int), .int .u8 (x.toNat : Int)] w fun e w' => e = .returned (.bool true) ∧ Below w.heap.size w w' := by
  have hpp := p.toNat_lt
  have hxx := x.toNat_lt
  go_enter Tryd.func4, Tryd.ntmps4
  go_wp2_with fail
  refine (head_any _).mono ?_
  rintro e1 w1 ⟨rfl, hb⟩
  have HB1 := Lib.hid hb
  clear hb
  go_wp2_with fail
  refine (short_lit 150 [a, b, c] (by simp) w1).mono ?_
  rw [HH.out]
  rintro e2 w2 ⟨rfl, hb⟩
  have HB2 := Lib.hid (below_up HB1.out hb HB1.out.size)
  clear hb
  go_wp2_with fail
  refine (CD.out _).mono ?_
  rintro e3 w3 ⟨rfl, hb⟩
  have HB3 := Lib.hid (below_up HB2.out hb HB2.out.size)
  clear hb
  have hcv := conv_one x w3
  have he3 : (d : Int) - 1 ≤ (e : Int) := by omega
  have he4 : (e : Int) ≤ (d : Int) + 1 := by omega
  have g1 : ¬ 9223372036854775807 < u.length + 1 := by omega
  have g2 : ¬ 9223372036854775807 < s1.length + v.length := by omega
  go_wp2_with fail
  have HB := HB3
  refine wp_region_held_drew (S := (fun _ => True)) (by kernel_rfl) ?_ (fun hHeld => ?_)
  · trivial
  refine wpAnyH_take (i := 0) (v := ?_) (by (simp only [List.getElem?_toArray, List.getElem?_cons_zero]; rfl)) (by kernel_rfl) (by kernel_rfl) (by kernel_rfl) (by intro _ _ _ h; exact h) (Or.inl ⟨by kernel_rfl, ?_⟩) hHeld ?_
  case refine_2 =>
    intro w hSw
    try dsimp only at hSw
    go_simp
    try with_reducible rfl
  try simp only [Act.put, List.setIfInBounds_toArray, List.set_cons_zero, List.set_cons_succ]
  refine wpAnyH_take (i := 1) (v := ?_) (by (simp only [List.getElem?_toArray, List.getElem?_cons_succ, List.getElem?_cons_zero]; rfl)) (by kernel_rfl) (by kernel_rfl) (by kernel_rfl) (by intro _ _ _ h; exact h) (Or.inl ⟨by kernel_rfl, ?_⟩) hHeld ?_
  case refine_2 =>
    intro w hSw
    try dsimp only at hSw
    go_simp
    try with_reducible rfl
  try simp only [Act.put, List.setIfInBounds_toArray, List.set_cons_zero, List.set_cons_succ]
  refine wpAnyH_take (i := 2) (v := ?_) (by (simp only [List.getElem?_toArray, List.getElem?_cons_succ, List.getElem?_cons_zero]; rfl)) (by kernel_rfl) (by kernel_rfl) (by kernel_rfl) (by intro _ _ _ h; exact h) (Or.inl ⟨by kernel_rfl, ?_⟩) hHeld ?_
  case refine_2 =>
    intro w hSw
    try dsimp only at hSw
    go_simp
    try with_reducible rfl
  try simp only [Act.put, List.setIfInBounds_toArray, List.set_cons_zero, List.set_cons_succ]
  refine wpAnyH_take (i := 3) (v := ?_) (by (simp only [List.getElem?_toArray, List.getElem?_cons_succ, List.getElem?_cons_zero]; rfl)) (by kernel_rfl) (by kernel_rfl) (by kernel_rfl) (by intro _ _ _ h; exact h) (Or.inl ⟨by kernel_rfl, ?_⟩) hHeld ?_
  case refine_2 =>
    intro w hSw
    try dsimp only at hSw
    go_simp
    try with_reducible rfl
  try simp only [Act.put, List.setIfInBounds_toArray, List.set_cons_zero, List.set_cons_succ]
  refine wpAnyH_take (i := 7) (v := ?_) (by (simp only [List.getElem?_toArray, List.getElem?_cons_succ, List.getElem?_cons_zero]; rfl)) (by kernel_rfl) (by kernel_rfl) (by kernel_rfl) (by intro _ _ _ h; exact h) (Or.inl ⟨by kernel_rfl, ?_⟩) hHeld ?_
  case refine_2 =>
    intro w hSw
    try dsimp only at hSw
    go_simp
    try with_reducible rfl
  try simp only [Act.put, List.setIfInBounds_toArray, List.set_cons_zero, List.set_cons_succ]
  refine wpAnyH_take (i := 8) (v := ?_) (by (simp only [List.getElem?_toArray, List.getElem?_cons_succ, List.getElem?_cons_zero]; rfl)) (by kernel_rfl) (by kernel_rfl) (by kernel_rfl) (by intro _ _ _ h; exact h) (Or.inl ⟨by kernel_rfl, ?_⟩) hHeld ?_
  case refine_2 =>
    intro w hSw
    try dsimp only at hSw
    go_simp
    try with_reducible rfl
  try simp only [Act.put, List.setIfInBounds_toArray, List.set_cons_zero, List.set_cons_succ]
  refine wpAnyH_take (i := 9) (v := ?_) (by (simp only [List.getElem?_toArray, List.getElem?_cons_succ, List.getElem?_cons_zero]; rfl)) (by kernel_rfl) (by kernel_rfl) (by kernel_rfl) (by intro _ _ _ h; exact h) (Or.inl ⟨by kernel_rfl, ?_⟩) hHeld ?_
  case refine_2 =>
    intro w hSw
    try dsimp only at hSw
    go_simp
    try with_reducible rfl
  try simp only [Act.put, List.setIfInBounds_toArray, List.set_cons_zero, List.set_cons_succ]
  refine wpAnyH_take (i := 11) (v := ?_) (by (simp only [List.getElem?_toArray, List.getElem?_cons_succ, List.getElem?_cons_zero]; rfl)) (by kernel_rfl) (by kernel_rfl) (by kernel_rfl) (by intro _ _ _ h; exact h) (Or.inl ⟨by kernel_rfl, ?_⟩) hHeld ?_
  case refine_2 =>
    intro w hSw
    try dsimp only at hSw
    go_simp
    try with_reducible rfl
  try simp only [Act.put, List.setIfInBounds_toArray, List.set_cons_zero, List.set_cons_succ]
  refine wpAnyH_ready (rs := [4]) (by kernel_rfl) (by simp) ?_
  refine AllReadyH.cons (by (simp only [List.getElem?_toArray, List.getElem?_cons_succ, List.getElem?_cons_zero]; rfl)) (fun K hK => ?_) AllReadyH.nil
  go_simp
  replace HB := Lib.hid (HB.out.alloc HB.out.size (Obj.cells #[Value.int IntKind.u8 (x.toNat : Int)] 5)).drew
  clear hHeld
  refine hK.out _ _ ?_ (fun hHeld => ?_)
  · trivial
  clear hK K
  try simp only [Act.put, List.setIfInBounds_toArray, List.set_cons_zero, List.set_cons_succ]
  refine wpAnyH_ready (rs := [5]) (by kernel_rfl) (by simp) ?_
  refine AllReadyH.cons (by (simp only [List.getElem?_toArray, List.getElem?_cons_succ, List.getElem?_cons_zero]; rfl)) (fun K hK => ?_) AllReadyH.nil
  go_simp
  clear hHeld
  refine hK.out _ _ ?_ (fun hHeld => ?_)
  · trivial
  clear hK K
  try simp only [Act.put, List.setIfInBounds_toArray, List.set_cons_zero, List.set_cons_succ]
  refine wpAnyH_take (i := 6) (v := ?_) (by (simp only [List.getElem?_toArray, List.getElem?_cons_succ, List.getElem?_cons_zero]; rfl)) (by kernel_rfl) (by kernel_rfl) (by kernel_rfl) (by intro _ _ _ h; exact h) (Or.inl ⟨by kernel_rfl, ?_⟩) hHeld ?_
  case refine_2 =>
    intro w hSw
    try dsimp only at hSw
    go_simp
    try with_reducible rfl
  try simp only [Act.put, List.setIfInBounds_toArray, List.set_cons_zero, List.set_cons_succ]
  refine wpAnyH_take (i := 10) (v := ?_) (by (simp only [List.getElem?_toArray, List.getElem?_cons_succ, List.getElem?_cons_zero]; rfl)) (by kernel_rfl) (by kernel_rfl) (by kernel_rfl) (by intro _ _ _ h; exact h) (Or.inl ⟨by kernel_rfl, ?_⟩) hHeld ?_
  case refine_2 =>
    intro w hSw
    try dsimp only at hSw
    go_simp
    try with_reducible rfl
  try simp only [Act.put, List.setIfInBounds_toArray, List.set_cons_zero, List.set_cons_succ]
  refine wpAnyH_ready (rs := [12]) (by kernel_rfl) (by simp) ?_
  refine AllReadyH.cons (by (simp only [List.getElem?_toArray, List.getElem?_cons_succ, List.getElem?_cons_zero]; rfl)) (fun K hK => ?_) AllReadyH.nil
  go_simp
  refine (CE.out _).mono ?_
  rintro e v1 ⟨rfl, hv⟩
  replace HB := Lib.hid (below_up HB.out hv HB.out.size)
  clear hv
  try go_wp2_with fail
  clear hHeld
  refine hK.out _ _ ?_ (fun hHeld => ?_)
  · trivial
  clear hK K
  try simp only [Act.put, List.setIfInBounds_toArray, List.set_cons_zero, List.set_cons_succ]
  refine wpAnyH_take (i := 13) (v := ?_) (by (simp only [List.getElem?_toArray, List.getElem?_cons_succ, List.getElem?_cons_zero]; rfl)) (by kernel_rfl) (by kernel_rfl) (by kernel_rfl) (by intro _ _ _ h; exact h) (Or.inl ⟨by kernel_rfl, ?_⟩) hHeld ?_
  case refine_2 =>
    intro w hSw
    try dsimp only at hSw
    go_simp
    try with_reducible rfl
  try simp only [Act.put, List.setIfInBounds_toArray, List.set_cons_zero, List.set_cons_succ]
  refine wpAnyH_done (by kernel_rfl) ?_ _
  go_wp2_with fail
  refine (C1.out _).mono ?_
  rintro e5 w5 ⟨rfl, hb⟩
  replace HB := Lib.hid (below_up HB.out hb HB.out.size)
  clear hb
  go_wp2_with fail
  refine (C2.out _).mono ?_
  rintro e6 w6 ⟨rfl, hb⟩
  replace HB := Lib.hid (below_up HB.out hb HB.out.size)
  clear hb
  go_wp2_with fail
  go_ret
  exact ⟨rfl, HB.out⟩

theorem short3p {n : Nat} {a b c : List UInt8} (h : shortB n [a, b, c] = true) : a.length ≤ n ∧ b.length ≤ n ∧ c.length ≤ n := by
  unfold shortB at h
  simp at h
  omega
theorem parts_any (a b c : List UInt8) (p x : UInt8) (w : World) :
    Calls Tryd.prog 4 #[str a, str b, str c, .int .u8 (p.toNat : Int), .int .u8 (x.toNat : Int)] w fun e w' => e = .returned (.bool true) ∧ Below w.heap.size w w' := by
  cases h : shortB 150 [a, b, c] with
  | false => exact parts_l a b c p x h w
  | true =>
    obtain ⟨la, lb, lc⟩ := short3p (n := 150) h
    obtain ⟨k, hk⟩ : ∃ k : Nat, (p.toNat : Int).tmod ((a.length : Int) + 1) = (k : Int) := ⟨((p.toNat : Int).tmod ((a.length : Int) + 1)).toNat, by
      have := Int.tmod_nonneg ((a.length : Int) + 1) (show 0 ≤ (p.toNat : Int) by omega)
      omega⟩
    have hka : k ≤ a.length := by
      have := Int.tmod_lt_of_pos (p.toNat : Int) (show 0 < (a.length : Int) + 1 by omega)
      omega
    have m1 := lev_more (a.take k) (a.drop k) b x
    rw [List.take_append_drop] at m1
    have hd := (lev_len a b).2.2
    have e2 : a.take k ++ [x] ++ a.drop k = a.take k ++ x :: a.drop k := by simp
    refine parts_m a b c p x k (lev a b) (lev (a.take k ++ x :: a.drop k) b) (a.take k) (a.drop k) (a.take k ++ [x]) (a.take k ++ x :: a.drop k) (c ++ a) (c ++ b) (a ++ c) (b ++ c) (Lib.hid h) hk hka la lb lc
      (by rw [ext_eq]; simp) (by rw [ext_eq, List.take_of_length_le (by simp)]) (str_add _ [x]) (by rw [str_add, e2]) (str_add _ _) (str_add _ _) (str_add _ _) (str_add _ _)
      (by simp; omega) (by simp; omega) (by simp; omega)
      (Lib.hid (edit_any a b (by omega) (by omega))) (Lib.hid (edit_any _ b (by simp; omega) (by omega)))
      (Lib.hid (fun W => by have := edit_any (c ++ a) (c ++ b) (by simp; omega) (by simp; omega) W; rw [lev_prefix] at this; exact this))
      (Lib.hid (fun W => by have := edit_any (a ++ c) (b ++ c) (by simp; omega) (by simp; omega) W; rw [lev_suffix] at this; exact this))
      m1.1 m1.2 (by omega) w
end Go.Proofs.YtendkghifcjffaaDoor
