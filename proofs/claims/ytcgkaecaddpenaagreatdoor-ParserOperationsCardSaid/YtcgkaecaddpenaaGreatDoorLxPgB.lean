/- The program's readers of names, numbers and symbols. -/
import Derived.Test.YtcgkaecaddpenaaGreatDoorLxPgA
import Derived.Test.YtcgkaecaddpenaaGreatDoorPV
import Derived.Test.YtcgkaecaddpenaaGreatDoorLxNum
namespace Go.Proofs.YtcgkaecaddpenaaGreatDoor
open Go.RowKit
open L7 (Lt Dg In gapC gap tok num symN syms)

/-- A token as a value. -/
abbrev tokV (k : Int) (x : Txt) (n a : Int) : Value := .agg #[.int .i64 k, str x, .int .i64 n, .int .i64 a]
/-- What a reader returns that finds a token: the token and its length. -/
def Hit (w : World) (x : Int × Txt × Int) (n : Nat) (e : Ending) (w' : World) : Prop := e = .returned (.tuple #[tokV x.1 x.2.1 x.2.2 0, .int .i64 (n : Int)]) ∧ Below w.heap.size w w'
/-- What a reader returns that finds none. -/
def Miss (w : World) (e : Ending) (w' : World) : Prop := (∃ k, e = .returned (.tuple #[tokV k [] 0 0, .int .i64 0])) ∧ Below w.heap.size w w'
/-- Block b holds four cells; they may be written. -/
structure Own4 (w : World) (b : Nat) (x0 x1 x2 x3 : Value) : Prop where
  c0 : w.cell? ⟨b, 0, none⟩ = some x0
  c1 : w.cell? ⟨b, 1, none⟩ = some x1
  c2 : w.cell? ⟨b, 2, none⟩ = some x2
  c3 : w.cell? ⟨b, 3, none⟩ = some x3
  f0 : w.frozen? ⟨b, 0, none⟩ = false
  f1 : w.frozen? ⟨b, 1, none⟩ = false
  f2 : w.frozen? ⟨b, 2, none⟩ = false
  f3 : w.frozen? ⟨b, 3, none⟩ = false
theorem Own4.below {w w1 : World} {b : Nat} {x0 x1 x2 x3 : Value} (h : Own4 w b x0 x1 x2 x3) (hb : Below w.heap.size w w1) : Own4 w1 b x0 x1 x2 x3 :=
  ⟨cellB hb h.c0, cellB hb h.c1, cellB hb h.c2, cellB hb h.c3, frozenB hb h.c0 h.f0, frozenB hb h.c1 h.f1, frozenB hb h.c2 h.f2, frozenB hb h.c3 h.f3⟩
theorem own4_new (w : World) (x0 x1 x2 x3 : Value) (T : TypeId) : Own4 (w.alloc (.cells #[x0, x1, x2, x3] T)) w.heap.size x0 x1 x2 x3 :=
  ⟨by simp [go_sem], by simp [go_sem], by simp [go_sem], by simp [go_sem], by simp [go_sem], by simp [go_sem], by simp [go_sem], by simp [go_sem]⟩
def Bad (w : World) (er : Int) (e : Ending) (w' : World) : Prop := e = Pn er ∧ Below w.heap.size w w'

set_option maxRecDepth 100000 in
set_option maxHeartbeats 2000000 in
theorem name_miss (t : Txt) (c : UInt8) (h0 : 0 < t.length) (hc : t[0] = c) (htl : t.length ≤ 100000) (hl : Lt c = false) (w : World) :
    Calls Tryz.prog 23 #[str t] w (Miss w) := by
  have hsz := sz t
  have ex : ∀ h, (⟨t.toArray⟩ : ByteArray)[0]'h = c := fun _ => hc
  have i2 : (0 : Int) < (t.length : Int) := by omega
  have C1 := Lib.hid (fun W => (show Calls Tryz.prog 34 #[.int .u8 (c.toNat : Int)] W (fun e w' => e = .returned (.bool false) ∧ W = w') by rw [← hl]; exact letter_pg c W))
  clear hc hl
  go_enter Tryz.func23, Tryz.ntmps23
  go_wp2_with (go_at_call 34; refine (C1.out _).mono ?_; rintro e w1 ⟨rfl, rfl⟩)
  exact bodyPost_ret (v := .tuple #[tokV 0 [] 0 0, .int .i64 0]) (by simp [results, Tryz.results23, go_sem]) rfl ⟨⟨0, rfl⟩, below_box _ _⟩
set_option maxRecDepth 100000 in
set_option maxHeartbeats 2000000 in
theorem name_bad (t : Txt) (c : UInt8) (h0 : 0 < t.length) (hc : t[0] = c) (htl : t.length ≤ 100000) (hl : Lt c = true) (hb : 24 < (t.takeWhile In).length) (w : World) :
    Calls Tryz.prog 23 #[str t] w (Bad w 3) := by
  have hsz := sz t
  have ex : ∀ h, (⟨t.toArray⟩ : ByteArray)[0]'h = c := fun _ => hc
  have i2 : (0 : Int) < (t.length : Int) := by omega
  obtain ⟨n, hn⟩ : ∃ n, (t.takeWhile In).length = n := ⟨_, rfl⟩
  rw [hn] at hb
  have C1 := Lib.hid (fun W => (show Calls Tryz.prog 34 #[.int .u8 (c.toNat : Int)] W (fun e w' => e = .returned (.bool true) ∧ W = w') by rw [← hl]; exact letter_pg c W))
  have C2 := Lib.hid (fun W => (show Calls Tryz.prog 35 #[str t, fnv 36] W (fun e w' => e = .returned (.int .i64 (n : Int)) ∧ W = w') by rw [← hn]; exact span_part t htl W))
  clear hc hl hn
  have i3 : (24 : Int) < (n : Int) := by omega
  go_enter Tryz.func23, Tryz.ntmps23
  go_wp2_with (first | (go_at_call 34; refine (C1.out _).mono ?_; rintro e w1 ⟨rfl, rfl⟩) | (go_at_call 35; refine (C2.out _).mono ?_; rintro e w1 ⟨rfl, rfl⟩))
  exact ⟨rfl, rfl, below_box _ _⟩
set_option maxRecDepth 100000 in
set_option maxHeartbeats 2000000 in
theorem name_hit (t : Txt) (c : UInt8) (h0 : 0 < t.length) (hc : t[0] = c) (htl : t.length ≤ 100000) (hl : Lt c = true) (hb : ¬ 24 < (t.takeWhile In).length) (w : World) :
    Calls Tryz.prog 23 #[str t] w (Hit w (1, t.takeWhile In, 0) (t.takeWhile In).length) := by
  have hsz := sz t
  have ex : ∀ h, (⟨t.toArray⟩ : ByteArray)[0]'h = c := fun _ => hc
  have i2 : (0 : Int) < (t.length : Int) := by omega
  obtain ⟨n, hn⟩ : ∃ n, (t.takeWhile In).length = n := ⟨_, rfl⟩
  rw [hn] at hb
  have hle : n ≤ t.length := by rw [← hn]; exact (List.takeWhile_sublist _).length_le
  have xt : (⟨t.toArray⟩ : ByteArray).extract 0 n = ⟨(t.takeWhile In).toArray⟩ := by rw [ext_eq, List.drop_zero, Nat.sub_zero, ← hn, L7.take_tw]
  have C1 := Lib.hid (fun W => (show Calls Tryz.prog 34 #[.int .u8 (c.toNat : Int)] W (fun e w' => e = .returned (.bool true) ∧ W = w') by rw [← hl]; exact letter_pg c W))
  have C2 := Lib.hid (fun W => (show Calls Tryz.prog 35 #[str t, fnv 36] W (fun e w' => e = .returned (.int .i64 (n : Int)) ∧ W = w') by rw [← hn]; exact span_part t htl W))
  obtain ⟨x, hx⟩ : ∃ x, t.takeWhile In = x := ⟨_, rfl⟩
  rw [hx] at xt hn
  rw [hx, hn]
  clear hc hl hn hx
  have i3 : ¬ (24 : Int) < (n : Int) := by omega
  have i4 : (0 : Int) ≤ (n : Int) := by omega
  have i5 : (n : Int) ≤ (t.length : Int) := by omega
  go_enter Tryz.func23, Tryz.ntmps23
  go_wp2_with (first | (go_at_call 34; refine (C1.out _).mono ?_; rintro e w1 ⟨rfl, rfl⟩) | (go_at_call 35; refine (C2.out _).mono ?_; rintro e w1 ⟨rfl, rfl⟩))
  exact bodyPost_ret (v := .tuple #[tokV 1 x 0 0, .int .i64 (n : Int)]) (by simp [results, Tryz.results23, go_sem]) rfl ⟨rfl, below_box _ _⟩
/-- A text begins with a digit, or its digits are none. -/
theorem dig_len0 {t : Txt} {c : UInt8} (h0 : 0 < t.length) (hc : t[0] = c) (hd : Dg c = false) : (t.takeWhile Dg).length = 0 := by
  have := tw_no Dg h0 (by rw [hc]; exact hd)
  simpa using this
theorem dig_len1 {t : Txt} {c : UInt8} (h0 : 0 < t.length) (hc : t[0] = c) (hd : Dg c = true) : 0 < (t.takeWhile Dg).length := by
  have := tw_yes Dg h0 (by rw [hc]; exact hd)
  simp only [List.drop_zero] at this
  omega
set_option maxRecDepth 100000 in
set_option maxHeartbeats 2000000 in
theorem number_miss (t : Txt) (c : UInt8) (h0 : 0 < t.length) (hc : t[0] = c) (htl : t.length ≤ 100000) (hd : Dg c = false) (w : World) :
    Calls Tryz.prog 24 #[str t] w (Miss w) := by
  have hn := dig_len0 h0 hc hd
  have hsz := sz t
  have ex : ∀ h, (⟨t.toArray⟩ : ByteArray)[0]'h = c := fun _ => hc
  have i2 : (0 : Int) < (t.length : Int) := by omega
  have C1 := Lib.hid (fun W => (show Calls Tryz.prog 35 #[str t, fnv 37] W (fun e w' => e = .returned (.int .i64 ((0 : Nat) : Int)) ∧ W = w') by rw [← hn]; exact span_digit t htl W))
  clear hc hd hn
  go_enter Tryz.func24, Tryz.ntmps24
  go_wp2_with (go_at_call 35; refine (C1.out _).mono ?_; rintro e w1 ⟨rfl, rfl⟩)
  exact bodyPost_ret (v := .tuple #[tokV 0 [] 0 0, .int .i64 0]) (by simp [results, Tryz.results24, go_sem]) rfl ⟨⟨0, rfl⟩, below_box _ _⟩
/-- What Atoi returns for digits. -/
theorem atoi_dig (x : Txt) (hd : ∀ c ∈ x, Dg c = true) (h0 : x ≠ []) (hl : x.length ≤ 10) (w : World) :
    Calls Tryz.prog 38 #[str x] w fun e w' => e = .returned (.tuple #[.int .i64 (num x : Int), .nilIface]) ∧ Below w.heap.size w w' := by
  refine (Any.strconv_Atoi_ok Tryz.laysC172 ⟨x.toArray⟩ (by rw [sz]; omega) (num x : Int) (by simpa using L7.atoi_digs hd h0 hl) w).mono ?_
  rintro e w' ⟨rfl, rfl | ⟨t, rfl⟩⟩
  · exact ⟨rfl, Below.refl _ _⟩
  · exact ⟨rfl, Joins.below_bytesWorld _ _ _ _ (Nat.le_refl _)⟩
set_option maxRecDepth 100000 in
set_option maxHeartbeats 2000000 in
theorem number_long (t : Txt) (c : UInt8) (h0 : 0 < t.length) (hc : t[0] = c) (htl : t.length ≤ 100000) (hb : 10 < (t.takeWhile Dg).length) (w : World) :
    Calls Tryz.prog 24 #[str t] w (Bad w 6) := by
  have hsz := sz t
  have ex : ∀ h, (⟨t.toArray⟩ : ByteArray)[0]'h = c := fun _ => hc
  have i2 : (0 : Int) < (t.length : Int) := by omega
  obtain ⟨n, hn⟩ : ∃ n, (t.takeWhile Dg).length = n := ⟨_, rfl⟩
  rw [hn] at hb
  have C1 := Lib.hid (fun W => (show Calls Tryz.prog 35 #[str t, fnv 37] W (fun e w' => e = .returned (.int .i64 (n : Int)) ∧ W = w') by rw [← hn]; exact span_digit t htl W))
  clear hc hn
  have i3 : (10 : Int) < (n : Int) := by omega
  have i4 : ((n : Int) == 0) = false := by rw [beq_eq_false_iff_ne]; omega
  go_enter Tryz.func24, Tryz.ntmps24
  go_wp2_with (go_at_call 35; refine (C1.out _).mono ?_; rintro e w1 ⟨rfl, rfl⟩)
  exact ⟨rfl, rfl, below_box _ _⟩
set_option maxRecDepth 100000 in
set_option maxHeartbeats 2000000 in
theorem number_more (t : Txt) (c : UInt8) (h0 : 0 < t.length) (hc : t[0] = c) (htl : t.length ≤ 100000) (hd : Dg c = true) (hb : ¬ 10 < (t.takeWhile Dg).length) (hm0 : (t.takeWhile Dg).length < (t.takeWhile In).length) (w : World) :
    Calls Tryz.prog 24 #[str t] w (Bad w 6) := by
  have hpos := dig_len1 h0 hc hd
  have hsz := sz t
  have ex : ∀ h, (⟨t.toArray⟩ : ByteArray)[0]'h = c := fun _ => hc
  have i2 : (0 : Int) < (t.length : Int) := by omega
  obtain ⟨n, hn⟩ : ∃ n, (t.takeWhile Dg).length = n := ⟨_, rfl⟩
  obtain ⟨m, hm⟩ : ∃ m, (t.takeWhile In).length = m := ⟨_, rfl⟩
  rw [hn] at hb hm0 hpos
  rw [hm] at hm0
  have C1 := Lib.hid (fun W => (show Calls Tryz.prog 35 #[str t, fnv 37] W (fun e w' => e = .returned (.int .i64 (n : Int)) ∧ W = w') by rw [← hn]; exact span_digit t htl W))
  have C2 := Lib.hid (fun W => (show Calls Tryz.prog 35 #[str t, fnv 36] W (fun e w' => e = .returned (.int .i64 (m : Int)) ∧ W = w') by rw [← hm]; exact span_part t htl W))
  clear hc hd hn hm
  have i3 : ¬ (10 : Int) < (n : Int) := by omega
  have i4 : ((n : Int) == 0) = false := by rw [beq_eq_false_iff_ne]; omega
  have i5 : (n : Int) < (m : Int) := by omega
  go_enter Tryz.func24, Tryz.ntmps24
  go_wp2_with (first | (go_at_call 35; first | ((with_reducible refine (C1.out _).mono ?_); rintro e w1 ⟨rfl, rfl⟩) | ((with_reducible refine (C2.out _).mono ?_); rintro e w1 ⟨rfl, rfl⟩)))
  exact ⟨rfl, rfl, below_box _ _⟩
set_option maxRecDepth 100000 in
set_option maxHeartbeats 2000000 in
theorem number_hit (t : Txt) (c : UInt8) (h0 : 0 < t.length) (hc : t[0] = c) (htl : t.length ≤ 100000) (hd : Dg c = true) (hb : ¬ 10 < (t.takeWhile Dg).length) (hm0 : ¬ (t.takeWhile Dg).length < (t.takeWhile In).length) (w : World) :
    Calls Tryz.prog 24 #[str t] w (Hit w (2, t.takeWhile Dg, (num (t.takeWhile Dg) : Int)) (t.takeWhile Dg).length) := by
  have hpos := dig_len1 h0 hc hd
  have hsz := sz t
  have ex : ∀ h, (⟨t.toArray⟩ : ByteArray)[0]'h = c := fun _ => hc
  have i2 : (0 : Int) < (t.length : Int) := by omega
  obtain ⟨n, hn⟩ : ∃ n, (t.takeWhile Dg).length = n := ⟨_, rfl⟩
  obtain ⟨m, hm⟩ : ∃ m, (t.takeWhile In).length = m := ⟨_, rfl⟩
  rw [hn] at hb hm0 hpos
  rw [hm] at hm0
  have hle : n ≤ t.length := by rw [← hn]; exact (List.takeWhile_sublist _).length_le
  have xt : (⟨t.toArray⟩ : ByteArray).extract 0 n = ⟨(t.takeWhile Dg).toArray⟩ := by rw [ext_eq, List.drop_zero, Nat.sub_zero, ← hn, L7.take_tw]
  have C1 := Lib.hid (fun W => (show Calls Tryz.prog 35 #[str t, fnv 37] W (fun e w' => e = .returned (.int .i64 (n : Int)) ∧ W = w') by rw [← hn]; exact span_digit t htl W))
  have C2 := Lib.hid (fun W => (show Calls Tryz.prog 35 #[str t, fnv 36] W (fun e w' => e = .returned (.int .i64 (m : Int)) ∧ W = w') by rw [← hm]; exact span_part t htl W))
  have hdig := L7.mem_tw Dg t
  obtain ⟨x, hx⟩ : ∃ x, t.takeWhile Dg = x := ⟨_, rfl⟩
  rw [hx] at xt hn hdig
  rw [hx, hn]
  have C3 := Lib.hid (fun W => atoi_dig x hdig (by rintro rfl; simp at hn; omega) (by omega) W)
  obtain ⟨v, hv⟩ : ∃ v : Int, (num x : Int) = v := ⟨_, rfl⟩
  rw [hv] at C3 ⊢
  clear hc hd hn hm hx hdig hv
  have i3 : ¬ (10 : Int) < (n : Int) := by omega
  have i4 : ((n : Int) == 0) = false := by rw [beq_eq_false_iff_ne]; omega
  have i5 : ¬ (n : Int) < (m : Int) := by omega
  have i6 : (0 : Int) ≤ (n : Int) := by omega
  have i7 : (n : Int) ≤ (t.length : Int) := by omega
  go_enter Tryz.func24, Tryz.ntmps24
  go_wp2_with (first | (go_at_call 35; first | ((with_reducible refine (C1.out _).mono ?_); rintro e w1 ⟨rfl, rfl⟩) | ((with_reducible refine (C2.out _).mono ?_); rintro e w1 ⟨rfl, rfl⟩)))
  refine (C3.out _).mono ?_
  rintro e w1 ⟨rfl, hb1⟩
  have HB := Lib.hid (below_up (below_box w _) hb1 (by simp))
  obtain ⟨c0, c1, c2, c3, f0, f1, f2, f3⟩ := (own4_new w (.int .i64 0) (str []) (.int .i64 0) (.int .i64 0) 37).below hb1
  clear hb1
  go_wp2_with fail
  exact bodyPost_ret (v := .tuple #[tokV 2 x v 0, .int .i64 (n : Int)]) (by simp [results, Tryz.results24, go_sem, c0, c1, c2, c3]) rfl ⟨rfl, (((HB.out.setCell (Nat.le_refl _) _).setCell (Nat.le_refl _) _).setCell (Nat.le_refl _) _).setCell (Nat.le_refl _) _⟩
/-! ### Symbols. -/
theorem prefix_pg (t : Txt) (p : Array UInt8) (b : Bool) (h : p.toList.isPrefixOf t = b) (w : World) :
    Calls Tryz.prog 40 #[str t, .string ⟨p⟩] w fun e w' => e = .returned (.bool b) ∧ w = w' := by
  refine (Any.strings_HasPrefix Tryz.lays99 ⟨t.toArray⟩ ⟨p⟩ w).mono ?_
  rintro e w' ⟨rfl, rfl⟩
  refine ⟨bool_ret ?_, rfl⟩
  rw [← h]
  rfl
theorem index_iff (l : List UInt8) (c : UInt8) : 0 ≤ Lib.indexByte l c ↔ c ∈ l := by
  induction l with
  | nil => simp [Lib.indexByte]
  | cons b l ih =>
    unfold Lib.indexByte
    by_cases h : b = c
    · subst h
      simp
    · have h1 : (b == c) = false := by rw [beq_eq_false_iff_ne]; exact h
      have h2 := Lib.indexByte_ge l c
      rw [h1, if_neg (by decide), List.mem_cons]
      by_cases h3 : Lib.indexByte l c = -1
      · have h4 : ¬ c ∈ l := fun q => by have := ih.2 q; omega
        rw [h3]
        simp only [beq_self_eq_true, if_true]
        constructor
        · intro q; omega
        · rintro (q | q)
          · exact absurd q.symm h
          · exact absurd q h4
      · have h4 : (Lib.indexByte l c == -1) = false := by rw [beq_eq_false_iff_ne]; exact h3
        rw [h4, if_neg (by decide)]
        have h5 : 0 ≤ Lib.indexByte l c := by omega
        constructor
        · intro _; exact .inr (ih.1 h5)
        · intro _; omega
theorem index_pg (c : UInt8) (i : Int) (h : Lib.indexByte syms c = i) (w : World) :
    Calls Tryz.prog 41 #[.string ⟨#[59, 58, 44, 46, 40, 41, 123, 125, 61, 60, 43, 45, 47, 64]⟩, .int .u8 (c.toNat : Int)] w fun e w' => e = .returned (.int .i64 i) ∧ w = w' := by
  refine (Any.strings_IndexByte Tryz.lays137 ⟨#[59, 58, 44, 46, 40, 41, 123, 125, 61, 60, 43, 45, 47, 64]⟩ (c.toNat : Int) w).mono ?_
  rintro e w' ⟨rfl, rfl⟩
  refine ⟨ret_int ?_, rfl⟩
  rw [← h]
  have e : (c.toNat : Int).toNat.toUInt8 = c := by simp
  rw [e]
  rfl
theorem two_iff (t : Txt) (a : UInt8) : [a, 61].isPrefixOf t = true ↔ ∃ r, t = a :: 61 :: r := by
  match t with
  | [] => simp
  | [c] => simp
  | c :: d :: r =>
    simp [List.isPrefixOf]
    constructor
    · rintro ⟨rfl, rfl⟩; exact ⟨rfl, rfl⟩
    · rintro ⟨rfl, rfl⟩; exact ⟨rfl, rfl⟩
set_option maxRecDepth 100000 in
set_option maxHeartbeats 2000000 in
theorem symbol_two_x (t : Txt) (h1 : [33, 61].isPrefixOf t = true) (hl : 2 ≤ t.length) (w : World) : Calls Tryz.prog 26 #[str t] w (Hit w (4, t.take 2, 0) 2) := by
  have hsz := sz t
  have xt : (⟨t.toArray⟩ : ByteArray).extract 0 2 = ⟨(t.take 2).toArray⟩ := by rw [ext_eq, List.drop_zero]
  have C1 := Lib.hid (fun W => prefix_pg t #[33, 61] true h1 W)
  obtain ⟨x, hx⟩ : ∃ x, t.take 2 = x := ⟨_, rfl⟩
  rw [hx] at xt ⊢
  clear hx
  clear h1
  have i2 : (2 : Int) ≤ (t.length : Int) := by omega
  go_enter Tryz.func26, Tryz.ntmps26
  go_wp2_with (first | (go_at_call 40; ((with_reducible refine (C1.out _).mono ?_); rintro e w1 ⟨rfl, rfl⟩)) | fail)
  exact bodyPost_ret (v := .tuple #[tokV 4 x 0 0, .int .i64 2]) (by simp [results, Tryz.results26, go_sem]) rfl ⟨rfl, below_box _ _⟩
set_option maxRecDepth 100000 in
set_option maxHeartbeats 2000000 in
theorem symbol_two_y (t : Txt) (h1 : [33, 61].isPrefixOf t = false) (h2 : [60, 61].isPrefixOf t = true) (hl : 2 ≤ t.length) (w : World) : Calls Tryz.prog 26 #[str t] w (Hit w (4, t.take 2, 0) 2) := by
  have hsz := sz t
  have xt : (⟨t.toArray⟩ : ByteArray).extract 0 2 = ⟨(t.take 2).toArray⟩ := by rw [ext_eq, List.drop_zero]
  have C1 := Lib.hid (fun W => prefix_pg t #[33, 61] false h1 W)
  have C2 := Lib.hid (fun W => prefix_pg t #[60, 61] true h2 W)
  obtain ⟨x, hx⟩ : ∃ x, t.take 2 = x := ⟨_, rfl⟩
  rw [hx] at xt ⊢
  clear hx
  clear h1 h2
  have i2 : (2 : Int) ≤ (t.length : Int) := by omega
  go_enter Tryz.func26, Tryz.ntmps26
  go_wp2_with (first | (go_at_call 40; (first | ((with_reducible refine (C1.out _).mono ?_); rintro e w1 ⟨rfl, rfl⟩) | ((with_reducible refine (C2.out _).mono ?_); rintro e w1 ⟨rfl, rfl⟩))) | fail)
  exact bodyPost_ret (v := .tuple #[tokV 4 x 0 0, .int .i64 2]) (by simp [results, Tryz.results26, go_sem]) rfl ⟨rfl, below_box _ _⟩
set_option maxRecDepth 100000 in
set_option maxHeartbeats 2000000 in
theorem symbol_one (t : Txt) (c : UInt8) (h0 : 0 < t.length) (hc : t[0] = c) (htl : t.length ≤ 100000) (h1 : [33, 61].isPrefixOf t = false) (h2 : [60, 61].isPrefixOf t = false) (hm : c ∈ syms) (w : World) :
    Calls Tryz.prog 26 #[str t] w (Hit w (4, t.take 1, 0) 1) := by
  have hsz := sz t
  have ex : ∀ h, (⟨t.toArray⟩ : ByteArray)[0]'h = c := fun _ => hc
  have i2 : (0 : Int) < (t.length : Int) := by omega
  have xt : (⟨t.toArray⟩ : ByteArray).extract 0 1 = ⟨(t.take 1).toArray⟩ := by rw [ext_eq, List.drop_zero]
  have C1 := Lib.hid (fun W => prefix_pg t #[33, 61] false h1 W)
  have C2 := Lib.hid (fun W => prefix_pg t #[60, 61] false h2 W)
  obtain ⟨i, hi⟩ : ∃ i, Lib.indexByte syms c = i := ⟨_, rfl⟩
  have hiff := index_iff syms c
  rw [hi] at hiff
  have C3 := Lib.hid (fun W => index_pg c i hi W)
  obtain ⟨x, hx⟩ : ∃ x, t.take 1 = x := ⟨_, rfl⟩
  rw [hx] at xt ⊢
  clear hx
  have i3 : (0 : Int) ≤ i := hiff.2 hm
  have i4 : (1 : Int) ≤ (t.length : Int) := by omega
  clear h1 h2 hc hi hiff hm htl
  go_enter Tryz.func26, Tryz.ntmps26
  go_wp2_with (first | (go_at_call 40; (first | ((with_reducible refine (C1.out _).mono ?_); rintro e w1 ⟨rfl, rfl⟩) | ((with_reducible refine (C2.out _).mono ?_); rintro e w1 ⟨rfl, rfl⟩))) | (go_at_call 41; refine (C3.out _).mono ?_; rintro e w1 ⟨rfl, rfl⟩))
  exact bodyPost_ret (v := .tuple #[tokV 4 x 0 0, .int .i64 1]) (by simp [results, Tryz.results26, go_sem]) rfl ⟨rfl, below_box _ _⟩
set_option maxRecDepth 100000 in
set_option maxHeartbeats 2000000 in
theorem symbol_none (t : Txt) (c : UInt8) (h0 : 0 < t.length) (hc : t[0] = c) (htl : t.length ≤ 100000) (h1 : [33, 61].isPrefixOf t = false) (h2 : [60, 61].isPrefixOf t = false) (hm : c ∉ syms) (w : World) :
    Calls Tryz.prog 26 #[str t] w (Miss w) := by
  have hsz := sz t
  have ex : ∀ h, (⟨t.toArray⟩ : ByteArray)[0]'h = c := fun _ => hc
  have i2 : (0 : Int) < (t.length : Int) := by omega
  have xt : (⟨t.toArray⟩ : ByteArray).extract 0 0 = ⟨(t.take 0).toArray⟩ := by rw [ext_eq, List.drop_zero]
  have C1 := Lib.hid (fun W => prefix_pg t #[33, 61] false h1 W)
  have C2 := Lib.hid (fun W => prefix_pg t #[60, 61] false h2 W)
  obtain ⟨i, hi⟩ : ∃ i, Lib.indexByte syms c = i := ⟨_, rfl⟩
  have hiff := index_iff syms c
  rw [hi] at hiff
  have C3 := Lib.hid (fun W => index_pg c i hi W)
  rw [List.take_zero] at xt
  have i3 : ¬ (0 : Int) ≤ i := fun q => hm (hiff.1 q)
  clear h1 h2 hc hi hiff hm htl
  go_enter Tryz.func26, Tryz.ntmps26
  go_wp2_with (first | (go_at_call 40; (first | ((with_reducible refine (C1.out _).mono ?_); rintro e w1 ⟨rfl, rfl⟩) | ((with_reducible refine (C2.out _).mono ?_); rintro e w1 ⟨rfl, rfl⟩))) | (go_at_call 41; refine (C3.out _).mono ?_; rintro e w1 ⟨rfl, rfl⟩))
  exact bodyPost_ret (v := .tuple #[tokV 4 [] 0 0, .int .i64 0]) (by simp [results, Tryz.results26, go_sem, show ByteArray.empty = (⟨#[]⟩ : ByteArray) from rfl]) rfl ⟨⟨4, rfl⟩, below_box _ _⟩
end Go.Proofs.YtcgkaecaddpenaaGreatDoor
