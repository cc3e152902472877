/- The contract of Parse. -/
import Derived.Test.YtpmggfmhkjafkaaDoorText
namespace Go.Proofs.YtpmggfmhkjafkaaDoor
open Go.RowKit

/-- What the parts of a text seem to mean. -/
def parse2 (l before after : List UInt8) : Int × Int × Int :=
  match Lib.atoiAll before, Lib.atoiAll after with
  | .ok n, .ok d => if txt n d = l then (n, d, 0) else (0, 0, 6)
  | _, _ => (0, 0, 6)
/-- What Parse returns. -/
def parse (l : List UInt8) : Int × Int × Int :=
  parse2 l (Lib.cut l [47]).1 (if (Lib.cut l [47]).2.2 then (Lib.cut l [47]).2.1 else [49])

theorem atoi_okL (b : List UInt8) (hb : b.length ≤ 1000) (v : Int) (h : Lib.atoiAll b = .ok v) (w : World) :
    Calls Tryd.prog 36 #[.string ⟨b.toArray⟩] w fun e w' => e = .returned (.tuple #[.int .i64 v, .nilIface]) ∧ Below w.heap.size w w' :=
  atoi_ok ⟨b.toArray⟩ (by simpa [ByteArray.size] using hb) v (by simpa using h) w
theorem atoi_badL (b : List UInt8) (hb : b.length ≤ 1000) (h : ∀ v, Lib.atoiAll b ≠ .ok v) (w : World) (he : Env w) :
    Calls Tryd.prog 36 #[.string ⟨b.toArray⟩] w fun e w' => (∃ n t a, e = .returned (.tuple #[.int .i64 n, .iface t (.pointer (some a))])) ∧ Below w.heap.size w w' :=
  atoi_bad ⟨b.toArray⟩ (by simpa [ByteArray.size] using hb) (by simpa using h) w he

theorem parse_cut_eq (l b a : List UInt8) (hl : l.length ≤ 1000) (hc : Lib.cut l [47] = (b, a, true)) (hb : b.length ≤ 1000) (ha : a.length ≤ 1000) (n d : Int) (h1 : Lib.atoiAll b = .ok n) (h2 : Lib.atoiAll a = .ok d) (t : List UInt8) (ht : txt n d = t) (heq : t = l) (w : World) (he : Env w) :
    Calls Tryd.prog 13 #[.string ⟨l.toArray⟩] w (RatioPost w (n, d, 0)) := by
  have HC := Lib.hid hc
  have H1 := Lib.hid h1
  have H2 := Lib.hid h2
  have HT := Lib.hid ht
  clear hc h1 h2 ht
  subst heq
  go_enter Tryd.func13, Tryd.ntmps13
  go_wp2_with fail
  refine (cut_any ⟨t.toArray⟩ ⟨#[47]⟩ (by simp [ByteArray.size]; omega) _ (he.alloc _)).mono ?_
  rintro e w1 ⟨rfl, hb1⟩
  rw [show Lib.cut (ByteArray.mk t.toArray).data.toList (ByteArray.mk #[47]).data.toList = (b, a, true) by simpa using HC.out]
  have R1 : Own2 w1 w.heap.size 0 0 := Own2.below ⟨⟨by simp [go_sem], by simp [go_sem]⟩, by simp [go_sem], by simp [go_sem]⟩ hb1
  have HB := below_up (((Below.refl _ _).alloc (Nat.le_refl _) _)) hb1 (by simp)
  clear hb1
  go_wp2_with fail
  refine (atoi_okL b hb n H1.out _).mono ?_
  rintro e w2 ⟨rfl, hb2⟩
  have HB2 := below_up HB hb2 HB.size
  have R2 := R1.below hb2
  clear hb2
  go_wp2_with fail
  refine (atoi_okL a ha d H2.out _).mono ?_
  rintro e w3 ⟨rfl, hb3⟩
  have HB3 := below_up HB2 hb3 HB2.size
  have R3 := R2.below hb3
  clear hb3
  go_wp2_with fail
  have T := text_any n d _ (((he.below HB3).alloc (Obj.cells #[Value.int IntKind.i64 n, Value.int IntKind.i64 d] 23)))
  rw [HT.out] at T
  refine T.mono ?_
  clear T
  rintro e w4 ⟨rfl, hb4⟩
  have A4 : Rat2 w4 w3.heap.size n d := Rat2.below ⟨by simp [go_sem], by simp [go_sem]⟩ hb4
  have hb5 : Below w3.heap.size w3 w4 := below_up (((Below.refl _ _).alloc (Nat.le_refl _) _)) hb4 (by simp)
  have HB4 := below_up HB3 hb5 HB3.size
  have R4 := R3.below hb5
  have a0 := A4.c0; have a1 := A4.c1
  clear hb4 hb5
  have r0 := R4.c0; have r1 := R4.c1; have f0 := R4.f0; have f1 := R4.f1
  go_wp2_with fail
  refine bodyPost_ret (v := .tuple #[.agg #[.int .i64 n, .int .i64 d], .int .i64 0]) (by simp [results, Tryd.results13, go_sem, r0, r1]) rfl ?_
  exact ⟨rfl, (HB4.setCell (show w.heap.size ≤ w.heap.size by omega) _).setCell (show w.heap.size ≤ w.heap.size by omega) _⟩

theorem parse_cut_ne (l b a : List UInt8) (hl : l.length ≤ 1000) (hc : Lib.cut l [47] = (b, a, true)) (hb : b.length ≤ 1000) (ha : a.length ≤ 1000) (n d : Int) (h1 : Lib.atoiAll b = .ok n) (h2 : Lib.atoiAll a = .ok d) (t : List UInt8) (ht : txt n d = t) (heq : t ≠ l) (w : World) (he : Env w) :
    Calls Tryd.prog 13 #[.string ⟨l.toArray⟩] w (RatioPost w (0, 0, 6)) := by
  have HC := Lib.hid hc
  have H1 := Lib.hid h1
  have H2 := Lib.hid h2
  have HT := Lib.hid ht
  have hne : (t == l) = false := by simpa using heq
  clear hc h1 h2 ht
  go_enter Tryd.func13, Tryd.ntmps13
  go_wp2_with fail
  refine (cut_any ⟨l.toArray⟩ ⟨#[47]⟩ (by simp [ByteArray.size]; omega) _ (he.alloc _)).mono ?_
  rintro e w1 ⟨rfl, hb1⟩
  rw [show Lib.cut (ByteArray.mk l.toArray).data.toList (ByteArray.mk #[47]).data.toList = (b, a, true) by simpa using HC.out]
  have R1 : Own2 w1 w.heap.size 0 0 := Own2.below ⟨⟨by simp [go_sem], by simp [go_sem]⟩, by simp [go_sem], by simp [go_sem]⟩ hb1
  have HB := below_up (((Below.refl _ _).alloc (Nat.le_refl _) _)) hb1 (by simp)
  clear hb1
  go_wp2_with fail
  refine (atoi_okL b hb n H1.out _).mono ?_
  rintro e w2 ⟨rfl, hb2⟩
  have HB2 := below_up HB hb2 HB.size
  have R2 := R1.below hb2
  clear hb2
  go_wp2_with fail
  refine (atoi_okL a ha d H2.out _).mono ?_
  rintro e w3 ⟨rfl, hb3⟩
  have HB3 := below_up HB2 hb3 HB2.size
  have R3 := R2.below hb3
  clear hb3
  go_wp2_with fail
  have T := text_any n d _ (((he.below HB3).alloc (Obj.cells #[Value.int IntKind.i64 n, Value.int IntKind.i64 d] 23)))
  rw [HT.out] at T
  refine T.mono ?_
  clear T
  rintro e w4 ⟨rfl, hb4⟩
  have A4 : Rat2 w4 w3.heap.size n d := Rat2.below ⟨by simp [go_sem], by simp [go_sem]⟩ hb4
  have hb5 : Below w3.heap.size w3 w4 := below_up (((Below.refl _ _).alloc (Nat.le_refl _) _)) hb4 (by simp)
  have HB4 := below_up HB3 hb5 HB3.size
  have R4 := R3.below hb5
  have a0 := A4.c0; have a1 := A4.c1
  clear hb4 hb5
  have r0 := R4.c0; have r1 := R4.c1; have f0 := R4.f0; have f1 := R4.f1
  go_wp2_with fail
  refine bodyPost_ret (v := .tuple #[.agg #[.int .i64 0, .int .i64 0], .int .i64 6]) (by simp [results, Tryd.results13, go_sem, r0, r1]) rfl ?_
  exact ⟨rfl, (HB4.setCell (show w.heap.size ≤ w.heap.size by omega) _).setCell (show w.heap.size ≤ w.heap.size by omega) _⟩

theorem parse_cut_bad1 (l b a : List UInt8) (hl : l.length ≤ 1000) (hc : Lib.cut l [47] = (b, a, true)) (hb : b.length ≤ 1000) (ha : a.length ≤ 1000) (h1 : ∀ v, Lib.atoiAll b ≠ .ok v) (w : World) (he : Env w) :
    Calls Tryd.prog 13 #[.string ⟨l.toArray⟩] w (RatioPost w (0, 0, 6)) := by
  have HC := Lib.hid hc
  have H1 := Lib.hid h1
  clear hc h1
  go_enter Tryd.func13, Tryd.ntmps13
  go_wp2_with fail
  refine (cut_any ⟨l.toArray⟩ ⟨#[47]⟩ (by simp [ByteArray.size]; omega) _ (he.alloc _)).mono ?_
  rintro e w1 ⟨rfl, hb1⟩
  rw [show Lib.cut (ByteArray.mk l.toArray).data.toList (ByteArray.mk #[47]).data.toList = (b, a, true) by simpa using HC.out]
  have R1 : Own2 w1 w.heap.size 0 0 := Own2.below ⟨⟨by simp [go_sem], by simp [go_sem]⟩, by simp [go_sem], by simp [go_sem]⟩ hb1
  have HB := below_up (((Below.refl _ _).alloc (Nat.le_refl _) _)) hb1 (by simp)
  clear hb1
  go_wp2_with fail
  refine (atoi_badL b hb H1.out _ (he.below HB)).mono ?_
  rintro e w2 ⟨⟨n, t, q, rfl⟩, hb2⟩
  have HB2 := below_up HB hb2 HB.size
  have R2 := R1.below hb2
  clear hb2
  go_wp2_with fail
  by_cases hx : ∃ v, Lib.atoiAll a = .ok v
  · obtain ⟨d, hd⟩ := hx
    refine (atoi_okL a ha d hd _).mono ?_
    rintro e w3 ⟨rfl, hb3⟩
    have HB3 := below_up HB2 hb3 HB2.size
    have R3 := R2.below hb3
    clear hb3
    have r0 := R3.c0; have r1 := R3.c1; have f0 := R3.f0; have f1 := R3.f1
    go_wp2_with fail
    refine bodyPost_ret (v := .tuple #[.agg #[.int .i64 0, .int .i64 0], .int .i64 6]) (by simp [results, Tryd.results13, go_sem, r0, r1]) rfl ?_
    exact ⟨rfl, (HB3.setCell (show w.heap.size ≤ w.heap.size by omega) _).setCell (show w.heap.size ≤ w.heap.size by omega) _⟩
  · refine (atoi_badL a ha (fun v h => hx ⟨v, h⟩) _ (he.below HB2)).mono ?_
    rintro e w3 ⟨⟨d, t2, q2, rfl⟩, hb3⟩
    have HB3 := below_up HB2 hb3 HB2.size
    have R3 := R2.below hb3
    clear hb3
    have r0 := R3.c0; have r1 := R3.c1; have f0 := R3.f0; have f1 := R3.f1
    go_wp2_with fail
    refine bodyPost_ret (v := .tuple #[.agg #[.int .i64 0, .int .i64 0], .int .i64 6]) (by simp [results, Tryd.results13, go_sem, r0, r1]) rfl ?_
    exact ⟨rfl, (HB3.setCell (show w.heap.size ≤ w.heap.size by omega) _).setCell (show w.heap.size ≤ w.heap.size by omega) _⟩

theorem parse_cut_bad2 (l b a : List UInt8) (hl : l.length ≤ 1000) (hc : Lib.cut l [47] = (b, a, true)) (hb : b.length ≤ 1000) (ha : a.length ≤ 1000) (n : Int) (h1 : Lib.atoiAll b = .ok n) (h2 : ∀ v, Lib.atoiAll a ≠ .ok v) (w : World) (he : Env w) :
    Calls Tryd.prog 13 #[.string ⟨l.toArray⟩] w (RatioPost w (0, 0, 6)) := by
  have HC := Lib.hid hc
  have H1 := Lib.hid h1
  have H2 := Lib.hid h2
  clear hc h1 h2
  go_enter Tryd.func13, Tryd.ntmps13
  go_wp2_with fail
  refine (cut_any ⟨l.toArray⟩ ⟨#[47]⟩ (by simp [ByteArray.size]; omega) _ (he.alloc _)).mono ?_
  rintro e w1 ⟨rfl, hb1⟩
  rw [show Lib.cut (ByteArray.mk l.toArray).data.toList (ByteArray.mk #[47]).data.toList = (b, a, true) by simpa using HC.out]
  have R1 : Own2 w1 w.heap.size 0 0 := Own2.below ⟨⟨by simp [go_sem], by simp [go_sem]⟩, by simp [go_sem], by simp [go_sem]⟩ hb1
  have HB := below_up (((Below.refl _ _).alloc (Nat.le_refl _) _)) hb1 (by simp)
  clear hb1
  go_wp2_with fail
  refine (atoi_okL b hb n H1.out _).mono ?_
  rintro e w2 ⟨rfl, hb2⟩
  have HB2 := below_up HB hb2 HB.size
  have R2 := R1.below hb2
  clear hb2
  go_wp2_with fail
  refine (atoi_badL a ha H2.out _ (he.below HB2)).mono ?_
  rintro e w3 ⟨⟨d, t2, q2, rfl⟩, hb3⟩
  have HB3 := below_up HB2 hb3 HB2.size
  have R3 := R2.below hb3
  clear hb3
  have r0 := R3.c0; have r1 := R3.c1; have f0 := R3.f0; have f1 := R3.f1
  go_wp2_with fail
  refine bodyPost_ret (v := .tuple #[.agg #[.int .i64 0, .int .i64 0], .int .i64 6]) (by simp [results, Tryd.results13, go_sem, r0, r1]) rfl ?_
  exact ⟨rfl, (HB3.setCell (show w.heap.size ≤ w.heap.size by omega) _).setCell (show w.heap.size ≤ w.heap.size by omega) _⟩

theorem parse_whole_eq (l b a : List UInt8) (hl : l.length ≤ 1000) (hc : Lib.cut l [47] = (b, a, false)) (hb : b.length ≤ 1000) (n d : Int) (h1 : Lib.atoiAll b = .ok n) (h2 : Lib.atoiAll [49] = .ok d) (t : List UInt8) (ht : txt n d = t) (heq : t = l) (w : World) (he : Env w) :
    Calls Tryd.prog 13 #[.string ⟨l.toArray⟩] w (RatioPost w (n, d, 0)) := by
  have HC := Lib.hid hc
  have H1 := Lib.hid h1
  have H2 := Lib.hid h2
  have HT := Lib.hid ht
  clear hc h1 h2 ht
  subst heq
  go_enter Tryd.func13, Tryd.ntmps13
  go_wp2_with fail
  refine (cut_any ⟨t.toArray⟩ ⟨#[47]⟩ (by simp [ByteArray.size]; omega) _ (he.alloc _)).mono ?_
  rintro e w1 ⟨rfl, hb1⟩
  rw [show Lib.cut (ByteArray.mk t.toArray).data.toList (ByteArray.mk #[47]).data.toList = (b, a, false) by simpa using HC.out]
  have R1 : Own2 w1 w.heap.size 0 0 := Own2.below ⟨⟨by simp [go_sem], by simp [go_sem]⟩, by simp [go_sem], by simp [go_sem]⟩ hb1
  have HB := below_up (((Below.refl _ _).alloc (Nat.le_refl _) _)) hb1 (by simp)
  clear hb1
  go_wp2_with fail
  refine (atoi_okL b hb n H1.out _).mono ?_
  rintro e w2 ⟨rfl, hb2⟩
  have HB2 := below_up HB hb2 HB.size
  have R2 := R1.below hb2
  clear hb2
  go_wp2_with fail
  refine (atoi_okL [49] (by simp) d H2.out _).mono ?_
  rintro e w3 ⟨rfl, hb3⟩
  have HB3 := below_up HB2 hb3 HB2.size
  have R3 := R2.below hb3
  clear hb3
  go_wp2_with fail
  have T := text_any n d _ (((he.below HB3).alloc (Obj.cells #[Value.int IntKind.i64 n, Value.int IntKind.i64 d] 23)))
  rw [HT.out] at T
  refine T.mono ?_
  clear T
  rintro e w4 ⟨rfl, hb4⟩
  have A4 : Rat2 w4 w3.heap.size n d := Rat2.below ⟨by simp [go_sem], by simp [go_sem]⟩ hb4
  have hb5 : Below w3.heap.size w3 w4 := below_up (((Below.refl _ _).alloc (Nat.le_refl _) _)) hb4 (by simp)
  have HB4 := below_up HB3 hb5 HB3.size
  have R4 := R3.below hb5
  have a0 := A4.c0; have a1 := A4.c1
  clear hb4 hb5
  have r0 := R4.c0; have r1 := R4.c1; have f0 := R4.f0; have f1 := R4.f1
  go_wp2_with fail
  refine bodyPost_ret (v := .tuple #[.agg #[.int .i64 n, .int .i64 d], .int .i64 0]) (by simp [results, Tryd.results13, go_sem, r0, r1]) rfl ?_
  exact ⟨rfl, (HB4.setCell (show w.heap.size ≤ w.heap.size by omega) _).setCell (show w.heap.size ≤ w.heap.size by omega) _⟩

theorem parse_whole_ne (l b a : List UInt8) (hl : l.length ≤ 1000) (hc : Lib.cut l [47] = (b, a, false)) (hb : b.length ≤ 1000) (n d : Int) (h1 : Lib.atoiAll b = .ok n) (h2 : Lib.atoiAll [49] = .ok d) (t : List UInt8) (ht : txt n d = t) (heq : t ≠ l) (w : World) (he : Env w) :
    Calls Tryd.prog 13 #[.string ⟨l.toArray⟩] w (RatioPost w (0, 0, 6)) := by
  have HC := Lib.hid hc
  have H1 := Lib.hid h1
  have H2 := Lib.hid h2
  have HT := Lib.hid ht
  have hne : (t == l) = false := by simpa using heq
  clear hc h1 h2 ht
  go_enter Tryd.func13, Tryd.ntmps13
  go_wp2_with fail
  refine (cut_any ⟨l.toArray⟩ ⟨#[47]⟩ (by simp [ByteArray.size]; omega) _ (he.alloc _)).mono ?_
  rintro e w1 ⟨rfl, hb1⟩
  rw [show Lib.cut (ByteArray.mk l.toArray).data.toList (ByteArray.mk #[47]).data.toList = (b, a, false) by simpa using HC.out]
  have R1 : Own2 w1 w.heap.size 0 0 := Own2.below ⟨⟨by simp [go_sem], by simp [go_sem]⟩, by simp [go_sem], by simp [go_sem]⟩ hb1
  have HB := below_up (((Below.refl _ _).alloc (Nat.le_refl _) _)) hb1 (by simp)
  clear hb1
  go_wp2_with fail
  refine (atoi_okL b hb n H1.out _).mono ?_
  rintro e w2 ⟨rfl, hb2⟩
  have HB2 := below_up HB hb2 HB.size
  have R2 := R1.below hb2
  clear hb2
  go_wp2_with fail
  refine (atoi_okL [49] (by simp) d H2.out _).mono ?_
  rintro e w3 ⟨rfl, hb3⟩
  have HB3 := below_up HB2 hb3 HB2.size
  have R3 := R2.below hb3
  clear hb3
  go_wp2_with fail
  have T := text_any n d _ (((he.below HB3).alloc (Obj.cells #[Value.int IntKind.i64 n, Value.int IntKind.i64 d] 23)))
  rw [HT.out] at T
  refine T.mono ?_
  clear T
  rintro e w4 ⟨rfl, hb4⟩
  have A4 : Rat2 w4 w3.heap.size n d := Rat2.below ⟨by simp [go_sem], by simp [go_sem]⟩ hb4
  have hb5 : Below w3.heap.size w3 w4 := below_up (((Below.refl _ _).alloc (Nat.le_refl _) _)) hb4 (by simp)
  have HB4 := below_up HB3 hb5 HB3.size
  have R4 := R3.below hb5
  have a0 := A4.c0; have a1 := A4.c1
  clear hb4 hb5
  have r0 := R4.c0; have r1 := R4.c1; have f0 := R4.f0; have f1 := R4.f1
  go_wp2_with fail
  refine bodyPost_ret (v := .tuple #[.agg #[.int .i64 0, .int .i64 0], .int .i64 6]) (by simp [results, Tryd.results13, go_sem, r0, r1]) rfl ?_
  exact ⟨rfl, (HB4.setCell (show w.heap.size ≤ w.heap.size by omega) _).setCell (show w.heap.size ≤ w.heap.size by omega) _⟩

theorem parse_whole_bad1 (l b a : List UInt8) (hl : l.length ≤ 1000) (hc : Lib.cut l [47] = (b, a, false)) (hb : b.length ≤ 1000) (h1 : ∀ v, Lib.atoiAll b ≠ .ok v) (w : World) (he : Env w) :
    Calls Tryd.prog 13 #[.string ⟨l.toArray⟩] w (RatioPost w (0, 0, 6)) := by
  have HC := Lib.hid hc
  have H1 := Lib.hid h1
  clear hc h1
  go_enter Tryd.func13, Tryd.ntmps13
  go_wp2_with fail
  refine (cut_any ⟨l.toArray⟩ ⟨#[47]⟩ (by simp [ByteArray.size]; omega) _ (he.alloc _)).mono ?_
  rintro e w1 ⟨rfl, hb1⟩
  rw [show Lib.cut (ByteArray.mk l.toArray).data.toList (ByteArray.mk #[47]).data.toList = (b, a, false) by simpa using HC.out]
  have R1 : Own2 w1 w.heap.size 0 0 := Own2.below ⟨⟨by simp [go_sem], by simp [go_sem]⟩, by simp [go_sem], by simp [go_sem]⟩ hb1
  have HB := below_up (((Below.refl _ _).alloc (Nat.le_refl _) _)) hb1 (by simp)
  clear hb1
  go_wp2_with fail
  refine (atoi_badL b hb H1.out _ (he.below HB)).mono ?_
  rintro e w2 ⟨⟨n, t, q, rfl⟩, hb2⟩
  have HB2 := below_up HB hb2 HB.size
  have R2 := R1.below hb2
  clear hb2
  go_wp2_with fail
  by_cases hx : ∃ v, Lib.atoiAll [49] = .ok v
  · obtain ⟨d, hd⟩ := hx
    refine (atoi_okL [49] (by simp) d hd _).mono ?_
    rintro e w3 ⟨rfl, hb3⟩
    have HB3 := below_up HB2 hb3 HB2.size
    have R3 := R2.below hb3
    clear hb3
    have r0 := R3.c0; have r1 := R3.c1; have f0 := R3.f0; have f1 := R3.f1
    go_wp2_with fail
    refine bodyPost_ret (v := .tuple #[.agg #[.int .i64 0, .int .i64 0], .int .i64 6]) (by simp [results, Tryd.results13, go_sem, r0, r1]) rfl ?_
    exact ⟨rfl, (HB3.setCell (show w.heap.size ≤ w.heap.size by omega) _).setCell (show w.heap.size ≤ w.heap.size by omega) _⟩
  · refine (atoi_badL [49] (by simp) (fun v h => hx ⟨v, h⟩) _ (he.below HB2)).mono ?_
    rintro e w3 ⟨⟨d, t2, q2, rfl⟩, hb3⟩
    have HB3 := below_up HB2 hb3 HB2.size
    have R3 := R2.below hb3
    clear hb3
    have r0 := R3.c0; have r1 := R3.c1; have f0 := R3.f0; have f1 := R3.f1
    go_wp2_with fail
    refine bodyPost_ret (v := .tuple #[.agg #[.int .i64 0, .int .i64 0], .int .i64 6]) (by simp [results, Tryd.results13, go_sem, r0, r1]) rfl ?_
    exact ⟨rfl, (HB3.setCell (show w.heap.size ≤ w.heap.size by omega) _).setCell (show w.heap.size ≤ w.heap.size by omega) _⟩

end Go.Proofs.YtpmggfmhkjafkaaDoor
