/- The contracts of the comparison of sets of tokens, and of numbers. -/
import Derived.Test.YtendkghifcjffaaGreatDoorMOfD
namespace Go.Proofs.YtendkghifcjffaaGreatDoor
open Go.RowKit

theorem toks_each (x : List UInt8) (hx : x.length ≤ 1000) : ∀ z ∈ L3.sortD (L3.words x), z.length ≤ 2000 := by
  intro z hz
  rw [L3.mem_sortD] at hz
  have := L3.words_each hz
  omega
theorem toks_len (x : List UInt8) (hx : x.length ≤ 1000) : (L3.sortD (L3.words x)).length ≤ 4000 := by
  have h1 := L3.sortD_len (L3.words x)
  have h2 := L3.words_len x
  omega
/-- The tokens of a text. -/
abbrev toks (x : List UInt8) : List (List UInt8) := L3.sortD (L3.words x)

set_option maxRecDepth 100000 in
set_option maxHeartbeats 800000 in
theorem m2_any (k n : Int) (x : List UInt8) (k2 n2 : Int) (y : List UInt8) (hx : x.length ≤ 1000) (hy : y.length ≤ 1000) (w : World) :
    Calls Tryz.prog 54 #[V k n x, V k2 n2 y] w fun e w' => e = .returned (rat (jacT (toks x) (toks y))) ∧ Below w.heap.size w w' := by
  have hx2 : x.length ≤ 1100 := by omega
  have hy2 : y.length ≤ 1100 := by omega
  have C1 := Lib.hid (L3.tokens_any x hx2)
  have C2 := Lib.hid (L3.tokens_any y hy2)
  have C3 := Lib.hid (fun u v W (h1 : Strs W u (toks x)) (h2 : Strs W v (toks y)) => jaccard_any (toks x) (toks y) u v W (toks_len x hx) (toks_len y hy) (toks_each x hx) (toks_each y hy) h1 h2)
  obtain ⟨r, hr⟩ : ∃ r, jacT (toks x) (toks y) = r := ⟨_, rfl⟩
  rw [hr] at C3
  have HR := Lib.hid hr
  clear hr hx2 hy2 hx hy
  go_enter Tryz.func54, Tryz.ntmps54
  go_wp2_with fail
  obtain ⟨W, hW⟩ : ∃ W, W = ((w.alloc (Obj.cells #[Value.int IntKind.i64 k, Value.int IntKind.i64 n, Value.string { data := x.toArray }] 26)).alloc (Obj.cells #[Value.int IntKind.i64 k2, Value.int IntKind.i64 n2, Value.string { data := y.toArray }] 26)).alloc (Obj.cells #[Value.int IntKind.i64 0, Value.int IntKind.i64 0] 32) := ⟨_, rfl⟩
  rw [← hW]
  have A : W.cell? ⟨w.heap.size, 2, none⟩ = some (str x) := by rw [hW]; simp [go_sem]
  have B : W.cell? ⟨w.heap.size + 1, 2, none⟩ = some (str y) := by rw [hW]; simp [go_sem]
  have R : Hid (Own2 W (w.heap.size + 1 + 1) 0 0) := Lib.hid (by rw [hW]; exact ⟨by simp [go_sem], by simp [go_sem], by simp [go_sem], by simp [go_sem]⟩)
  have HB : Hid (Below w.heap.size w W) := Lib.hid (by rw [hW]; exact L2.boxes3 w _ _ _)
  have n1 : ¬ w.heap.size = w.heap.size + 1 + 1 := by omega
  have n2 : ¬ w.heap.size + 1 + 1 = w.heap.size := by omega
  clear hW
  go_region_held3 (fun w' => w'.cell? ⟨w.heap.size, 2, none⟩ = some (str x) ∧ w'.cell? ⟨w.heap.size + 1, 2, none⟩ = some (str y)) (go_keep)
    (first | (go_at_call_of 55 (str x); refine (C1.out _).mono ?_; rintro e v1 ⟨u1, rfl, hs1, hv1⟩; have g1 := Lib.hid ((below_drewN _ W 1).trans hv1); clear hv1; have A1 := cellB g1.out A; have B1 := cellB g1.out B; have S1 : Hid (Strs v1 u1 (toks x)) := Lib.hid hs1; clear hs1) | (go_at_call_of 55 (str y); refine (C2.out _).mono ?_; rintro e v2 ⟨u2, rfl, hs2, hv2⟩; have g2 := Lib.hid hv2; clear hv2; have A2 := cellB g2.out A1; have B2 := cellB g2.out B1; have S2 : Hid (Strs v2 u2 (toks y)) := Lib.hid hs2; clear hs2; have S12 := Lib.hid (S1.out.below g2.out)) | (go_at_call 12; refine (C3.out _ _ _ S12.out S2.out).mono ?_; rintro e v3 ⟨rfl, hv3⟩; have g3 := Lib.hid hv3; clear hv3; have A3 := cellB g3.out A2; have B3 := cellB g3.out B2; have A4 := cell_two (c := w.heap.size + 1 + 1) (by omega) A3; have B4 := cell_two (c := w.heap.size + 1 + 1) (by omega) B3; have R3 := ((R.out.below g1.out).below g2.out).below g3.out; have r0 := R3.c0; have r1 := R3.c1; have f0 := R3.f0; have f1 := R3.f1; clear R3))
  have HB1 := Lib.hid (below_up HB.out g1.out HB.out.size)
  have HB2 := Lib.hid (below_up HB1.out g2.out HB1.out.size)
  have HB3 := Lib.hid (below_up HB2.out g3.out HB2.out.size)
  clear g1 g2 g3 A A1 A2 A3 A4 B B1 B2 B3 B4 R HB HB1 HB2
  go_wp2_with fail
  refine bodyPost_ret (v := rat r) (by simp [results, Tryz.results54, go_sem, r0, r1]) rfl ?_
  exact ⟨rat_ret HR.out.symm, below_two HB3.out (by omega)⟩

set_option maxRecDepth 100000 in
theorem m4_any (t : Int) (k n : Int) (x : List UInt8) (k2 n2 : Int) (y : List UInt8) (b : Nat) (h1 : -9223372036854775808 ≤ n) (h2 : n ≤ 9223372036854775807) (h3 : -9223372036854775808 ≤ n2) (h4 : n2 ≤ 9223372036854775807) (w : World) (hc : w.cell? ⟨b, 0, none⟩ = some (.int .i64 t)) :
    Calls Tryz.prog 58 #[V k n x, V k2 n2 y, .pointer (some ⟨b, 0, none⟩)] w fun e w' => e = .returned (rat (nearT n n2 t)) ∧ Below w.heap.size w w' := by
  have C3 := Lib.hid (near_any n n2 t h1 h2 h3 h4)
  have hq := fun o1 o2 o3 => cellB (L2.boxes3 w o1 o2 o3) hc
  clear hc
  go_enter Tryz.func58, Tryz.ntmps58
  go_wp2_with fail
  clear hq
  refine (C3.out _).mono ?_
  rintro e w1 ⟨rfl, hb⟩
  have R1 : Own2 w1 (w.heap.size + 1 + 1) 0 0 := Own2.below ⟨by simp [go_sem], by simp [go_sem], by simp [go_sem], by simp [go_sem]⟩ hb
  have HB1 := Lib.hid (below_up (L2.boxes3 w _ _ _) hb (by simp <;> omega))
  obtain ⟨r, hr⟩ : ∃ r, nearT n n2 t = r := ⟨_, rfl⟩
  rw [hr]
  have HR := Lib.hid hr
  have r0 := R1.c0
  have r1 := R1.c1
  have f0 := R1.f0
  have f1 := R1.f1
  clear hb R1 hr
  go_wp2_with fail
  refine bodyPost_ret (v := rat r) (by simp [results, Tryz.results58, go_sem, r0, r1]) rfl ?_
  exact ⟨rat_ret HR.out.symm, below_two HB1.out (by omega)⟩
end Go.Proofs.YtendkghifcjffaaGreatDoor
