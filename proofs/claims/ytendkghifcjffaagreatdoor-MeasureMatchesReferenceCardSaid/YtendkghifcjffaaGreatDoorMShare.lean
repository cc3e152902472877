/- The contracts of share and Alike. -/
import Derived.Test.YtendkghifcjffaaGreatDoorMEditE
import Derived.Test.YtendkghifcjffaaGreatDoorRMake
import Derived.Test.YtendkghifcjffaaGreatDoorQMath
namespace Go.Proofs.YtendkghifcjffaaGreatDoor
open Go.RowKit

theorem share_any (p q : Int) (hp0 : -9223372036854775808 ≤ p) (hp1 : p ≤ 9223372036854775807) (hq0 : -9223372036854775808 ≤ q) (hq1 : q ≤ 9223372036854775807) (w : World) :
    Calls Tryz.prog 29 #[.int .i64 p, .int .i64 q] w fun e w' => e = .returned (rat (shr p q)) ∧ Below w.heap.size w w' := by
  have C := L1.make_any p q
  have hs : shr p q = if (L1.mk p q).2.2 = 0 then ((L1.mk p q).1, (L1.mk p q).2.1) else (0, 1) := rfl
  obtain ⟨r, hr⟩ : ∃ r, shr p q = r := ⟨_, rfl⟩
  rw [hr] at hs
  rw [hr]
  clear hr
  obtain ⟨⟨n, d, x⟩, hm⟩ : ∃ m, L1.mk p q = m := ⟨_, rfl⟩
  rw [hm] at C hs
  clear hm
  have HC := Lib.hid (C · hp0 hp1 hq0 hq1)
  clear C
  by_cases hx : x = 0
  · subst hx
    have hr : r = (n, d) := hs
    clear hs
    subst hr
    go_enter Tryz.func29, Tryz.ntmps29
    go_wp2_with fail
    refine (HC.out _).mono ?_
    rintro e w1 ⟨rfl, hb⟩
    have R := (own2_new w 0 0 _).below hb
    have HB := Lib.hid (below_up (below_box w _) hb (by simp))
    have r0 := fun o => (R.alloc o).c0
    have r1 := fun o => (R.alloc o).c1
    have f0 := fun o => (R.alloc o).f0
    have f1 := fun o => (R.alloc o).f1
    clear hb R
    go_wp2_with fail
    refine bodyPost_ret (v := rat (n, d)) (by simp [results, Tryz.results29, go_sem, r0, r1]) rfl ?_
    exact ⟨rfl, below_two (HB.out.alloc HB.out.size _) (Nat.le_refl _)⟩
  · have hr : r = (0, 1) := by rw [hs, if_neg hx]
    clear hs
    subst hr
    go_enter Tryz.func29, Tryz.ntmps29
    go_wp2_with fail
    refine (HC.out _).mono ?_
    rintro e w1 ⟨rfl, hb⟩
    have R := (own2_new w 0 0 _).below hb
    have HB := Lib.hid (below_up (below_box w _) hb (by simp))
    have r0 := fun o => (R.alloc o).c0
    have r1 := fun o => (R.alloc o).c1
    have f0 := fun o => (R.alloc o).f0
    have f1 := fun o => (R.alloc o).f1
    clear hb R
    go_wp2_with fail
    refine bodyPost_ret (v := rat (0, 1)) (by simp [results, Tryz.results29, go_sem, r0, r1]) rfl ?_
    exact ⟨rfl, below_two (HB.out.alloc HB.out.size _) (Nat.le_refl _)⟩

/-- What Alike returns. -/
def alikeT (a b : List UInt8) : Int × Int := if max a.length b.length = 0 then (1, 1) else shr ((max a.length b.length : Nat) - (lev a b : Nat)) (max a.length b.length : Nat)

theorem shr_11 : shr 1 1 = (1, 1) := shr_one (by decide)

set_option maxRecDepth 100000 in
theorem alike_any (a b : List UInt8) (ha : a.length ≤ 1000) (hb : b.length ≤ 1000) (w : World) :
    Calls Tryz.prog 10 #[str a, str b] w fun e w' => e = .returned (rat (alikeT a b)) ∧ Below w.heap.size w w' := by
  have HE := Lib.hid (edit_any a b ha hb)
  have HT := Lib.hid (show alikeT a b = if max a.length b.length = 0 then (1, 1) else shr ((max a.length b.length : Nat) - (lev a b : Nat)) (max a.length b.length : Nat) from rfl)
  have HL := (lev_len a b).2.2
  have hm : max (a.length : Int) (b.length : Int) = ((max a.length b.length : Nat) : Int) := by omega
  have hml : max a.length b.length ≤ 1000 := by omega
  obtain ⟨r, hr⟩ : ∃ r, alikeT a b = r := ⟨_, rfl⟩
  rw [hr] at HT ⊢
  obtain ⟨m, hmm⟩ : ∃ m, max a.length b.length = m := ⟨_, rfl⟩
  rw [hmm] at HT hm hml HL
  clear hr hmm ha hb
  by_cases h0 : m = 0
  · subst h0
    have hr : r = (1, 1) := by rw [HT.out, if_pos rfl]
    subst hr
    go_enter Tryz.func10, Tryz.ntmps10
    go_wp2_with fail
    refine (share_any 1 1 (by decide) (by decide) (by decide) (by decide) _).mono ?_
    rw [shr_11]
    rintro e w1 ⟨rfl, hb⟩
    have R := (own2_new w 0 0 _).below hb
    have HB := Lib.hid (below_up (below_box w _) hb (by simp))
    have r0 := R.c0
    have r1 := R.c1
    have f0 := R.f0
    have f1 := R.f1
    clear hb R
    go_wp2_with fail
    refine bodyPost_ret (v := rat (1, 1)) (by simp [results, Tryz.results10, go_sem, r0, r1]) rfl ?_
    exact ⟨rfl, below_two HB.out (Nat.le_refl _)⟩
  · have hr : r = shr ((m : Nat) - (lev a b : Nat)) (m : Nat) := by rw [HT.out, if_neg h0]
    clear HT
    obtain ⟨l, hl⟩ : ∃ l, lev a b = l := ⟨_, rfl⟩
    rw [hl] at hr HE HL
    have HR := Lib.hid hr
    clear hl hr
    by_cases hab : a.length < b.length
    · obtain rfl : m = b.length := by omega
      go_enter Tryz.func10, Tryz.ntmps10
      go_wp2_with fail
      refine (HE.out _).mono ?_
      rintro e w1 ⟨rfl, hb⟩
      have R := Lib.hid ((own2_new w 0 0 _).below hb)
      have HB := Lib.hid (below_up (below_box w _) hb (by simp))
      clear hb
      go_wp2_with fail
      refine (share_any ((b.length : Int) - l) b.length (by omega) (by omega) (by omega) (by omega) _).mono ?_
      rintro e w2 ⟨rfl, hb⟩
      rw [← HR.out]
      have R2 := R.out.below hb
      have HB2 := Lib.hid (below_up HB.out hb HB.out.size)
      have r0 := R2.c0
      have r1 := R2.c1
      have f0 := R2.f0
      have f1 := R2.f1
      clear hb R2
      go_wp2_with fail
      refine bodyPost_ret (v := rat r) (by simp [results, Tryz.results10, go_sem, r0, r1]) rfl ?_
      exact ⟨rfl, below_two HB2.out (Nat.le_refl _)⟩
    · obtain rfl : m = a.length := by omega
      go_enter Tryz.func10, Tryz.ntmps10
      go_wp2_with fail
      refine (HE.out _).mono ?_
      rintro e w1 ⟨rfl, hb⟩
      have R := Lib.hid ((own2_new w 0 0 _).below hb)
      have HB := Lib.hid (below_up (below_box w _) hb (by simp))
      clear hb
      go_wp2_with fail
      refine (share_any ((a.length : Int) - l) a.length (by omega) (by omega) (by omega) (by omega) _).mono ?_
      rintro e w2 ⟨rfl, hb⟩
      rw [← HR.out]
      have R2 := R.out.below hb
      have HB2 := Lib.hid (below_up HB.out hb HB.out.size)
      have r0 := R2.c0
      have r1 := R2.c1
      have f0 := R2.f0
      have f1 := R2.f1
      clear hb R2
      go_wp2_with fail
      refine bodyPost_ret (v := rat r) (by simp [results, Tryz.results10, go_sem, r0, r1]) rfl ?_
      exact ⟨rfl, below_two HB2.out (Nat.le_refl _)⟩
end Go.Proofs.YtendkghifcjffaaGreatDoor
