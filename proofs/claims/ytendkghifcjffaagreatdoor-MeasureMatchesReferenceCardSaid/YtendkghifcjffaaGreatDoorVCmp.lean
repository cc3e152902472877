/- The contracts of order, cmp.Or and Compare. -/
import Derived.Test.YtendkghifcjffaaGreatDoorVBase
namespace Go.Proofs.YtendkghifcjffaaGreatDoor.L2
open Go.RowKit

theorem bytesLess_eq : ∀ x y, Op.bytesLess x y = ltS x y
  | _, [] => by unfold Op.bytesLess ltS; rfl
  | [], _ :: _ => rfl
  | a :: x, b :: y => by
    unfold Op.bytesLess ltS
    rw [bytesLess_eq x y, Bool.eq_iff_iff]
    simp [UInt8.lt_iff_toNat_lt, UInt8.toNat_inj]

theorem str_gt {x y : List UInt8} (h : Op.bytesLess x y = false) (g : (!x == y) = true) : cmpS x y = 1 := by
  rw [bytesLess_eq] at h
  have e : x ≠ y := by simpa using g
  rcases ltS_total x y e with h1 | h1
  · rw [h] at h1; cases h1
  · unfold cmpS; rw [h, h1]; rfl

theorem order_int (x y : Int) (w : World) :
    Calls Tryz.prog 76 #[.int .i64 x, .int .i64 y] w fun e w' => e = .returned (.int .i64 (cmpI x y)) ∧ w = w' := by
  go_enter Tryz.func76, Tryz.ntmps76
  go_wp2_with fail
  all_goals
    go_ret
    exact ⟨ret_int (by first | rw [cmpI_lt (by assumption)] | rw [cmpI_gt (by assumption)] | (unfold cmpI; rw [if_neg (by omega), if_neg (by omega)])), rfl⟩

theorem order_str (x y : List UInt8) (w : World) :
    Calls Tryz.prog 77 #[.string ⟨x.toArray⟩, .string ⟨y.toArray⟩] w fun e w' => e = .returned (.int .i64 (cmpS x y)) ∧ w = w' := by
  go_enter Tryz.func77, Tryz.ntmps77
  go_wp2_with fail
  · have h : Op.bytesLess x y = true := by assumption
    go_ret
    exact ⟨ret_int (by rw [bytesLess_eq] at h; unfold cmpS; rw [h]; rfl), rfl⟩
  · have h : Op.bytesLess x y = false := by assumption
    have g : (!x == y) = true := by assumption
    go_ret
    exact ⟨ret_int (str_gt h g).symm, rfl⟩
  · have g : (!x == y) = false := by assumption
    go_ret
    exact ⟨ret_int (by have e : x = y := by simpa using g
                       rw [e, cmpS_self]), rfl⟩

theorem or_three (x y z : Int) (b : Nat) (w : World) (c0 : w.cell? ⟨b, 0, none⟩ = some (.int .i64 x)) (c1 : w.cell? ⟨b, 1, none⟩ = some (.int .i64 y)) (c2 : w.cell? ⟨b, 2, none⟩ = some (.int .i64 z)) :
    Calls Tryz.prog 75 #[.slice (some ⟨b, 0, none⟩) 3 3] w fun e w' => e = .returned (.int .i64 (or2 x (or2 y z))) ∧ w' = w := by
  go_enter Tryz.func75, Tryz.ntmps75
  go_wp2
  go_loop [8] (fun i => ∃ k : Nat, k ≤ 3 ∧ i = .int .i64 k ∧ (0 < k → x = 0) ∧ (1 < k → y = 0) ∧ (2 < k → z = 0)) (fun i => 3 - (intOf i).toNat)
  case atStart => exact ⟨0, by omega, rfl, by omega, by omega, by omega⟩
  case round =>
    obtain ⟨k, hk, rfl, h0, h1, h2⟩ := hrel
    rcases (by omega : k = 0 ∨ k = 1 ∨ k = 2 ∨ k = 3) with rfl | rfl | rfl | rfl
    · by_cases hx : x = 0
      · subst hx
        go_wp2
        go_round
        case rel => exact ⟨1, by omega, rfl, (by intros; first | trivial | omega), (by intros; first | trivial | omega), (by intros; first | trivial | omega)⟩
        case measure => simp [intOf]
      · have hb : (x != 0) = true := by simpa using hx
        go_wp2
        go_ret
        exact ⟨ret_int (or2_ne hx _).symm, rfl⟩
    · obtain rfl := h0 (by omega)
      by_cases hx : y = 0
      · subst hx
        go_wp2
        go_round
        case rel => exact ⟨2, by omega, rfl, (by intros; first | trivial | omega), (by intros; first | trivial | omega), (by intros; first | trivial | omega)⟩
        case measure => simp [intOf]
      · have hb : (y != 0) = true := by simpa using hx
        go_wp2
        go_ret
        exact ⟨ret_int (by rw [or2_zero, or2_ne hx]), rfl⟩
    · obtain rfl := h0 (by omega)
      obtain rfl := h1 (by omega)
      by_cases hx : z = 0
      · subst hx
        go_wp2
        go_round
        case rel => exact ⟨3, by omega, rfl, (by intros; first | trivial | omega), (by intros; first | trivial | omega), (by intros; first | trivial | omega)⟩
        case measure => simp [intOf]
      · have hb : (z != 0) = true := by simpa using hx
        go_wp2
        go_ret
        exact ⟨ret_int (by rw [or2_zero, or2_zero]), rfl⟩
    · obtain rfl := h0 (by omega)
      obtain rfl := h1 (by omega)
      obtain rfl := h2 (by omega)
      go_wp2
      go_ret
      exact ⟨ret_int (by rw [or2_zero, or2_zero]), rfl⟩

theorem or_two (x y : Int) (b : Nat) (w : World) (c0 : w.cell? ⟨b, 0, none⟩ = some (.int .i64 x)) (c1 : w.cell? ⟨b, 1, none⟩ = some (.int .i64 y)) :
    Calls Tryz.prog 75 #[.slice (some ⟨b, 0, none⟩) 2 2] w fun e w' => e = .returned (.int .i64 (or2 x y)) ∧ w' = w := by
  go_enter Tryz.func75, Tryz.ntmps75
  go_wp2
  go_loop [8] (fun i => ∃ k : Nat, k ≤ 2 ∧ i = .int .i64 k ∧ (0 < k → x = 0) ∧ (1 < k → y = 0)) (fun i => 2 - (intOf i).toNat)
  case atStart => exact ⟨0, by omega, rfl, by omega, by omega⟩
  case round =>
    obtain ⟨k, hk, rfl, h0, h1⟩ := hrel
    rcases (by omega : k = 0 ∨ k = 1 ∨ k = 2) with rfl | rfl | rfl
    · by_cases hx : x = 0
      · subst hx
        go_wp2
        go_round
        case rel => exact ⟨1, by omega, rfl, (by intros; first | trivial | omega), (by intros; first | trivial | omega)⟩
        case measure => simp [intOf]
      · have hb : (x != 0) = true := by simpa using hx
        go_wp2
        go_ret
        exact ⟨ret_int (or2_ne hx _).symm, rfl⟩
    · obtain rfl := h0 (by omega)
      by_cases hx : y = 0
      · subst hx
        go_wp2
        go_round
        case rel => exact ⟨2, by omega, rfl, (by intros; first | trivial | omega), (by intros; first | trivial | omega)⟩
        case measure => simp [intOf]
      · have hb : (y != 0) = true := by simpa using hx
        go_wp2
        go_ret
        exact ⟨ret_int (by rw [or2_zero]), rfl⟩
    · obtain rfl := h0 (by omega)
      obtain rfl := h1 (by omega)
      go_wp2
      go_ret
      exact ⟨ret_int (by rw [or2_zero]), rfl⟩

/-- Or, at the slice that the call just made. -/
theorem or_new3 (w : World) (A B : Obj) (x y z : Int) :
    Calls Tryz.prog 75 #[.slice (some ⟨w.heap.size + 2, 0, none⟩) 3 3] (((w.alloc A).alloc B).alloc (Obj.cells #[.int .i64 x, .int .i64 y, .int .i64 z] 3)).drew fun e w' => e = .returned (.int .i64 (or2 x (or2 y z))) ∧ w' = (((w.alloc A).alloc B).alloc (Obj.cells #[.int .i64 x, .int .i64 y, .int .i64 z] 3)).drew :=
  or_three x y z (w.heap.size + 2) _ (by simp [go_sem]) (by simp [go_sem]) (by simp [go_sem])

theorem compare_any (k n : Int) (t : List UInt8) (k2 n2 : Int) (t2 : List UInt8) (w : World) :
    Calls Tryz.prog 66 #[V k n t, V k2 n2 t2] w fun e w' => e = .returned (.int .i64 (cmpV k n t k2 n2 t2)) ∧ Below w.heap.size w w' := by
  go_enter Tryz.func66, Tryz.ntmps66
  go_wp2_with fail
  go_region_held3 (fun w' => w'.cell? ⟨w.heap.size, 0, none⟩ = some (.int .i64 k) ∧ w'.cell? ⟨w.heap.size, 1, none⟩ = some (.int .i64 n) ∧ w'.cell? ⟨w.heap.size, 2, none⟩ = some (.string ⟨t.toArray⟩) ∧ w'.cell? ⟨w.heap.size + 1, 0, none⟩ = some (.int .i64 k2) ∧ w'.cell? ⟨w.heap.size + 1, 1, none⟩ = some (.int .i64 n2) ∧ w'.cell? ⟨w.heap.size + 1, 2, none⟩ = some (.string ⟨t2.toArray⟩)) (go_keep)
    (first | (go_at_call_of 76 (Value.int IntKind.i64 k); refine (order_int k k2 _).mono ?_; rintro e w' ⟨rfl, rfl⟩) | (go_at_call_of 76 (Value.int IntKind.i64 n); refine (order_int n n2 _).mono ?_; rintro e w' ⟨rfl, rfl⟩) | (go_at_call 77; refine (order_str t t2 _).mono ?_; rintro e w' ⟨rfl, rfl⟩) | (go_at_call 75; refine (or_new3 w _ _ (cmpI k k2) (cmpI n n2) (cmpS t t2)).mono ?_; rintro e w1 ⟨rfl, rfl⟩))
  go_wp2_with fail
  go_ret
  exact ⟨rfl, dN (boxes3 w _ _ _) 1⟩
end Go.Proofs.YtendkghifcjffaaGreatDoor.L2
