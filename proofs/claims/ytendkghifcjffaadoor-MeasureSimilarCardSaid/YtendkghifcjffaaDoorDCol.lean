/- The edit distance column by column, so that it can be reckoned. -/
import Derived.Test.YtendkghifcjffaaDoorDMath
namespace Go.Proofs.YtendkghifcjffaaDoor
def base : List UInt8 → List Nat
  | [] => [0]
  | _ :: b => (b.length + 1) :: base b
def stepC (c : UInt8) : List UInt8 → List Nat → List Nat
  | [], p => [p.headD 0 + 1]
  | d :: b, p => (fun r => (min (p.tail.headD 0 + neq c d) (min (p.headD 0) (r.headD 0) + 1)) :: r) (stepC c b p.tail)
def col : List UInt8 → List UInt8 → List Nat
  | [], b => base b
  | c :: x, b => stepC c b (col x b)
def full (x : List UInt8) : List UInt8 → List Nat
  | [] => [lev x []]
  | d :: b => lev x (d :: b) :: full x b
theorem full_head (x b : List UInt8) : (full x b).headD 0 = lev x b := by cases b <;> rfl
theorem full_base : ∀ b, full [] b = base b
  | [] => by rw [full, base, lev_nil_l]; rfl
  | d :: b => by rw [full, base, lev_nil_l, full_base b]; rfl
theorem full_step (c : UInt8) (x : List UInt8) : ∀ b, stepC c b (full x b) = full (c :: x) b
  | [] => by rw [stepC, full_head, full, lev_nil_r, lev_nil_r]; rfl
  | d :: b => by
    have ih := full_step c x b
    have e : (full x (d :: b)).tail = full x b := rfl
    rw [stepC, e, ih, full_head, full_head]
    show min (lev x b + neq c d) (min (lev x (d :: b)) ((full (c :: x) b).headD 0) + 1) :: full (c :: x) b = lev (c :: x) (d :: b) :: full (c :: x) b
    rw [full_head, lev_cons]
theorem col_eq : ∀ x b, col x b = full x b
  | [], b => (full_base b).symm
  | c :: x, b => by rw [col, col_eq x b, full_step]
theorem lev_col (x b : List UInt8) : lev x b = (col x b).headD 0 := by rw [col_eq, full_head]
end Go.Proofs.YtendkghifcjffaaDoor
