/- Contracts: the arithmetic of two fractions, as the program and the model compute it. -/
import Derived.Test.YtjijabfamjhdjaaDoorFull
namespace Go.Proofs.YtjijabfamjhdjaaDoor
open Go.RowKit

/-- A fraction and a code. -/
def tv (t : Int × Int × Int) : Value := .tuple #[.agg #[.int .i64 t.1, .int .i64 t.2.1], .int .i64 t.2.2]
def lowT (n d : Int) : Int × Int × Int := if okF (lowN n d) (lowD n d) then (lowN n d, lowD n d, 0) else (0, 0, 5)
theorem lowR_tv (n d : Int) : lowR n d = tv (lowT n d) := by
  unfold lowR fullR lowT tv; split <;> rfl
/-- Two fractions that must be plain. -/
def twoT (n d m f : Int) (t : Int × Int × Int) : Int × Int × Int := if okF n d && okF m f then t else (0, 0, 1)

theorem ok_bounds {n d : Int} (h : okF n d = true) : 1 ≤ d ∧ d ≤ 1000000000 ∧ -1000000000 ≤ n ∧ n ≤ 1000000000 := by
  rw [okF_iff] at h; omega

theorem mul_bd {a b : Int} (h1 : -1000000000 ≤ a) (h2 : a ≤ 1000000000) (h3 : -1000000000 ≤ b) (h4 : b ≤ 1000000000) : -1000000000000000000 ≤ a * b ∧ a * b ≤ 1000000000000000000 := by
  have h : (a * b).natAbs ≤ 1000000000 * 1000000000 := by
    rw [Int.natAbs_mul]; exact Nat.mul_le_mul (by omega) (by omega)
  omega
theorem mul_pos1 {a b : Int} (h1 : 1 ≤ a) (h3 : 1 ≤ b) : 1 ≤ a * b := Int.mul_pos h1 h3

theorem alloc3 (w : World) (a b c : Obj) : Below w.heap.size w (((w.alloc a).alloc b).alloc c) :=
  (((Below.refl _ _).alloc (Nat.le_refl _) _).alloc (by simp) _).alloc (by simp; omega) _

end Go.Proofs.YtjijabfamjhdjaaDoor
