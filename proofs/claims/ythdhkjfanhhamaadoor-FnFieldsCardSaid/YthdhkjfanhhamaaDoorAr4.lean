/- Contracts: the quotient by the model; lowest terms of any two numbers. -/
import Derived.Test.YthdhkjfanhhamaaDoorAr3
namespace Go.Proofs.YthdhkjfanhhamaaDoor
open Go.RowKit

/-- May MakeFraction take these numbers? -/
def mkB (n d : Int) : Bool := decide (-1000000000000000000 ≤ n ∧ n ≤ 1000000000000000000 ∧ -1000000000000000000 ≤ d ∧ d ≤ 1000000000000000000 ∧ d ≠ 0)
def mkT (n d : Int) : Int × Int × Int := if mkB n d then lowT n d else (0, 0, 2)
theorem mkT_yes {n d : Int} (h : -1000000000000000000 ≤ n ∧ n ≤ 1000000000000000000 ∧ -1000000000000000000 ≤ d ∧ d ≤ 1000000000000000000 ∧ d ≠ 0) : mkT n d = lowT n d := by
  unfold mkT mkB; rw [decide_eq_true h]; rfl
theorem mkT_no {n d : Int} (h : ¬ (-1000000000000000000 ≤ n ∧ n ≤ 1000000000000000000 ∧ -1000000000000000000 ≤ d ∧ d ≤ 1000000000000000000 ∧ d ≠ 0)) : mkT n d = (0, 0, 2) := by
  unfold mkT mkB; rw [decide_eq_false h]; rfl

end Go.Proofs.YthdhkjfanhhamaaDoor
