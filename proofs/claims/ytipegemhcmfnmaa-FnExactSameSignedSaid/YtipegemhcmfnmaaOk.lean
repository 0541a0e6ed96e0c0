/- Contracts: which numbers are those of a plain fraction, as the program and the model tell it. -/
import Derived.Test.YtipegemhcmfnmaaCd
namespace Go.Proofs.Ytipegemhcmfnmaa
open Go.RowKit

theorem ok_gcd {n d : Int} (h1 : inB (-1000000000) 1000000000 n = true) (h2 : inB 1 1000000000 d = true) : okF n d = (gc (n.natAbs : Int) d == 1) := by
  have e : gc (n.natAbs : Int) d = gc n d := by unfold gc Int.gcd; simp
  rw [e, Bool.eq_iff_iff, okF_iff]
  simp [inB_iff] at h1 h2 ⊢
  omega
theorem ok_no1 {n d : Int} (h1 : inB (-1000000000) 1000000000 n = false) : okF n d = false := by
  rw [Bool.eq_false_iff] at h1 ⊢
  intro h
  exact h1 (inB_yes (by rw [okF_iff] at h; omega))
theorem ok_no2 {n d : Int} (h1 : inB 1 1000000000 d = false) : okF n d = false := by
  rw [Bool.eq_false_iff] at h1 ⊢
  intro h
  exact h1 (inB_yes (by rw [okF_iff] at h; omega))


theorem retB {a b : Bool} (h : a = b) : Ending.returned (.bool a) = .returned (.bool b) := by rw [h]

end Go.Proofs.Ytipegemhcmfnmaa
