/- The law on TotientOf, walked. -/
import Derived.Test.YthfogmaefhfkoaaTot
import Derived.Test.YthfogmaefhfkoaaLv
namespace Go.Proofs.Ythfogmaefhfkoaa.pExactTotientOf
open Go.RowKit

set_option maxHeartbeats 1600000 in
theorem walk (n : Int) (w : World) (_wn : (Lit.int .i64 n).wf = true) :
    Calls Try.prog 8 #[.int .i64 n] w fun e w' => e = .returned (.bool true) ∧ Below w.heap.size w w' := by
  have CS := fun w => specTot n w
  have CI := fun w => implTot n w
  generalize totT n = t at CS CI
  obtain ⟨x0, x1⟩ := t
  have HS := hid CS
  have HI := hid CI
  clear CS CI _wn
  go_enter Try.func8, Try.ntmps8
  go_wp2_with (fail)
  refine (HS.out _).mono ?_
  rintro e w1 ⟨rfl, hb1⟩
  go_wp2_with (fail)
  refine (HI.out _).mono ?_
  rintro e w2 ⟨rfl, hb2⟩
  have hx0 : (x0 != x0) = false := by simp
  have hx1 : (x1 != x1) = false := by simp
  go_wp2
  go_ret
  exact ⟨rfl, hb1.trans (hb2.mono hb1.size)⟩

end Go.Proofs.Ythfogmaefhfkoaa.pExactTotientOf
