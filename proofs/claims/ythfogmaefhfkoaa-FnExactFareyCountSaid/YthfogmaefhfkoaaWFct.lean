/- The law on FareyCount, walked. -/
import Derived.Test.YthfogmaefhfkoaaFct
import Derived.Test.YthfogmaefhfkoaaLv
namespace Go.Proofs.Ythfogmaefhfkoaa.pExactFareyCount
open Go.RowKit

set_option maxHeartbeats 1600000 in
theorem walk (n : Int) (w : World) (_wn : (Lit.int .i64 n).wf = true) :
    Calls Try.prog 9 #[.int .i64 n] w fun e w' => e = .returned (.bool true) ∧ Below w.heap.size w w' := by
  have CS := fun w => specFct n w
  have CI := fun w => implFct n w
  generalize fctT n = t at CS CI
  obtain ⟨x0, x1⟩ := t
  have HS := hid CS
  have HI := hid CI
  clear CS CI _wn
  go_enter Try.func9, Try.ntmps9
  go_wp2_with (fail)
  refine (HS.out _).mono ?_
  rintro e w1 ⟨rfl, hb1⟩
  go_wp2_with (fail)
  refine (HI.out _).mono ?_
  rintro e w2 ⟨rfl, hb2⟩
  have hx0 : (x0 != x0) = false := by simp
  have hx1 : (x1 != x1) = false := by simp
  go_wp2
  go_ret
  exact ⟨rfl, hb1.trans (hb2.mono hb1.size)⟩

end Go.Proofs.Ythfogmaefhfkoaa.pExactFareyCount
