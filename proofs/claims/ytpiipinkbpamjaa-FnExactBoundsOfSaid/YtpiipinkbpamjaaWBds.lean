/- The law on BoundsOf, walked. -/
import Derived.Test.YtpiipinkbpamjaaLv
import Derived.Test.YtpiipinkbpamjaaBds
namespace Go.Proofs.Ytpiipinkbpamjaa.pExactBoundsOf
open Go.RowKit

set_option maxHeartbeats 1600000 in
theorem walk (n d : Int) (w : World) (_wn : (Lit.int .i64 n).wf = true) (_wd : (Lit.int .i64 d).wf = true) :
    Calls Try.prog 11 #[.agg #[.int .i64 n, .int .i64 d]] w fun e w' => e = .returned (.bool true) ∧ Below w.heap.size w w' := by
  have CS := fun w => specBounds n d w
  have CI := fun w => implBounds n d w
  generalize bdsT n d = t at CS CI
  obtain ⟨x0, x1, x2, x3, x4⟩ := t
  have HS := hid CS
  have HI := hid CI
  clear CS CI _wn _wd
  unfold v5 at HS HI
  go_enter Try.func11, Try.ntmps11
  go_wp2_with (fail)
  refine (toFr _ _ _).mono ?_
  rintro e w1 ⟨rfl, hb1⟩
  obtain ⟨hc1, hf1⟩ := bcell hb1
  go_wp2_with (fail)
  refine (HS.out _).mono ?_
  rintro e w2 ⟨rfl, hb2⟩
  have hB2 := hb1.trans (hb2.mono hb1.size)
  clear hc1 hf1
  obtain ⟨hc2, hf2⟩ := bcell hB2
  go_wp2_with (fail)
  refine (toFr _ _ _).mono ?_
  rintro e w3 ⟨rfl, hb3⟩
  have hB3 := hB2.trans (hb3.mono hB2.size)
  go_wp2_with (fail)
  refine (HI.out _).mono ?_
  rintro e w4 ⟨rfl, hb4⟩
  have hB4 := hB3.trans (hb4.mono hB3.size)
  have hx0 : (x0 != x0) = false := by simp
  have hx1 : (x1 != x1) = false := by simp
  have hx2 : (x2 != x2) = false := by simp
  have hx3 : (x3 != x3) = false := by simp
  have hx4 : (x4 != x4) = false := by simp
  go_wp2
  go_ret
  exact ⟨rfl, ((Below.refl _ _).alloc (Nat.le_refl _) _).trans (hB4.mono (by simp))⟩

end Go.Proofs.Ytpiipinkbpamjaa.pExactBoundsOf
