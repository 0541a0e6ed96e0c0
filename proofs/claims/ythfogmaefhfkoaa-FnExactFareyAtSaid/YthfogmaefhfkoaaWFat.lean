/- The law on FareyAt, walked. -/
import Derived.Test.YthfogmaefhfkoaaLv
import Derived.Test.YthfogmaefhfkoaaFat
import Derived.OpenShut
namespace Go.Proofs.Ythfogmaefhfkoaa.pExactFareyAt
open Go.RowKit

set_option maxHeartbeats 1600000 in
theorem walk (n d : Int) (w : World) (_wn : (Lit.int .i64 n).wf = true) (_wd : (Lit.int .i64 d).wf = true) :
    Calls Try.prog 14 #[.int .i64 n, .int .i64 d] w fun e w' => e = .returned (.bool true) ∧ Below w.heap.size w w' := by
  obtain ⟨hk0, hk1⟩ := bounds_i64 _wd
  have CS := fun w => specFat n d w hk0 hk1
  have CI := fun w => implFat n d w hk0 hk1
  generalize fatT n d = t at CS CI
  obtain ⟨x, y, c⟩ := t
  have HS := hid CS
  have HI := hid CI
  clear CS CI _wn _wd hk0 hk1
  go_enter Try.func14, Try.ntmps14
  go_wp2_with (fail)
  refine (HS.out _).mono ?_
  rintro e w1 ⟨rfl, hb1⟩
  dsimp only [tv]
  go_wp2_with (fail)
  refine (HI.out _).mono ?_
  rintro e w2 ⟨rfl, hb2⟩
  dsimp only [tv]
  obtain ⟨hc2, hf2⟩ := bcell hb2
  have hz2 : w1.heap.size < w2.heap.size := by have := hb2.size; simp at this; omega
  go_wp2_with (fail)
  refine (eqFr _ _ _).mono ?_
  rintro e w3 ⟨rfl, hb3⟩
  have hcc : (c != c) = false := by simp
  go_wp2
  go_ret
  exact ⟨rfl, (((hb1.alloc hb1.size _).trans (hb2.mono (by have := hb1.size; simp; omega))).alloc (by have := hb1.size; omega) _).trans (hb3.mono (by have := hb1.size; simp; omega))⟩

end Go.Proofs.Ythfogmaefhfkoaa.pExactFareyAt
