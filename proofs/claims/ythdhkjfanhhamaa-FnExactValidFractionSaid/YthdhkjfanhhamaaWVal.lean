/- The law on ValidFraction, walked. -/
import Derived.Test.YthdhkjfanhhamaaLv
import Derived.WalkKit
namespace Go.Proofs.Ythdhkjfanhhamaa.pExactValidFraction
open Go.RowKit

theorem walk (n d : Int) (w : World) (_hn : (Lit.int .i64 n).wf = true) (_hd : (Lit.int .i64 d).wf = true) :
    Calls Try.prog 6 #[.agg #[.int .i64 n, .int .i64 d]] w fun e w' => e = .returned (.bool true) ∧ Below w.heap.size w w' := by
  have CS := fun w => specValid n d w
  have CI := fun w => implValid n d w
  generalize okF n d = b at CS CI
  have HS := hid CS
  have HI := hid CI
  clear CS CI _hn _hd
  go_enter Try.func6, Try.ntmps6
  go_wp2_with (fail)
  refine (toFr _ _ _).mono ?_
  rintro e w1 ⟨rfl, hb1⟩
  obtain ⟨hc1, hf1⟩ := bcell hb1
  go_wp2_with (fail)
  refine (HS.out _).mono ?_
  rintro e w2 ⟨rfl, hb2⟩
  have hB2 := hb1.trans (hb2.mono hb1.size)
  clear hc1 hf1
  obtain ⟨hc2, hf2⟩ := bcell hB2
  go_wp2_with (fail)
  refine (toFr _ _ _).mono ?_
  rintro e w3 ⟨rfl, hb3⟩
  have hB3 := hB2.trans (hb3.mono hB2.size)
  go_wp2_with (fail)
  refine (HI.out _).mono ?_
  rintro e w4 ⟨rfl, hb4⟩
  have hB4 := hB3.trans (hb4.mono hB3.size)
  have hbb : (b != b) = false := by cases b <;> rfl
  go_wp2
  go_ret
  exact ⟨rfl, ((Below.refl _ _).alloc (Nat.le_refl _) _).trans (hB4.mono (by simp))⟩

end Go.Proofs.Ythdhkjfanhhamaa.pExactValidFraction
