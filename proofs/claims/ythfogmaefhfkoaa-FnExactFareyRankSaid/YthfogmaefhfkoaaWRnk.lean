/- The law on FareyRank, walked. -/
import Derived.Test.YthfogmaefhfkoaaRnk
import Derived.Test.YthfogmaefhfkoaaLv
namespace Go.Proofs.Ythfogmaefhfkoaa.pExactFareyRank
open Go.RowKit

set_option maxHeartbeats 3200000 in
theorem walk (o n d : Int) (w : World) (_wo : (Lit.int .i64 o).wf = true) (_wn : (Lit.int .i64 n).wf = true) (_wd : (Lit.int .i64 d).wf = true) :
    Calls Try.prog 13 #[.int .i64 o, .agg #[.int .i64 n, .int .i64 d]] w fun e w' => e = .returned (.bool true) ∧ Below w.heap.size w w' := by
  have HS := hid (fun w => specRnk o n d w)
  have HI := hid (fun w => implRnk o n d w)
  generalize rnkT o n d = t at HS HI
  obtain ⟨x0, x1⟩ := t
  clear _wo _wn _wd
  have hx0 : (x0 != x0) = false := by simp
  have hx1 : (x1 != x1) = false := by simp
  go_enter Try.func13, Try.ntmps13
  go_wp2_with (fail)
  have E0 := hid ((Below.refl w.heap.size w).alloc (Nat.le_refl _) (.cells #[.int .i64 n, .int .i64 d] 56))
  have K0 := hid (nw_at w (.cells #[.int .i64 n, .int .i64 d] 56))
  refine (toFr _ _ _).mono ?_
  rintro e w1 ⟨rfl, b⟩
  have E1 := hid (E0.out.trans (b.mono E0.out.size))
  replace K0 := hid (bk_kept K0.out b (Nat.le_refl _))
  clear b
  go_wp2_with (fail)
  refine (HS.out _).mono ?_
  rintro e w2 ⟨rfl, b⟩
  have E2 := hid (E1.out.trans (b.mono E1.out.size))
  replace K0 := hid (bk_kept K0.out b (Nat.le_refl _))
  clear b
  obtain ⟨c0a, c0b, _, _, l0⟩ := bk2 K0.out
  go_wp2_with (fail)
  clear c0a c0b l0
  refine (toFr _ _ _).mono ?_
  rintro e w3 ⟨rfl, b⟩
  have E3 := hid (E2.out.trans (b.mono E2.out.size))
  replace K0 := hid (bk_kept K0.out b (Nat.le_refl _))
  clear b
  go_wp2_with (fail)
  refine (HI.out _).mono ?_
  rintro e w4 ⟨rfl, b⟩
  have E4 := hid (E3.out.trans (b.mono E3.out.size))
  replace K0 := hid (bk_kept K0.out b (Nat.le_refl _))
  clear b
  obtain ⟨c0a, c0b, _, _, l0⟩ := bk2 K0.out
  go_wp2_with (fail)
  go_ret
  exact ⟨rfl, E4.out⟩

end Go.Proofs.Ythfogmaefhfkoaa.pExactFareyRank
