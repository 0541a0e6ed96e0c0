/- The law on BeforeFarey, walked. -/
import Derived.Test.YthfogmaefhfkoaaNxf
import Derived.Test.YthfogmaefhfkoaaLv
namespace Go.Proofs.Ythfogmaefhfkoaa.pExactBeforeFarey
open Go.RowKit

set_option maxHeartbeats 3200000 in
theorem walk (o n d : Int) (w : World) (_wo : (Lit.int .i64 o).wf = true) (_wn : (Lit.int .i64 n).wf = true) (_wd : (Lit.int .i64 d).wf = true) :
    Calls Try.prog 12 #[.int .i64 o, .agg #[.int .i64 n, .int .i64 d]] w fun e w' => e = .returned (.bool true) ∧ Below w.heap.size w w' := by
  have HS := hid (fun w => specBff o n d w)
  have HI := hid (fun w => implBff o n d w)
  generalize bffT o n d = t at HS HI
  obtain ⟨y0, y1, x0⟩ := t
  clear _wo _wn _wd
  have hx0 : (x0 != x0) = false := by simp
  go_enter Try.func12, Try.ntmps12
  go_wp2_with (fail)
  have E0 := hid ((Below.refl w.heap.size w).alloc (Nat.le_refl _) (.cells #[.int .i64 n, .int .i64 d] 56))
  have K0 := hid (nw_at w (.cells #[.int .i64 n, .int .i64 d] 56))
  refine (toFr _ _ _).mono ?_
  rintro e w1 ⟨rfl, b⟩
  have E1 := hid (E0.out.trans (b.mono E0.out.size))
  replace K0 := hid (bk_kept K0.out b (Nat.le_refl _))
  clear b
  go_wp2_with (fail)
  refine (HS.out _).mono ?_
  rintro e w2 ⟨rfl, b⟩
  have E2 := hid (E1.out.trans (b.mono E1.out.size))
  replace K0 := hid (bk_kept K0.out b (Nat.le_refl _))
  clear b
  dsimp only [tv]
  have K1 := hid (nw_at w2 (.cells #[.int .i64 y0, .int .i64 y1] 25))
  replace K0 := hid (od_at K0.out (.cells #[.int .i64 y0, .int .i64 y1] 25))
  replace E2 := hid (E2.out.alloc E2.out.size (.cells #[.int .i64 y0, .int .i64 y1] 25))
  obtain ⟨c0a, c0b, _, _, l0⟩ := bk2 K0.out
  obtain ⟨c1a, c1b, _, _, l1⟩ := bk2 K1.out
  go_wp2_with (fail)
  clear c0a c0b l0 c1a c1b l1
  refine (toFr _ _ _).mono ?_
  rintro e w3 ⟨rfl, b⟩
  have E3 := hid (E2.out.trans (b.mono E2.out.size))
  replace K0 := hid (bk_kept K0.out b (Nat.le_refl _))
  replace K1 := hid (bk_kept K1.out b (Nat.le_refl _))
  clear b
  go_wp2_with (fail)
  refine (HI.out _).mono ?_
  rintro e w4 ⟨rfl, b⟩
  have E4 := hid (E3.out.trans (b.mono E3.out.size))
  replace K0 := hid (bk_kept K0.out b (Nat.le_refl _))
  replace K1 := hid (bk_kept K1.out b (Nat.le_refl _))
  clear b
  dsimp only [tv]
  have K2 := hid (nw_at w4 (.cells #[.int .i64 y0, .int .i64 y1] 25))
  replace K0 := hid (od_at K0.out (.cells #[.int .i64 y0, .int .i64 y1] 25))
  replace K1 := hid (od_at K1.out (.cells #[.int .i64 y0, .int .i64 y1] 25))
  replace E4 := hid (E4.out.alloc E4.out.size (.cells #[.int .i64 y0, .int .i64 y1] 25))
  obtain ⟨c0a, c0b, _, _, l0⟩ := bk2 K0.out
  obtain ⟨c1a, c1b, _, _, l1⟩ := bk2 K1.out
  obtain ⟨c2a, c2b, _, _, l2⟩ := bk2 K2.out
  go_wp2_with (fail)
  clear c0a c0b l0 c1a c1b l1 c2a c2b l2
  refine (eqFr _ _ _).mono ?_
  rintro e w5 ⟨rfl, b⟩
  have E5 := hid (E4.out.trans (b.mono E4.out.size))
  replace K0 := hid (bk_kept K0.out b (Nat.le_refl _))
  replace K1 := hid (bk_kept K1.out b (Nat.le_refl _))
  replace K2 := hid (bk_kept K2.out b (Nat.le_refl _))
  clear b
  obtain ⟨c0a, c0b, _, _, l0⟩ := bk2 K0.out
  obtain ⟨c1a, c1b, _, _, l1⟩ := bk2 K1.out
  obtain ⟨c2a, c2b, _, _, l2⟩ := bk2 K2.out
  go_wp2_with (fail)
  go_ret
  exact ⟨rfl, E5.out⟩

end Go.Proofs.Ythfogmaefhfkoaa.pExactBeforeFarey
