/- The law on ChildrenOf, walked. -/
import Derived.Test.YtjijabfamjhdjaaChp
import Derived.Test.YtjijabfamjhdjaaLv
namespace Go.Proofs.Ytjijabfamjhdjaa.pExactChildrenOf
open Go.RowKit

set_option maxHeartbeats 3200000 in
theorem walk (n d : Int) (w : World) (_wn : (Lit.int .i64 n).wf = true) (_wd : (Lit.int .i64 d).wf = true) :
    Calls Try.prog 5 #[.agg #[.int .i64 n, .int .i64 d]] w fun e w' => e = .returned (.bool true) ∧ Below w.heap.size w w' := by
  have HS := hid (fun w => specChi n d w)
  have HI := hid (fun w => implChi n d w)
  generalize chiT n d = t at HS HI
  obtain ⟨y0, y1, y2, y3, x0⟩ := t
  clear _wn _wd
  have hx0 : (x0 != x0) = false := by simp
  go_enter Try.func5, Try.ntmps5
  go_wp2_with (fail)
  have E0 := hid ((Below.refl w.heap.size w).alloc (Nat.le_refl _) (.cells #[.int .i64 n, .int .i64 d] 48))
  have K0_0 := hid (new_at w (.cells #[.int .i64 n, .int .i64 d] 48))
  refine (toFr _ _ _).mono ?_
  rintro e w1 ⟨rfl, b⟩
  have K0_1 := hid ((b.block _ (Array.getElem?_eq_some_iff.1 K0_0.out).1).trans K0_0.out)
  have E1 := hid (E0.out.trans (b.mono E0.out.size))
  clear b
  go_wp2_with (fail)
  refine (HS.out _).mono ?_
  rintro e w2 ⟨rfl, b⟩
  have K0_2 := hid ((b.block _ (Array.getElem?_eq_some_iff.1 K0_1.out).1).trans K0_1.out)
  have E2 := hid (E1.out.trans (b.mono E1.out.size))
  clear b
  dsimp only [vC]
  have b := (Below.refl (w2).heap.size (w2)).alloc (Nat.le_refl _) (.cells #[.int .i64 y0, .int .i64 y1] 25)
  have K0_3 := hid ((b.block _ (Array.getElem?_eq_some_iff.1 K0_2.out).1).trans K0_2.out)
  have E3 := hid (E2.out.trans (b.mono E2.out.size))
  clear b
  have K1_n := hid (new_at w2 (.cells #[.int .i64 y0, .int .i64 y1] 25))
  have b := (Below.refl ((w2).alloc (.cells #[.int .i64 y0, .int .i64 y1] 25)).heap.size ((w2).alloc (.cells #[.int .i64 y0, .int .i64 y1] 25))).alloc (Nat.le_refl _) (.cells #[.int .i64 y2, .int .i64 y3] 25)
  have K0_4 := hid ((b.block _ (Array.getElem?_eq_some_iff.1 K0_3.out).1).trans K0_3.out)
  have K1_4 := hid ((b.block _ (Array.getElem?_eq_some_iff.1 K1_n.out).1).trans K1_n.out)
  have E4 := hid (E3.out.trans (b.mono E3.out.size))
  clear b
  have K2_n := hid (show (((w2).alloc (.cells #[.int .i64 y0, .int .i64 y1] 25)).alloc (.cells #[.int .i64 y2, .int .i64 y3] 25)).heap[w2.heap.size + 1]? = some (.cells #[.int .i64 y2, .int .i64 y3] 25 (0, 0)) from by have h := new_at ((w2).alloc (.cells #[.int .i64 y0, .int .i64 y1] 25)) (.cells #[.int .i64 y2, .int .i64 y3] 25); rwa [World.size_alloc] at h)
  obtain ⟨c0a, c0b, _, _, l0⟩ := blk2 K0_4.out
  obtain ⟨c1a, c1b, _, _, l1⟩ := blk2 K1_4.out
  obtain ⟨c2a, c2b, _, _, l2⟩ := blk2 K2_n.out
  go_wp2_with (fail)
  clear c0a c0b l0 c1a c1b l1 c2a c2b l2
  refine (toFr _ _ _).mono ?_
  rintro e w3 ⟨rfl, b⟩
  have K0_5 := hid ((b.block _ (Array.getElem?_eq_some_iff.1 K0_4.out).1).trans K0_4.out)
  have K1_5 := hid ((b.block _ (Array.getElem?_eq_some_iff.1 K1_4.out).1).trans K1_4.out)
  have K2_5 := hid ((b.block _ (Array.getElem?_eq_some_iff.1 K2_n.out).1).trans K2_n.out)
  have E5 := hid (E4.out.trans (b.mono E4.out.size))
  clear b
  go_wp2_with (fail)
  refine (HI.out _).mono ?_
  rintro e w4 ⟨rfl, b⟩
  have K0_6 := hid ((b.block _ (Array.getElem?_eq_some_iff.1 K0_5.out).1).trans K0_5.out)
  have K1_6 := hid ((b.block _ (Array.getElem?_eq_some_iff.1 K1_5.out).1).trans K1_5.out)
  have K2_6 := hid ((b.block _ (Array.getElem?_eq_some_iff.1 K2_5.out).1).trans K2_5.out)
  have E6 := hid (E5.out.trans (b.mono E5.out.size))
  clear b
  dsimp only [vC]
  have b := (Below.refl (w4).heap.size (w4)).alloc (Nat.le_refl _) (.cells #[.int .i64 y0, .int .i64 y1] 25)
  have K0_7 := hid ((b.block _ (Array.getElem?_eq_some_iff.1 K0_6.out).1).trans K0_6.out)
  have K1_7 := hid ((b.block _ (Array.getElem?_eq_some_iff.1 K1_6.out).1).trans K1_6.out)
  have K2_7 := hid ((b.block _ (Array.getElem?_eq_some_iff.1 K2_6.out).1).trans K2_6.out)
  have E7 := hid (E6.out.trans (b.mono E6.out.size))
  clear b
  have K3_n := hid (new_at w4 (.cells #[.int .i64 y0, .int .i64 y1] 25))
  have b := (Below.refl ((w4).alloc (.cells #[.int .i64 y0, .int .i64 y1] 25)).heap.size ((w4).alloc (.cells #[.int .i64 y0, .int .i64 y1] 25))).alloc (Nat.le_refl _) (.cells #[.int .i64 y2, .int .i64 y3] 25)
  have K0_8 := hid ((b.block _ (Array.getElem?_eq_some_iff.1 K0_7.out).1).trans K0_7.out)
  have K1_8 := hid ((b.block _ (Array.getElem?_eq_some_iff.1 K1_7.out).1).trans K1_7.out)
  have K2_8 := hid ((b.block _ (Array.getElem?_eq_some_iff.1 K2_7.out).1).trans K2_7.out)
  have K3_8 := hid ((b.block _ (Array.getElem?_eq_some_iff.1 K3_n.out).1).trans K3_n.out)
  have E8 := hid (E7.out.trans (b.mono E7.out.size))
  clear b
  have K4_n := hid (show (((w4).alloc (.cells #[.int .i64 y0, .int .i64 y1] 25)).alloc (.cells #[.int .i64 y2, .int .i64 y3] 25)).heap[w4.heap.size + 1]? = some (.cells #[.int .i64 y2, .int .i64 y3] 25 (0, 0)) from by have h := new_at ((w4).alloc (.cells #[.int .i64 y0, .int .i64 y1] 25)) (.cells #[.int .i64 y2, .int .i64 y3] 25); rwa [World.size_alloc] at h)
  obtain ⟨c0a, c0b, _, _, l0⟩ := blk2 K0_8.out
  obtain ⟨c1a, c1b, _, _, l1⟩ := blk2 K1_8.out
  obtain ⟨c2a, c2b, _, _, l2⟩ := blk2 K2_8.out
  obtain ⟨c3a, c3b, _, _, l3⟩ := blk2 K3_8.out
  obtain ⟨c4a, c4b, _, _, l4⟩ := blk2 K4_n.out
  go_wp2_with (fail)
  clear c0a c0b l0 c1a c1b l1 c2a c2b l2 c3a c3b l3 c4a c4b l4
  refine (eqFr _ _ _).mono ?_
  rintro e w5 ⟨rfl, b⟩
  have K0_9 := hid ((b.block _ (Array.getElem?_eq_some_iff.1 K0_8.out).1).trans K0_8.out)
  have K1_9 := hid ((b.block _ (Array.getElem?_eq_some_iff.1 K1_8.out).1).trans K1_8.out)
  have K2_9 := hid ((b.block _ (Array.getElem?_eq_some_iff.1 K2_8.out).1).trans K2_8.out)
  have K3_9 := hid ((b.block _ (Array.getElem?_eq_some_iff.1 K3_8.out).1).trans K3_8.out)
  have K4_9 := hid ((b.block _ (Array.getElem?_eq_some_iff.1 K4_n.out).1).trans K4_n.out)
  have E9 := hid (E8.out.trans (b.mono E8.out.size))
  clear b
  obtain ⟨c0a, c0b, _, _, l0⟩ := blk2 K0_9.out
  obtain ⟨c1a, c1b, _, _, l1⟩ := blk2 K1_9.out
  obtain ⟨c2a, c2b, _, _, l2⟩ := blk2 K2_9.out
  obtain ⟨c3a, c3b, _, _, l3⟩ := blk2 K3_9.out
  obtain ⟨c4a, c4b, _, _, l4⟩ := blk2 K4_9.out
  go_wp2_with (fail)
  clear c0a c0b l0 c1a c1b l1 c2a c2b l2 c3a c3b l3 c4a c4b l4
  refine (eqFr _ _ _).mono ?_
  rintro e w6 ⟨rfl, b⟩
  have K0_10 := hid ((b.block _ (Array.getElem?_eq_some_iff.1 K0_9.out).1).trans K0_9.out)
  have K1_10 := hid ((b.block _ (Array.getElem?_eq_some_iff.1 K1_9.out).1).trans K1_9.out)
  have K2_10 := hid ((b.block _ (Array.getElem?_eq_some_iff.1 K2_9.out).1).trans K2_9.out)
  have K3_10 := hid ((b.block _ (Array.getElem?_eq_some_iff.1 K3_9.out).1).trans K3_9.out)
  have K4_10 := hid ((b.block _ (Array.getElem?_eq_some_iff.1 K4_9.out).1).trans K4_9.out)
  have E10 := hid (E9.out.trans (b.mono E9.out.size))
  clear b
  obtain ⟨c0a, c0b, _, _, l0⟩ := blk2 K0_10.out
  obtain ⟨c1a, c1b, _, _, l1⟩ := blk2 K1_10.out
  obtain ⟨c2a, c2b, _, _, l2⟩ := blk2 K2_10.out
  obtain ⟨c3a, c3b, _, _, l3⟩ := blk2 K3_10.out
  obtain ⟨c4a, c4b, _, _, l4⟩ := blk2 K4_10.out
  go_wp2_with (fail)
  go_ret
  exact ⟨rfl, E10.out⟩

end Go.Proofs.Ytjijabfamjhdjaa.pExactChildrenOf
