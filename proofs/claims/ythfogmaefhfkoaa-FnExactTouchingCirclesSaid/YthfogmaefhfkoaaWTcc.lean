/- The law on TouchingCircles, walked. -/
import Derived.Test.YthfogmaefhfkoaaTcc
import Derived.Test.YthfogmaefhfkoaaFmk
import Derived.Test.YthfogmaefhfkoaaLv
namespace Go.Proofs.Ythfogmaefhfkoaa.pExactTouchingCircles
open Go.RowKit

set_option maxRecDepth 100000 in
set_option maxHeartbeats 3200000 in
theorem walk (o n d : Int) (w : World) (_wo : (Lit.int .i64 o).wf = true) (_wn : (Lit.int .i64 n).wf = true) (_wd : (Lit.int .i64 d).wf = true) :
    Calls Try.prog 17 #[.int .i64 o, .agg #[.int .i64 n, .int .i64 d]] w fun e w' => e = .returned (.bool true) ∧ Below w.heap.size w w' := by
  have HS := hid (fun (w' : World) (_hb : Below w.heap.size w w') => specTcc o n d w')
  have HI := hid (fun (w' : World) (hb : Below w.heap.size w w') => implTcc o n d w')
  clear _wn _wd _wo
  have HL := hid (show (tccT o n d).1.length ≤ 2000000 by have := tccT_len o n d; omega)
  generalize tccT o n d = r at HS HI HL
  obtain ⟨ys, s⟩ := r
  have hq0 : ¬ (1 + (ys.length : Int) * 2) < 0 := by omega
  have hqq : ((1 + (ys.length : Int) * 2) != (1 + (ys.length : Int) * 2)) = false := by simp
  have hss : (s != s) = false := by simp
  go_enter Try.func17, Try.ntmps17
  go_wp2_with (fail)
  obtain ⟨V, hV⟩ : ∃ V : World, V = w.alloc (.cells #[.int .i64 n, .int .i64 d] 56) := ⟨_, rfl⟩
  have CV := hid (show V.cell? ⟨w.heap.size, 0, none⟩ = some (.int .i64 n) ∧ V.cell? ⟨w.heap.size, 1, none⟩ = some (.int .i64 d) by rw [hV]; exact two_new _ _ _ _)
  have HV := hid (show Below w.heap.size w V by rw [hV]; exact (Below.refl _ _).alloc (Nat.le_refl _) _)
  have hVl : w.heap.size < V.heap.size := by rw [hV]; simp
  rw [← hV]
  clear hV
  refine (toFr _ _ _).mono ?_
  rintro e w1 ⟨rfl, b1⟩
  have Fb_1 := hid b1
  clear b1
  go_wp2_with (fail)
  refine (HS.out _ (HV.out.trans ((Fb_1.out).mono (Nat.le_of_lt hVl)))).mono ?_
  rintro e w2 ⟨⟨v2, rfl, r2⟩, b2⟩
  have Fb_2 := hid (Fb_1.out.trans (b2.mono Fb_1.out.size))
  clear Fb_1
  clear b2
  have S0 := hid r2
  clear r2
  have FB0 := hid (show V.heap.size ≤ w2.heap.size from Fb_2.out.size)
  have qa := (Fb_2.out.cell (p := ⟨w.heap.size, 0, none⟩) hVl).trans CV.out.1
  have qb := (Fb_2.out.cell (p := ⟨w.heap.size, 1, none⟩) hVl).trans CV.out.2
  go_wp2_with (fail)
  clear qa qb
  refine (toFr _ _ _).mono ?_
  rintro e w3 ⟨rfl, b3⟩
  have Fb_3 := hid (Fb_2.out.trans (b3.mono Fb_2.out.size))
  clear Fb_2
  have Fs_3 := hid b3
  clear b3
  have FX := hid (show Below w2.heap.size w2 w3 from Fs_3.out)
  have HBX := hid (show V.heap.size ≤ w3.heap.size from Fb_3.out.size)
  go_wp2_with (fail)
  refine (HI.out _ (HV.out.trans ((Fb_3.out).mono (Nat.le_of_lt hVl)))).mono ?_
  rintro e w4 ⟨⟨v4, rfl, r4⟩, b4⟩
  have Fb_4 := hid (Fb_3.out.trans (b4.mono Fb_3.out.size))
  clear Fb_3
  have Fs_4 := hid (Fs_3.out.trans (b4.mono Fs_3.out.size))
  clear Fs_3
  have HXI := hid b4.size
  clear b4
  have G0 := hid r4
  clear r4
  go_wp2_with (fail)
  refine (eqFrs _ _ ys _ (by have := HL.out; omega) (fback_below G0.out (Below.refl _ _)) (fback_below S0.out (Fs_4.out))).mono ?_
  rintro e w5 ⟨rfl, b5⟩
  have Fb_5 := hid (Fb_4.out.trans (b5.mono Fb_4.out.size))
  clear Fb_4
  have Fs_5 := hid (Fs_4.out.trans (b5.mono Fs_4.out.size))
  clear Fs_4
  have Fi_5 := hid b5
  clear b5
  go_wp2_with (fail)
  have HXW := hid (show w3.heap.size ≤ w5.heap.size from Nat.le_trans HXI.out (Fi_5.out.size))
  refine (markFrAny _ _ ys _ (by have := HL.out; omega) HXW.out (fback_below G0.out (Fi_5.out))).mono ?_
  rintro e w6 ⟨rfl, m6, b6⟩
  have MK := hid m6
  clear m6
  have FSM := hid (Fs_5.out.trans (b6.mono FX.out.size))
  have FBM := hid (Fb_5.out.trans (b6.mono HBX.out))
  clear b6
  go_wp2_with (fail)
  refine (heldFrAny _ ys.length _ (by have := HL.out; omega) (markedF_below MK.out (Below.refl _ _))).mono ?_
  rintro e w7 ⟨rfl, b7⟩
  have Fb_7 := hid (FBM.out.trans (b7.mono FBM.out.size))
  clear FBM
  have Fs_7 := hid (FSM.out.trans (b7.mono FSM.out.size))
  clear FSM
  have FM_7 := hid b7
  clear b7
  have qa := (Fb_7.out.cell (p := ⟨w.heap.size, 0, none⟩) hVl).trans CV.out.1
  have qb := (Fb_7.out.cell (p := ⟨w.heap.size, 1, none⟩) hVl).trans CV.out.2
  go_wp2_with (fail)
  clear qa qb
  refine (toFr _ _ _).mono ?_
  rintro e w8 ⟨rfl, b8⟩
  have Fb_8 := hid (Fb_7.out.trans (b8.mono Fb_7.out.size))
  clear Fb_7
  have Fs_8 := hid (Fs_7.out.trans (b8.mono Fs_7.out.size))
  clear Fs_7
  have FM_8 := hid (FM_7.out.trans (b8.mono FM_7.out.size))
  clear FM_7
  clear b8
  go_wp2_with (fail)
  refine (HI.out _ (HV.out.trans ((Fb_8.out).mono (Nat.le_of_lt hVl)))).mono ?_
  rintro e w9 ⟨⟨v9, rfl, r9⟩, b9⟩
  have Fb_9 := hid (Fb_8.out.trans (b9.mono Fb_8.out.size))
  clear Fb_8
  have Fs_9 := hid (Fs_8.out.trans (b9.mono Fs_8.out.size))
  clear Fs_8
  have FM_9 := hid (FM_8.out.trans (b9.mono FM_8.out.size))
  clear FM_8
  clear b9
  have H0 := hid r9
  clear r9
  go_wp2_with (fail)
  refine (eqFrs _ _ ys _ (by have := HL.out; omega) (fback_below H0.out (Below.refl _ _)) (fback_below S0.out (Fs_9.out))).mono ?_
  rintro e w10 ⟨rfl, b10⟩
  have Fb_10 := hid (Fb_9.out.trans (b10.mono Fb_9.out.size))
  clear Fb_9
  have Fs_10 := hid (Fs_9.out.trans (b10.mono Fs_9.out.size))
  clear Fs_9
  have FM_10 := hid (FM_9.out.trans (b10.mono FM_9.out.size))
  clear FM_9
  have Fh_10 := hid b10
  clear b10
  go_wp2_with (fail)
  refine (heldFrAny _ ys.length _ (by have := HL.out; omega) (markedF_below MK.out (FM_10.out))).mono ?_
  rintro e w11 ⟨rfl, b11⟩
  have Fb_11 := hid (Fb_10.out.trans (b11.mono Fb_10.out.size))
  clear Fb_10
  have Fs_11 := hid (Fs_10.out.trans (b11.mono Fs_10.out.size))
  clear Fs_10
  have FM_11 := hid (FM_10.out.trans (b11.mono FM_10.out.size))
  clear FM_10
  have Fh_11 := hid (Fh_10.out.trans (b11.mono Fh_10.out.size))
  clear Fh_10
  clear b11
  go_wp2_with (fail)
  go_ret
  exact ⟨rfl, HV.out.trans ((Fb_11.out).mono (Nat.le_of_lt hVl))⟩

end Go.Proofs.Ythfogmaefhfkoaa.pExactTouchingCircles
