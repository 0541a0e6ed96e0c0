/- The law on FareySequence, walked. -/
import Derived.Test.YthfogmaefhfkoaaFsq
import Derived.Test.YthfogmaefhfkoaaFmk
import Derived.Test.YthfogmaefhfkoaaLv
namespace Go.Proofs.Ythfogmaefhfkoaa.pExactFareySequence
open Go.RowKit

set_option maxRecDepth 100000 in
set_option maxHeartbeats 3200000 in
theorem walk (n : Int) (w : World) (_wn : (Lit.int .i64 n).wf = true) :
    Calls Try.prog 10 #[.int .i64 n] w fun e w' => e = .returned (.bool true) ∧ Below w.heap.size w w' := by
  have HS := hid (fun (w' : World) (_hb : Below w.heap.size w w') => specSeq n w')
  have HI := hid (fun (w' : World) (hb : Below w.heap.size w w') => implSeq n w')
  clear _wn
  have HL := hid (show (seqT n).1.length ≤ 2000000 by have := seqT_len n; omega)
  generalize seqT n = r at HS HI HL
  obtain ⟨ys, s⟩ := r
  have hq0 : ¬ (1 + (ys.length : Int) * 2) < 0 := by omega
  have hqq : ((1 + (ys.length : Int) * 2) != (1 + (ys.length : Int) * 2)) = false := by simp
  have hss : (s != s) = false := by simp
  go_enter Try.func10, Try.ntmps10
  go_wp2_with (fail)
  refine (HS.out _ (Below.refl _ _)).mono ?_
  rintro e w1 ⟨⟨v1, rfl, r1⟩, b1⟩
  have Fb_1 := hid b1
  clear b1
  have S0 := hid r1
  clear r1
  go_wp2_with (fail)
  have FB0 := hid (show w.heap.size ≤ w1.heap.size from Fb_1.out.size)
  have FX := hid (show Below w1.heap.size w1 w1 from Below.refl _ _)
  have HBX := hid (show w.heap.size ≤ w1.heap.size from Fb_1.out.size)
  refine (HI.out _ (Fb_1.out)).mono ?_
  rintro e w2 ⟨⟨v2, rfl, r2⟩, b2⟩
  have Fb_2 := hid (Fb_1.out.trans (b2.mono Fb_1.out.size))
  clear Fb_1
  have Fs_2 := hid b2
  have HXI := hid b2.size
  clear b2
  have G0 := hid r2
  clear r2
  go_wp2_with (fail)
  refine (eqFrs _ _ ys _ (by have := HL.out; omega) (fback_below G0.out (Below.refl _ _)) (fback_below S0.out (Fs_2.out))).mono ?_
  rintro e w3 ⟨rfl, b3⟩
  have Fb_3 := hid (Fb_2.out.trans (b3.mono Fb_2.out.size))
  clear Fb_2
  have Fs_3 := hid (Fs_2.out.trans (b3.mono Fs_2.out.size))
  clear Fs_2
  have Fi_3 := hid b3
  clear b3
  go_wp2_with (fail)
  have HXW := hid (show w1.heap.size ≤ w3.heap.size from Nat.le_trans HXI.out (Fi_3.out.size))
  refine (markFrAny _ _ ys _ (by have := HL.out; omega) HXW.out (fback_below G0.out (Fi_3.out))).mono ?_
  rintro e w4 ⟨rfl, m4, b4⟩
  have MK := hid m4
  clear m4
  have FSM := hid (Fs_3.out.trans (b4.mono FX.out.size))
  have FBM := hid (Fb_3.out.trans (b4.mono HBX.out))
  clear b4
  go_wp2_with (fail)
  refine (heldFrAny _ ys.length _ (by have := HL.out; omega) (markedF_below MK.out (Below.refl _ _))).mono ?_
  rintro e w5 ⟨rfl, b5⟩
  have Fb_5 := hid (FBM.out.trans (b5.mono FBM.out.size))
  clear FBM
  have Fs_5 := hid (FSM.out.trans (b5.mono FSM.out.size))
  clear FSM
  have FM_5 := hid b5
  clear b5
  go_wp2_with (fail)
  refine (HI.out _ (Fb_5.out)).mono ?_
  rintro e w6 ⟨⟨v6, rfl, r6⟩, b6⟩
  have Fb_6 := hid (Fb_5.out.trans (b6.mono Fb_5.out.size))
  clear Fb_5
  have Fs_6 := hid (Fs_5.out.trans (b6.mono Fs_5.out.size))
  clear Fs_5
  have FM_6 := hid (FM_5.out.trans (b6.mono FM_5.out.size))
  clear FM_5
  clear b6
  have H0 := hid r6
  clear r6
  go_wp2_with (fail)
  refine (eqFrs _ _ ys _ (by have := HL.out; omega) (fback_below H0.out (Below.refl _ _)) (fback_below S0.out (Fs_6.out))).mono ?_
  rintro e w7 ⟨rfl, b7⟩
  have Fb_7 := hid (Fb_6.out.trans (b7.mono Fb_6.out.size))
  clear Fb_6
  have Fs_7 := hid (Fs_6.out.trans (b7.mono Fs_6.out.size))
  clear Fs_6
  have FM_7 := hid (FM_6.out.trans (b7.mono FM_6.out.size))
  clear FM_6
  have Fh_7 := hid b7
  clear b7
  go_wp2_with (fail)
  refine (heldFrAny _ ys.length _ (by have := HL.out; omega) (markedF_below MK.out (FM_7.out))).mono ?_
  rintro e w8 ⟨rfl, b8⟩
  have Fb_8 := hid (Fb_7.out.trans (b8.mono Fb_7.out.size))
  clear Fb_7
  have Fs_8 := hid (Fs_7.out.trans (b8.mono Fs_7.out.size))
  clear Fs_7
  have FM_8 := hid (FM_7.out.trans (b8.mono FM_7.out.size))
  clear FM_7
  have Fh_8 := hid (Fh_7.out.trans (b8.mono Fh_7.out.size))
  clear Fh_7
  clear b8
  go_wp2_with (fail)
  go_ret
  exact ⟨rfl, Fb_8.out⟩

end Go.Proofs.Ythfogmaefhfkoaa.pExactFareySequence
