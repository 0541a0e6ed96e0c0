/- The law on ReadPath, walked. -/
import Derived.Test.YtjijabfamjhdjaaDoorRpz
import Derived.Test.YtjijabfamjhdjaaDoorSh
namespace Go.Proofs.YtjijabfamjhdjaaDoor.pExactReadPath
open Go.RowKit

set_option maxHeartbeats 1600000 in
theorem walk (s0 : ByteArray) (w : World) (hl : laidMet Tryd.prog Rows.fnExactReadPathRow.laid w) (hsh : w.ShapedOpen Tryd.prog) (_ws : s0.size ≤ maxLen) :
    Calls Tryd.prog 5 #[.string s0] w fun e w' => e = .returned (.bool true) ∧ Below w.heap.size w w' := by
  by_cases hx0 : s0.size ≤ 1048576
  · have hs0 : ¬ (1048576 : Int) < (s0.size : Int) := by omega
    have HW := hid (show Wg w from ⟨pow10_of hl (by simp [Rows.fnExactReadPathRow]), sentS_of hl (by simp [Rows.fnExactReadPathRow]), sentR_of hl (by simp [Rows.fnExactReadPathRow]), maxG_of hsh⟩)
    have HS := hid (fun (w' : World) => specRP s0 w' hx0)
    have HI := hid (fun (w' : World) (hb : Below w.heap.size w w') => implRP s0 w' hx0 (wg_below HW.out hb))
    clear hl hsh _ws
    have HL := hid (show (rdPath s0.data.toList).1.length ≤ 1000000000 by have := rdPath_len s0.data.toList; omega)
    generalize rdPath s0.data.toList = r at HS HI HL
    obtain ⟨ys, s⟩ := r
    have hss : (s != s) = false := by simp
    have hq0 : ¬ (1 + (ys.length : Int)) < 0 := by omega
    have hqq : ((1 + (ys.length : Int)) != (1 + (ys.length : Int))) = false := by simp
    go_enter Tryd.func5, Tryd.ntmps5
    go_wp2_with (fail)
    refine (HS.out _).mono ?_
    rintro e w1 ⟨⟨v1, rfl, r1⟩, b1⟩
    have Fb_1 := hid b1
    clear b1
    have S0 := hid (back_arg r1)
    clear r1
    go_wp2_with (fail)
    have FB0 := hid (show w.heap.size ≤ w1.heap.size from Fb_1.out.size)
    have FX := hid (show Below w1.heap.size w1 w1 from Below.refl _ _)
    have HBX := hid (show w.heap.size ≤ w1.heap.size from Fb_1.out.size)
    refine (HI.out _ (Fb_1.out)).mono ?_
    rintro e w2 ⟨⟨v2, rfl, r2⟩, b2⟩
    have Fb_2 := hid (Fb_1.out.trans (b2.mono Fb_1.out.size))
    clear Fb_1
    have Fs_2 := hid b2
    have HXI := hid b2.size
    clear b2
    have G0 := hid r2
    clear r2
    go_wp2_with (fail)
    refine (eqInts _ _ ys _ (by have := HL.out; omega) (arg_below (back_arg G0.out) (Below.refl _ _)) (arg_below S0.out (Fs_2.out))).mono ?_
    rintro e w3 ⟨rfl, b3⟩
    have Fb_3 := hid (Fb_2.out.trans (b3.mono Fb_2.out.size))
    clear Fb_2
    have Fs_3 := hid (Fs_2.out.trans (b3.mono Fs_2.out.size))
    clear Fs_2
    have Fi_3 := hid b3
    clear b3
    go_wp2_with (fail)
    have HXW := hid (show w1.heap.size ≤ w3.heap.size from Nat.le_trans HXI.out (Fi_3.out.size))
    refine (markAny _ _ ys _ (by have := HL.out; omega) HXW.out (back_below G0.out (Fi_3.out))).mono ?_
    rintro e w4 ⟨rfl, m4, b4⟩
    have MK := hid m4
    clear m4
    have FSM := hid (Fs_3.out.trans (b4.mono FX.out.size))
    have FBM := hid (Fb_3.out.trans (b4.mono HBX.out))
    clear b4
    go_wp2_with (fail)
    refine (heldAny _ ys.length _ (by have := HL.out; omega) (marked_below MK.out (Below.refl _ _))).mono ?_
    rintro e w5 ⟨rfl, b5⟩
    have Fb_5 := hid (FBM.out.trans (b5.mono FBM.out.size))
    clear FBM
    have Fs_5 := hid (FSM.out.trans (b5.mono FSM.out.size))
    clear FSM
    have FM_5 := hid b5
    clear b5
    go_wp2_with (fail)
    refine (HI.out _ (Fb_5.out)).mono ?_
    rintro e w6 ⟨⟨v6, rfl, r6⟩, b6⟩
    have Fb_6 := hid (Fb_5.out.trans (b6.mono Fb_5.out.size))
    clear Fb_5
    have Fs_6 := hid (Fs_5.out.trans (b6.mono Fs_5.out.size))
    clear Fs_5
    have FM_6 := hid (FM_5.out.trans (b6.mono FM_5.out.size))
    clear FM_5
    clear b6
    have H0 := hid r6
    clear r6
    go_wp2_with (fail)
    refine (eqInts _ _ ys _ (by have := HL.out; omega) (arg_below (back_arg H0.out) (Below.refl _ _)) (arg_below S0.out (Fs_6.out))).mono ?_
    rintro e w7 ⟨rfl, b7⟩
    have Fb_7 := hid (Fb_6.out.trans (b7.mono Fb_6.out.size))
    clear Fb_6
    have Fs_7 := hid (Fs_6.out.trans (b7.mono Fs_6.out.size))
    clear Fs_6
    have FM_7 := hid (FM_6.out.trans (b7.mono FM_6.out.size))
    clear FM_6
    have Fh_7 := hid b7
    clear b7
    go_wp2_with (fail)
    refine (heldAny _ ys.length _ (by have := HL.out; omega) (marked_below MK.out (FM_7.out))).mono ?_
    rintro e w8 ⟨rfl, b8⟩
    have Fb_8 := hid (Fb_7.out.trans (b8.mono Fb_7.out.size))
    clear Fb_7
    have Fs_8 := hid (Fs_7.out.trans (b8.mono Fs_7.out.size))
    clear Fs_7
    have FM_8 := hid (FM_7.out.trans (b8.mono FM_7.out.size))
    clear FM_7
    have Fh_8 := hid (Fh_7.out.trans (b8.mono Fh_7.out.size))
    clear Fh_7
    clear b8
    go_wp2_with (fail)
    go_ret
    exact ⟨rfl, Fb_8.out⟩
  · have hs0 : (1048576 : Int) < (s0.size : Int) := by omega
    clear hl hsh
    go_enter Tryd.func5, Tryd.ntmps5
    go_wp2_with (fail)
    go_ret
    exact ⟨rfl, Below.refl _ _⟩

end Go.Proofs.YtjijabfamjhdjaaDoor.pExactReadPath
