/- The law on SignedFromTerms, walked. -/
import Derived.Test.YtipegemhcmfnmaaDoorFrs
namespace Go.Proofs.YtipegemhcmfnmaaDoor.pExactSignedFromTerms
open Go.RowKit

set_option maxRecDepth 100000 in
set_option maxHeartbeats 3200000 in
theorem walk (a0 : Option Addr) (n0 c0 : Nat) (xs0 : List Int) (kd : Int) (w : World) (hl : laidMet Tryd.prog Rows.fnExactSignedFromTermsRow.laid w) (hn0 : n0 = xs0.length) (ha0 : Arg w (.slice a0 n0 c0) xs0) (_wk : (Lit.int .i64 kd).wf = true) :
    Calls Tryd.prog 9 #[.slice a0 n0 c0, .int .i64 kd] w fun e w' => e = .returned (.bool true) ∧ Below w.heap.size w w' := by
  have ER : ∃ a0 a1 a2 a3, Errs a0 a1 a2 a3 w := by
    obtain ⟨b0, e0⟩ := sen0_of hl (by simp [Rows.fnExactSignedFromTermsRow])
    obtain ⟨b1, e1⟩ := sen1_of hl (by simp [Rows.fnExactSignedFromTermsRow])
    obtain ⟨b2, e2⟩ := sen2_of hl (by simp [Rows.fnExactSignedFromTermsRow])
    obtain ⟨b3, e3⟩ := sen3_of hl (by simp [Rows.fnExactSignedFromTermsRow])
    exact ⟨b0, b1, b2, b3, e0, e1, e2, e3⟩
  obtain ⟨b0, b1, b2, b3, er⟩ := ER
  have HE := hid er
  clear hl _wk
  subst hn0
  by_cases hx0 : xs0.length ≤ 1048576
  case neg =>
    have hs0 : (1048576 : Int) < (xs0.length : Int) := by omega
    clear ha0
    go_enter Tryd.func9, Tryd.ntmps9
    go_wp2_with (fail)
    go_ret
    exact ⟨rfl, Below.refl _ _⟩
  have hs0 : ¬ (1048576 : Int) < (xs0.length : Int) := by omega
  have HC := hid (fun w' (h : Below w.heap.size w w') => copyAny (.slice a0 xs0.length c0) xs0 w' hx0 (arg_below ha0 h))
  have HS := hid (fun (B g c : Nat) (w' : World) (o : Own B w' g c xs0) (_hb : Below w.heap.size w w') => specFromS g c xs0 kd w' (by omega) (own_ints o))
  have HI := hid (fun (B g c : Nat) (w' : World) (o : Own B w' g c xs0) (hb : Below w.heap.size w w') => implFromS g c xs0 kd b0 b1 b2 b3 w' (errs_below HE.out hb) (by omega) (own_cap o) (own_ints o))
  clear ha0
  have HL := hid (show (fromS (valT xs0) kd).1.length ≤ 2000000 by have := fromS_len (valT xs0) kd; omega)
  generalize fromS (valT xs0) kd = r at HS HI HL
  obtain ⟨ys, s⟩ := r
  have hq0 : ¬ (1 + (ys.length : Int) * 2) < 0 := by omega
  have hqq : ((1 + (ys.length : Int) * 2) != (1 + (ys.length : Int) * 2)) = false := by simp
  have hss : (s != s) = false := by simp
  have hq1 : ¬ (1 + (xs0.length : Int)) < 0 := by omega
  go_enter Tryd.func9, Tryd.ntmps9
  go_wp2_with (fail)
  refine (HC.out _ (Below.refl _ _)).mono ?_
  rintro e w1 ⟨g1, d1, rfl, o1, b1⟩
  have Fb_1 := hid b1
  clear b1
  have X1 := hid o1
  clear o1
  go_wp2_with (fail)
  refine (HS.out _ g1 d1 _ X1.out (Fb_1.out)).mono ?_
  rintro e w2 ⟨⟨v2, rfl, r2⟩, b2⟩
  have Fb_2 := hid (Fb_1.out.trans (b2.mono Fb_1.out.size))
  clear Fb_1
  clear b2
  have S0 := hid r2
  clear r2
  go_wp2_with (fail)
  have FB0 := hid (show w.heap.size ≤ w2.heap.size from Fb_2.out.size)
  refine (HC.out _ (Fb_2.out)).mono ?_
  rintro e w3 ⟨g3, d3, rfl, o3, b3⟩
  have Fb_3 := hid (Fb_2.out.trans (b3.mono Fb_2.out.size))
  clear Fb_2
  have Fs_3 := hid b3
  clear b3
  have X3 := hid o3
  clear o3
  go_wp2_with (fail)
  have FX := hid (show Below w2.heap.size w2 w3 from Fs_3.out)
  have HBX := hid (show w.heap.size ≤ w3.heap.size from Fb_3.out.size)
  refine (HI.out _ g3 d3 _ X3.out (Fb_3.out)).mono ?_
  rintro e w4 ⟨⟨v4, rfl, r4⟩, b4⟩
  have Fb_4 := hid (Fb_3.out.trans (b4.mono Fb_3.out.size))
  clear Fb_3
  have Fs_4 := hid (Fs_3.out.trans (b4.mono Fs_3.out.size))
  clear Fs_3
  have Fx_4 := hid b4
  have HXI := hid b4.size
  clear b4
  have G0 := hid r4
  clear r4
  go_wp2_with (fail)
  refine (eqSgs _ _ ys _ (by have := HL.out; omega) (sback_below G0.out (Below.refl _ _)) (sback_below S0.out (Fs_4.out))).mono ?_
  rintro e w5 ⟨rfl, b5⟩
  have Fb_5 := hid (Fb_4.out.trans (b5.mono Fb_4.out.size))
  clear Fb_4
  have Fs_5 := hid (Fs_4.out.trans (b5.mono Fs_4.out.size))
  clear Fs_4
  have Fx_5 := hid (Fx_4.out.trans (b5.mono Fx_4.out.size))
  clear Fx_4
  have Fi_5 := hid b5
  clear b5
  go_wp2_with (fail)
  refine (HC.out _ (Fb_5.out)).mono ?_
  rintro e w6 ⟨g6, d6, rfl, o6, b6⟩
  have Fb_6 := hid (Fb_5.out.trans (b6.mono Fb_5.out.size))
  clear Fb_5
  have Fs_6 := hid (Fs_5.out.trans (b6.mono Fs_5.out.size))
  clear Fs_5
  have Fx_6 := hid (Fx_5.out.trans (b6.mono Fx_5.out.size))
  clear Fx_5
  have Fi_6 := hid (Fi_5.out.trans (b6.mono Fi_5.out.size))
  clear Fi_5
  clear b6
  have X6 := hid o6
  clear o6
  go_wp2_with (fail)
  refine (eqInts _ _ xs0 _ (by omega) (own_arg (own_below X3.out (Fx_6.out))) (own_arg X6.out)).mono ?_
  rintro e w7 ⟨rfl, b7⟩
  have Fb_7 := hid (Fb_6.out.trans (b7.mono Fb_6.out.size))
  clear Fb_6
  have Fs_7 := hid (Fs_6.out.trans (b7.mono Fs_6.out.size))
  clear Fs_6
  have Fx_7 := hid (Fx_6.out.trans (b7.mono Fx_6.out.size))
  clear Fx_6
  have Fi_7 := hid (Fi_6.out.trans (b7.mono Fi_6.out.size))
  clear Fi_6
  clear b7
  go_wp2_with (fail)
  have HGX := hid (show w2.heap.size ≤ g3 ∧ g3 < w3.heap.size from ⟨X3.out.1, own_lt X3.out⟩)
  refine (markRow g3 d3 _ xs0 _ (by omega) (own_below X3.out (Fx_7.out))).mono ?_
  rintro e w8 ⟨rfl, m8, b8⟩
  clear m8
  have Gm := hid (sback_grown (sback_below G0.out (Fi_7.out)) b8 HGX.out.2)
  have FSm := hid (Fs_7.out.trans (grown_below b8 Fs_7.out.size (Nat.le_trans (Nat.le_refl _) HGX.out.1)))
  have FBm := hid (Fb_7.out.trans (grown_below b8 Fb_7.out.size (Nat.le_trans FB0.out HGX.out.1)))
  have HXM := hid (show w3.heap.size ≤ w8.heap.size from Nat.le_trans (Nat.le_trans HXI.out (Fi_7.out.size)) b8.size)
  clear b8
  go_wp2_with (fail)
  refine (eqSgs _ _ ys _ (by have := HL.out; omega) (sback_below Gm.out (Below.refl _ _)) (sback_below S0.out (FSm.out))).mono ?_
  rintro e w9 ⟨rfl, b9⟩
  have Fb_9 := hid (FBm.out.trans (b9.mono FBm.out.size))
  clear FBm
  have Fs_9 := hid (FSm.out.trans (b9.mono FSm.out.size))
  clear FSm
  have Fm_9 := hid b9
  clear b9
  go_wp2_with (fail)
  have HXW := hid (show w3.heap.size ≤ w9.heap.size from Nat.le_trans HXM.out (Fm_9.out.size))
  refine (markSgAny _ _ ys _ (by have := HL.out; omega) HXW.out (sback_below Gm.out (Fm_9.out))).mono ?_
  rintro e w10 ⟨rfl, m10, b10⟩
  have MK := hid m10
  clear m10
  have FSM := hid (Fs_9.out.trans (b10.mono FX.out.size))
  have FBM := hid (Fb_9.out.trans (b10.mono HBX.out))
  clear b10
  go_wp2_with (fail)
  refine (heldSgAny _ ys.length _ (by have := HL.out; omega) (markedG_below MK.out (Below.refl _ _))).mono ?_
  rintro e w11 ⟨rfl, b11⟩
  have Fb_11 := hid (FBM.out.trans (b11.mono FBM.out.size))
  clear FBM
  have Fs_11 := hid (FSM.out.trans (b11.mono FSM.out.size))
  clear FSM
  have FM_11 := hid b11
  clear b11
  go_wp2_with (fail)
  refine (HC.out _ (Fb_11.out)).mono ?_
  rintro e w12 ⟨g12, d12, rfl, o12, b12⟩
  have Fb_12 := hid (Fb_11.out.trans (b12.mono Fb_11.out.size))
  clear Fb_11
  have Fs_12 := hid (Fs_11.out.trans (b12.mono Fs_11.out.size))
  clear Fs_11
  have FM_12 := hid (FM_11.out.trans (b12.mono FM_11.out.size))
  clear FM_11
  clear b12
  have X12 := hid o12
  clear o12
  go_wp2_with (fail)
  refine (HI.out _ g12 d12 _ X12.out (Fb_12.out)).mono ?_
  rintro e w13 ⟨⟨v13, rfl, r13⟩, b13⟩
  have Fb_13 := hid (Fb_12.out.trans (b13.mono Fb_12.out.size))
  clear Fb_12
  have Fs_13 := hid (Fs_12.out.trans (b13.mono Fs_12.out.size))
  clear Fs_12
  have FM_13 := hid (FM_12.out.trans (b13.mono FM_12.out.size))
  clear FM_12
  clear b13
  have H0 := hid r13
  clear r13
  go_wp2_with (fail)
  refine (eqSgs _ _ ys _ (by have := HL.out; omega) (sback_below H0.out (Below.refl _ _)) (sback_below S0.out (Fs_13.out))).mono ?_
  rintro e w14 ⟨rfl, b14⟩
  have Fb_14 := hid (Fb_13.out.trans (b14.mono Fb_13.out.size))
  clear Fb_13
  have Fs_14 := hid (Fs_13.out.trans (b14.mono Fs_13.out.size))
  clear Fs_13
  have FM_14 := hid (FM_13.out.trans (b14.mono FM_13.out.size))
  clear FM_13
  have Fh_14 := hid b14
  clear b14
  go_wp2_with (fail)
  refine (heldSgAny _ ys.length _ (by have := HL.out; omega) (markedG_below MK.out (FM_14.out))).mono ?_
  rintro e w15 ⟨rfl, b15⟩
  have Fb_15 := hid (Fb_14.out.trans (b15.mono Fb_14.out.size))
  clear Fb_14
  have Fs_15 := hid (Fs_14.out.trans (b15.mono Fs_14.out.size))
  clear Fs_14
  have FM_15 := hid (FM_14.out.trans (b15.mono FM_14.out.size))
  clear FM_14
  have Fh_15 := hid (Fh_14.out.trans (b15.mono Fh_14.out.size))
  clear Fh_14
  clear b15
  go_wp2_with (fail)
  go_ret
  exact ⟨rfl, Fb_15.out⟩

end Go.Proofs.YtipegemhcmfnmaaDoor.pExactSignedFromTerms
