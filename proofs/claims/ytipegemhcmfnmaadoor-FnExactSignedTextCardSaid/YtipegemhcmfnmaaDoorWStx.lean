/- The law on SignedText, walked. -/
import Derived.Test.YtipegemhcmfnmaaDoorSti
namespace Go.Proofs.YtipegemhcmfnmaaDoor.pExactSignedText
open Go.RowKit

set_option maxRecDepth 100000 in
set_option maxHeartbeats 3200000 in
theorem walk (a0 : Option Addr) (n0 c0 : Nat) (xs0 : List (Int × Int)) (w : World) (hl : laidMet Tryd.prog Rows.fnExactSignedTextRow.laid w) (hn0 : n0 = xs0.length) (hm0 : n0 ≤ 9223372036854775807) (ha0 : ArgS w (.slice a0 n0 c0) xs0) :
    Calls Tryd.prog 12 #[.slice a0 n0 c0] w fun e w' => e = .returned (.bool true) ∧ Below w.heap.size w w' := by
  have HPW := hid (show PowS w from pow10_of hl (by simp [Rows.fnExactSignedTextRow]))
  clear hl
  subst hn0
  by_cases hx0 : xs0.length ≤ 1048576
  case neg =>
    have Z0 := hid (fun w => szSgNo a0 xs0.length c0 1048576 w (by omega) (by omega) (by omega) hm0)
    have hneg : (-1 : Int) < 0 := by decide
    clear ha0
    go_enter Tryd.func12, Tryd.ntmps12
    go_wp2_with (fail)
    refine (Z0.out _).mono ?_
    rintro e u ⟨rfl, rfl⟩
    go_wp2_with (fail)
    go_ret
    exact ⟨rfl, Below.refl _ _⟩
  have Z0 := hid (fun w => szSg a0 xs0.length c0 1048576 w (by omega) (by omega))
  have hz0 : ¬ (1048576 : Int) - (xs0.length : Int) < 0 := by omega
  have HC := hid (fun w' (h : Below w.heap.size w w') => copySg (.slice a0 xs0.length c0) xs0 w' hx0 (args_below ha0 h))
  have HS := hid (fun (B g c : Nat) (w' : World) (o : SOwn B w' g c xs0) (_hb : Below w.heap.size w w') => specTextS g c xs0 w' (by omega) (sown_sgs o))
  have HI := hid (fun (B g c : Nat) (w' : World) (o : SOwn B w' g c xs0) (hb : Below w.heap.size w w') => implTextS g c xs0 w' (by omega) (sown_cap o) (sown_sgs o) (pows_below HPW.out hb))
  clear ha0
  generalize sgO xs0 = ys at HS HI
  obtain ⟨Y, hY⟩ : ∃ Y : ByteArray, Y = ⟨ys.toArray⟩ := ⟨_, rfl⟩
  rw [← hY] at HS HI
  clear hY
  go_enter Tryd.func12, Tryd.ntmps12
  go_wp2_with (fail)
  refine (Z0.out _).mono ?_
  rintro e u ⟨rfl, hu⟩
  rw [hu]
  clear hu
  go_wp2_with (fail)
  refine (HC.out _ (Below.refl _ _)).mono ?_
  rintro e w1 ⟨g1, d1, rfl, o1, b1⟩
  have Fb_1 := hid b1
  clear b1
  have X1 := hid o1
  clear o1
  go_wp2_with (fail)
  refine (HS.out _ g1 d1 _ X1.out (Fb_1.out)).mono ?_
  rintro e w2 ⟨rfl, b2⟩
  have Fb_2 := hid (Fb_1.out.trans (b2.mono Fb_1.out.size))
  clear Fb_1
  clear b2
  go_wp2_with (fail)
  have FB0 := hid (show w.heap.size ≤ w2.heap.size from Fb_2.out.size)
  refine (HC.out _ (Fb_2.out)).mono ?_
  rintro e w3 ⟨g3, d3, rfl, o3, b3⟩
  have Fb_3 := hid (Fb_2.out.trans (b3.mono Fb_2.out.size))
  clear Fb_2
  have Fs_3 := hid b3
  clear b3
  have X3 := hid o3
  clear o3
  go_wp2_with (fail)
  have FX := hid (show Below w2.heap.size w2 w3 from Fs_3.out)
  have HBX := hid (show w.heap.size ≤ w3.heap.size from Fb_3.out.size)
  refine (HI.out _ g3 d3 _ X3.out (Fb_3.out)).mono ?_
  rintro e w4 ⟨rfl, b4⟩
  have Fb_4 := hid (Fb_3.out.trans (b4.mono Fb_3.out.size))
  clear Fb_3
  have Fs_4 := hid (Fs_3.out.trans (b4.mono Fs_3.out.size))
  clear Fs_3
  have Fx_4 := hid b4
  have HXI := hid b4.size
  clear b4
  go_wp2_with (fail)
  refine (HC.out _ (Fb_4.out)).mono ?_
  rintro e w5 ⟨g5, d5, rfl, o5, b5⟩
  have Fb_5 := hid (Fb_4.out.trans (b5.mono Fb_4.out.size))
  clear Fb_4
  have Fs_5 := hid (Fs_4.out.trans (b5.mono Fs_4.out.size))
  clear Fs_4
  have Fx_5 := hid (Fx_4.out.trans (b5.mono Fx_4.out.size))
  clear Fx_4
  have Fi_5 := hid b5
  clear b5
  have X5 := hid o5
  clear o5
  go_wp2_with (fail)
  refine (eqSgs _ _ xs0 _ (by omega) (.inr ⟨_, _, rfl, sown_below X3.out (Fx_5.out)⟩) (.inr ⟨_, _, rfl, X5.out⟩)).mono ?_
  rintro e w6 ⟨rfl, b6⟩
  have Fb_6 := hid (Fb_5.out.trans (b6.mono Fb_5.out.size))
  clear Fb_5
  have Fs_6 := hid (Fs_5.out.trans (b6.mono Fs_5.out.size))
  clear Fs_5
  have Fx_6 := hid (Fx_5.out.trans (b6.mono Fx_5.out.size))
  clear Fx_5
  have Fi_6 := hid (Fi_5.out.trans (b6.mono Fi_5.out.size))
  clear Fi_5
  clear b6
  go_wp2_with (fail)
  go_ret
  exact ⟨rfl, Fb_6.out⟩

end Go.Proofs.YtipegemhcmfnmaaDoor.pExactSignedText
