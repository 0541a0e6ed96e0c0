/- The law on ValueOfSigned, walked. -/
import Derived.Test.YtipegemhcmfnmaaDoorVas
import Derived.Test.YtipegemhcmfnmaaDoorLv
namespace Go.Proofs.YtipegemhcmfnmaaDoor.pExactValueOfSigned
open Go.RowKit

set_option maxRecDepth 100000 in
set_option maxHeartbeats 3200000 in
theorem walk (a0 : Option Addr) (n0 c0 : Nat) (xs0 : List (Int × Int)) (w : World) (hl : laidMet Tryd.prog Rows.fnExactValueOfSignedRow.laid w) (hn0 : n0 = xs0.length) (hm0 : n0 ≤ 9223372036854775807) (ha0 : ArgS w (.slice a0 n0 c0) xs0) :
    Calls Tryd.prog 6 #[.slice a0 n0 c0] w fun e w' => e = .returned (.bool true) ∧ Below w.heap.size w w' := by
  have ER : ∃ a0 a1 a2 a3, Errs a0 a1 a2 a3 w := by
    obtain ⟨b0, e0⟩ := sen0_of hl (by simp [Rows.fnExactValueOfSignedRow])
    obtain ⟨b1, e1⟩ := sen1_of hl (by simp [Rows.fnExactValueOfSignedRow])
    obtain ⟨b2, e2⟩ := sen2_of hl (by simp [Rows.fnExactValueOfSignedRow])
    obtain ⟨b3, e3⟩ := sen3_of hl (by simp [Rows.fnExactValueOfSignedRow])
    exact ⟨b0, b1, b2, b3, e0, e1, e2, e3⟩
  obtain ⟨b0, b1, b2, b3, er⟩ := ER
  have HE := hid er
  clear hl
  subst hn0
  by_cases hx0 : xs0.length ≤ 1048576
  case neg =>
    have Z0 := hid (fun w => szSgNo a0 xs0.length c0 1048576 w (by omega) (by omega) (by omega) hm0)
    have hneg : (-1 : Int) < 0 := by decide
    clear ha0
    go_enter Tryd.func6, Tryd.ntmps6
    go_wp2_with (fail)
    refine (Z0.out _).mono ?_
    rintro e u ⟨rfl, rfl⟩
    go_wp2_with (fail)
    go_ret
    exact ⟨rfl, Below.refl _ _⟩
  have Z0 := hid (fun w => szSg a0 xs0.length c0 1048576 w (by omega) (by omega))
  have hz0 : ¬ (1048576 : Int) - (xs0.length : Int) < 0 := by omega
  have HC := hid (fun w' (h : Below w.heap.size w w') => copySg (.slice a0 xs0.length c0) xs0 w' hx0 (args_below ha0 h))
  have HS := hid (fun (B g c : Nat) (w' : World) (o : SOwn B w' g c xs0) (_hb : Below w.heap.size w w') => specValS g c xs0 w' (by omega) (sown_sgs o))
  have HI := hid (fun (B g c : Nat) (w' : World) (o : SOwn B w' g c xs0) (hb : Below w.heap.size w w') => implValS g c xs0 b0 b1 b2 b3 w' (errs_below HE.out hb) (by omega) (sown_cap o) (sown_sgs o))
  clear ha0
  generalize valS xs0 = r at HS HI
  obtain ⟨y0, y1, s⟩ := r
  have hss : (s != s) = false := by simp
  go_enter Tryd.func6, Tryd.ntmps6
  go_wp2_with (fail)
  refine (Z0.out _).mono ?_
  rintro e u ⟨rfl, hu⟩
  rw [hu]
  clear hu
  go_wp2_with (fail)
  refine (HC.out _ (Below.refl _ _)).mono ?_
  rintro e w1 ⟨g1, d1, rfl, o1, b1⟩
  have E1 := hid b1
  have X1 := hid o1
  clear b1 o1
  go_wp2_with (fail)
  refine (HS.out _ g1 d1 _ X1.out E1.out).mono ?_
  rintro e w2 ⟨rfl, b2⟩
  have E2 := hid (E1.out.trans (b2.mono E1.out.size))
  clear b2 X1
  dsimp only [valV]
  go_wp2_with (fail)
  have E2a := hid (E2.out.alloc E2.out.size (.cells #[.int .i64 y0, .int .i64 y1] 30))
  have F1 := hid (fb_new w2 y0 y1)
  refine (HC.out _ E2a.out).mono ?_
  rintro e w3 ⟨g3, d3, rfl, o3, b3⟩
  have E3 := hid (E2a.out.trans (b3.mono E2a.out.size))
  have F3 := hid (fb_below F1.out b3)
  have X3 := hid o3
  clear b3 o3
  go_wp2_with (fail)
  refine (HI.out _ g3 d3 _ X3.out E3.out).mono ?_
  rintro e w4 ⟨rfl, b4⟩
  have E4 := hid (E3.out.trans (b4.mono E3.out.size))
  have F4 := hid (fb_below F3.out b4)
  have X4 := hid (sown_below X3.out b4)
  clear b4 X3 F3
  dsimp only [valV]
  have A4 : Below w4.heap.size w4 (w4.alloc (.cells #[.int .i64 y0, .int .i64 y1] 30)) := (Below.refl _ _).alloc (Nat.le_refl _) _
  have E4a := hid (E4.out.trans (A4.mono E4.out.size))
  have G4 := hid (fb_new w4 y0 y1)
  have F5 := hid (fb_below F4.out A4)
  have X5 := hid (sown_below X4.out A4)
  obtain ⟨q0, q1, _, _, _⟩ := fb_cells F5.out
  obtain ⟨q2, q3, _, _, _⟩ := fb_cells G4.out
  clear A4
  go_wp2_with (fail)
  refine (eqFr y0 y1 _).mono ?_
  rintro e w5 ⟨rfl, b5⟩
  have E5 := hid (E4a.out.trans (b5.mono E4a.out.size))
  have X6 := hid (sown_below X5.out b5)
  clear b5 q0 q1 q2 q3 F5 F4 G4 X4 X5
  go_wp2_with (fail)
  refine (HC.out _ E5.out).mono ?_
  rintro e w6 ⟨g6, d6, rfl, o6, b6⟩
  have E6 := hid (E5.out.trans (b6.mono E5.out.size))
  have X7 := hid (sown_below X6.out b6)
  have Y6 := hid o6
  clear b6 o6
  go_wp2_with (fail)
  refine (eqSgs _ _ xs0 _ (by omega) (.inr ⟨_, _, rfl, X7.out⟩) (.inr ⟨_, _, rfl, Y6.out⟩)).mono ?_
  rintro e w7 ⟨rfl, b7⟩
  have E7 := hid (E6.out.trans (b7.mono E6.out.size))
  clear b7
  go_wp2_with (fail)
  go_ret
  exact ⟨rfl, E7.out⟩

end Go.Proofs.YtipegemhcmfnmaaDoor.pExactValueOfSigned
