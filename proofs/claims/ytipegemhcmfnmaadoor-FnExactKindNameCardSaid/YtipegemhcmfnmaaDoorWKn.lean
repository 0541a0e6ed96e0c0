/- The law on KindName, walked. -/
import Derived.Test.YtipegemhcmfnmaaDoorKn
namespace Go.Proofs.YtipegemhcmfnmaaDoor.pExactKindName
open Go.RowKit Go.Lib

theorem walk (n : Int) (w : World) (hl : laidMet Tryd.prog Rows.fnExactKindNameRow.laid w) (_wn : (Lit.int .i64 n).wf = true) :
    Calls Tryd.prog 4 #[.int .i64 n] w fun e w' => e = .returned (.bool true) ∧ Below w.heap.size w w' := by
  have ht := kinds_of hl (by simp [Rows.fnExactKindNameRow])
  have CS := fun w => specKind n w
  have CI := fun w h => implKind n w h
  generalize (⟨(nmK n).toArray⟩ : ByteArray) = s at CS CI
  have HS := hid CS
  have HI := hid CI
  have HT := hid ht
  clear CS CI ht hl _wn
  go_enter Tryd.func4, Tryd.ntmps4
  go_wp2_with (fail)
  refine (HS.out _).mono ?_
  rintro e w1 ⟨rfl, hb1⟩
  have HT1 := hid (kinds_below HT.out hb1)
  go_wp2_with (fail)
  refine (HI.out _ HT1.out).mono ?_
  rintro e w2 ⟨rfl, rfl⟩
  go_wp2_with (fail)
  go_ret
  exact ⟨rfl, hb1⟩

end Go.Proofs.YtipegemhcmfnmaaDoor.pExactKindName
