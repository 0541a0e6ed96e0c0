/- The last convergent is the value, the regular terms of it have the same value, and lengths are those of the kinds, at every text of bytes that the law draws from; the errors that it names hold what the program lays in them, which the card ties to the program itself. -/
import Derived.Test.YtipegemhcmfnmaaDoorSvw
import Derived.Test.YtipegemhcmfnmaaDoorCards
import Derived.Test.YtipegemhcmfnmaaDoorTie
import Derived.ProofKit
import Derived.LaidMore
import Derived.OpenShut
import Derived.ChangeSlices
import Derived.Stop.Joined
import Derived.ShutString
import Derived.ChangeOld
import Derived.Below
import Derived.Lib.SmallJoins
import Derived.SevenTiedAt
import Derived.ChangeVars
import Derived.OpenVars
import Derived.Test.YtipegemhcmfnmaaDoorPSva
namespace Go.Proofs.YtipegemhcmfnmaaDoor.pSignedValues
open Go.ChangeShapes Go.WideShapes Go.ChangeAt Go.RowKit Go.Joins
open Go.ChangeMaps (open_string shut_string)
set_option linter.unusedVariables false

theorem andT {a b : Bool} (h : a = true) (k : b = true) : (a && b) = true := by rw [h, k]; rfl
set_option maxRecDepth 100000 in
set_option maxHeartbeats 20000000 in
/-- The row's closed facts, each by itself. -/
theorem closed : joinedFacts Tryd.prog 3 Tryd.f3 Rows.fnSignedValuesSpec Rows.fnSignedValuesRow = true := by
  unfold joinedFacts
  repeat' (with_reducible refine andT ?_ ?_)
  all_goals (as_aux_lemma => kernel_rfl)

theorem holds : Rows.FnSignedValuesSaid :=
  OpenClaim.holds_of_wide 3 Tryd.f3 rfl rfl rfl rfl rfl rfl rfl ⟨rfl, rfl, rfl, rfl, rfl⟩ rfl rfl rfl rfl rfl (by kernel_rfl) Tryd.func3 closed
    (of_decide_eq_true (by kernel_rfl)) (by unfold Func.isWrapper; first | (rw [if_pos (by decide +kernel)]; kernel_rfl) | (rw [if_neg (by decide +kernel)]; exact ⟨rfl, rfl⟩))
    (fun os started H enc _ => lifted os started H enc)

end Go.Proofs.YtipegemhcmfnmaaDoor.pSignedValues
