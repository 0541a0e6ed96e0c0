/- ReadSigned answers as its model at every text, and what it hands back is memory of its own; the tables and the errors that it names hold what the program lays in them, which the card ties to the program itself. -/
import Derived.Test.YtipegemhcmfnmaaDoorWRsg
import Derived.Test.YtipegemhcmfnmaaDoorCards
import Derived.Test.YtipegemhcmfnmaaDoorTie
import Derived.ProofKit
import Derived.LaidMore
import Derived.Lay
import Derived.OpenShut
import Derived.ChangeSlices
import Derived.Stop.Joined
import Derived.ShutString
import Derived.ChangeOld
import Derived.Below
import Derived.Lib.SmallJoins
import Derived.SevenTiedAt
import Derived.Test.YtipegemhcmfnmaaDoorHs
import Derived.Test.YtipegemhcmfnmaaDoorPRsga
namespace Go.Proofs.YtipegemhcmfnmaaDoor.pExactReadSigned
open Go.ChangeShapes Go.WideShapes Go.ChangeAt Go.RowKit Go.Joins
open Go.ChangeMaps (open_string shut_string)
set_option linter.unusedVariables false

theorem andT {a b : Bool} (h : a = true) (k : b = true) : (a && b) = true := by rw [h, k]; rfl
set_option maxRecDepth 100000 in
set_option maxHeartbeats 20000000 in
/-- The row's closed facts, each by itself. -/
theorem closed : joinedFacts Tryd.prog 13 Tryd.f13 Rows.fnExactReadSignedSpec Rows.fnExactReadSignedRow = true := by
  unfold joinedFacts
  repeat' (with_reducible refine andT ?_ ?_)
  all_goals (as_aux_lemma => kernel_rfl)

theorem holds : Rows.FnExactReadSignedSaid :=
  OpenClaim.holds_of_wide 13 Tryd.f13 rfl rfl rfl rfl rfl rfl rfl ⟨rfl, rfl, rfl, rfl, rfl⟩ rfl rfl rfl rfl rfl (by kernel_rfl) Tryd.func13 closed
    (of_decide_eq_true (by kernel_rfl)) (by unfold Func.isWrapper; first | (rw [if_pos (by decide +kernel)]; kernel_rfl) | (rw [if_neg (by decide +kernel)]; exact ⟨rfl, rfl⟩))
    (fun os started H enc _ => lifted os started H enc)

end Go.Proofs.YtipegemhcmfnmaaDoor.pExactReadSigned
