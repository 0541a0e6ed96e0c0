/- Closed facts of the program alone, which every row asks for: computed once. -/
import Derived.Test.YthfogmaefhfkoaaChecked
import Derived.Test.YthfogmaefhfkoaaRows
import Derived.JoinedOf
import Derived.ProofKit
namespace Go.Proofs.Ythfogmaefhfkoaa
set_option maxRecDepth 100000
set_option maxHeartbeats 20000000

theorem andT {a b : Bool} (h : a = true) (k : b = true) : (a && b) = true := by rw [h, k]; rfl
theorem jfLaid : laidOutB Try.prog = true := by kernel_rfl
theorem jfMaps : mapsRowed Try.prog = true := by kernel_rfl
theorem jfStops : (Try.prog.stops == []) = true := by kernel_rfl
theorem jfKnobs : (Try.prog.stopKnobs == []) = true := by kernel_rfl
theorem jfHeard : Try.prog.stopsHeard = true := by kernel_rfl
theorem jfEnter : Try.prog.mayEnter = true := by kernel_rfl
theorem jfLifts : Try.prog.liftsFinal = Rows.fnExactTotientOfRow.lifted := by kernel_rfl
theorem jfMake : Try.prog.make = some Rows.fnExactTotientOfRow.make := by kernel_rfl
theorem jfKeys : Try.prog.plainKeys = Rows.fnExactTotientOfRow.plainKeys := by kernel_rfl

end Go.Proofs.Ythfogmaefhfkoaa
