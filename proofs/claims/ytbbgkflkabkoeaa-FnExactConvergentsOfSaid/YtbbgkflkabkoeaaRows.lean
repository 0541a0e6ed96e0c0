/-
  No cell of these rows narrows 'for every input' (looked for: loops, veiled, ifaces, maps, wideKeys, modest, calm, conditions, laid).
  DERIVED. THE GIVEN ROWS OF THIS SEAT. 11 by the template 'for every input the law returns true; each argument reads behind the call as it read before'; 0 by the template 'total and deterministic' (their statements: YtbbgkflkabkoeaaTotals.lean).
  GIVEN WITH THE SEED: the statements are not yours to turn. If you find one false, say at which input.
  Laid BY PROGRAM, IN A SANDBOX (cutbox-rows.mjs): the forced cells as the released guide's own fill.sh prints them over the translation 9add5b73c7ce81ab… (all of the seat's roots in one cut). By AI agents, Wed Nov 11 2026. No macro, syntax, notation, axiom, sorry.
-/
import Derived.Test.YtbbgkflkabkoeaaChecked
import GoSem.Claim
import GoSem.ClaimJoined
import GoSem.ClaimMapViews
import Derived.JoinedTies
import Derived.KernelRfl
namespace Go.Proofs.Ytbbgkflkabkoeaa
/- THE CELL 'sum', in the pinned program and in every row, IS THE sha256 OF THE DUMP (.gsa) THAT YtbbgkflkabkoeaaProg.lean LOADS. Nothing in Lean hashes anything: it is a label: what it is worth is what the hold of that sum in a sandbox is worth. -/
noncomputable def Try.pinned : Pinned := { name := "ytbbgkflkabkoeaa", sum := "9add5b73c7ce81ababb19d6738a29f1d95072ea9337f63c929d0b55342bccf3d", checked := Try.checked }
namespace Rows
def none {H : Type} : Left H := { results := [], args := [] }

/-- 'laws.FnTermOrder': WHATEVER THE INPUT: true; the input reads as it did. -/
def fnTermOrderSpec : ChangeSpec := { name := "fnTermOrder", fn := fun _ => fun
  | [d] => { results := [.lit (.bool true)], args := [d] }
  | _ => none }
def fnTermOrderRow : OpenClaim := { program := "ytbbgkflkabkoeaa", sum := "9add5b73c7ce81ababb19d6738a29f1d95072ea9337f63c929d0b55342bccf3d", func := "loop.example/g01007/laws.FnTermOrder", spec := "fnTermOrder", apart := false }
def FnTermOrderSaid : Prop := fnTermOrderRow.holds Try.pinned (OpenSpec.ofChange fnTermOrderSpec)

/-- ITS FALSE NEIGHBOUR: 'it returns false'. Refute it at one input. -/
def fnTermOrderWrong : ChangeSpec := { name := "fnTermOrder", fn := fun _ => fun
  | [d] => { results := [.lit (.bool false)], args := [d] }
  | _ => none }
def FnTermOrderWrongFalsely : Prop := fnTermOrderRow.holds Try.pinned (OpenSpec.ofChange fnTermOrderWrong)

/-- 'laws.FnContinuants': WHATEVER THE INPUT: true; the input reads as it did. -/
def fnContinuantsSpec : ChangeSpec := { name := "fnContinuants", fn := fun _ => fun
  | [d] => { results := [.lit (.bool true)], args := [d] }
  | _ => none }
def fnContinuantsRow : OpenClaim := { program := "ytbbgkflkabkoeaa", sum := "9add5b73c7ce81ababb19d6738a29f1d95072ea9337f63c929d0b55342bccf3d", func := "loop.example/g01007/laws.FnContinuants", spec := "fnContinuants", apart := false }
def FnContinuantsSaid : Prop := fnContinuantsRow.holds Try.pinned (OpenSpec.ofChange fnContinuantsSpec)

/-- ITS FALSE NEIGHBOUR: 'it returns false'. Refute it at one input. -/
def fnContinuantsWrong : ChangeSpec := { name := "fnContinuants", fn := fun _ => fun
  | [d] => { results := [.lit (.bool false)], args := [d] }
  | _ => none }
def FnContinuantsWrongFalsely : Prop := fnContinuantsRow.holds Try.pinned (OpenSpec.ofChange fnContinuantsWrong)

/-- 'laws.FnExactValidTerms': WHATEVER THE INPUT: true; the input reads as it did. -/
def fnExactValidTermsSpec : ChangeSpec := { name := "fnExactValidTerms", fn := fun _ => fun
  | [d] => { results := [.lit (.bool true)], args := [d] }
  | _ => none }
def fnExactValidTermsRow : OpenClaim := { program := "ytbbgkflkabkoeaa", sum := "9add5b73c7ce81ababb19d6738a29f1d95072ea9337f63c929d0b55342bccf3d", func := "loop.example/g01007/laws.FnExactValidTerms", spec := "fnExactValidTerms", apart := false }
def FnExactValidTermsSaid : Prop := fnExactValidTermsRow.holds Try.pinned (OpenSpec.ofChange fnExactValidTermsSpec)

/-- ITS FALSE NEIGHBOUR: 'it returns false'. Refute it at one input. -/
def fnExactValidTermsWrong : ChangeSpec := { name := "fnExactValidTerms", fn := fun _ => fun
  | [d] => { results := [.lit (.bool false)], args := [d] }
  | _ => none }
def FnExactValidTermsWrongFalsely : Prop := fnExactValidTermsRow.holds Try.pinned (OpenSpec.ofChange fnExactValidTermsWrong)

/-- 'laws.FnExactExpandFraction': WHATEVER THE INPUT: true; the input reads as it did. -/
def fnExactExpandFractionSpec : ChangeSpec := { name := "fnExactExpandFraction", fn := fun _ => fun
  | [d] => { results := [.lit (.bool true)], args := [d] }
  | _ => none }
def fnExactExpandFractionRow : OpenClaim := { program := "ytbbgkflkabkoeaa", sum := "9add5b73c7ce81ababb19d6738a29f1d95072ea9337f63c929d0b55342bccf3d", func := "loop.example/g01007/laws.FnExactExpandFraction", spec := "fnExactExpandFraction", apart := false }
def FnExactExpandFractionSaid : Prop := fnExactExpandFractionRow.holds Try.pinned (OpenSpec.ofChange fnExactExpandFractionSpec)

/-- ITS FALSE NEIGHBOUR: 'it returns false'. Refute it at one input. -/
def fnExactExpandFractionWrong : ChangeSpec := { name := "fnExactExpandFraction", fn := fun _ => fun
  | [d] => { results := [.lit (.bool false)], args := [d] }
  | _ => none }
def FnExactExpandFractionWrongFalsely : Prop := fnExactExpandFractionRow.holds Try.pinned (OpenSpec.ofChange fnExactExpandFractionWrong)

/-- 'laws.FnExactValueOfTerms': WHATEVER THE INPUT: true; the input reads as it did. -/
def fnExactValueOfTermsSpec : ChangeSpec := { name := "fnExactValueOfTerms", fn := fun _ => fun
  | [d] => { results := [.lit (.bool true)], args := [d] }
  | _ => none }
def fnExactValueOfTermsRow : OpenClaim := { program := "ytbbgkflkabkoeaa", sum := "9add5b73c7ce81ababb19d6738a29f1d95072ea9337f63c929d0b55342bccf3d", func := "loop.example/g01007/laws.FnExactValueOfTerms", spec := "fnExactValueOfTerms", unfollowed := true, recurses := true, apart := false }
def FnExactValueOfTermsSaid : Prop := fnExactValueOfTermsRow.holds Try.pinned (OpenSpec.ofChange fnExactValueOfTermsSpec)

/-- ITS FALSE NEIGHBOUR: 'it returns false'. Refute it at one input. -/
def fnExactValueOfTermsWrong : ChangeSpec := { name := "fnExactValueOfTerms", fn := fun _ => fun
  | [d] => { results := [.lit (.bool false)], args := [d] }
  | _ => none }
def FnExactValueOfTermsWrongFalsely : Prop := fnExactValueOfTermsRow.holds Try.pinned (OpenSpec.ofChange fnExactValueOfTermsWrong)

/-- 'laws.FnExactConvergentsOf': WHATEVER THE INPUT: true; the input reads as it did. -/
def fnExactConvergentsOfSpec : ChangeSpec := { name := "fnExactConvergentsOf", fn := fun _ => fun
  | [d] => { results := [.lit (.bool true)], args := [d] }
  | _ => none }
def fnExactConvergentsOfRow : OpenClaim := { program := "ytbbgkflkabkoeaa", sum := "9add5b73c7ce81ababb19d6738a29f1d95072ea9337f63c929d0b55342bccf3d", func := "loop.example/g01007/laws.FnExactConvergentsOf", spec := "fnExactConvergentsOf", unfollowed := true, recurses := true, apart := false }
def FnExactConvergentsOfSaid : Prop := fnExactConvergentsOfRow.holds Try.pinned (OpenSpec.ofChange fnExactConvergentsOfSpec)

/-- ITS FALSE NEIGHBOUR: 'it returns false'. Refute it at one input. -/
def fnExactConvergentsOfWrong : ChangeSpec := { name := "fnExactConvergentsOf", fn := fun _ => fun
  | [d] => { results := [.lit (.bool false)], args := [d] }
  | _ => none }
def FnExactConvergentsOfWrongFalsely : Prop := fnExactConvergentsOfRow.holds Try.pinned (OpenSpec.ofChange fnExactConvergentsOfWrong)

/-- 'laws.FnExactOtherForm': WHATEVER THE INPUT: true; the input reads as it did. -/
def fnExactOtherFormSpec : ChangeSpec := { name := "fnExactOtherForm", fn := fun _ => fun
  | [d] => { results := [.lit (.bool true)], args := [d] }
  | _ => none }
def fnExactOtherFormRow : OpenClaim := { program := "ytbbgkflkabkoeaa", sum := "9add5b73c7ce81ababb19d6738a29f1d95072ea9337f63c929d0b55342bccf3d", func := "loop.example/g01007/laws.FnExactOtherForm", spec := "fnExactOtherForm", apart := false }
def FnExactOtherFormSaid : Prop := fnExactOtherFormRow.holds Try.pinned (OpenSpec.ofChange fnExactOtherFormSpec)

/-- ITS FALSE NEIGHBOUR: 'it returns false'. Refute it at one input. -/
def fnExactOtherFormWrong : ChangeSpec := { name := "fnExactOtherForm", fn := fun _ => fun
  | [d] => { results := [.lit (.bool false)], args := [d] }
  | _ => none }
def FnExactOtherFormWrongFalsely : Prop := fnExactOtherFormRow.holds Try.pinned (OpenSpec.ofChange fnExactOtherFormWrong)

/-- 'laws.FnExactCompareTerms': WHATEVER THE INPUT: true; the input reads as it did. -/
def fnExactCompareTermsSpec : ChangeSpec := { name := "fnExactCompareTerms", fn := fun _ => fun
  | [d1, d2] => { results := [.lit (.bool true)], args := [d1, d2] }
  | _ => none }
def fnExactCompareTermsRow : OpenClaim := { program := "ytbbgkflkabkoeaa", sum := "9add5b73c7ce81ababb19d6738a29f1d95072ea9337f63c929d0b55342bccf3d", func := "loop.example/g01007/laws.FnExactCompareTerms", spec := "fnExactCompareTerms", apart := false }
def FnExactCompareTermsSaid : Prop := fnExactCompareTermsRow.holds Try.pinned (OpenSpec.ofChange fnExactCompareTermsSpec)

/-- ITS FALSE NEIGHBOUR: 'it returns false'. Refute it at one input. -/
def fnExactCompareTermsWrong : ChangeSpec := { name := "fnExactCompareTerms", fn := fun _ => fun
  | [d1, d2] => { results := [.lit (.bool false)], args := [d1, d2] }
  | _ => none }
def FnExactCompareTermsWrongFalsely : Prop := fnExactCompareTermsRow.holds Try.pinned (OpenSpec.ofChange fnExactCompareTermsWrong)

/-- 'laws.FnExactContinuantOf': WHATEVER THE INPUT: true; the input reads as it did. -/
def fnExactContinuantOfSpec : ChangeSpec := { name := "fnExactContinuantOf", fn := fun _ => fun
  | [d] => { results := [.lit (.bool true)], args := [d] }
  | _ => none }
def fnExactContinuantOfRow : OpenClaim := { program := "ytbbgkflkabkoeaa", sum := "9add5b73c7ce81ababb19d6738a29f1d95072ea9337f63c929d0b55342bccf3d", func := "loop.example/g01007/laws.FnExactContinuantOf", spec := "fnExactContinuantOf", apart := false }
def FnExactContinuantOfSaid : Prop := fnExactContinuantOfRow.holds Try.pinned (OpenSpec.ofChange fnExactContinuantOfSpec)

/-- ITS FALSE NEIGHBOUR: 'it returns false'. Refute it at one input. -/
def fnExactContinuantOfWrong : ChangeSpec := { name := "fnExactContinuantOf", fn := fun _ => fun
  | [d] => { results := [.lit (.bool false)], args := [d] }
  | _ => none }
def FnExactContinuantOfWrongFalsely : Prop := fnExactContinuantOfRow.holds Try.pinned (OpenSpec.ofChange fnExactContinuantOfWrong)

/-- 'laws.FnExactCommonTerms': WHATEVER THE INPUT: true; the input reads as it did. -/
def fnExactCommonTermsSpec : ChangeSpec := { name := "fnExactCommonTerms", fn := fun _ => fun
  | [d1, d2] => { results := [.lit (.bool true)], args := [d1, d2] }
  | _ => none }
def fnExactCommonTermsRow : OpenClaim := { program := "ytbbgkflkabkoeaa", sum := "9add5b73c7ce81ababb19d6738a29f1d95072ea9337f63c929d0b55342bccf3d", func := "loop.example/g01007/laws.FnExactCommonTerms", spec := "fnExactCommonTerms", apart := false }
def FnExactCommonTermsSaid : Prop := fnExactCommonTermsRow.holds Try.pinned (OpenSpec.ofChange fnExactCommonTermsSpec)

/-- ITS FALSE NEIGHBOUR: 'it returns false'. Refute it at one input. -/
def fnExactCommonTermsWrong : ChangeSpec := { name := "fnExactCommonTerms", fn := fun _ => fun
  | [d1, d2] => { results := [.lit (.bool false)], args := [d1, d2] }
  | _ => none }
def FnExactCommonTermsWrongFalsely : Prop := fnExactCommonTermsRow.holds Try.pinned (OpenSpec.ofChange fnExactCommonTermsWrong)

/-- 'laws.FnExactSumOfTerms': WHATEVER THE INPUT: true; the input reads as it did. -/
def fnExactSumOfTermsSpec : ChangeSpec := { name := "fnExactSumOfTerms", fn := fun _ => fun
  | [d] => { results := [.lit (.bool true)], args := [d] }
  | _ => none }
def fnExactSumOfTermsRow : OpenClaim := { program := "ytbbgkflkabkoeaa", sum := "9add5b73c7ce81ababb19d6738a29f1d95072ea9337f63c929d0b55342bccf3d", func := "loop.example/g01007/laws.FnExactSumOfTerms", spec := "fnExactSumOfTerms", apart := false }
def FnExactSumOfTermsSaid : Prop := fnExactSumOfTermsRow.holds Try.pinned (OpenSpec.ofChange fnExactSumOfTermsSpec)

/-- ITS FALSE NEIGHBOUR: 'it returns false'. Refute it at one input. -/
def fnExactSumOfTermsWrong : ChangeSpec := { name := "fnExactSumOfTerms", fn := fun _ => fun
  | [d] => { results := [.lit (.bool false)], args := [d] }
  | _ => none }
def FnExactSumOfTermsWrongFalsely : Prop := fnExactSumOfTermsRow.holds Try.pinned (OpenSpec.ofChange fnExactSumOfTermsWrong)

/- THE SECOND FORM. 'bulk': how many values and letters a reading holds, each counted each time it is reached (what is shared counts as often as it is met; a slice's spare places count too). A statement '..UptoSaid' is the law's where the arguments, and the package variables that the reading takes, are together of bulk at most 1048576: NARROWER than '..Said'. Prove '..Said' where nothing that the law and all that it calls make is longer than what came in: it says more and counts as full. Else prove '..UptoSaid'. A law counts once. -/
mutual
def uptoBulk {H : Type} : DataW H → Nat
  | .lit (.string bytes) => bytes.length + 1
  | .lit _ => 1
  | .nil => 1
  | .ptr d => uptoBulk d + 1
  | .slice elems spare => uptoBulkAll elems + uptoBulkAll spare + 1
  | .agg parts => uptoBulkAll parts + 1
  | .iface _ d => uptoBulk d + 1
  | .map entries => uptoBulkEntries entries + 1
  | .held _ => 1
def uptoBulkAll {H : Type} : List (DataW H) → Nat
  | [] => 0
  | d :: r => uptoBulk d + uptoBulkAll r
def uptoBulkEntries {H : Type} : List (Lit × DataW H) → Nat
  | [] => 0
  | x :: r => uptoBulkEntry x + uptoBulkEntries r
def uptoBulkEntry {H : Type} : Lit × DataW H → Nat
  | (.string bytes, d) => bytes.length + uptoBulk d + 1
  | (_, d) => uptoBulk d + 1
 end
def uptoSmall : (H : Type) → List (DataW H) → Bool := fun _ ds => decide (uptoBulkAll ds ≤ 1048576)
def OpenSpec.upto (s : _root_.Go.ChangeSpec) : _root_.Go.OpenSpec := { _root_.Go.OpenSpec.ofChange s with cond := some uptoSmall }

/-- 'laws.FnTermOrder', WHERE WHAT IT READS IS OF BULK AT MOST 1048576: true; the input reads as it did. -/
def fnTermOrderUptoRow : OpenClaim := { program := "ytbbgkflkabkoeaa", sum := "9add5b73c7ce81ababb19d6738a29f1d95072ea9337f63c929d0b55342bccf3d", func := "loop.example/g01007/laws.FnTermOrder", spec := "fnTermOrder", apart := false, narrowed := true }
def FnTermOrderUptoSaid : Prop := fnTermOrderUptoRow.holds Try.pinned (OpenSpec.upto fnTermOrderSpec)

/-- 'laws.FnContinuants', WHERE WHAT IT READS IS OF BULK AT MOST 1048576: true; the input reads as it did. -/
def fnContinuantsUptoRow : OpenClaim := { program := "ytbbgkflkabkoeaa", sum := "9add5b73c7ce81ababb19d6738a29f1d95072ea9337f63c929d0b55342bccf3d", func := "loop.example/g01007/laws.FnContinuants", spec := "fnContinuants", apart := false, narrowed := true }
def FnContinuantsUptoSaid : Prop := fnContinuantsUptoRow.holds Try.pinned (OpenSpec.upto fnContinuantsSpec)

/-- 'laws.FnExactValidTerms', WHERE WHAT IT READS IS OF BULK AT MOST 1048576: true; the input reads as it did. -/
def fnExactValidTermsUptoRow : OpenClaim := { program := "ytbbgkflkabkoeaa", sum := "9add5b73c7ce81ababb19d6738a29f1d95072ea9337f63c929d0b55342bccf3d", func := "loop.example/g01007/laws.FnExactValidTerms", spec := "fnExactValidTerms", apart := false, narrowed := true }
def FnExactValidTermsUptoSaid : Prop := fnExactValidTermsUptoRow.holds Try.pinned (OpenSpec.upto fnExactValidTermsSpec)

/-- 'laws.FnExactExpandFraction', WHERE WHAT IT READS IS OF BULK AT MOST 1048576: true; the input reads as it did. -/
def fnExactExpandFractionUptoRow : OpenClaim := { program := "ytbbgkflkabkoeaa", sum := "9add5b73c7ce81ababb19d6738a29f1d95072ea9337f63c929d0b55342bccf3d", func := "loop.example/g01007/laws.FnExactExpandFraction", spec := "fnExactExpandFraction", apart := false, narrowed := true }
def FnExactExpandFractionUptoSaid : Prop := fnExactExpandFractionUptoRow.holds Try.pinned (OpenSpec.upto fnExactExpandFractionSpec)

/-- 'laws.FnExactValueOfTerms', WHERE WHAT IT READS IS OF BULK AT MOST 1048576: true; the input reads as it did. -/
def fnExactValueOfTermsUptoRow : OpenClaim := { program := "ytbbgkflkabkoeaa", sum := "9add5b73c7ce81ababb19d6738a29f1d95072ea9337f63c929d0b55342bccf3d", func := "loop.example/g01007/laws.FnExactValueOfTerms", spec := "fnExactValueOfTerms", unfollowed := true, recurses := true, apart := false, narrowed := true }
def FnExactValueOfTermsUptoSaid : Prop := fnExactValueOfTermsUptoRow.holds Try.pinned (OpenSpec.upto fnExactValueOfTermsSpec)

/-- 'laws.FnExactConvergentsOf', WHERE WHAT IT READS IS OF BULK AT MOST 1048576: true; the input reads as it did. -/
def fnExactConvergentsOfUptoRow : OpenClaim := { program := "ytbbgkflkabkoeaa", sum := "9add5b73c7ce81ababb19d6738a29f1d95072ea9337f63c929d0b55342bccf3d", func := "loop.example/g01007/laws.FnExactConvergentsOf", spec := "fnExactConvergentsOf", unfollowed := true, recurses := true, apart := false, narrowed := true }
def FnExactConvergentsOfUptoSaid : Prop := fnExactConvergentsOfUptoRow.holds Try.pinned (OpenSpec.upto fnExactConvergentsOfSpec)

/-- 'laws.FnExactOtherForm', WHERE WHAT IT READS IS OF BULK AT MOST 1048576: true; the input reads as it did. -/
def fnExactOtherFormUptoRow : OpenClaim := { program := "ytbbgkflkabkoeaa", sum := "9add5b73c7ce81ababb19d6738a29f1d95072ea9337f63c929d0b55342bccf3d", func := "loop.example/g01007/laws.FnExactOtherForm", spec := "fnExactOtherForm", apart := false, narrowed := true }
def FnExactOtherFormUptoSaid : Prop := fnExactOtherFormUptoRow.holds Try.pinned (OpenSpec.upto fnExactOtherFormSpec)

/-- 'laws.FnExactCompareTerms', WHERE WHAT IT READS IS OF BULK AT MOST 1048576: true; the input reads as it did. -/
def fnExactCompareTermsUptoRow : OpenClaim := { program := "ytbbgkflkabkoeaa", sum := "9add5b73c7ce81ababb19d6738a29f1d95072ea9337f63c929d0b55342bccf3d", func := "loop.example/g01007/laws.FnExactCompareTerms", spec := "fnExactCompareTerms", apart := false, narrowed := true }
def FnExactCompareTermsUptoSaid : Prop := fnExactCompareTermsUptoRow.holds Try.pinned (OpenSpec.upto fnExactCompareTermsSpec)

/-- 'laws.FnExactContinuantOf', WHERE WHAT IT READS IS OF BULK AT MOST 1048576: true; the input reads as it did. -/
def fnExactContinuantOfUptoRow : OpenClaim := { program := "ytbbgkflkabkoeaa", sum := "9add5b73c7ce81ababb19d6738a29f1d95072ea9337f63c929d0b55342bccf3d", func := "loop.example/g01007/laws.FnExactContinuantOf", spec := "fnExactContinuantOf", apart := false, narrowed := true }
def FnExactContinuantOfUptoSaid : Prop := fnExactContinuantOfUptoRow.holds Try.pinned (OpenSpec.upto fnExactContinuantOfSpec)

/-- 'laws.FnExactCommonTerms', WHERE WHAT IT READS IS OF BULK AT MOST 1048576: true; the input reads as it did. -/
def fnExactCommonTermsUptoRow : OpenClaim := { program := "ytbbgkflkabkoeaa", sum := "9add5b73c7ce81ababb19d6738a29f1d95072ea9337f63c929d0b55342bccf3d", func := "loop.example/g01007/laws.FnExactCommonTerms", spec := "fnExactCommonTerms", apart := false, narrowed := true }
def FnExactCommonTermsUptoSaid : Prop := fnExactCommonTermsUptoRow.holds Try.pinned (OpenSpec.upto fnExactCommonTermsSpec)

/-- 'laws.FnExactSumOfTerms', WHERE WHAT IT READS IS OF BULK AT MOST 1048576: true; the input reads as it did. -/
def fnExactSumOfTermsUptoRow : OpenClaim := { program := "ytbbgkflkabkoeaa", sum := "9add5b73c7ce81ababb19d6738a29f1d95072ea9337f63c929d0b55342bccf3d", func := "loop.example/g01007/laws.FnExactSumOfTerms", spec := "fnExactSumOfTerms", apart := false, narrowed := true }
def FnExactSumOfTermsUptoSaid : Prop := fnExactSumOfTermsUptoRow.holds Try.pinned (OpenSpec.upto fnExactSumOfTermsSpec)

end Rows
end Go.Proofs.Ytbbgkflkabkoeaa
