/-
  No cell of these rows narrows 'for every input' (looked for: loops, veiled, ifaces, maps, wideKeys, modest, calm, conditions, laid).
  DERIVED. THE GIVEN ROWS OF THIS SEAT. 4 by the template 'for every input the law returns true; each argument reads behind the call as it read before'; 0 by the template 'total and deterministic' (their statements: YtjijabfamjhdjaaTotals.lean).
  GIVEN WITH THE SEED: the statements are not yours to turn. If you find one false, say at which input.
  Laid BY PROGRAM, IN A SANDBOX (cutbox-rows.mjs): the forced cells as the released guide's own fill.sh prints them over the translation b5c195a88c94eff1… (all of the seat's roots in one cut). By AI agents, Wed Nov 11 2026. No macro, syntax, notation, axiom, sorry.
-/
import Derived.Test.YtjijabfamjhdjaaChecked
import GoSem.Claim
import GoSem.ClaimJoined
import GoSem.ClaimMapViews
import Derived.JoinedTies
import Derived.KernelRfl
namespace Go.Proofs.Ytjijabfamjhdjaa
/- THE CELL 'sum', in the pinned program and in every row, IS THE sha256 OF THE DUMP (.gsa) THAT YtjijabfamjhdjaaProg.lean LOADS. Nothing in Lean hashes anything: it is a label: what it is worth is what the hold of that sum in a sandbox is worth. -/
noncomputable def Try.pinned : Pinned := { name := "ytjijabfamjhdjaa", sum := "b5c195a88c94eff1f4216d37388f8614cbad42a9c9475ea3b5c383e29d343bf7", checked := Try.checked }
namespace Rows
def none {H : Type} : Left H := { results := [], args := [] }

/-- 'laws.FnTree': WHATEVER THE INPUT: true; the input reads as it did. -/
def fnTreeSpec : ChangeSpec := { name := "fnTree", fn := fun _ => fun
  | [d] => { results := [.lit (.bool true)], args := [d] }
  | _ => none }
def fnTreeRow : OpenClaim := { program := "ytjijabfamjhdjaa", sum := "b5c195a88c94eff1f4216d37388f8614cbad42a9c9475ea3b5c383e29d343bf7", func := "loop.example/g01007/laws.FnTree", spec := "fnTree", unfollowed := true, recurses := true, apart := false }
def FnTreeSaid : Prop := fnTreeRow.holds Try.pinned (OpenSpec.ofChange fnTreeSpec)

/-- ITS FALSE NEIGHBOUR: 'it returns false'. Refute it at one input. -/
def fnTreeWrong : ChangeSpec := { name := "fnTree", fn := fun _ => fun
  | [d] => { results := [.lit (.bool false)], args := [d] }
  | _ => none }
def FnTreeWrongFalsely : Prop := fnTreeRow.holds Try.pinned (OpenSpec.ofChange fnTreeWrong)

/-- 'laws.FnSimplest': WHATEVER THE INPUT: true; the input reads as it did. -/
def fnSimplestSpec : ChangeSpec := { name := "fnSimplest", fn := fun _ => fun
  | [d] => { results := [.lit (.bool true)], args := [d] }
  | _ => none }
def fnSimplestRow : OpenClaim := { program := "ytjijabfamjhdjaa", sum := "b5c195a88c94eff1f4216d37388f8614cbad42a9c9475ea3b5c383e29d343bf7", func := "loop.example/g01007/laws.FnSimplest", spec := "fnSimplest", unfollowed := true, recurses := true, apart := false }
def FnSimplestSaid : Prop := fnSimplestRow.holds Try.pinned (OpenSpec.ofChange fnSimplestSpec)

/-- ITS FALSE NEIGHBOUR: 'it returns false'. Refute it at one input. -/
def fnSimplestWrong : ChangeSpec := { name := "fnSimplest", fn := fun _ => fun
  | [d] => { results := [.lit (.bool false)], args := [d] }
  | _ => none }
def FnSimplestWrongFalsely : Prop := fnSimplestRow.holds Try.pinned (OpenSpec.ofChange fnSimplestWrong)

/-- 'laws.FnExactChildrenOf': WHATEVER THE INPUT: true; the input reads as it did. -/
def fnExactChildrenOfSpec : ChangeSpec := { name := "fnExactChildrenOf", fn := fun _ => fun
  | [d] => { results := [.lit (.bool true)], args := [d] }
  | _ => none }
def fnExactChildrenOfRow : OpenClaim := { program := "ytjijabfamjhdjaa", sum := "b5c195a88c94eff1f4216d37388f8614cbad42a9c9475ea3b5c383e29d343bf7", func := "loop.example/g01007/laws.FnExactChildrenOf", spec := "fnExactChildrenOf", unfollowed := true, recurses := true, apart := false }
def FnExactChildrenOfSaid : Prop := fnExactChildrenOfRow.holds Try.pinned (OpenSpec.ofChange fnExactChildrenOfSpec)

/-- ITS FALSE NEIGHBOUR: 'it returns false'. Refute it at one input. -/
def fnExactChildrenOfWrong : ChangeSpec := { name := "fnExactChildrenOf", fn := fun _ => fun
  | [d] => { results := [.lit (.bool false)], args := [d] }
  | _ => none }
def FnExactChildrenOfWrongFalsely : Prop := fnExactChildrenOfRow.holds Try.pinned (OpenSpec.ofChange fnExactChildrenOfWrong)

/-- 'laws.FnExactRowOfTree': WHATEVER THE INPUT: true; the input reads as it did. -/
def fnExactRowOfTreeSpec : ChangeSpec := { name := "fnExactRowOfTree", fn := fun _ => fun
  | [d] => { results := [.lit (.bool true)], args := [d] }
  | _ => none }
def fnExactRowOfTreeRow : OpenClaim := { program := "ytjijabfamjhdjaa", sum := "b5c195a88c94eff1f4216d37388f8614cbad42a9c9475ea3b5c383e29d343bf7", func := "loop.example/g01007/laws.FnExactRowOfTree", spec := "fnExactRowOfTree", unfollowed := true, recurses := true, apart := false }
def FnExactRowOfTreeSaid : Prop := fnExactRowOfTreeRow.holds Try.pinned (OpenSpec.ofChange fnExactRowOfTreeSpec)

/-- ITS FALSE NEIGHBOUR: 'it returns false'. Refute it at one input. -/
def fnExactRowOfTreeWrong : ChangeSpec := { name := "fnExactRowOfTree", fn := fun _ => fun
  | [d] => { results := [.lit (.bool false)], args := [d] }
  | _ => none }
def FnExactRowOfTreeWrongFalsely : Prop := fnExactRowOfTreeRow.holds Try.pinned (OpenSpec.ofChange fnExactRowOfTreeWrong)

/- THE SECOND FORM. 'bulk': how many values and letters a reading holds, each counted each time it is reached (what is shared counts as often as it is met; a slice's spare places count too). A statement '..UptoSaid' is the law's where the arguments, and the package variables that the reading takes, are together of bulk at most 1048576: NARROWER than '..Said'. Prove '..Said' where nothing that the law and all that it calls make is longer than what came in: it says more and counts as full. Else prove '..UptoSaid'. A law counts once. -/
mutual
def uptoBulk {H : Type} : DataW H → Nat
  | .lit (.string bytes) => bytes.length + 1
  | .lit _ => 1
  | .nil => 1
  | .ptr d => uptoBulk d + 1
  | .slice elems spare => uptoBulkAll elems + uptoBulkAll spare + 1
  | .agg parts => uptoBulkAll parts + 1
  | .iface _ d => uptoBulk d + 1
  | .map entries => uptoBulkEntries entries + 1
  | .held _ => 1
def uptoBulkAll {H : Type} : List (DataW H) → Nat
  | [] => 0
  | d :: r => uptoBulk d + uptoBulkAll r
def uptoBulkEntries {H : Type} : List (Lit × DataW H) → Nat
  | [] => 0
  | x :: r => uptoBulkEntry x + uptoBulkEntries r
def uptoBulkEntry {H : Type} : Lit × DataW H → Nat
  | (.string bytes, d) => bytes.length + uptoBulk d + 1
  | (_, d) => uptoBulk d + 1
 end
def uptoSmall : (H : Type) → List (DataW H) → Bool := fun _ ds => decide (uptoBulkAll ds ≤ 1048576)
def OpenSpec.upto (s : _root_.Go.ChangeSpec) : _root_.Go.OpenSpec := { _root_.Go.OpenSpec.ofChange s with cond := some uptoSmall }

/-- 'laws.FnTree', WHERE WHAT IT READS IS OF BULK AT MOST 1048576: true; the input reads as it did. -/
def fnTreeUptoRow : OpenClaim := { program := "ytjijabfamjhdjaa", sum := "b5c195a88c94eff1f4216d37388f8614cbad42a9c9475ea3b5c383e29d343bf7", func := "loop.example/g01007/laws.FnTree", spec := "fnTree", unfollowed := true, recurses := true, apart := false, narrowed := true }
def FnTreeUptoSaid : Prop := fnTreeUptoRow.holds Try.pinned (OpenSpec.upto fnTreeSpec)

/-- 'laws.FnSimplest', WHERE WHAT IT READS IS OF BULK AT MOST 1048576: true; the input reads as it did. -/
def fnSimplestUptoRow : OpenClaim := { program := "ytjijabfamjhdjaa", sum := "b5c195a88c94eff1f4216d37388f8614cbad42a9c9475ea3b5c383e29d343bf7", func := "loop.example/g01007/laws.FnSimplest", spec := "fnSimplest", unfollowed := true, recurses := true, apart := false, narrowed := true }
def FnSimplestUptoSaid : Prop := fnSimplestUptoRow.holds Try.pinned (OpenSpec.upto fnSimplestSpec)

/-- 'laws.FnExactChildrenOf', WHERE WHAT IT READS IS OF BULK AT MOST 1048576: true; the input reads as it did. -/
def fnExactChildrenOfUptoRow : OpenClaim := { program := "ytjijabfamjhdjaa", sum := "b5c195a88c94eff1f4216d37388f8614cbad42a9c9475ea3b5c383e29d343bf7", func := "loop.example/g01007/laws.FnExactChildrenOf", spec := "fnExactChildrenOf", unfollowed := true, recurses := true, apart := false, narrowed := true }
def FnExactChildrenOfUptoSaid : Prop := fnExactChildrenOfUptoRow.holds Try.pinned (OpenSpec.upto fnExactChildrenOfSpec)

/-- 'laws.FnExactRowOfTree', WHERE WHAT IT READS IS OF BULK AT MOST 1048576: true; the input reads as it did. -/
def fnExactRowOfTreeUptoRow : OpenClaim := { program := "ytjijabfamjhdjaa", sum := "b5c195a88c94eff1f4216d37388f8614cbad42a9c9475ea3b5c383e29d343bf7", func := "loop.example/g01007/laws.FnExactRowOfTree", spec := "fnExactRowOfTree", unfollowed := true, recurses := true, apart := false, narrowed := true }
def FnExactRowOfTreeUptoSaid : Prop := fnExactRowOfTreeUptoRow.holds Try.pinned (OpenSpec.upto fnExactRowOfTreeSpec)

end Rows
end Go.Proofs.Ytjijabfamjhdjaa
