/-
  No cell of these rows narrows 'for every input' (looked for: loops, veiled, ifaces, maps, wideKeys, modest, calm, conditions, laid).
  DERIVED. THE GIVEN ROWS OF THIS SEAT. 13 by the template 'for every input the law returns true; each argument reads behind the call as it read before'; 0 by the template 'total and deterministic' (their statements: YtpiipinkbpamjaaTotals.lean).
  GIVEN WITH THE SEED: the statements are not yours to turn. If you find one false, say at which input.
  Laid BY PROGRAM, IN A SANDBOX (cutbox-rows.mjs): the forced cells as the released guide's own fill.sh prints them over the translation 7be9d31d81a4bd57… (all of the seat's roots in one cut). By AI agents, Wed Nov 11 2026. No macro, syntax, notation, axiom, sorry.
-/
import Derived.Test.YtpiipinkbpamjaaChecked
import GoSem.Claim
import GoSem.ClaimJoined
import GoSem.ClaimMapViews
import Derived.JoinedTies
import Derived.KernelRfl
namespace Go.Proofs.Ytpiipinkbpamjaa
/- THE CELL 'sum', in the pinned program and in every row, IS THE sha256 OF THE DUMP (.gsa) THAT YtpiipinkbpamjaaProg.lean LOADS. Nothing in Lean hashes anything: it is a label: what it is worth is what the hold of that sum in a sandbox is worth. -/
noncomputable def Try.pinned : Pinned := { name := "ytpiipinkbpamjaa", sum := "7be9d31d81a4bd57cfd5edece2977db21f062cd196ec33b6ae0a0e82963e4311", checked := Try.checked }
namespace Rows
def none {H : Type} : Left H := { results := [], args := [] }

/-- 'laws.FnTree': WHATEVER THE INPUT: true; the input reads as it did. -/
def fnTreeSpec : ChangeSpec := { name := "fnTree", fn := fun _ => fun
  | [d] => { results := [.lit (.bool true)], args := [d] }
  | _ => none }
def fnTreeRow : OpenClaim := { program := "ytpiipinkbpamjaa", sum := "7be9d31d81a4bd57cfd5edece2977db21f062cd196ec33b6ae0a0e82963e4311", func := "loop.example/g01007/laws.FnTree", spec := "fnTree", unfollowed := true, recurses := true, apart := false }
def FnTreeSaid : Prop := fnTreeRow.holds Try.pinned (OpenSpec.ofChange fnTreeSpec)

/-- ITS FALSE NEIGHBOUR: 'it returns false'. Refute it at one input. -/
def fnTreeWrong : ChangeSpec := { name := "fnTree", fn := fun _ => fun
  | [d] => { results := [.lit (.bool false)], args := [d] }
  | _ => none }
def FnTreeWrongFalsely : Prop := fnTreeRow.holds Try.pinned (OpenSpec.ofChange fnTreeWrong)

/-- 'laws.FnSimplest': WHATEVER THE INPUT: true; the input reads as it did. -/
def fnSimplestSpec : ChangeSpec := { name := "fnSimplest", fn := fun _ => fun
  | [d] => { results := [.lit (.bool true)], args := [d] }
  | _ => none }
def fnSimplestRow : OpenClaim := { program := "ytpiipinkbpamjaa", sum := "7be9d31d81a4bd57cfd5edece2977db21f062cd196ec33b6ae0a0e82963e4311", func := "loop.example/g01007/laws.FnSimplest", spec := "fnSimplest", unfollowed := true, recurses := true, apart := false }
def FnSimplestSaid : Prop := fnSimplestRow.holds Try.pinned (OpenSpec.ofChange fnSimplestSpec)

/-- ITS FALSE NEIGHBOUR: 'it returns false'. Refute it at one input. -/
def fnSimplestWrong : ChangeSpec := { name := "fnSimplest", fn := fun _ => fun
  | [d] => { results := [.lit (.bool false)], args := [d] }
  | _ => none }
def FnSimplestWrongFalsely : Prop := fnSimplestRow.holds Try.pinned (OpenSpec.ofChange fnSimplestWrong)

/-- 'laws.FnExactValidPath': WHATEVER THE INPUT: true; the input reads as it did. -/
def fnExactValidPathSpec : ChangeSpec := { name := "fnExactValidPath", fn := fun _ => fun
  | [d] => { results := [.lit (.bool true)], args := [d] }
  | _ => none }
def fnExactValidPathRow : OpenClaim := { program := "ytpiipinkbpamjaa", sum := "7be9d31d81a4bd57cfd5edece2977db21f062cd196ec33b6ae0a0e82963e4311", func := "loop.example/g01007/laws.FnExactValidPath", spec := "fnExactValidPath", apart := false }
def FnExactValidPathSaid : Prop := fnExactValidPathRow.holds Try.pinned (OpenSpec.ofChange fnExactValidPathSpec)

/-- ITS FALSE NEIGHBOUR: 'it returns false'. Refute it at one input. -/
def fnExactValidPathWrong : ChangeSpec := { name := "fnExactValidPath", fn := fun _ => fun
  | [d] => { results := [.lit (.bool false)], args := [d] }
  | _ => none }
def FnExactValidPathWrongFalsely : Prop := fnExactValidPathRow.holds Try.pinned (OpenSpec.ofChange fnExactValidPathWrong)

/-- 'laws.FnExactPathTo': WHATEVER THE INPUT: true; the input reads as it did. -/
def fnExactPathToSpec : ChangeSpec := { name := "fnExactPathTo", fn := fun _ => fun
  | [d] => { results := [.lit (.bool true)], args := [d] }
  | _ => none }
def fnExactPathToRow : OpenClaim := { program := "ytpiipinkbpamjaa", sum := "7be9d31d81a4bd57cfd5edece2977db21f062cd196ec33b6ae0a0e82963e4311", func := "loop.example/g01007/laws.FnExactPathTo", spec := "fnExactPathTo", apart := false }
def FnExactPathToSaid : Prop := fnExactPathToRow.holds Try.pinned (OpenSpec.ofChange fnExactPathToSpec)

/-- ITS FALSE NEIGHBOUR: 'it returns false'. Refute it at one input. -/
def fnExactPathToWrong : ChangeSpec := { name := "fnExactPathTo", fn := fun _ => fun
  | [d] => { results := [.lit (.bool false)], args := [d] }
  | _ => none }
def FnExactPathToWrongFalsely : Prop := fnExactPathToRow.holds Try.pinned (OpenSpec.ofChange fnExactPathToWrong)

/-- 'laws.FnExactFractionAtPath': WHATEVER THE INPUT: true; the input reads as it did. -/
def fnExactFractionAtPathSpec : ChangeSpec := { name := "fnExactFractionAtPath", fn := fun _ => fun
  | [d] => { results := [.lit (.bool true)], args := [d] }
  | _ => none }
def fnExactFractionAtPathRow : OpenClaim := { program := "ytpiipinkbpamjaa", sum := "7be9d31d81a4bd57cfd5edece2977db21f062cd196ec33b6ae0a0e82963e4311", func := "loop.example/g01007/laws.FnExactFractionAtPath", spec := "fnExactFractionAtPath", unfollowed := true, recurses := true, apart := false }
def FnExactFractionAtPathSaid : Prop := fnExactFractionAtPathRow.holds Try.pinned (OpenSpec.ofChange fnExactFractionAtPathSpec)

/-- ITS FALSE NEIGHBOUR: 'it returns false'. Refute it at one input. -/
def fnExactFractionAtPathWrong : ChangeSpec := { name := "fnExactFractionAtPath", fn := fun _ => fun
  | [d] => { results := [.lit (.bool false)], args := [d] }
  | _ => none }
def FnExactFractionAtPathWrongFalsely : Prop := fnExactFractionAtPathRow.holds Try.pinned (OpenSpec.ofChange fnExactFractionAtPathWrong)

/-- 'laws.FnExactLevelOf': WHATEVER THE INPUT: true; the input reads as it did. -/
def fnExactLevelOfSpec : ChangeSpec := { name := "fnExactLevelOf", fn := fun _ => fun
  | [d] => { results := [.lit (.bool true)], args := [d] }
  | _ => none }
def fnExactLevelOfRow : OpenClaim := { program := "ytpiipinkbpamjaa", sum := "7be9d31d81a4bd57cfd5edece2977db21f062cd196ec33b6ae0a0e82963e4311", func := "loop.example/g01007/laws.FnExactLevelOf", spec := "fnExactLevelOf", apart := false }
def FnExactLevelOfSaid : Prop := fnExactLevelOfRow.holds Try.pinned (OpenSpec.ofChange fnExactLevelOfSpec)

/-- ITS FALSE NEIGHBOUR: 'it returns false'. Refute it at one input. -/
def fnExactLevelOfWrong : ChangeSpec := { name := "fnExactLevelOf", fn := fun _ => fun
  | [d] => { results := [.lit (.bool false)], args := [d] }
  | _ => none }
def FnExactLevelOfWrongFalsely : Prop := fnExactLevelOfRow.holds Try.pinned (OpenSpec.ofChange fnExactLevelOfWrong)

/-- 'laws.FnExactParentFraction': WHATEVER THE INPUT: true; the input reads as it did. -/
def fnExactParentFractionSpec : ChangeSpec := { name := "fnExactParentFraction", fn := fun _ => fun
  | [d] => { results := [.lit (.bool true)], args := [d] }
  | _ => none }
def fnExactParentFractionRow : OpenClaim := { program := "ytpiipinkbpamjaa", sum := "7be9d31d81a4bd57cfd5edece2977db21f062cd196ec33b6ae0a0e82963e4311", func := "loop.example/g01007/laws.FnExactParentFraction", spec := "fnExactParentFraction", unfollowed := true, recurses := true, apart := false }
def FnExactParentFractionSaid : Prop := fnExactParentFractionRow.holds Try.pinned (OpenSpec.ofChange fnExactParentFractionSpec)

/-- ITS FALSE NEIGHBOUR: 'it returns false'. Refute it at one input. -/
def fnExactParentFractionWrong : ChangeSpec := { name := "fnExactParentFraction", fn := fun _ => fun
  | [d] => { results := [.lit (.bool false)], args := [d] }
  | _ => none }
def FnExactParentFractionWrongFalsely : Prop := fnExactParentFractionRow.holds Try.pinned (OpenSpec.ofChange fnExactParentFractionWrong)

/-- 'laws.FnExactChildrenOf': WHATEVER THE INPUT: true; the input reads as it did. -/
def fnExactChildrenOfSpec : ChangeSpec := { name := "fnExactChildrenOf", fn := fun _ => fun
  | [d] => { results := [.lit (.bool true)], args := [d] }
  | _ => none }
def fnExactChildrenOfRow : OpenClaim := { program := "ytpiipinkbpamjaa", sum := "7be9d31d81a4bd57cfd5edece2977db21f062cd196ec33b6ae0a0e82963e4311", func := "loop.example/g01007/laws.FnExactChildrenOf", spec := "fnExactChildrenOf", unfollowed := true, recurses := true, apart := false }
def FnExactChildrenOfSaid : Prop := fnExactChildrenOfRow.holds Try.pinned (OpenSpec.ofChange fnExactChildrenOfSpec)

/-- ITS FALSE NEIGHBOUR: 'it returns false'. Refute it at one input. -/
def fnExactChildrenOfWrong : ChangeSpec := { name := "fnExactChildrenOf", fn := fun _ => fun
  | [d] => { results := [.lit (.bool false)], args := [d] }
  | _ => none }
def FnExactChildrenOfWrongFalsely : Prop := fnExactChildrenOfRow.holds Try.pinned (OpenSpec.ofChange fnExactChildrenOfWrong)

/-- 'laws.FnExactBoundsOf': WHATEVER THE INPUT: true; the input reads as it did. -/
def fnExactBoundsOfSpec : ChangeSpec := { name := "fnExactBoundsOf", fn := fun _ => fun
  | [d] => { results := [.lit (.bool true)], args := [d] }
  | _ => none }
def fnExactBoundsOfRow : OpenClaim := { program := "ytpiipinkbpamjaa", sum := "7be9d31d81a4bd57cfd5edece2977db21f062cd196ec33b6ae0a0e82963e4311", func := "loop.example/g01007/laws.FnExactBoundsOf", spec := "fnExactBoundsOf", unfollowed := true, recurses := true, apart := false }
def FnExactBoundsOfSaid : Prop := fnExactBoundsOfRow.holds Try.pinned (OpenSpec.ofChange fnExactBoundsOfSpec)

/-- ITS FALSE NEIGHBOUR: 'it returns false'. Refute it at one input. -/
def fnExactBoundsOfWrong : ChangeSpec := { name := "fnExactBoundsOf", fn := fun _ => fun
  | [d] => { results := [.lit (.bool false)], args := [d] }
  | _ => none }
def FnExactBoundsOfWrongFalsely : Prop := fnExactBoundsOfRow.holds Try.pinned (OpenSpec.ofChange fnExactBoundsOfWrong)

/-- 'laws.FnExactCommonAncestor': WHATEVER THE INPUT: true; the input reads as it did. -/
def fnExactCommonAncestorSpec : ChangeSpec := { name := "fnExactCommonAncestor", fn := fun _ => fun
  | [d1, d2] => { results := [.lit (.bool true)], args := [d1, d2] }
  | _ => none }
def fnExactCommonAncestorRow : OpenClaim := { program := "ytpiipinkbpamjaa", sum := "7be9d31d81a4bd57cfd5edece2977db21f062cd196ec33b6ae0a0e82963e4311", func := "loop.example/g01007/laws.FnExactCommonAncestor", spec := "fnExactCommonAncestor", unfollowed := true, recurses := true, apart := false }
def FnExactCommonAncestorSaid : Prop := fnExactCommonAncestorRow.holds Try.pinned (OpenSpec.ofChange fnExactCommonAncestorSpec)

/-- ITS FALSE NEIGHBOUR: 'it returns false'. Refute it at one input. -/
def fnExactCommonAncestorWrong : ChangeSpec := { name := "fnExactCommonAncestor", fn := fun _ => fun
  | [d1, d2] => { results := [.lit (.bool false)], args := [d1, d2] }
  | _ => none }
def FnExactCommonAncestorWrongFalsely : Prop := fnExactCommonAncestorRow.holds Try.pinned (OpenSpec.ofChange fnExactCommonAncestorWrong)

/-- 'laws.FnExactIsAncestor': WHATEVER THE INPUT: true; the input reads as it did. -/
def fnExactIsAncestorSpec : ChangeSpec := { name := "fnExactIsAncestor", fn := fun _ => fun
  | [d1, d2] => { results := [.lit (.bool true)], args := [d1, d2] }
  | _ => none }
def fnExactIsAncestorRow : OpenClaim := { program := "ytpiipinkbpamjaa", sum := "7be9d31d81a4bd57cfd5edece2977db21f062cd196ec33b6ae0a0e82963e4311", func := "loop.example/g01007/laws.FnExactIsAncestor", spec := "fnExactIsAncestor", unfollowed := true, recurses := true, apart := false }
def FnExactIsAncestorSaid : Prop := fnExactIsAncestorRow.holds Try.pinned (OpenSpec.ofChange fnExactIsAncestorSpec)

/-- ITS FALSE NEIGHBOUR: 'it returns false'. Refute it at one input. -/
def fnExactIsAncestorWrong : ChangeSpec := { name := "fnExactIsAncestor", fn := fun _ => fun
  | [d1, d2] => { results := [.lit (.bool false)], args := [d1, d2] }
  | _ => none }
def FnExactIsAncestorWrongFalsely : Prop := fnExactIsAncestorRow.holds Try.pinned (OpenSpec.ofChange fnExactIsAncestorWrong)

/-- 'laws.FnExactSimplestBetween': WHATEVER THE INPUT: true; the input reads as it did. -/
def fnExactSimplestBetweenSpec : ChangeSpec := { name := "fnExactSimplestBetween", fn := fun _ => fun
  | [d1, d2] => { results := [.lit (.bool true)], args := [d1, d2] }
  | _ => none }
def fnExactSimplestBetweenRow : OpenClaim := { program := "ytpiipinkbpamjaa", sum := "7be9d31d81a4bd57cfd5edece2977db21f062cd196ec33b6ae0a0e82963e4311", func := "loop.example/g01007/laws.FnExactSimplestBetween", spec := "fnExactSimplestBetween", recurses := true, apart := false }
def FnExactSimplestBetweenSaid : Prop := fnExactSimplestBetweenRow.holds Try.pinned (OpenSpec.ofChange fnExactSimplestBetweenSpec)

/-- ITS FALSE NEIGHBOUR: 'it returns false'. Refute it at one input. -/
def fnExactSimplestBetweenWrong : ChangeSpec := { name := "fnExactSimplestBetween", fn := fun _ => fun
  | [d1, d2] => { results := [.lit (.bool false)], args := [d1, d2] }
  | _ => none }
def FnExactSimplestBetweenWrongFalsely : Prop := fnExactSimplestBetweenRow.holds Try.pinned (OpenSpec.ofChange fnExactSimplestBetweenWrong)

/-- 'laws.FnExactRowOfTree': WHATEVER THE INPUT: true; the input reads as it did. -/
def fnExactRowOfTreeSpec : ChangeSpec := { name := "fnExactRowOfTree", fn := fun _ => fun
  | [d] => { results := [.lit (.bool true)], args := [d] }
  | _ => none }
def fnExactRowOfTreeRow : OpenClaim := { program := "ytpiipinkbpamjaa", sum := "7be9d31d81a4bd57cfd5edece2977db21f062cd196ec33b6ae0a0e82963e4311", func := "loop.example/g01007/laws.FnExactRowOfTree", spec := "fnExactRowOfTree", unfollowed := true, recurses := true, apart := false }
def FnExactRowOfTreeSaid : Prop := fnExactRowOfTreeRow.holds Try.pinned (OpenSpec.ofChange fnExactRowOfTreeSpec)

/-- ITS FALSE NEIGHBOUR: 'it returns false'. Refute it at one input. -/
def fnExactRowOfTreeWrong : ChangeSpec := { name := "fnExactRowOfTree", fn := fun _ => fun
  | [d] => { results := [.lit (.bool false)], args := [d] }
  | _ => none }
def FnExactRowOfTreeWrongFalsely : Prop := fnExactRowOfTreeRow.holds Try.pinned (OpenSpec.ofChange fnExactRowOfTreeWrong)

/- THE SECOND FORM. 'bulk': how many values and letters a reading holds, each counted each time it is reached (what is shared counts as often as it is met; a slice's spare places count too). A statement '..UptoSaid' is the law's where the arguments, and the package variables that the reading takes, are together of bulk at most 1048576: NARROWER than '..Said'. Prove '..Said' where nothing that the law and all that it calls make is longer than what came in: it says more and counts as full. Else prove '..UptoSaid'. A law counts once. -/
mutual
def uptoBulk {H : Type} : DataW H → Nat
  | .lit (.string bytes) => bytes.length + 1
  | .lit _ => 1
  | .nil => 1
  | .ptr d => uptoBulk d + 1
  | .slice elems spare => uptoBulkAll elems + uptoBulkAll spare + 1
  | .agg parts => uptoBulkAll parts + 1
  | .iface _ d => uptoBulk d + 1
  | .map entries => uptoBulkEntries entries + 1
  | .held _ => 1
def uptoBulkAll {H : Type} : List (DataW H) → Nat
  | [] => 0
  | d :: r => uptoBulk d + uptoBulkAll r
def uptoBulkEntries {H : Type} : List (Lit × DataW H) → Nat
  | [] => 0
  | x :: r => uptoBulkEntry x + uptoBulkEntries r
def uptoBulkEntry {H : Type} : Lit × DataW H → Nat
  | (.string bytes, d) => bytes.length + uptoBulk d + 1
  | (_, d) => uptoBulk d + 1
 end
def uptoSmall : (H : Type) → List (DataW H) → Bool := fun _ ds => decide (uptoBulkAll ds ≤ 1048576)
def OpenSpec.upto (s : _root_.Go.ChangeSpec) : _root_.Go.OpenSpec := { _root_.Go.OpenSpec.ofChange s with cond := some uptoSmall }

/-- 'laws.FnTree', WHERE WHAT IT READS IS OF BULK AT MOST 1048576: true; the input reads as it did. -/
def fnTreeUptoRow : OpenClaim := { program := "ytpiipinkbpamjaa", sum := "7be9d31d81a4bd57cfd5edece2977db21f062cd196ec33b6ae0a0e82963e4311", func := "loop.example/g01007/laws.FnTree", spec := "fnTree", unfollowed := true, recurses := true, apart := false, narrowed := true }
def FnTreeUptoSaid : Prop := fnTreeUptoRow.holds Try.pinned (OpenSpec.upto fnTreeSpec)

/-- 'laws.FnSimplest', WHERE WHAT IT READS IS OF BULK AT MOST 1048576: true; the input reads as it did. -/
def fnSimplestUptoRow : OpenClaim := { program := "ytpiipinkbpamjaa", sum := "7be9d31d81a4bd57cfd5edece2977db21f062cd196ec33b6ae0a0e82963e4311", func := "loop.example/g01007/laws.FnSimplest", spec := "fnSimplest", unfollowed := true, recurses := true, apart := false, narrowed := true }
def FnSimplestUptoSaid : Prop := fnSimplestUptoRow.holds Try.pinned (OpenSpec.upto fnSimplestSpec)

/-- 'laws.FnExactValidPath', WHERE WHAT IT READS IS OF BULK AT MOST 1048576: true; the input reads as it did. -/
def fnExactValidPathUptoRow : OpenClaim := { program := "ytpiipinkbpamjaa", sum := "7be9d31d81a4bd57cfd5edece2977db21f062cd196ec33b6ae0a0e82963e4311", func := "loop.example/g01007/laws.FnExactValidPath", spec := "fnExactValidPath", apart := false, narrowed := true }
def FnExactValidPathUptoSaid : Prop := fnExactValidPathUptoRow.holds Try.pinned (OpenSpec.upto fnExactValidPathSpec)

/-- 'laws.FnExactPathTo', WHERE WHAT IT READS IS OF BULK AT MOST 1048576: true; the input reads as it did. -/
def fnExactPathToUptoRow : OpenClaim := { program := "ytpiipinkbpamjaa", sum := "7be9d31d81a4bd57cfd5edece2977db21f062cd196ec33b6ae0a0e82963e4311", func := "loop.example/g01007/laws.FnExactPathTo", spec := "fnExactPathTo", apart := false, narrowed := true }
def FnExactPathToUptoSaid : Prop := fnExactPathToUptoRow.holds Try.pinned (OpenSpec.upto fnExactPathToSpec)

/-- 'laws.FnExactFractionAtPath', WHERE WHAT IT READS IS OF BULK AT MOST 1048576: true; the input reads as it did. -/
def fnExactFractionAtPathUptoRow : OpenClaim := { program := "ytpiipinkbpamjaa", sum := "7be9d31d81a4bd57cfd5edece2977db21f062cd196ec33b6ae0a0e82963e4311", func := "loop.example/g01007/laws.FnExactFractionAtPath", spec := "fnExactFractionAtPath", unfollowed := true, recurses := true, apart := false, narrowed := true }
def FnExactFractionAtPathUptoSaid : Prop := fnExactFractionAtPathUptoRow.holds Try.pinned (OpenSpec.upto fnExactFractionAtPathSpec)

/-- 'laws.FnExactLevelOf', WHERE WHAT IT READS IS OF BULK AT MOST 1048576: true; the input reads as it did. -/
def fnExactLevelOfUptoRow : OpenClaim := { program := "ytpiipinkbpamjaa", sum := "7be9d31d81a4bd57cfd5edece2977db21f062cd196ec33b6ae0a0e82963e4311", func := "loop.example/g01007/laws.FnExactLevelOf", spec := "fnExactLevelOf", apart := false, narrowed := true }
def FnExactLevelOfUptoSaid : Prop := fnExactLevelOfUptoRow.holds Try.pinned (OpenSpec.upto fnExactLevelOfSpec)

/-- 'laws.FnExactParentFraction', WHERE WHAT IT READS IS OF BULK AT MOST 1048576: true; the input reads as it did. -/
def fnExactParentFractionUptoRow : OpenClaim := { program := "ytpiipinkbpamjaa", sum := "7be9d31d81a4bd57cfd5edece2977db21f062cd196ec33b6ae0a0e82963e4311", func := "loop.example/g01007/laws.FnExactParentFraction", spec := "fnExactParentFraction", unfollowed := true, recurses := true, apart := false, narrowed := true }
def FnExactParentFractionUptoSaid : Prop := fnExactParentFractionUptoRow.holds Try.pinned (OpenSpec.upto fnExactParentFractionSpec)

/-- 'laws.FnExactChildrenOf', WHERE WHAT IT READS IS OF BULK AT MOST 1048576: true; the input reads as it did. -/
def fnExactChildrenOfUptoRow : OpenClaim := { program := "ytpiipinkbpamjaa", sum := "7be9d31d81a4bd57cfd5edece2977db21f062cd196ec33b6ae0a0e82963e4311", func := "loop.example/g01007/laws.FnExactChildrenOf", spec := "fnExactChildrenOf", unfollowed := true, recurses := true, apart := false, narrowed := true }
def FnExactChildrenOfUptoSaid : Prop := fnExactChildrenOfUptoRow.holds Try.pinned (OpenSpec.upto fnExactChildrenOfSpec)

/-- 'laws.FnExactBoundsOf', WHERE WHAT IT READS IS OF BULK AT MOST 1048576: true; the input reads as it did. -/
def fnExactBoundsOfUptoRow : OpenClaim := { program := "ytpiipinkbpamjaa", sum := "7be9d31d81a4bd57cfd5edece2977db21f062cd196ec33b6ae0a0e82963e4311", func := "loop.example/g01007/laws.FnExactBoundsOf", spec := "fnExactBoundsOf", unfollowed := true, recurses := true, apart := false, narrowed := true }
def FnExactBoundsOfUptoSaid : Prop := fnExactBoundsOfUptoRow.holds Try.pinned (OpenSpec.upto fnExactBoundsOfSpec)

/-- 'laws.FnExactCommonAncestor', WHERE WHAT IT READS IS OF BULK AT MOST 1048576: true; the input reads as it did. -/
def fnExactCommonAncestorUptoRow : OpenClaim := { program := "ytpiipinkbpamjaa", sum := "7be9d31d81a4bd57cfd5edece2977db21f062cd196ec33b6ae0a0e82963e4311", func := "loop.example/g01007/laws.FnExactCommonAncestor", spec := "fnExactCommonAncestor", unfollowed := true, recurses := true, apart := false, narrowed := true }
def FnExactCommonAncestorUptoSaid : Prop := fnExactCommonAncestorUptoRow.holds Try.pinned (OpenSpec.upto fnExactCommonAncestorSpec)

/-- 'laws.FnExactIsAncestor', WHERE WHAT IT READS IS OF BULK AT MOST 1048576: true; the input reads as it did. -/
def fnExactIsAncestorUptoRow : OpenClaim := { program := "ytpiipinkbpamjaa", sum := "7be9d31d81a4bd57cfd5edece2977db21f062cd196ec33b6ae0a0e82963e4311", func := "loop.example/g01007/laws.FnExactIsAncestor", spec := "fnExactIsAncestor", unfollowed := true, recurses := true, apart := false, narrowed := true }
def FnExactIsAncestorUptoSaid : Prop := fnExactIsAncestorUptoRow.holds Try.pinned (OpenSpec.upto fnExactIsAncestorSpec)

/-- 'laws.FnExactSimplestBetween', WHERE WHAT IT READS IS OF BULK AT MOST 1048576: true; the input reads as it did. -/
def fnExactSimplestBetweenUptoRow : OpenClaim := { program := "ytpiipinkbpamjaa", sum := "7be9d31d81a4bd57cfd5edece2977db21f062cd196ec33b6ae0a0e82963e4311", func := "loop.example/g01007/laws.FnExactSimplestBetween", spec := "fnExactSimplestBetween", recurses := true, apart := false, narrowed := true }
def FnExactSimplestBetweenUptoSaid : Prop := fnExactSimplestBetweenUptoRow.holds Try.pinned (OpenSpec.upto fnExactSimplestBetweenSpec)

/-- 'laws.FnExactRowOfTree', WHERE WHAT IT READS IS OF BULK AT MOST 1048576: true; the input reads as it did. -/
def fnExactRowOfTreeUptoRow : OpenClaim := { program := "ytpiipinkbpamjaa", sum := "7be9d31d81a4bd57cfd5edece2977db21f062cd196ec33b6ae0a0e82963e4311", func := "loop.example/g01007/laws.FnExactRowOfTree", spec := "fnExactRowOfTree", unfollowed := true, recurses := true, apart := false, narrowed := true }
def FnExactRowOfTreeUptoSaid : Prop := fnExactRowOfTreeUptoRow.holds Try.pinned (OpenSpec.upto fnExactRowOfTreeSpec)

end Rows
end Go.Proofs.Ytpiipinkbpamjaa
