/-
  NARROWER THAN 'FOR EVERY INPUT', by the rows' own cells (each row's printed sentence says how): FnSignedValues: ifaces, laid · FnExactKindName: laid · FnExactExpandSigned: ifaces, laid · FnExactValueOfSigned: ifaces, laid · FnExactSignedConvergents: ifaces, laid · FnExactKindOfSigned: ifaces, laid · FnExactSignedFromTerms: ifaces, laid · FnExactTermsFromSigned: ifaces, laid · FnExactSignedLengths: ifaces, laid · FnExactSignedText: laid · FnExactReadSigned: laid.
  DERIVED. THE GIVEN ROWS OF THIS SEAT. 11 by the template 'for every input the law returns true; each argument reads behind the call as it read before'; 0 by the template 'total and deterministic' (their statements: YtipegemhcmfnmaaDoorTotals.lean).
  GIVEN WITH THE SEED: the statements are not yours to turn. If you find one false, say at which input.
  Laid BY PROGRAM, IN A SANDBOX (cutbox-rows.mjs): the forced cells as the released guide's own fill.sh prints them over the translation 183e7c5ddcc5aa12… (all of the seat's roots in one cut). By AI agents, Wed Nov 11 2026. No macro, syntax, notation, axiom, sorry.
-/
import Derived.Test.YtipegemhcmfnmaaDoorChecked
import GoSem.PinnedTables
import GoSem.Claim
import GoSem.ClaimJoined
import GoSem.ClaimMapViews
import Derived.JoinedTies
import Derived.KernelRfl
namespace Go.Proofs.YtipegemhcmfnmaaDoor
/- THE CELL 'sum', in the pinned program and in every row, IS THE sha256 OF THE DUMP (.gsa) THAT YtipegemhcmfnmaaDoorProg.lean LOADS. Nothing in Lean hashes anything: it is a label: what it is worth is what the hold of that sum in a sandbox is worth. -/
noncomputable def Tryd.pinned : Pinned := { name := "ytipegemhcmfnmaadoor", sum := "183e7c5ddcc5aa1259a2b0ec7d50f94ceaddd09253fe390f03d1076948c740c5", checked := Tryd.checked }
namespace Rows
def none {H : Type} : Left H := { results := [], args := [] }

/- WHAT THE LISTED PACKAGE-LEVEL VARIABLES READ AS WHEN THE CALL BEGINS. Each datum BY PROGRAM (the guide's laid-datum.mjs) off the statement by which the dump's own 'gosem.cut.vars' lays the variable. In a bare row this is a premise. The card (YtipegemhcmfnmaaDoorCards.lean) ties it to the program's text. -/
def laid_loop_example_g01007_impl_errNoKind {H : Type} : DataW H := .iface "*errors.errorString" (.ptr (.agg [.lit (.string [116, 104, 101, 32, 110, 117, 109, 98, 101, 114, 32, 105, 115, 32, 110, 111, 110, 101, 32, 111, 102, 32, 97, 32, 107, 105, 110, 100])]))
def laid_loop_example_g01007_impl_errEndless {H : Type} : DataW H := .iface "*errors.errorString" (.ptr (.agg [.lit (.string [116, 104, 101, 32, 101, 120, 112, 97, 110, 115, 105, 111, 110, 32, 104, 97, 115, 32, 110, 111, 32, 101, 110, 100])]))
def laid_loop_example_g01007_impl_errNoNumber {H : Type} : DataW H := .iface "*errors.errorString" (.ptr (.agg [.lit (.string [116, 104, 101, 32, 100, 101, 110, 111, 109, 105, 110, 97, 116, 111, 114, 32, 105, 115, 32, 48])]))
def laid_loop_example_g01007_impl_errTooGreat {H : Type} : DataW H := .iface "*errors.errorString" (.ptr (.agg [.lit (.string [116, 104, 101, 32, 114, 101, 115, 117, 108, 116, 32, 105, 115, 32, 111, 117, 116, 32, 111, 102, 32, 116, 104, 101, 32, 108, 105, 109, 105, 116, 115])]))
def laid_loop_example_g01007_impl_kindNames {H : Type} : DataW H := .agg [.lit (.string []), .lit (.string [110, 101, 97, 114, 101, 115, 116]), .lit (.string [101, 118, 101, 110]), .lit (.string [111, 100, 100]), .lit (.string [110, 101, 103, 97, 116, 105, 118, 101])]
def laid_math_bits_deBruijn32tab {H : Type} : DataW H := .agg [.lit (.int .u8 0), .lit (.int .u8 1), .lit (.int .u8 28), .lit (.int .u8 2), .lit (.int .u8 29), .lit (.int .u8 14), .lit (.int .u8 24), .lit (.int .u8 3), .lit (.int .u8 30), .lit (.int .u8 22), .lit (.int .u8 20), .lit (.int .u8 15), .lit (.int .u8 25), .lit (.int .u8 17), .lit (.int .u8 4), .lit (.int .u8 8), .lit (.int .u8 31), .lit (.int .u8 27), .lit (.int .u8 13), .lit (.int .u8 23), .lit (.int .u8 21), .lit (.int .u8 19), .lit (.int .u8 16), .lit (.int .u8 7), .lit (.int .u8 26), .lit (.int .u8 12), .lit (.int .u8 18), .lit (.int .u8 6), .lit (.int .u8 11), .lit (.int .u8 5), .lit (.int .u8 10), .lit (.int .u8 9)]
def laid_math_bits_deBruijn64tab {H : Type} : DataW H := .agg [.lit (.int .u8 0), .lit (.int .u8 1), .lit (.int .u8 56), .lit (.int .u8 2), .lit (.int .u8 57), .lit (.int .u8 49), .lit (.int .u8 28), .lit (.int .u8 3), .lit (.int .u8 61), .lit (.int .u8 58), .lit (.int .u8 42), .lit (.int .u8 50), .lit (.int .u8 38), .lit (.int .u8 29), .lit (.int .u8 17), .lit (.int .u8 4), .lit (.int .u8 62), .lit (.int .u8 47), .lit (.int .u8 59), .lit (.int .u8 36), .lit (.int .u8 45), .lit (.int .u8 43), .lit (.int .u8 51), .lit (.int .u8 22), .lit (.int .u8 53), .lit (.int .u8 39), .lit (.int .u8 33), .lit (.int .u8 30), .lit (.int .u8 24), .lit (.int .u8 18), .lit (.int .u8 12), .lit (.int .u8 5), .lit (.int .u8 63), .lit (.int .u8 55), .lit (.int .u8 48), .lit (.int .u8 27), .lit (.int .u8 60), .lit (.int .u8 41), .lit (.int .u8 37), .lit (.int .u8 16), .lit (.int .u8 46), .lit (.int .u8 35), .lit (.int .u8 44), .lit (.int .u8 21), .lit (.int .u8 52), .lit (.int .u8 32), .lit (.int .u8 23), .lit (.int .u8 11), .lit (.int .u8 54), .lit (.int .u8 26), .lit (.int .u8 40), .lit (.int .u8 15), .lit (.int .u8 34), .lit (.int .u8 20), .lit (.int .u8 31), .lit (.int .u8 10), .lit (.int .u8 25), .lit (.int .u8 14), .lit (.int .u8 19), .lit (.int .u8 9), .lit (.int .u8 13), .lit (.int .u8 8), .lit (.int .u8 7), .lit (.int .u8 6)]
def laid_internal_strconv_uint64pow10 {H : Type} : DataW H := .agg [.lit (.int .u64 1), .lit (.int .u64 10), .lit (.int .u64 100), .lit (.int .u64 1000), .lit (.int .u64 10000), .lit (.int .u64 100000), .lit (.int .u64 1000000), .lit (.int .u64 10000000), .lit (.int .u64 100000000), .lit (.int .u64 1000000000), .lit (.int .u64 10000000000), .lit (.int .u64 100000000000), .lit (.int .u64 1000000000000), .lit (.int .u64 10000000000000), .lit (.int .u64 100000000000000), .lit (.int .u64 1000000000000000), .lit (.int .u64 10000000000000000), .lit (.int .u64 100000000000000000), .lit (.int .u64 1000000000000000000), .lit (.int .u64 10000000000000000000)]
def laid_unicode_utf8_acceptRanges {H : Type} : DataW H := .agg [.agg [.lit (.int .u8 128), .lit (.int .u8 191)], .agg [.lit (.int .u8 160), .lit (.int .u8 191)], .agg [.lit (.int .u8 128), .lit (.int .u8 159)], .agg [.lit (.int .u8 144), .lit (.int .u8 191)], .agg [.lit (.int .u8 128), .lit (.int .u8 143)], .agg [.lit (.int .u8 0), .lit (.int .u8 0)], .agg [.lit (.int .u8 0), .lit (.int .u8 0)], .agg [.lit (.int .u8 0), .lit (.int .u8 0)], .agg [.lit (.int .u8 0), .lit (.int .u8 0)], .agg [.lit (.int .u8 0), .lit (.int .u8 0)], .agg [.lit (.int .u8 0), .lit (.int .u8 0)], .agg [.lit (.int .u8 0), .lit (.int .u8 0)], .agg [.lit (.int .u8 0), .lit (.int .u8 0)], .agg [.lit (.int .u8 0), .lit (.int .u8 0)], .agg [.lit (.int .u8 0), .lit (.int .u8 0)], .agg [.lit (.int .u8 0), .lit (.int .u8 0)]]
def laid_strconv_ErrRange {H : Type} : DataW H := .iface "*errors.errorString" (.ptr (.agg [.lit (.string [118, 97, 108, 117, 101, 32, 111, 117, 116, 32, 111, 102, 32, 114, 97, 110, 103, 101])]))
def laid_strconv_ErrSyntax {H : Type} : DataW H := .iface "*errors.errorString" (.ptr (.agg [.lit (.string [105, 110, 118, 97, 108, 105, 100, 32, 115, 121, 110, 116, 97, 120])]))
/-- One of Go's own tables, pinned by name: the form's constant. -/
def laid_unicode_utf8_first : DataW Unit := Go.Pinned.utf8First

/-- 'laws.FnSignedValues': WHATEVER THE INPUT: true; the input reads as it did. -/
def fnSignedValuesSpec : ChangeSpec := { name := "fnSignedValues", vars := ["loop.example/g01007/impl.errNoNumber", "loop.example/g01007/impl.errTooGreat", "loop.example/g01007/impl.errNoKind", "loop.example/g01007/impl.errEndless"], fn := fun _ => fun
  | [d, g1, g2, g3, g4] => { results := [.lit (.bool true)], args := [d], vars := [g1, g2, g3, g4] }
  | _ => none }
def fnSignedValuesRow : OpenClaim := { program := "ytipegemhcmfnmaadoor", sum := "183e7c5ddcc5aa1259a2b0ec7d50f94ceaddd09253fe390f03d1076948c740c5", func := "loop.example/g01007/laws.FnSignedValues", spec := "fnSignedValues", inPlace := ["internal/reflectlite.TypeOf"], unfollowed := true, recurses := true, named := ["loop.example/g01007/impl.errNoNumber", "loop.example/g01007/impl.errTooGreat", "loop.example/g01007/impl.errNoKind", "loop.example/g01007/impl.errEndless"], ifaces := true, apart := false, laid := [("loop.example/g01007/impl.errNoKind", laid_loop_example_g01007_impl_errNoKind), ("loop.example/g01007/impl.errEndless", laid_loop_example_g01007_impl_errEndless), ("loop.example/g01007/impl.errNoNumber", laid_loop_example_g01007_impl_errNoNumber), ("loop.example/g01007/impl.errTooGreat", laid_loop_example_g01007_impl_errTooGreat)] }
def FnSignedValuesSaid : Prop := fnSignedValuesRow.holds Tryd.pinned (OpenSpec.ofChange fnSignedValuesSpec)

/-- ITS FALSE NEIGHBOUR: 'it returns false'. Refute it at one input. -/
def fnSignedValuesWrong : ChangeSpec := { name := "fnSignedValues", vars := ["loop.example/g01007/impl.errNoNumber", "loop.example/g01007/impl.errTooGreat", "loop.example/g01007/impl.errNoKind", "loop.example/g01007/impl.errEndless"], fn := fun _ => fun
  | [d, g1, g2, g3, g4] => { results := [.lit (.bool false)], args := [d], vars := [g1, g2, g3, g4] }
  | _ => none }
def FnSignedValuesWrongFalsely : Prop := fnSignedValuesRow.holds Tryd.pinned (OpenSpec.ofChange fnSignedValuesWrong)

/-- 'laws.FnExactKindName': WHATEVER THE INPUT: true; the input reads as it did. -/
def fnExactKindNameSpec : ChangeSpec := { name := "fnExactKindName", vars := ["loop.example/g01007/impl.kindNames"], fn := fun _ => fun
  | [d, g1] => { results := [.lit (.bool true)], args := [d], vars := [g1] }
  | _ => none }
def fnExactKindNameRow : OpenClaim := { program := "ytipegemhcmfnmaadoor", sum := "183e7c5ddcc5aa1259a2b0ec7d50f94ceaddd09253fe390f03d1076948c740c5", func := "loop.example/g01007/laws.FnExactKindName", spec := "fnExactKindName", named := ["loop.example/g01007/impl.kindNames"], apart := false, laid := [("loop.example/g01007/impl.kindNames", laid_loop_example_g01007_impl_kindNames)] }
def FnExactKindNameSaid : Prop := fnExactKindNameRow.holds Tryd.pinned (OpenSpec.ofChange fnExactKindNameSpec)

/-- ITS FALSE NEIGHBOUR: 'it returns false'. Refute it at one input. -/
def fnExactKindNameWrong : ChangeSpec := { name := "fnExactKindName", vars := ["loop.example/g01007/impl.kindNames"], fn := fun _ => fun
  | [d, g1] => { results := [.lit (.bool false)], args := [d], vars := [g1] }
  | _ => none }
def FnExactKindNameWrongFalsely : Prop := fnExactKindNameRow.holds Tryd.pinned (OpenSpec.ofChange fnExactKindNameWrong)

/-- 'laws.FnExactExpandSigned': WHATEVER THE INPUT: true; the input reads as it did. -/
def fnExactExpandSignedSpec : ChangeSpec := { name := "fnExactExpandSigned", vars := ["loop.example/g01007/impl.errEndless", "loop.example/g01007/impl.errNoKind", "loop.example/g01007/impl.errTooGreat", "loop.example/g01007/impl.errNoNumber"], fn := fun _ => fun
  | [d1, d2, g1, g2, g3, g4] => { results := [.lit (.bool true)], args := [d1, d2], vars := [g1, g2, g3, g4] }
  | _ => none }
def fnExactExpandSignedRow : OpenClaim := { program := "ytipegemhcmfnmaadoor", sum := "183e7c5ddcc5aa1259a2b0ec7d50f94ceaddd09253fe390f03d1076948c740c5", func := "loop.example/g01007/laws.FnExactExpandSigned", spec := "fnExactExpandSigned", inPlace := ["internal/reflectlite.TypeOf"], unfollowed := true, recurses := true, named := ["loop.example/g01007/impl.errEndless", "loop.example/g01007/impl.errNoKind", "loop.example/g01007/impl.errTooGreat", "loop.example/g01007/impl.errNoNumber"], ifaces := true, apart := false, laid := [("loop.example/g01007/impl.errNoKind", laid_loop_example_g01007_impl_errNoKind), ("loop.example/g01007/impl.errEndless", laid_loop_example_g01007_impl_errEndless), ("loop.example/g01007/impl.errNoNumber", laid_loop_example_g01007_impl_errNoNumber), ("loop.example/g01007/impl.errTooGreat", laid_loop_example_g01007_impl_errTooGreat)] }
def FnExactExpandSignedSaid : Prop := fnExactExpandSignedRow.holds Tryd.pinned (OpenSpec.ofChange fnExactExpandSignedSpec)

/-- ITS FALSE NEIGHBOUR: 'it returns false'. Refute it at one input. -/
def fnExactExpandSignedWrong : ChangeSpec := { name := "fnExactExpandSigned", vars := ["loop.example/g01007/impl.errEndless", "loop.example/g01007/impl.errNoKind", "loop.example/g01007/impl.errTooGreat", "loop.example/g01007/impl.errNoNumber"], fn := fun _ => fun
  | [d1, d2, g1, g2, g3, g4] => { results := [.lit (.bool false)], args := [d1, d2], vars := [g1, g2, g3, g4] }
  | _ => none }
def FnExactExpandSignedWrongFalsely : Prop := fnExactExpandSignedRow.holds Tryd.pinned (OpenSpec.ofChange fnExactExpandSignedWrong)

/-- 'laws.FnExactValueOfSigned': WHATEVER THE INPUT: true; the input reads as it did. -/
def fnExactValueOfSignedSpec : ChangeSpec := { name := "fnExactValueOfSigned", vars := ["loop.example/g01007/impl.errNoNumber", "loop.example/g01007/impl.errTooGreat", "loop.example/g01007/impl.errNoKind", "loop.example/g01007/impl.errEndless"], fn := fun _ => fun
  | [d, g1, g2, g3, g4] => { results := [.lit (.bool true)], args := [d], vars := [g1, g2, g3, g4] }
  | _ => none }
def fnExactValueOfSignedRow : OpenClaim := { program := "ytipegemhcmfnmaadoor", sum := "183e7c5ddcc5aa1259a2b0ec7d50f94ceaddd09253fe390f03d1076948c740c5", func := "loop.example/g01007/laws.FnExactValueOfSigned", spec := "fnExactValueOfSigned", inPlace := ["internal/reflectlite.TypeOf"], unfollowed := true, recurses := true, named := ["loop.example/g01007/impl.errNoNumber", "loop.example/g01007/impl.errTooGreat", "loop.example/g01007/impl.errNoKind", "loop.example/g01007/impl.errEndless"], ifaces := true, apart := false, laid := [("loop.example/g01007/impl.errNoKind", laid_loop_example_g01007_impl_errNoKind), ("loop.example/g01007/impl.errEndless", laid_loop_example_g01007_impl_errEndless), ("loop.example/g01007/impl.errNoNumber", laid_loop_example_g01007_impl_errNoNumber), ("loop.example/g01007/impl.errTooGreat", laid_loop_example_g01007_impl_errTooGreat)] }
def FnExactValueOfSignedSaid : Prop := fnExactValueOfSignedRow.holds Tryd.pinned (OpenSpec.ofChange fnExactValueOfSignedSpec)

/-- ITS FALSE NEIGHBOUR: 'it returns false'. Refute it at one input. -/
def fnExactValueOfSignedWrong : ChangeSpec := { name := "fnExactValueOfSigned", vars := ["loop.example/g01007/impl.errNoNumber", "loop.example/g01007/impl.errTooGreat", "loop.example/g01007/impl.errNoKind", "loop.example/g01007/impl.errEndless"], fn := fun _ => fun
  | [d, g1, g2, g3, g4] => { results := [.lit (.bool false)], args := [d], vars := [g1, g2, g3, g4] }
  | _ => none }
def FnExactValueOfSignedWrongFalsely : Prop := fnExactValueOfSignedRow.holds Tryd.pinned (OpenSpec.ofChange fnExactValueOfSignedWrong)

/-- 'laws.FnExactSignedConvergents': WHATEVER THE INPUT: true; the input reads as it did. -/
def fnExactSignedConvergentsSpec : ChangeSpec := { name := "fnExactSignedConvergents", vars := ["loop.example/g01007/impl.errNoNumber", "loop.example/g01007/impl.errTooGreat", "loop.example/g01007/impl.errNoKind", "loop.example/g01007/impl.errEndless"], fn := fun _ => fun
  | [d, g1, g2, g3, g4] => { results := [.lit (.bool true)], args := [d], vars := [g1, g2, g3, g4] }
  | _ => none }
def fnExactSignedConvergentsRow : OpenClaim := { program := "ytipegemhcmfnmaadoor", sum := "183e7c5ddcc5aa1259a2b0ec7d50f94ceaddd09253fe390f03d1076948c740c5", func := "loop.example/g01007/laws.FnExactSignedConvergents", spec := "fnExactSignedConvergents", inPlace := ["internal/reflectlite.TypeOf"], unfollowed := true, recurses := true, named := ["loop.example/g01007/impl.errNoNumber", "loop.example/g01007/impl.errTooGreat", "loop.example/g01007/impl.errNoKind", "loop.example/g01007/impl.errEndless"], ifaces := true, apart := false, laid := [("loop.example/g01007/impl.errNoKind", laid_loop_example_g01007_impl_errNoKind), ("loop.example/g01007/impl.errEndless", laid_loop_example_g01007_impl_errEndless), ("loop.example/g01007/impl.errNoNumber", laid_loop_example_g01007_impl_errNoNumber), ("loop.example/g01007/impl.errTooGreat", laid_loop_example_g01007_impl_errTooGreat)] }
def FnExactSignedConvergentsSaid : Prop := fnExactSignedConvergentsRow.holds Tryd.pinned (OpenSpec.ofChange fnExactSignedConvergentsSpec)

/-- ITS FALSE NEIGHBOUR: 'it returns false'. Refute it at one input. -/
def fnExactSignedConvergentsWrong : ChangeSpec := { name := "fnExactSignedConvergents", vars := ["loop.example/g01007/impl.errNoNumber", "loop.example/g01007/impl.errTooGreat", "loop.example/g01007/impl.errNoKind", "loop.example/g01007/impl.errEndless"], fn := fun _ => fun
  | [d, g1, g2, g3, g4] => { results := [.lit (.bool false)], args := [d], vars := [g1, g2, g3, g4] }
  | _ => none }
def FnExactSignedConvergentsWrongFalsely : Prop := fnExactSignedConvergentsRow.holds Tryd.pinned (OpenSpec.ofChange fnExactSignedConvergentsWrong)

/-- 'laws.FnExactKindOfSigned': WHATEVER THE INPUT: true; the input reads as it did. -/
def fnExactKindOfSignedSpec : ChangeSpec := { name := "fnExactKindOfSigned", vars := ["loop.example/g01007/impl.kindNames", "loop.example/g01007/impl.errNoNumber", "loop.example/g01007/impl.errTooGreat", "loop.example/g01007/impl.errNoKind", "loop.example/g01007/impl.errEndless"], fn := fun _ => fun
  | [d1, d2, g1, g2, g3, g4, g5] => { results := [.lit (.bool true)], args := [d1, d2], vars := [g1, g2, g3, g4, g5] }
  | _ => none }
def fnExactKindOfSignedRow : OpenClaim := { program := "ytipegemhcmfnmaadoor", sum := "183e7c5ddcc5aa1259a2b0ec7d50f94ceaddd09253fe390f03d1076948c740c5", func := "loop.example/g01007/laws.FnExactKindOfSigned", spec := "fnExactKindOfSigned", inPlace := ["internal/reflectlite.TypeOf"], unfollowed := true, recurses := true, named := ["loop.example/g01007/impl.kindNames", "loop.example/g01007/impl.errNoNumber", "loop.example/g01007/impl.errTooGreat", "loop.example/g01007/impl.errNoKind", "loop.example/g01007/impl.errEndless"], ifaces := true, apart := false, laid := [("loop.example/g01007/impl.kindNames", laid_loop_example_g01007_impl_kindNames), ("loop.example/g01007/impl.errNoKind", laid_loop_example_g01007_impl_errNoKind), ("loop.example/g01007/impl.errEndless", laid_loop_example_g01007_impl_errEndless), ("loop.example/g01007/impl.errNoNumber", laid_loop_example_g01007_impl_errNoNumber), ("loop.example/g01007/impl.errTooGreat", laid_loop_example_g01007_impl_errTooGreat)] }
def FnExactKindOfSignedSaid : Prop := fnExactKindOfSignedRow.holds Tryd.pinned (OpenSpec.ofChange fnExactKindOfSignedSpec)

/-- ITS FALSE NEIGHBOUR: 'it returns false'. Refute it at one input. -/
def fnExactKindOfSignedWrong : ChangeSpec := { name := "fnExactKindOfSigned", vars := ["loop.example/g01007/impl.kindNames", "loop.example/g01007/impl.errNoNumber", "loop.example/g01007/impl.errTooGreat", "loop.example/g01007/impl.errNoKind", "loop.example/g01007/impl.errEndless"], fn := fun _ => fun
  | [d1, d2, g1, g2, g3, g4, g5] => { results := [.lit (.bool false)], args := [d1, d2], vars := [g1, g2, g3, g4, g5] }
  | _ => none }
def FnExactKindOfSignedWrongFalsely : Prop := fnExactKindOfSignedRow.holds Tryd.pinned (OpenSpec.ofChange fnExactKindOfSignedWrong)

/-- 'laws.FnExactSignedFromTerms': WHATEVER THE INPUT: true; the input reads as it did. -/
def fnExactSignedFromTermsSpec : ChangeSpec := { name := "fnExactSignedFromTerms", vars := ["loop.example/g01007/impl.errEndless", "loop.example/g01007/impl.errNoKind", "loop.example/g01007/impl.errTooGreat", "loop.example/g01007/impl.errNoNumber"], fn := fun _ => fun
  | [d1, d2, g1, g2, g3, g4] => { results := [.lit (.bool true)], args := [d1, d2], vars := [g1, g2, g3, g4] }
  | _ => none }
def fnExactSignedFromTermsRow : OpenClaim := { program := "ytipegemhcmfnmaadoor", sum := "183e7c5ddcc5aa1259a2b0ec7d50f94ceaddd09253fe390f03d1076948c740c5", func := "loop.example/g01007/laws.FnExactSignedFromTerms", spec := "fnExactSignedFromTerms", inPlace := ["internal/reflectlite.TypeOf"], unfollowed := true, recurses := true, named := ["loop.example/g01007/impl.errEndless", "loop.example/g01007/impl.errNoKind", "loop.example/g01007/impl.errTooGreat", "loop.example/g01007/impl.errNoNumber"], ifaces := true, apart := false, laid := [("loop.example/g01007/impl.errNoKind", laid_loop_example_g01007_impl_errNoKind), ("loop.example/g01007/impl.errEndless", laid_loop_example_g01007_impl_errEndless), ("loop.example/g01007/impl.errNoNumber", laid_loop_example_g01007_impl_errNoNumber), ("loop.example/g01007/impl.errTooGreat", laid_loop_example_g01007_impl_errTooGreat)] }
def FnExactSignedFromTermsSaid : Prop := fnExactSignedFromTermsRow.holds Tryd.pinned (OpenSpec.ofChange fnExactSignedFromTermsSpec)

/-- ITS FALSE NEIGHBOUR: 'it returns false'. Refute it at one input. -/
def fnExactSignedFromTermsWrong : ChangeSpec := { name := "fnExactSignedFromTerms", vars := ["loop.example/g01007/impl.errEndless", "loop.example/g01007/impl.errNoKind", "loop.example/g01007/impl.errTooGreat", "loop.example/g01007/impl.errNoNumber"], fn := fun _ => fun
  | [d1, d2, g1, g2, g3, g4] => { results := [.lit (.bool false)], args := [d1, d2], vars := [g1, g2, g3, g4] }
  | _ => none }
def FnExactSignedFromTermsWrongFalsely : Prop := fnExactSignedFromTermsRow.holds Tryd.pinned (OpenSpec.ofChange fnExactSignedFromTermsWrong)

/-- 'laws.FnExactTermsFromSigned': WHATEVER THE INPUT: true; the input reads as it did. -/
def fnExactTermsFromSignedSpec : ChangeSpec := { name := "fnExactTermsFromSigned", vars := ["loop.example/g01007/impl.errNoNumber", "loop.example/g01007/impl.errTooGreat", "loop.example/g01007/impl.errNoKind", "loop.example/g01007/impl.errEndless"], fn := fun _ => fun
  | [d, g1, g2, g3, g4] => { results := [.lit (.bool true)], args := [d], vars := [g1, g2, g3, g4] }
  | _ => none }
def fnExactTermsFromSignedRow : OpenClaim := { program := "ytipegemhcmfnmaadoor", sum := "183e7c5ddcc5aa1259a2b0ec7d50f94ceaddd09253fe390f03d1076948c740c5", func := "loop.example/g01007/laws.FnExactTermsFromSigned", spec := "fnExactTermsFromSigned", inPlace := ["internal/reflectlite.TypeOf"], unfollowed := true, recurses := true, named := ["loop.example/g01007/impl.errNoNumber", "loop.example/g01007/impl.errTooGreat", "loop.example/g01007/impl.errNoKind", "loop.example/g01007/impl.errEndless"], ifaces := true, apart := false, laid := [("loop.example/g01007/impl.errNoKind", laid_loop_example_g01007_impl_errNoKind), ("loop.example/g01007/impl.errEndless", laid_loop_example_g01007_impl_errEndless), ("loop.example/g01007/impl.errNoNumber", laid_loop_example_g01007_impl_errNoNumber), ("loop.example/g01007/impl.errTooGreat", laid_loop_example_g01007_impl_errTooGreat)] }
def FnExactTermsFromSignedSaid : Prop := fnExactTermsFromSignedRow.holds Tryd.pinned (OpenSpec.ofChange fnExactTermsFromSignedSpec)

/-- ITS FALSE NEIGHBOUR: 'it returns false'. Refute it at one input. -/
def fnExactTermsFromSignedWrong : ChangeSpec := { name := "fnExactTermsFromSigned", vars := ["loop.example/g01007/impl.errNoNumber", "loop.example/g01007/impl.errTooGreat", "loop.example/g01007/impl.errNoKind", "loop.example/g01007/impl.errEndless"], fn := fun _ => fun
  | [d, g1, g2, g3, g4] => { results := [.lit (.bool false)], args := [d], vars := [g1, g2, g3, g4] }
  | _ => none }
def FnExactTermsFromSignedWrongFalsely : Prop := fnExactTermsFromSignedRow.holds Tryd.pinned (OpenSpec.ofChange fnExactTermsFromSignedWrong)

/-- 'laws.FnExactSignedLengths': WHATEVER THE INPUT: true; the input reads as it did. -/
def fnExactSignedLengthsSpec : ChangeSpec := { name := "fnExactSignedLengths", vars := ["loop.example/g01007/impl.errEndless", "loop.example/g01007/impl.errNoKind", "loop.example/g01007/impl.errTooGreat", "loop.example/g01007/impl.errNoNumber"], fn := fun _ => fun
  | [d, g1, g2, g3, g4] => { results := [.lit (.bool true)], args := [d], vars := [g1, g2, g3, g4] }
  | _ => none }
def fnExactSignedLengthsRow : OpenClaim := { program := "ytipegemhcmfnmaadoor", sum := "183e7c5ddcc5aa1259a2b0ec7d50f94ceaddd09253fe390f03d1076948c740c5", func := "loop.example/g01007/laws.FnExactSignedLengths", spec := "fnExactSignedLengths", inPlace := ["internal/reflectlite.TypeOf"], unfollowed := true, recurses := true, named := ["loop.example/g01007/impl.errEndless", "loop.example/g01007/impl.errNoKind", "loop.example/g01007/impl.errTooGreat", "loop.example/g01007/impl.errNoNumber"], ifaces := true, apart := false, laid := [("loop.example/g01007/impl.errNoKind", laid_loop_example_g01007_impl_errNoKind), ("loop.example/g01007/impl.errEndless", laid_loop_example_g01007_impl_errEndless), ("loop.example/g01007/impl.errNoNumber", laid_loop_example_g01007_impl_errNoNumber), ("loop.example/g01007/impl.errTooGreat", laid_loop_example_g01007_impl_errTooGreat)] }
def FnExactSignedLengthsSaid : Prop := fnExactSignedLengthsRow.holds Tryd.pinned (OpenSpec.ofChange fnExactSignedLengthsSpec)

/-- ITS FALSE NEIGHBOUR: 'it returns false'. Refute it at one input. -/
def fnExactSignedLengthsWrong : ChangeSpec := { name := "fnExactSignedLengths", vars := ["loop.example/g01007/impl.errEndless", "loop.example/g01007/impl.errNoKind", "loop.example/g01007/impl.errTooGreat", "loop.example/g01007/impl.errNoNumber"], fn := fun _ => fun
  | [d, g1, g2, g3, g4] => { results := [.lit (.bool false)], args := [d], vars := [g1, g2, g3, g4] }
  | _ => none }
def FnExactSignedLengthsWrongFalsely : Prop := fnExactSignedLengthsRow.holds Tryd.pinned (OpenSpec.ofChange fnExactSignedLengthsWrong)

/-- 'laws.FnExactSignedText': WHATEVER THE INPUT: true; the input reads as it did. -/
def fnExactSignedTextSpec : ChangeSpec := { name := "fnExactSignedText", fn := fun _ => fun
  | [d] => { results := [.lit (.bool true)], args := [d] }
  | _ => none }
def fnExactSignedTextRow : OpenClaim := { program := "ytipegemhcmfnmaadoor", sum := "183e7c5ddcc5aa1259a2b0ec7d50f94ceaddd09253fe390f03d1076948c740c5", func := "loop.example/g01007/laws.FnExactSignedText", spec := "fnExactSignedText", inPlace := ["internal/abi.NoEscape", "internal/bytealg.MakeNoZero"], named := ["internal/strconv.uint64pow10", "math/bits.deBruijn32tab", "math/bits.deBruijn64tab"], apart := false, laid := [("math/bits.deBruijn32tab", laid_math_bits_deBruijn32tab), ("math/bits.deBruijn64tab", laid_math_bits_deBruijn64tab), ("internal/strconv.uint64pow10", laid_internal_strconv_uint64pow10)] }
def FnExactSignedTextSaid : Prop := fnExactSignedTextRow.holds Tryd.pinned (OpenSpec.ofChange fnExactSignedTextSpec)

/-- ITS FALSE NEIGHBOUR: 'it returns false'. Refute it at one input. -/
def fnExactSignedTextWrong : ChangeSpec := { name := "fnExactSignedText", fn := fun _ => fun
  | [d] => { results := [.lit (.bool false)], args := [d] }
  | _ => none }
def FnExactSignedTextWrongFalsely : Prop := fnExactSignedTextRow.holds Tryd.pinned (OpenSpec.ofChange fnExactSignedTextWrong)

/-- 'laws.FnExactReadSigned': WHATEVER THE INPUT: true; the input reads as it did. -/
def fnExactReadSignedSpec : ChangeSpec := { name := "fnExactReadSigned", fn := fun _ => fun
  | [d] => { results := [.lit (.bool true)], args := [d] }
  | _ => none }
def fnExactReadSignedRow : OpenClaim := { program := "ytipegemhcmfnmaadoor", sum := "183e7c5ddcc5aa1259a2b0ec7d50f94ceaddd09253fe390f03d1076948c740c5", func := "loop.example/g01007/laws.FnExactReadSigned", spec := "fnExactReadSigned", inPlace := ["internal/bytealg.CountString", "internal/bytealg.IndexByteString", "internal/bytealg.IndexString"], named := ["unicode/utf8.first", "unicode/utf8.acceptRanges", "internal/bytealg.MaxLen", "strconv.ErrSyntax", "strconv.ErrRange", "internal/strconv.uint64pow10", "math/bits.deBruijn32tab", "math/bits.deBruijn64tab"], apart := false, laid := [("math/bits.deBruijn32tab", laid_math_bits_deBruijn32tab), ("math/bits.deBruijn64tab", laid_math_bits_deBruijn64tab), ("internal/strconv.uint64pow10", laid_internal_strconv_uint64pow10), ("unicode/utf8.acceptRanges", laid_unicode_utf8_acceptRanges), ("strconv.ErrRange", laid_strconv_ErrRange), ("strconv.ErrSyntax", laid_strconv_ErrSyntax), ("unicode/utf8.first", laid_unicode_utf8_first)] }
def FnExactReadSignedSaid : Prop := fnExactReadSignedRow.holds Tryd.pinned (OpenSpec.ofChange fnExactReadSignedSpec)

/-- ITS FALSE NEIGHBOUR: 'it returns false'. Refute it at one input. -/
def fnExactReadSignedWrong : ChangeSpec := { name := "fnExactReadSigned", fn := fun _ => fun
  | [d] => { results := [.lit (.bool false)], args := [d] }
  | _ => none }
def FnExactReadSignedWrongFalsely : Prop := fnExactReadSignedRow.holds Tryd.pinned (OpenSpec.ofChange fnExactReadSignedWrong)

/- THE SECOND FORM. 'bulk': how many values and letters a reading holds, each counted each time it is reached (what is shared counts as often as it is met; a slice's spare places count too). A statement '..UptoSaid' is the law's where the arguments, and the package variables that the reading takes, are together of bulk at most 1048576: NARROWER than '..Said'. Prove '..Said' where nothing that the law and all that it calls make is longer than what came in: it says more and counts as full. Else prove '..UptoSaid'. A law counts once. -/
mutual
def uptoBulk {H : Type} : DataW H → Nat
  | .lit (.string bytes) => bytes.length + 1
  | .lit _ => 1
  | .nil => 1
  | .ptr d => uptoBulk d + 1
  | .slice elems spare => uptoBulkAll elems + uptoBulkAll spare + 1
  | .agg parts => uptoBulkAll parts + 1
  | .iface _ d => uptoBulk d + 1
  | .map entries => uptoBulkEntries entries + 1
  | .held _ => 1
def uptoBulkAll {H : Type} : List (DataW H) → Nat
  | [] => 0
  | d :: r => uptoBulk d + uptoBulkAll r
def uptoBulkEntries {H : Type} : List (Lit × DataW H) → Nat
  | [] => 0
  | x :: r => uptoBulkEntry x + uptoBulkEntries r
def uptoBulkEntry {H : Type} : Lit × DataW H → Nat
  | (.string bytes, d) => bytes.length + uptoBulk d + 1
  | (_, d) => uptoBulk d + 1
 end
def uptoSmall : (H : Type) → List (DataW H) → Bool := fun _ ds => decide (uptoBulkAll ds ≤ 1048576)
def OpenSpec.upto (s : _root_.Go.ChangeSpec) : _root_.Go.OpenSpec := { _root_.Go.OpenSpec.ofChange s with cond := some uptoSmall }

/-- 'laws.FnSignedValues', WHERE WHAT IT READS IS OF BULK AT MOST 1048576: true; the input reads as it did. -/
def fnSignedValuesUptoRow : OpenClaim := { program := "ytipegemhcmfnmaadoor", sum := "183e7c5ddcc5aa1259a2b0ec7d50f94ceaddd09253fe390f03d1076948c740c5", func := "loop.example/g01007/laws.FnSignedValues", spec := "fnSignedValues", inPlace := ["internal/reflectlite.TypeOf"], unfollowed := true, recurses := true, named := ["loop.example/g01007/impl.errNoNumber", "loop.example/g01007/impl.errTooGreat", "loop.example/g01007/impl.errNoKind", "loop.example/g01007/impl.errEndless"], ifaces := true, apart := false, laid := [("loop.example/g01007/impl.errNoKind", laid_loop_example_g01007_impl_errNoKind), ("loop.example/g01007/impl.errEndless", laid_loop_example_g01007_impl_errEndless), ("loop.example/g01007/impl.errNoNumber", laid_loop_example_g01007_impl_errNoNumber), ("loop.example/g01007/impl.errTooGreat", laid_loop_example_g01007_impl_errTooGreat)], narrowed := true }
def FnSignedValuesUptoSaid : Prop := fnSignedValuesUptoRow.holds Tryd.pinned (OpenSpec.upto fnSignedValuesSpec)

/-- 'laws.FnExactKindName', WHERE WHAT IT READS IS OF BULK AT MOST 1048576: true; the input reads as it did. -/
def fnExactKindNameUptoRow : OpenClaim := { program := "ytipegemhcmfnmaadoor", sum := "183e7c5ddcc5aa1259a2b0ec7d50f94ceaddd09253fe390f03d1076948c740c5", func := "loop.example/g01007/laws.FnExactKindName", spec := "fnExactKindName", named := ["loop.example/g01007/impl.kindNames"], apart := false, laid := [("loop.example/g01007/impl.kindNames", laid_loop_example_g01007_impl_kindNames)], narrowed := true }
def FnExactKindNameUptoSaid : Prop := fnExactKindNameUptoRow.holds Tryd.pinned (OpenSpec.upto fnExactKindNameSpec)

/-- 'laws.FnExactExpandSigned', WHERE WHAT IT READS IS OF BULK AT MOST 1048576: true; the input reads as it did. -/
def fnExactExpandSignedUptoRow : OpenClaim := { program := "ytipegemhcmfnmaadoor", sum := "183e7c5ddcc5aa1259a2b0ec7d50f94ceaddd09253fe390f03d1076948c740c5", func := "loop.example/g01007/laws.FnExactExpandSigned", spec := "fnExactExpandSigned", inPlace := ["internal/reflectlite.TypeOf"], unfollowed := true, recurses := true, named := ["loop.example/g01007/impl.errEndless", "loop.example/g01007/impl.errNoKind", "loop.example/g01007/impl.errTooGreat", "loop.example/g01007/impl.errNoNumber"], ifaces := true, apart := false, laid := [("loop.example/g01007/impl.errNoKind", laid_loop_example_g01007_impl_errNoKind), ("loop.example/g01007/impl.errEndless", laid_loop_example_g01007_impl_errEndless), ("loop.example/g01007/impl.errNoNumber", laid_loop_example_g01007_impl_errNoNumber), ("loop.example/g01007/impl.errTooGreat", laid_loop_example_g01007_impl_errTooGreat)], narrowed := true }
def FnExactExpandSignedUptoSaid : Prop := fnExactExpandSignedUptoRow.holds Tryd.pinned (OpenSpec.upto fnExactExpandSignedSpec)

/-- 'laws.FnExactValueOfSigned', WHERE WHAT IT READS IS OF BULK AT MOST 1048576: true; the input reads as it did. -/
def fnExactValueOfSignedUptoRow : OpenClaim := { program := "ytipegemhcmfnmaadoor", sum := "183e7c5ddcc5aa1259a2b0ec7d50f94ceaddd09253fe390f03d1076948c740c5", func := "loop.example/g01007/laws.FnExactValueOfSigned", spec := "fnExactValueOfSigned", inPlace := ["internal/reflectlite.TypeOf"], unfollowed := true, recurses := true, named := ["loop.example/g01007/impl.errNoNumber", "loop.example/g01007/impl.errTooGreat", "loop.example/g01007/impl.errNoKind", "loop.example/g01007/impl.errEndless"], ifaces := true, apart := false, laid := [("loop.example/g01007/impl.errNoKind", laid_loop_example_g01007_impl_errNoKind), ("loop.example/g01007/impl.errEndless", laid_loop_example_g01007_impl_errEndless), ("loop.example/g01007/impl.errNoNumber", laid_loop_example_g01007_impl_errNoNumber), ("loop.example/g01007/impl.errTooGreat", laid_loop_example_g01007_impl_errTooGreat)], narrowed := true }
def FnExactValueOfSignedUptoSaid : Prop := fnExactValueOfSignedUptoRow.holds Tryd.pinned (OpenSpec.upto fnExactValueOfSignedSpec)

/-- 'laws.FnExactSignedConvergents', WHERE WHAT IT READS IS OF BULK AT MOST 1048576: true; the input reads as it did. -/
def fnExactSignedConvergentsUptoRow : OpenClaim := { program := "ytipegemhcmfnmaadoor", sum := "183e7c5ddcc5aa1259a2b0ec7d50f94ceaddd09253fe390f03d1076948c740c5", func := "loop.example/g01007/laws.FnExactSignedConvergents", spec := "fnExactSignedConvergents", inPlace := ["internal/reflectlite.TypeOf"], unfollowed := true, recurses := true, named := ["loop.example/g01007/impl.errNoNumber", "loop.example/g01007/impl.errTooGreat", "loop.example/g01007/impl.errNoKind", "loop.example/g01007/impl.errEndless"], ifaces := true, apart := false, laid := [("loop.example/g01007/impl.errNoKind", laid_loop_example_g01007_impl_errNoKind), ("loop.example/g01007/impl.errEndless", laid_loop_example_g01007_impl_errEndless), ("loop.example/g01007/impl.errNoNumber", laid_loop_example_g01007_impl_errNoNumber), ("loop.example/g01007/impl.errTooGreat", laid_loop_example_g01007_impl_errTooGreat)], narrowed := true }
def FnExactSignedConvergentsUptoSaid : Prop := fnExactSignedConvergentsUptoRow.holds Tryd.pinned (OpenSpec.upto fnExactSignedConvergentsSpec)

/-- 'laws.FnExactKindOfSigned', WHERE WHAT IT READS IS OF BULK AT MOST 1048576: true; the input reads as it did. -/
def fnExactKindOfSignedUptoRow : OpenClaim := { program := "ytipegemhcmfnmaadoor", sum := "183e7c5ddcc5aa1259a2b0ec7d50f94ceaddd09253fe390f03d1076948c740c5", func := "loop.example/g01007/laws.FnExactKindOfSigned", spec := "fnExactKindOfSigned", inPlace := ["internal/reflectlite.TypeOf"], unfollowed := true, recurses := true, named := ["loop.example/g01007/impl.kindNames", "loop.example/g01007/impl.errNoNumber", "loop.example/g01007/impl.errTooGreat", "loop.example/g01007/impl.errNoKind", "loop.example/g01007/impl.errEndless"], ifaces := true, apart := false, laid := [("loop.example/g01007/impl.kindNames", laid_loop_example_g01007_impl_kindNames), ("loop.example/g01007/impl.errNoKind", laid_loop_example_g01007_impl_errNoKind), ("loop.example/g01007/impl.errEndless", laid_loop_example_g01007_impl_errEndless), ("loop.example/g01007/impl.errNoNumber", laid_loop_example_g01007_impl_errNoNumber), ("loop.example/g01007/impl.errTooGreat", laid_loop_example_g01007_impl_errTooGreat)], narrowed := true }
def FnExactKindOfSignedUptoSaid : Prop := fnExactKindOfSignedUptoRow.holds Tryd.pinned (OpenSpec.upto fnExactKindOfSignedSpec)

/-- 'laws.FnExactSignedFromTerms', WHERE WHAT IT READS IS OF BULK AT MOST 1048576: true; the input reads as it did. -/
def fnExactSignedFromTermsUptoRow : OpenClaim := { program := "ytipegemhcmfnmaadoor", sum := "183e7c5ddcc5aa1259a2b0ec7d50f94ceaddd09253fe390f03d1076948c740c5", func := "loop.example/g01007/laws.FnExactSignedFromTerms", spec := "fnExactSignedFromTerms", inPlace := ["internal/reflectlite.TypeOf"], unfollowed := true, recurses := true, named := ["loop.example/g01007/impl.errEndless", "loop.example/g01007/impl.errNoKind", "loop.example/g01007/impl.errTooGreat", "loop.example/g01007/impl.errNoNumber"], ifaces := true, apart := false, laid := [("loop.example/g01007/impl.errNoKind", laid_loop_example_g01007_impl_errNoKind), ("loop.example/g01007/impl.errEndless", laid_loop_example_g01007_impl_errEndless), ("loop.example/g01007/impl.errNoNumber", laid_loop_example_g01007_impl_errNoNumber), ("loop.example/g01007/impl.errTooGreat", laid_loop_example_g01007_impl_errTooGreat)], narrowed := true }
def FnExactSignedFromTermsUptoSaid : Prop := fnExactSignedFromTermsUptoRow.holds Tryd.pinned (OpenSpec.upto fnExactSignedFromTermsSpec)

/-- 'laws.FnExactTermsFromSigned', WHERE WHAT IT READS IS OF BULK AT MOST 1048576: true; the input reads as it did. -/
def fnExactTermsFromSignedUptoRow : OpenClaim := { program := "ytipegemhcmfnmaadoor", sum := "183e7c5ddcc5aa1259a2b0ec7d50f94ceaddd09253fe390f03d1076948c740c5", func := "loop.example/g01007/laws.FnExactTermsFromSigned", spec := "fnExactTermsFromSigned", inPlace := ["internal/reflectlite.TypeOf"], unfollowed := true, recurses := true, named := ["loop.example/g01007/impl.errNoNumber", "loop.example/g01007/impl.errTooGreat", "loop.example/g01007/impl.errNoKind", "loop.example/g01007/impl.errEndless"], ifaces := true, apart := false, laid := [("loop.example/g01007/impl.errNoKind", laid_loop_example_g01007_impl_errNoKind), ("loop.example/g01007/impl.errEndless", laid_loop_example_g01007_impl_errEndless), ("loop.example/g01007/impl.errNoNumber", laid_loop_example_g01007_impl_errNoNumber), ("loop.example/g01007/impl.errTooGreat", laid_loop_example_g01007_impl_errTooGreat)], narrowed := true }
def FnExactTermsFromSignedUptoSaid : Prop := fnExactTermsFromSignedUptoRow.holds Tryd.pinned (OpenSpec.upto fnExactTermsFromSignedSpec)

/-- 'laws.FnExactSignedLengths', WHERE WHAT IT READS IS OF BULK AT MOST 1048576: true; the input reads as it did. -/
def fnExactSignedLengthsUptoRow : OpenClaim := { program := "ytipegemhcmfnmaadoor", sum := "183e7c5ddcc5aa1259a2b0ec7d50f94ceaddd09253fe390f03d1076948c740c5", func := "loop.example/g01007/laws.FnExactSignedLengths", spec := "fnExactSignedLengths", inPlace := ["internal/reflectlite.TypeOf"], unfollowed := true, recurses := true, named := ["loop.example/g01007/impl.errEndless", "loop.example/g01007/impl.errNoKind", "loop.example/g01007/impl.errTooGreat", "loop.example/g01007/impl.errNoNumber"], ifaces := true, apart := false, laid := [("loop.example/g01007/impl.errNoKind", laid_loop_example_g01007_impl_errNoKind), ("loop.example/g01007/impl.errEndless", laid_loop_example_g01007_impl_errEndless), ("loop.example/g01007/impl.errNoNumber", laid_loop_example_g01007_impl_errNoNumber), ("loop.example/g01007/impl.errTooGreat", laid_loop_example_g01007_impl_errTooGreat)], narrowed := true }
def FnExactSignedLengthsUptoSaid : Prop := fnExactSignedLengthsUptoRow.holds Tryd.pinned (OpenSpec.upto fnExactSignedLengthsSpec)

/-- 'laws.FnExactSignedText', WHERE WHAT IT READS IS OF BULK AT MOST 1048576: true; the input reads as it did. -/
def fnExactSignedTextUptoRow : OpenClaim := { program := "ytipegemhcmfnmaadoor", sum := "183e7c5ddcc5aa1259a2b0ec7d50f94ceaddd09253fe390f03d1076948c740c5", func := "loop.example/g01007/laws.FnExactSignedText", spec := "fnExactSignedText", inPlace := ["internal/abi.NoEscape", "internal/bytealg.MakeNoZero"], named := ["internal/strconv.uint64pow10", "math/bits.deBruijn32tab", "math/bits.deBruijn64tab"], apart := false, laid := [("math/bits.deBruijn32tab", laid_math_bits_deBruijn32tab), ("math/bits.deBruijn64tab", laid_math_bits_deBruijn64tab), ("internal/strconv.uint64pow10", laid_internal_strconv_uint64pow10)], narrowed := true }
def FnExactSignedTextUptoSaid : Prop := fnExactSignedTextUptoRow.holds Tryd.pinned (OpenSpec.upto fnExactSignedTextSpec)

/-- 'laws.FnExactReadSigned', WHERE WHAT IT READS IS OF BULK AT MOST 1048576: true; the input reads as it did. -/
def fnExactReadSignedUptoRow : OpenClaim := { program := "ytipegemhcmfnmaadoor", sum := "183e7c5ddcc5aa1259a2b0ec7d50f94ceaddd09253fe390f03d1076948c740c5", func := "loop.example/g01007/laws.FnExactReadSigned", spec := "fnExactReadSigned", inPlace := ["internal/bytealg.CountString", "internal/bytealg.IndexByteString", "internal/bytealg.IndexString"], named := ["unicode/utf8.first", "unicode/utf8.acceptRanges", "internal/bytealg.MaxLen", "strconv.ErrSyntax", "strconv.ErrRange", "internal/strconv.uint64pow10", "math/bits.deBruijn32tab", "math/bits.deBruijn64tab"], apart := false, laid := [("math/bits.deBruijn32tab", laid_math_bits_deBruijn32tab), ("math/bits.deBruijn64tab", laid_math_bits_deBruijn64tab), ("internal/strconv.uint64pow10", laid_internal_strconv_uint64pow10), ("unicode/utf8.acceptRanges", laid_unicode_utf8_acceptRanges), ("strconv.ErrRange", laid_strconv_ErrRange), ("strconv.ErrSyntax", laid_strconv_ErrSyntax), ("unicode/utf8.first", laid_unicode_utf8_first)], narrowed := true }
def FnExactReadSignedUptoSaid : Prop := fnExactReadSignedUptoRow.holds Tryd.pinned (OpenSpec.upto fnExactReadSignedSpec)

end Rows
end Go.Proofs.YtipegemhcmfnmaaDoor
