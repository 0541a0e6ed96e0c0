/-
  DERIVED. GIVEN WITH THE SEED: THE CARDS: each row of YtipegemhcmfnmaaDoorRows.lean that lists a variable, with what it lists TIED to the program's text (the seventh form; the later family's looks); each row that meets fmt, with fmt's text TOLD by the authors' own Lean function (tested against real Go, not proved from fmt's source: count such statements apart). THE CARD IS WHAT COUNTS. Prove the row's statement (the work); the ties are given (YtipegemhcmfnmaaDoorTie.lean); close each card by the builder's one call (the guide's Derived/Test/ToyasCard.lean, 'card_holds'). Laid BY PROGRAM, IN A SANDBOX (cutbox-door.mjs). By AI agents, Wed Nov 11 2026. No macro, syntax, notation, axiom, sorry.
-/
import Derived.Test.YtipegemhcmfnmaaDoorRows
import GoSem.ClaimSeven
namespace Go.Proofs.YtipegemhcmfnmaaDoor
namespace Rows

/-- THE TIED CARD OF 'laws.FnSignedValues'. -/
def fnSignedValuesCard : Claim7 := { stood := { row := fnSignedValuesRow, standIns := [], harness := (true, "65a7516912b43bcc44f5220f1095260121a27d31598173a6bcedb6c00df6a41b"), looks := true }, kinds := [], alts := [], laidByText := true, laidKinds := [.sentinel, .sentinel, .sentinel, .sentinel], laidTests := true, laidLooks := .later }
def FnSignedValuesCardSaid : Prop := Claim7.holds Tryd.pinned (.plain (OpenSpec.ofChange fnSignedValuesSpec)) fnSignedValuesCard

/-- THE TIED CARD OF 'laws.FnExactKindName'. -/
def fnExactKindNameCard : Claim7 := { stood := { row := fnExactKindNameRow, standIns := [], harness := (true, "65a7516912b43bcc44f5220f1095260121a27d31598173a6bcedb6c00df6a41b"), looks := true }, kinds := [], alts := [], laidByText := true, laidKinds := [.data], laidTests := true, laidLooks := .later }
def FnExactKindNameCardSaid : Prop := Claim7.holds Tryd.pinned (.plain (OpenSpec.ofChange fnExactKindNameSpec)) fnExactKindNameCard

/-- THE TIED CARD OF 'laws.FnExactExpandSigned'. -/
def fnExactExpandSignedCard : Claim7 := { stood := { row := fnExactExpandSignedRow, standIns := [], harness := (true, "65a7516912b43bcc44f5220f1095260121a27d31598173a6bcedb6c00df6a41b"), looks := true }, kinds := [], alts := [], laidByText := true, laidKinds := [.sentinel, .sentinel, .sentinel, .sentinel], laidTests := true, laidLooks := .later }
def FnExactExpandSignedCardSaid : Prop := Claim7.holds Tryd.pinned (.plain (OpenSpec.ofChange fnExactExpandSignedSpec)) fnExactExpandSignedCard

/-- THE TIED CARD OF 'laws.FnExactValueOfSigned'. -/
def fnExactValueOfSignedCard : Claim7 := { stood := { row := fnExactValueOfSignedRow, standIns := [], harness := (true, "65a7516912b43bcc44f5220f1095260121a27d31598173a6bcedb6c00df6a41b"), looks := true }, kinds := [], alts := [], laidByText := true, laidKinds := [.sentinel, .sentinel, .sentinel, .sentinel], laidTests := true, laidLooks := .later }
def FnExactValueOfSignedCardSaid : Prop := Claim7.holds Tryd.pinned (.plain (OpenSpec.ofChange fnExactValueOfSignedSpec)) fnExactValueOfSignedCard

/-- THE TIED CARD OF 'laws.FnExactSignedConvergents'. -/
def fnExactSignedConvergentsCard : Claim7 := { stood := { row := fnExactSignedConvergentsRow, standIns := [], harness := (true, "65a7516912b43bcc44f5220f1095260121a27d31598173a6bcedb6c00df6a41b"), looks := true }, kinds := [], alts := [], laidByText := true, laidKinds := [.sentinel, .sentinel, .sentinel, .sentinel], laidTests := true, laidLooks := .later }
def FnExactSignedConvergentsCardSaid : Prop := Claim7.holds Tryd.pinned (.plain (OpenSpec.ofChange fnExactSignedConvergentsSpec)) fnExactSignedConvergentsCard

/-- THE TIED CARD OF 'laws.FnExactKindOfSigned'. -/
def fnExactKindOfSignedCard : Claim7 := { stood := { row := fnExactKindOfSignedRow, standIns := [], harness := (true, "65a7516912b43bcc44f5220f1095260121a27d31598173a6bcedb6c00df6a41b"), looks := true }, kinds := [], alts := [], laidByText := true, laidKinds := [.data, .sentinel, .sentinel, .sentinel, .sentinel], laidTests := true, laidLooks := .later }
def FnExactKindOfSignedCardSaid : Prop := Claim7.holds Tryd.pinned (.plain (OpenSpec.ofChange fnExactKindOfSignedSpec)) fnExactKindOfSignedCard

/-- THE TIED CARD OF 'laws.FnExactSignedFromTerms'. -/
def fnExactSignedFromTermsCard : Claim7 := { stood := { row := fnExactSignedFromTermsRow, standIns := [], harness := (true, "65a7516912b43bcc44f5220f1095260121a27d31598173a6bcedb6c00df6a41b"), looks := true }, kinds := [], alts := [], laidByText := true, laidKinds := [.sentinel, .sentinel, .sentinel, .sentinel], laidTests := true, laidLooks := .later }
def FnExactSignedFromTermsCardSaid : Prop := Claim7.holds Tryd.pinned (.plain (OpenSpec.ofChange fnExactSignedFromTermsSpec)) fnExactSignedFromTermsCard

/-- THE TIED CARD OF 'laws.FnExactTermsFromSigned'. -/
def fnExactTermsFromSignedCard : Claim7 := { stood := { row := fnExactTermsFromSignedRow, standIns := [], harness := (true, "65a7516912b43bcc44f5220f1095260121a27d31598173a6bcedb6c00df6a41b"), looks := true }, kinds := [], alts := [], laidByText := true, laidKinds := [.sentinel, .sentinel, .sentinel, .sentinel], laidTests := true, laidLooks := .later }
def FnExactTermsFromSignedCardSaid : Prop := Claim7.holds Tryd.pinned (.plain (OpenSpec.ofChange fnExactTermsFromSignedSpec)) fnExactTermsFromSignedCard

/-- THE TIED CARD OF 'laws.FnExactSignedLengths'. -/
def fnExactSignedLengthsCard : Claim7 := { stood := { row := fnExactSignedLengthsRow, standIns := [], harness := (true, "65a7516912b43bcc44f5220f1095260121a27d31598173a6bcedb6c00df6a41b"), looks := true }, kinds := [], alts := [], laidByText := true, laidKinds := [.sentinel, .sentinel, .sentinel, .sentinel], laidTests := true, laidLooks := .later }
def FnExactSignedLengthsCardSaid : Prop := Claim7.holds Tryd.pinned (.plain (OpenSpec.ofChange fnExactSignedLengthsSpec)) fnExactSignedLengthsCard

/-- THE TIED CARD OF 'laws.FnExactSignedText'. -/
def fnExactSignedTextCard : Claim7 := { stood := { row := fnExactSignedTextRow, standIns := [], harness := (true, "65a7516912b43bcc44f5220f1095260121a27d31598173a6bcedb6c00df6a41b"), looks := true }, kinds := [], alts := [], laidByText := true, laidKinds := [.data, .data, .data], laidTests := true, laidLooks := .later }
def FnExactSignedTextCardSaid : Prop := Claim7.holds Tryd.pinned (.plain (OpenSpec.ofChange fnExactSignedTextSpec)) fnExactSignedTextCard

/-- THE TIED CARD OF 'laws.FnExactReadSigned'. -/
def fnExactReadSignedCard : Claim7 := { stood := { row := fnExactReadSignedRow, standIns := [], harness := (true, "65a7516912b43bcc44f5220f1095260121a27d31598173a6bcedb6c00df6a41b"), looks := true }, kinds := [], alts := [], laidByText := true, laidKinds := [.data, .data, .data, .data, .sentinel, .sentinel, .pinned], laidTests := true, laidLooks := .later }
def FnExactReadSignedCardSaid : Prop := Claim7.holds Tryd.pinned (.plain (OpenSpec.ofChange fnExactReadSignedSpec)) fnExactReadSignedCard

/-- THE SECOND FORM's CARD OF 'laws.FnSignedValues'. -/
def fnSignedValuesUptoCard : Claim7 := { stood := { row := fnSignedValuesUptoRow, standIns := [], harness := (true, "65a7516912b43bcc44f5220f1095260121a27d31598173a6bcedb6c00df6a41b"), looks := true }, kinds := [], alts := [], laidByText := true, laidKinds := [.sentinel, .sentinel, .sentinel, .sentinel], laidTests := true, laidLooks := .later }
def FnSignedValuesUptoCardSaid : Prop := Claim7.holds Tryd.pinned (.plain (OpenSpec.upto fnSignedValuesSpec)) fnSignedValuesUptoCard

/-- THE SECOND FORM's CARD OF 'laws.FnExactKindName'. -/
def fnExactKindNameUptoCard : Claim7 := { stood := { row := fnExactKindNameUptoRow, standIns := [], harness := (true, "65a7516912b43bcc44f5220f1095260121a27d31598173a6bcedb6c00df6a41b"), looks := true }, kinds := [], alts := [], laidByText := true, laidKinds := [.data], laidTests := true, laidLooks := .later }
def FnExactKindNameUptoCardSaid : Prop := Claim7.holds Tryd.pinned (.plain (OpenSpec.upto fnExactKindNameSpec)) fnExactKindNameUptoCard

/-- THE SECOND FORM's CARD OF 'laws.FnExactExpandSigned'. -/
def fnExactExpandSignedUptoCard : Claim7 := { stood := { row := fnExactExpandSignedUptoRow, standIns := [], harness := (true, "65a7516912b43bcc44f5220f1095260121a27d31598173a6bcedb6c00df6a41b"), looks := true }, kinds := [], alts := [], laidByText := true, laidKinds := [.sentinel, .sentinel, .sentinel, .sentinel], laidTests := true, laidLooks := .later }
def FnExactExpandSignedUptoCardSaid : Prop := Claim7.holds Tryd.pinned (.plain (OpenSpec.upto fnExactExpandSignedSpec)) fnExactExpandSignedUptoCard

/-- THE SECOND FORM's CARD OF 'laws.FnExactValueOfSigned'. -/
def fnExactValueOfSignedUptoCard : Claim7 := { stood := { row := fnExactValueOfSignedUptoRow, standIns := [], harness := (true, "65a7516912b43bcc44f5220f1095260121a27d31598173a6bcedb6c00df6a41b"), looks := true }, kinds := [], alts := [], laidByText := true, laidKinds := [.sentinel, .sentinel, .sentinel, .sentinel], laidTests := true, laidLooks := .later }
def FnExactValueOfSignedUptoCardSaid : Prop := Claim7.holds Tryd.pinned (.plain (OpenSpec.upto fnExactValueOfSignedSpec)) fnExactValueOfSignedUptoCard

/-- THE SECOND FORM's CARD OF 'laws.FnExactSignedConvergents'. -/
def fnExactSignedConvergentsUptoCard : Claim7 := { stood := { row := fnExactSignedConvergentsUptoRow, standIns := [], harness := (true, "65a7516912b43bcc44f5220f1095260121a27d31598173a6bcedb6c00df6a41b"), looks := true }, kinds := [], alts := [], laidByText := true, laidKinds := [.sentinel, .sentinel, .sentinel, .sentinel], laidTests := true, laidLooks := .later }
def FnExactSignedConvergentsUptoCardSaid : Prop := Claim7.holds Tryd.pinned (.plain (OpenSpec.upto fnExactSignedConvergentsSpec)) fnExactSignedConvergentsUptoCard

/-- THE SECOND FORM's CARD OF 'laws.FnExactKindOfSigned'. -/
def fnExactKindOfSignedUptoCard : Claim7 := { stood := { row := fnExactKindOfSignedUptoRow, standIns := [], harness := (true, "65a7516912b43bcc44f5220f1095260121a27d31598173a6bcedb6c00df6a41b"), looks := true }, kinds := [], alts := [], laidByText := true, laidKinds := [.data, .sentinel, .sentinel, .sentinel, .sentinel], laidTests := true, laidLooks := .later }
def FnExactKindOfSignedUptoCardSaid : Prop := Claim7.holds Tryd.pinned (.plain (OpenSpec.upto fnExactKindOfSignedSpec)) fnExactKindOfSignedUptoCard

/-- THE SECOND FORM's CARD OF 'laws.FnExactSignedFromTerms'. -/
def fnExactSignedFromTermsUptoCard : Claim7 := { stood := { row := fnExactSignedFromTermsUptoRow, standIns := [], harness := (true, "65a7516912b43bcc44f5220f1095260121a27d31598173a6bcedb6c00df6a41b"), looks := true }, kinds := [], alts := [], laidByText := true, laidKinds := [.sentinel, .sentinel, .sentinel, .sentinel], laidTests := true, laidLooks := .later }
def FnExactSignedFromTermsUptoCardSaid : Prop := Claim7.holds Tryd.pinned (.plain (OpenSpec.upto fnExactSignedFromTermsSpec)) fnExactSignedFromTermsUptoCard

/-- THE SECOND FORM's CARD OF 'laws.FnExactTermsFromSigned'. -/
def fnExactTermsFromSignedUptoCard : Claim7 := { stood := { row := fnExactTermsFromSignedUptoRow, standIns := [], harness := (true, "65a7516912b43bcc44f5220f1095260121a27d31598173a6bcedb6c00df6a41b"), looks := true }, kinds := [], alts := [], laidByText := true, laidKinds := [.sentinel, .sentinel, .sentinel, .sentinel], laidTests := true, laidLooks := .later }
def FnExactTermsFromSignedUptoCardSaid : Prop := Claim7.holds Tryd.pinned (.plain (OpenSpec.upto fnExactTermsFromSignedSpec)) fnExactTermsFromSignedUptoCard

/-- THE SECOND FORM's CARD OF 'laws.FnExactSignedLengths'. -/
def fnExactSignedLengthsUptoCard : Claim7 := { stood := { row := fnExactSignedLengthsUptoRow, standIns := [], harness := (true, "65a7516912b43bcc44f5220f1095260121a27d31598173a6bcedb6c00df6a41b"), looks := true }, kinds := [], alts := [], laidByText := true, laidKinds := [.sentinel, .sentinel, .sentinel, .sentinel], laidTests := true, laidLooks := .later }
def FnExactSignedLengthsUptoCardSaid : Prop := Claim7.holds Tryd.pinned (.plain (OpenSpec.upto fnExactSignedLengthsSpec)) fnExactSignedLengthsUptoCard

/-- THE SECOND FORM's CARD OF 'laws.FnExactSignedText'. -/
def fnExactSignedTextUptoCard : Claim7 := { stood := { row := fnExactSignedTextUptoRow, standIns := [], harness := (true, "65a7516912b43bcc44f5220f1095260121a27d31598173a6bcedb6c00df6a41b"), looks := true }, kinds := [], alts := [], laidByText := true, laidKinds := [.data, .data, .data], laidTests := true, laidLooks := .later }
def FnExactSignedTextUptoCardSaid : Prop := Claim7.holds Tryd.pinned (.plain (OpenSpec.upto fnExactSignedTextSpec)) fnExactSignedTextUptoCard

/-- THE SECOND FORM's CARD OF 'laws.FnExactReadSigned'. -/
def fnExactReadSignedUptoCard : Claim7 := { stood := { row := fnExactReadSignedUptoRow, standIns := [], harness := (true, "65a7516912b43bcc44f5220f1095260121a27d31598173a6bcedb6c00df6a41b"), looks := true }, kinds := [], alts := [], laidByText := true, laidKinds := [.data, .data, .data, .data, .sentinel, .sentinel, .pinned], laidTests := true, laidLooks := .later }
def FnExactReadSignedUptoCardSaid : Prop := Claim7.holds Tryd.pinned (.plain (OpenSpec.upto fnExactReadSignedSpec)) fnExactReadSignedUptoCard
end Rows
end Go.Proofs.YtipegemhcmfnmaaDoor
