/-
  DERIVED. GIVEN WITH THE SEED: THE CARDS: each row of YtbbgkflkabkoeaaDoorRows.lean that lists a variable, with what it lists TIED to the program's text (the seventh form; the later family's looks); each row that meets fmt, with fmt's text TOLD by the authors' own Lean function (tested against real Go, not proved from fmt's source: count such statements apart). THE CARD IS WHAT COUNTS. Prove the row's statement (the work); the ties are given (YtbbgkflkabkoeaaDoorTie.lean); close each card by the builder's one call (the guide's Derived/Test/ToyasCard.lean, 'card_holds'). Laid BY PROGRAM, IN A SANDBOX (cutbox-door.mjs). By AI agents, Wed Nov 11 2026. No macro, syntax, notation, axiom, sorry.
-/
import Derived.Test.YtbbgkflkabkoeaaDoorRows
import GoSem.ClaimSeven
namespace Go.Proofs.YtbbgkflkabkoeaaDoor
namespace Rows

/-- THE TIED CARD OF 'laws.FnExactTermsText'. -/
def fnExactTermsTextCard : Claim7 := { stood := { row := fnExactTermsTextRow, standIns := [], harness := (true, "96f5dc13a380f9dbc5e102811e842410d8c6d11c838a38606cd3d2b1ea9bbe95"), looks := true }, kinds := [], alts := [], laidByText := true, laidKinds := [.data, .data, .data], laidTests := true, laidLooks := .later }
def FnExactTermsTextCardSaid : Prop := Claim7.holds Tryd.pinned (.plain (OpenSpec.ofChange fnExactTermsTextSpec)) fnExactTermsTextCard

/-- THE TIED CARD OF 'laws.FnExactReadTerms'. -/
def fnExactReadTermsCard : Claim7 := { stood := { row := fnExactReadTermsRow, standIns := [], harness := (true, "96f5dc13a380f9dbc5e102811e842410d8c6d11c838a38606cd3d2b1ea9bbe95"), looks := true }, kinds := [], alts := [], laidByText := true, laidKinds := [.data, .data, .data, .data, .sentinel, .sentinel, .pinned], laidTests := true, laidLooks := .later }
def FnExactReadTermsCardSaid : Prop := Claim7.holds Tryd.pinned (.plain (OpenSpec.ofChange fnExactReadTermsSpec)) fnExactReadTermsCard

/-- THE SECOND FORM's CARD OF 'laws.FnExactTermsText'. -/
def fnExactTermsTextUptoCard : Claim7 := { stood := { row := fnExactTermsTextUptoRow, standIns := [], harness := (true, "96f5dc13a380f9dbc5e102811e842410d8c6d11c838a38606cd3d2b1ea9bbe95"), looks := true }, kinds := [], alts := [], laidByText := true, laidKinds := [.data, .data, .data], laidTests := true, laidLooks := .later }
def FnExactTermsTextUptoCardSaid : Prop := Claim7.holds Tryd.pinned (.plain (OpenSpec.upto fnExactTermsTextSpec)) fnExactTermsTextUptoCard

/-- THE SECOND FORM's CARD OF 'laws.FnExactReadTerms'. -/
def fnExactReadTermsUptoCard : Claim7 := { stood := { row := fnExactReadTermsUptoRow, standIns := [], harness := (true, "96f5dc13a380f9dbc5e102811e842410d8c6d11c838a38606cd3d2b1ea9bbe95"), looks := true }, kinds := [], alts := [], laidByText := true, laidKinds := [.data, .data, .data, .data, .sentinel, .sentinel, .pinned], laidTests := true, laidLooks := .later }
def FnExactReadTermsUptoCardSaid : Prop := Claim7.holds Tryd.pinned (.plain (OpenSpec.upto fnExactReadTermsSpec)) fnExactReadTermsUptoCard
end Rows
end Go.Proofs.YtbbgkflkabkoeaaDoor
