/-
  DERIVED. GIVEN WITH THE SEED: THE CARDS: each row of YtjjfomokecngoaaGreatDoorRows.lean that lists a variable, with what it lists TIED to the program's text (the seventh form; the later family's looks); each row that meets fmt, with fmt's text TOLD by the authors' own Lean function (tested against real Go, not proved from fmt's source: count such statements apart). THE CARD IS WHAT COUNTS. Prove the row's statement (the work); the ties are given (YtjjfomokecngoaaGreatDoorTie.lean); close each card by the builder's one call (the guide's Derived/Test/ToyasCard.lean, 'card_holds'). Laid BY PROGRAM, IN A SANDBOX (cutbox-door.mjs). By AI agents, Wed Nov 11 2026. No macro, syntax, notation, axiom, sorry.
-/
import Derived.Test.YtjjfomokecngoaaGreatDoorRows
import GoSem.ClaimSeven
namespace Go.Proofs.YtjjfomokecngoaaGreatDoor
namespace Rows

/-- THE TIED CARD OF 'laws.FnExactNameOfGroup'. -/
def fnExactNameOfGroupCard : Claim7 := { stood := { row := fnExactNameOfGroupRow, standIns := [], harness := (true, "599c9ee5e72836d7e25f89b336bcc195576a86a84cc73cd8fef0b60b15f1e525"), looks := false }, kinds := [], alts := [], laidByText := true, laidKinds := [.data, .data, .data, .wider], laidTests := true, laidLooks := .later }
def FnExactNameOfGroupCardSaid : Prop := Claim7.holds Tryz.pinned (.plain (OpenSpec.ofChange fnExactNameOfGroupSpec)) fnExactNameOfGroupCard

/-- THE TIED CARD OF 'laws.FnExactNameOfPattern'. -/
def fnExactNameOfPatternCard : Claim7 := { stood := { row := fnExactNameOfPatternRow, standIns := [], harness := (true, "599c9ee5e72836d7e25f89b336bcc195576a86a84cc73cd8fef0b60b15f1e525"), looks := false }, kinds := [], alts := [], laidByText := true, laidKinds := [.data, .data, .data, .wider], laidTests := true, laidLooks := .later }
def FnExactNameOfPatternCardSaid : Prop := Claim7.holds Tryz.pinned (.plain (OpenSpec.ofChange fnExactNameOfPatternSpec)) fnExactNameOfPatternCard

/-- THE TIED CARD OF 'laws.FnNames'. -/
def fnNamesCard : Claim7 := { stood := { row := fnNamesRow, standIns := [], harness := (true, "599c9ee5e72836d7e25f89b336bcc195576a86a84cc73cd8fef0b60b15f1e525"), looks := false }, kinds := [], alts := [], laidByText := true, laidKinds := [.data, .data, .data, .wider, .data], laidTests := true, laidLooks := .later }
def FnNamesCardSaid : Prop := Claim7.holds Tryz.pinned (.plain (OpenSpec.ofChange fnNamesSpec)) fnNamesCard

/-- THE TIED CARD OF 'laws.FnCentred'. -/
def fnCentredCard : Claim7 := { stood := { row := fnCentredRow, standIns := [], harness := (true, "599c9ee5e72836d7e25f89b336bcc195576a86a84cc73cd8fef0b60b15f1e525"), looks := false }, kinds := [], alts := [], laidByText := true, laidKinds := [.wider], laidTests := true, laidLooks := .later }
def FnCentredCardSaid : Prop := Claim7.holds Tryz.pinned (.plain (OpenSpec.ofChange fnCentredSpec)) fnCentredCard

/-- THE TIED CARD OF 'laws.FnCentreCounts'. -/
def fnCentreCountsCard : Claim7 := { stood := { row := fnCentreCountsRow, standIns := [], harness := (true, "599c9ee5e72836d7e25f89b336bcc195576a86a84cc73cd8fef0b60b15f1e525"), looks := false }, kinds := [], alts := [], laidByText := true, laidKinds := [.wider], laidTests := true, laidLooks := .later }
def FnCentreCountsCardSaid : Prop := Claim7.holds Tryz.pinned (.plain (OpenSpec.ofChange fnCentreCountsSpec)) fnCentreCountsCard

/-- THE TIED CARD OF 'laws.FnPointParts'. -/
def fnPointPartsCard : Claim7 := { stood := { row := fnPointPartsRow, standIns := [], harness := (true, "599c9ee5e72836d7e25f89b336bcc195576a86a84cc73cd8fef0b60b15f1e525"), looks := false }, kinds := [], alts := [], laidByText := true, laidKinds := [.wider], laidTests := true, laidLooks := .later }
def FnPointPartsCardSaid : Prop := Claim7.holds Tryz.pinned (.plain (OpenSpec.ofChange fnPointPartsSpec)) fnPointPartsCard

/-- THE SECOND FORM's CARD OF 'laws.FnExactNameOfGroup'. -/
def fnExactNameOfGroupUptoCard : Claim7 := { stood := { row := fnExactNameOfGroupUptoRow, standIns := [], harness := (true, "599c9ee5e72836d7e25f89b336bcc195576a86a84cc73cd8fef0b60b15f1e525"), looks := false }, kinds := [], alts := [], laidByText := true, laidKinds := [.data, .data, .data, .wider], laidTests := true, laidLooks := .later }
def FnExactNameOfGroupUptoCardSaid : Prop := Claim7.holds Tryz.pinned (.plain (OpenSpec.upto fnExactNameOfGroupSpec)) fnExactNameOfGroupUptoCard

/-- THE SECOND FORM's CARD OF 'laws.FnExactNameOfPattern'. -/
def fnExactNameOfPatternUptoCard : Claim7 := { stood := { row := fnExactNameOfPatternUptoRow, standIns := [], harness := (true, "599c9ee5e72836d7e25f89b336bcc195576a86a84cc73cd8fef0b60b15f1e525"), looks := false }, kinds := [], alts := [], laidByText := true, laidKinds := [.data, .data, .data, .wider], laidTests := true, laidLooks := .later }
def FnExactNameOfPatternUptoCardSaid : Prop := Claim7.holds Tryz.pinned (.plain (OpenSpec.upto fnExactNameOfPatternSpec)) fnExactNameOfPatternUptoCard

/-- THE SECOND FORM's CARD OF 'laws.FnNames'. -/
def fnNamesUptoCard : Claim7 := { stood := { row := fnNamesUptoRow, standIns := [], harness := (true, "599c9ee5e72836d7e25f89b336bcc195576a86a84cc73cd8fef0b60b15f1e525"), looks := false }, kinds := [], alts := [], laidByText := true, laidKinds := [.data, .data, .data, .wider, .data], laidTests := true, laidLooks := .later }
def FnNamesUptoCardSaid : Prop := Claim7.holds Tryz.pinned (.plain (OpenSpec.upto fnNamesSpec)) fnNamesUptoCard

/-- THE SECOND FORM's CARD OF 'laws.FnCentred'. -/
def fnCentredUptoCard : Claim7 := { stood := { row := fnCentredUptoRow, standIns := [], harness := (true, "599c9ee5e72836d7e25f89b336bcc195576a86a84cc73cd8fef0b60b15f1e525"), looks := false }, kinds := [], alts := [], laidByText := true, laidKinds := [.wider], laidTests := true, laidLooks := .later }
def FnCentredUptoCardSaid : Prop := Claim7.holds Tryz.pinned (.plain (OpenSpec.upto fnCentredSpec)) fnCentredUptoCard

/-- THE SECOND FORM's CARD OF 'laws.FnCentreCounts'. -/
def fnCentreCountsUptoCard : Claim7 := { stood := { row := fnCentreCountsUptoRow, standIns := [], harness := (true, "599c9ee5e72836d7e25f89b336bcc195576a86a84cc73cd8fef0b60b15f1e525"), looks := false }, kinds := [], alts := [], laidByText := true, laidKinds := [.wider], laidTests := true, laidLooks := .later }
def FnCentreCountsUptoCardSaid : Prop := Claim7.holds Tryz.pinned (.plain (OpenSpec.upto fnCentreCountsSpec)) fnCentreCountsUptoCard

/-- THE SECOND FORM's CARD OF 'laws.FnPointParts'. -/
def fnPointPartsUptoCard : Claim7 := { stood := { row := fnPointPartsUptoRow, standIns := [], harness := (true, "599c9ee5e72836d7e25f89b336bcc195576a86a84cc73cd8fef0b60b15f1e525"), looks := false }, kinds := [], alts := [], laidByText := true, laidKinds := [.wider], laidTests := true, laidLooks := .later }
def FnPointPartsUptoCardSaid : Prop := Claim7.holds Tryz.pinned (.plain (OpenSpec.upto fnPointPartsSpec)) fnPointPartsUptoCard
end Rows
end Go.Proofs.YtjjfomokecngoaaGreatDoor
