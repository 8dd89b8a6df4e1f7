/-
  DERIVED. GIVEN WITH THE SEED: THE CARDS: each row of YtkfeajjpbmbmpaaGreatDoorRows.lean that lists a variable, with what it lists TIED to the program's text (the seventh form; the later family's looks); each row that meets fmt, with fmt's text TOLD by the authors' own Lean function (tested against real Go, not proved from fmt's source: count such statements apart). THE CARD IS WHAT COUNTS. Prove the row's statement (the work); the ties are given (YtkfeajjpbmbmpaaGreatDoorTie.lean); close each card by the builder's one call (the guide's Derived/Test/ToyasCard.lean, 'card_holds'). Laid BY PROGRAM, IN A SANDBOX (cutbox-door.mjs). By AI agents, Wed Nov 11 2026. No macro, syntax, notation, axiom, sorry.
-/
import Derived.Test.YtkfeajjpbmbmpaaGreatDoorRows
import GoSem.ClaimSeven
namespace Go.Proofs.YtkfeajjpbmbmpaaGreatDoor
namespace Rows

/-- THE TIED CARD OF 'laws.FnCentred'. -/
def fnCentredCard : Claim7 := { stood := { row := fnCentredRow, standIns := [], harness := (true, "b69dee3cb1ab8e5f2f3d0bfdd56774be8722d8da0b7885af87da4a2af1f3cc83"), looks := false }, kinds := [], alts := [], laidByText := true, laidKinds := [.wider], laidTests := true, laidLooks := .later }
def FnCentredCardSaid : Prop := Claim7.holds Tryz.pinned (.plain (OpenSpec.ofChange fnCentredSpec)) fnCentredCard

/-- THE TIED CARD OF 'laws.FnCentreCounts'. -/
def fnCentreCountsCard : Claim7 := { stood := { row := fnCentreCountsRow, standIns := [], harness := (true, "b69dee3cb1ab8e5f2f3d0bfdd56774be8722d8da0b7885af87da4a2af1f3cc83"), looks := false }, kinds := [], alts := [], laidByText := true, laidKinds := [.wider], laidTests := true, laidLooks := .later }
def FnCentreCountsCardSaid : Prop := Claim7.holds Tryz.pinned (.plain (OpenSpec.ofChange fnCentreCountsSpec)) fnCentreCountsCard

/-- THE TIED CARD OF 'laws.FnPointParts'. -/
def fnPointPartsCard : Claim7 := { stood := { row := fnPointPartsRow, standIns := [], harness := (true, "b69dee3cb1ab8e5f2f3d0bfdd56774be8722d8da0b7885af87da4a2af1f3cc83"), looks := false }, kinds := [], alts := [], laidByText := true, laidKinds := [.wider], laidTests := true, laidLooks := .later }
def FnPointPartsCardSaid : Prop := Claim7.holds Tryz.pinned (.plain (OpenSpec.ofChange fnPointPartsSpec)) fnPointPartsCard

/-- THE TIED CARD OF 'laws.FnNames'. -/
def fnNamesCard : Claim7 := { stood := { row := fnNamesRow, standIns := [], harness := (true, "b69dee3cb1ab8e5f2f3d0bfdd56774be8722d8da0b7885af87da4a2af1f3cc83"), looks := false }, kinds := [], alts := [], laidByText := true, laidKinds := [.data, .data, .data, .wider, .data], laidTests := true, laidLooks := .later }
def FnNamesCardSaid : Prop := Claim7.holds Tryz.pinned (.plain (OpenSpec.ofChange fnNamesSpec)) fnNamesCard

/-- THE TIED CARD OF 'laws.FnClosures'. -/
def fnClosuresCard : Claim7 := { stood := { row := fnClosuresRow, standIns := [], harness := (true, "b69dee3cb1ab8e5f2f3d0bfdd56774be8722d8da0b7885af87da4a2af1f3cc83"), looks := false }, kinds := [], alts := [], laidByText := true, laidKinds := [.wider], laidTests := true, laidLooks := .later }
def FnClosuresCardSaid : Prop := Claim7.holds Tryz.pinned (.plain (OpenSpec.ofChange fnClosuresSpec)) fnClosuresCard

/-- THE TIED CARD OF 'laws.FnMeets'. -/
def fnMeetsCard : Claim7 := { stood := { row := fnMeetsRow, standIns := [], harness := (true, "b69dee3cb1ab8e5f2f3d0bfdd56774be8722d8da0b7885af87da4a2af1f3cc83"), looks := false }, kinds := [], alts := [], laidByText := true, laidKinds := [.wider], laidTests := true, laidLooks := .later }
def FnMeetsCardSaid : Prop := Claim7.holds Tryz.pinned (.plain (OpenSpec.ofChange fnMeetsSpec)) fnMeetsCard

/-- THE TIED CARD OF 'laws.FnOrbits'. -/
def fnOrbitsCard : Claim7 := { stood := { row := fnOrbitsRow, standIns := [], harness := (true, "b69dee3cb1ab8e5f2f3d0bfdd56774be8722d8da0b7885af87da4a2af1f3cc83"), looks := false }, kinds := [], alts := [], laidByText := true, laidKinds := [.wider], laidTests := true, laidLooks := .later }
def FnOrbitsCardSaid : Prop := Claim7.holds Tryz.pinned (.plain (OpenSpec.ofChange fnOrbitsSpec)) fnOrbitsCard

/-- THE TIED CARD OF 'laws.FnStabilisers'. -/
def fnStabilisersCard : Claim7 := { stood := { row := fnStabilisersRow, standIns := [], harness := (true, "b69dee3cb1ab8e5f2f3d0bfdd56774be8722d8da0b7885af87da4a2af1f3cc83"), looks := false }, kinds := [], alts := [], laidByText := true, laidKinds := [.wider], laidTests := true, laidLooks := .later }
def FnStabilisersCardSaid : Prop := Claim7.holds Tryz.pinned (.plain (OpenSpec.ofChange fnStabilisersSpec)) fnStabilisersCard

/-- THE SECOND FORM's CARD OF 'laws.FnCentred'. -/
def fnCentredUptoCard : Claim7 := { stood := { row := fnCentredUptoRow, standIns := [], harness := (true, "b69dee3cb1ab8e5f2f3d0bfdd56774be8722d8da0b7885af87da4a2af1f3cc83"), looks := false }, kinds := [], alts := [], laidByText := true, laidKinds := [.wider], laidTests := true, laidLooks := .later }
def FnCentredUptoCardSaid : Prop := Claim7.holds Tryz.pinned (.plain (OpenSpec.upto fnCentredSpec)) fnCentredUptoCard

/-- THE SECOND FORM's CARD OF 'laws.FnCentreCounts'. -/
def fnCentreCountsUptoCard : Claim7 := { stood := { row := fnCentreCountsUptoRow, standIns := [], harness := (true, "b69dee3cb1ab8e5f2f3d0bfdd56774be8722d8da0b7885af87da4a2af1f3cc83"), looks := false }, kinds := [], alts := [], laidByText := true, laidKinds := [.wider], laidTests := true, laidLooks := .later }
def FnCentreCountsUptoCardSaid : Prop := Claim7.holds Tryz.pinned (.plain (OpenSpec.upto fnCentreCountsSpec)) fnCentreCountsUptoCard

/-- THE SECOND FORM's CARD OF 'laws.FnPointParts'. -/
def fnPointPartsUptoCard : Claim7 := { stood := { row := fnPointPartsUptoRow, standIns := [], harness := (true, "b69dee3cb1ab8e5f2f3d0bfdd56774be8722d8da0b7885af87da4a2af1f3cc83"), looks := false }, kinds := [], alts := [], laidByText := true, laidKinds := [.wider], laidTests := true, laidLooks := .later }
def FnPointPartsUptoCardSaid : Prop := Claim7.holds Tryz.pinned (.plain (OpenSpec.upto fnPointPartsSpec)) fnPointPartsUptoCard

/-- THE SECOND FORM's CARD OF 'laws.FnNames'. -/
def fnNamesUptoCard : Claim7 := { stood := { row := fnNamesUptoRow, standIns := [], harness := (true, "b69dee3cb1ab8e5f2f3d0bfdd56774be8722d8da0b7885af87da4a2af1f3cc83"), looks := false }, kinds := [], alts := [], laidByText := true, laidKinds := [.data, .data, .data, .wider, .data], laidTests := true, laidLooks := .later }
def FnNamesUptoCardSaid : Prop := Claim7.holds Tryz.pinned (.plain (OpenSpec.upto fnNamesSpec)) fnNamesUptoCard

/-- THE SECOND FORM's CARD OF 'laws.FnClosures'. -/
def fnClosuresUptoCard : Claim7 := { stood := { row := fnClosuresUptoRow, standIns := [], harness := (true, "b69dee3cb1ab8e5f2f3d0bfdd56774be8722d8da0b7885af87da4a2af1f3cc83"), looks := false }, kinds := [], alts := [], laidByText := true, laidKinds := [.wider], laidTests := true, laidLooks := .later }
def FnClosuresUptoCardSaid : Prop := Claim7.holds Tryz.pinned (.plain (OpenSpec.upto fnClosuresSpec)) fnClosuresUptoCard

/-- THE SECOND FORM's CARD OF 'laws.FnMeets'. -/
def fnMeetsUptoCard : Claim7 := { stood := { row := fnMeetsUptoRow, standIns := [], harness := (true, "b69dee3cb1ab8e5f2f3d0bfdd56774be8722d8da0b7885af87da4a2af1f3cc83"), looks := false }, kinds := [], alts := [], laidByText := true, laidKinds := [.wider], laidTests := true, laidLooks := .later }
def FnMeetsUptoCardSaid : Prop := Claim7.holds Tryz.pinned (.plain (OpenSpec.upto fnMeetsSpec)) fnMeetsUptoCard

/-- THE SECOND FORM's CARD OF 'laws.FnOrbits'. -/
def fnOrbitsUptoCard : Claim7 := { stood := { row := fnOrbitsUptoRow, standIns := [], harness := (true, "b69dee3cb1ab8e5f2f3d0bfdd56774be8722d8da0b7885af87da4a2af1f3cc83"), looks := false }, kinds := [], alts := [], laidByText := true, laidKinds := [.wider], laidTests := true, laidLooks := .later }
def FnOrbitsUptoCardSaid : Prop := Claim7.holds Tryz.pinned (.plain (OpenSpec.upto fnOrbitsSpec)) fnOrbitsUptoCard

/-- THE SECOND FORM's CARD OF 'laws.FnStabilisers'. -/
def fnStabilisersUptoCard : Claim7 := { stood := { row := fnStabilisersUptoRow, standIns := [], harness := (true, "b69dee3cb1ab8e5f2f3d0bfdd56774be8722d8da0b7885af87da4a2af1f3cc83"), looks := false }, kinds := [], alts := [], laidByText := true, laidKinds := [.wider], laidTests := true, laidLooks := .later }
def FnStabilisersUptoCardSaid : Prop := Claim7.holds Tryz.pinned (.plain (OpenSpec.upto fnStabilisersSpec)) fnStabilisersUptoCard
end Rows
end Go.Proofs.YtkfeajjpbmbmpaaGreatDoor
