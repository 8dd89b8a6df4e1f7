/-
  DERIVED. GIVEN WITH THE SEED: THE CARDS: each row of YtdgophfembpniaaGreatDoorRows.lean that lists a variable, with what it lists TIED to the program's text (the seventh form; the later family's looks); each row that meets fmt, with fmt's text TOLD by the authors' own Lean function (tested against real Go, not proved from fmt's source: count such statements apart). THE CARD IS WHAT COUNTS. Prove the row's statement (the work); the ties are given (YtdgophfembpniaaGreatDoorTie.lean); close each card by the builder's one call (the guide's Derived/Test/ToyasCard.lean, 'card_holds'). Laid BY PROGRAM, IN A SANDBOX (cutbox-door.mjs). By AI agents, Wed Nov 11 2026. No macro, syntax, notation, axiom, sorry.
-/
import Derived.Test.YtdgophfembpniaaGreatDoorRows
import GoSem.ClaimSeven
namespace Go.Proofs.YtdgophfembpniaaGreatDoor
namespace Rows

/-- THE TIED CARD OF 'laws.FnExactIsKept'. -/
def fnExactIsKeptCard : Claim7 := { stood := { row := fnExactIsKeptRow, standIns := [], harness := (true, "7176f0de2fd9013fb2af26a34ec4c6a00f80aad9842ecd7bf6db154be988f579"), looks := false }, kinds := [], alts := [], laidByText := true, laidKinds := [.wider], laidTests := true, laidLooks := .later }
def FnExactIsKeptCardSaid : Prop := Claim7.holds Tryz.pinned (.plain (OpenSpec.ofChange fnExactIsKeptSpec)) fnExactIsKeptCard

/-- THE TIED CARD OF 'laws.FnExactOrbitColours'. -/
def fnExactOrbitColoursCard : Claim7 := { stood := { row := fnExactOrbitColoursRow, standIns := [], harness := (true, "7176f0de2fd9013fb2af26a34ec4c6a00f80aad9842ecd7bf6db154be988f579"), looks := false }, kinds := [], alts := [], laidByText := true, laidKinds := [.wider], laidTests := true, laidLooks := .later }
def FnExactOrbitColoursCardSaid : Prop := Claim7.holds Tryz.pinned (.plain (OpenSpec.ofChange fnExactOrbitColoursSpec)) fnExactOrbitColoursCard

/-- THE TIED CARD OF 'laws.FnExactPaintOrbits'. -/
def fnExactPaintOrbitsCard : Claim7 := { stood := { row := fnExactPaintOrbitsRow, standIns := [], harness := (true, "7176f0de2fd9013fb2af26a34ec4c6a00f80aad9842ecd7bf6db154be988f579"), looks := false }, kinds := [], alts := [], laidByText := true, laidKinds := [.wider], laidTests := true, laidLooks := .later }
def FnExactPaintOrbitsCardSaid : Prop := Claim7.holds Tryz.pinned (.plain (OpenSpec.ofChange fnExactPaintOrbitsSpec)) fnExactPaintOrbitsCard

/-- THE TIED CARD OF 'laws.FnExactSeedPattern'. -/
def fnExactSeedPatternCard : Claim7 := { stood := { row := fnExactSeedPatternRow, standIns := [], harness := (true, "7176f0de2fd9013fb2af26a34ec4c6a00f80aad9842ecd7bf6db154be988f579"), looks := false }, kinds := [], alts := [], laidByText := true, laidKinds := [.wider], laidTests := true, laidLooks := .later }
def FnExactSeedPatternCardSaid : Prop := Claim7.holds Tryz.pinned (.plain (OpenSpec.ofChange fnExactSeedPatternSpec)) fnExactSeedPatternCard

/-- THE TIED CARD OF 'laws.FnExactCountKept'. -/
def fnExactCountKeptCard : Claim7 := { stood := { row := fnExactCountKeptRow, standIns := [], harness := (true, "7176f0de2fd9013fb2af26a34ec4c6a00f80aad9842ecd7bf6db154be988f579"), looks := false }, kinds := [], alts := [], laidByText := true, laidKinds := [.wider], laidTests := true, laidLooks := .later }
def FnExactCountKeptCardSaid : Prop := Claim7.holds Tryz.pinned (.plain (OpenSpec.ofChange fnExactCountKeptSpec)) fnExactCountKeptCard

/-- THE TIED CARD OF 'laws.FnPainted'. -/
def fnPaintedCard : Claim7 := { stood := { row := fnPaintedRow, standIns := [], harness := (true, "7176f0de2fd9013fb2af26a34ec4c6a00f80aad9842ecd7bf6db154be988f579"), looks := false }, kinds := [], alts := [], laidByText := true, laidKinds := [.wider], laidTests := true, laidLooks := .later }
def FnPaintedCardSaid : Prop := Claim7.holds Tryz.pinned (.plain (OpenSpec.ofChange fnPaintedSpec)) fnPaintedCard

/-- THE TIED CARD OF 'laws.FnSeeds'. -/
def fnSeedsCard : Claim7 := { stood := { row := fnSeedsRow, standIns := [], harness := (true, "7176f0de2fd9013fb2af26a34ec4c6a00f80aad9842ecd7bf6db154be988f579"), looks := false }, kinds := [], alts := [], laidByText := true, laidKinds := [.wider], laidTests := true, laidLooks := .later }
def FnSeedsCardSaid : Prop := Claim7.holds Tryz.pinned (.plain (OpenSpec.ofChange fnSeedsSpec)) fnSeedsCard

/-- THE SECOND FORM's CARD OF 'laws.FnExactIsKept'. -/
def fnExactIsKeptUptoCard : Claim7 := { stood := { row := fnExactIsKeptUptoRow, standIns := [], harness := (true, "7176f0de2fd9013fb2af26a34ec4c6a00f80aad9842ecd7bf6db154be988f579"), looks := false }, kinds := [], alts := [], laidByText := true, laidKinds := [.wider], laidTests := true, laidLooks := .later }
def FnExactIsKeptUptoCardSaid : Prop := Claim7.holds Tryz.pinned (.plain (OpenSpec.upto fnExactIsKeptSpec)) fnExactIsKeptUptoCard

/-- THE SECOND FORM's CARD OF 'laws.FnExactOrbitColours'. -/
def fnExactOrbitColoursUptoCard : Claim7 := { stood := { row := fnExactOrbitColoursUptoRow, standIns := [], harness := (true, "7176f0de2fd9013fb2af26a34ec4c6a00f80aad9842ecd7bf6db154be988f579"), looks := false }, kinds := [], alts := [], laidByText := true, laidKinds := [.wider], laidTests := true, laidLooks := .later }
def FnExactOrbitColoursUptoCardSaid : Prop := Claim7.holds Tryz.pinned (.plain (OpenSpec.upto fnExactOrbitColoursSpec)) fnExactOrbitColoursUptoCard

/-- THE SECOND FORM's CARD OF 'laws.FnExactPaintOrbits'. -/
def fnExactPaintOrbitsUptoCard : Claim7 := { stood := { row := fnExactPaintOrbitsUptoRow, standIns := [], harness := (true, "7176f0de2fd9013fb2af26a34ec4c6a00f80aad9842ecd7bf6db154be988f579"), looks := false }, kinds := [], alts := [], laidByText := true, laidKinds := [.wider], laidTests := true, laidLooks := .later }
def FnExactPaintOrbitsUptoCardSaid : Prop := Claim7.holds Tryz.pinned (.plain (OpenSpec.upto fnExactPaintOrbitsSpec)) fnExactPaintOrbitsUptoCard

/-- THE SECOND FORM's CARD OF 'laws.FnExactSeedPattern'. -/
def fnExactSeedPatternUptoCard : Claim7 := { stood := { row := fnExactSeedPatternUptoRow, standIns := [], harness := (true, "7176f0de2fd9013fb2af26a34ec4c6a00f80aad9842ecd7bf6db154be988f579"), looks := false }, kinds := [], alts := [], laidByText := true, laidKinds := [.wider], laidTests := true, laidLooks := .later }
def FnExactSeedPatternUptoCardSaid : Prop := Claim7.holds Tryz.pinned (.plain (OpenSpec.upto fnExactSeedPatternSpec)) fnExactSeedPatternUptoCard

/-- THE SECOND FORM's CARD OF 'laws.FnExactCountKept'. -/
def fnExactCountKeptUptoCard : Claim7 := { stood := { row := fnExactCountKeptUptoRow, standIns := [], harness := (true, "7176f0de2fd9013fb2af26a34ec4c6a00f80aad9842ecd7bf6db154be988f579"), looks := false }, kinds := [], alts := [], laidByText := true, laidKinds := [.wider], laidTests := true, laidLooks := .later }
def FnExactCountKeptUptoCardSaid : Prop := Claim7.holds Tryz.pinned (.plain (OpenSpec.upto fnExactCountKeptSpec)) fnExactCountKeptUptoCard

/-- THE SECOND FORM's CARD OF 'laws.FnPainted'. -/
def fnPaintedUptoCard : Claim7 := { stood := { row := fnPaintedUptoRow, standIns := [], harness := (true, "7176f0de2fd9013fb2af26a34ec4c6a00f80aad9842ecd7bf6db154be988f579"), looks := false }, kinds := [], alts := [], laidByText := true, laidKinds := [.wider], laidTests := true, laidLooks := .later }
def FnPaintedUptoCardSaid : Prop := Claim7.holds Tryz.pinned (.plain (OpenSpec.upto fnPaintedSpec)) fnPaintedUptoCard

/-- THE SECOND FORM's CARD OF 'laws.FnSeeds'. -/
def fnSeedsUptoCard : Claim7 := { stood := { row := fnSeedsUptoRow, standIns := [], harness := (true, "7176f0de2fd9013fb2af26a34ec4c6a00f80aad9842ecd7bf6db154be988f579"), looks := false }, kinds := [], alts := [], laidByText := true, laidKinds := [.wider], laidTests := true, laidLooks := .later }
def FnSeedsUptoCardSaid : Prop := Claim7.holds Tryz.pinned (.plain (OpenSpec.upto fnSeedsSpec)) fnSeedsUptoCard
end Rows
end Go.Proofs.YtdgophfembpniaaGreatDoor
