/-
  DERIVED. GIVEN WITH THE SEED: THE CARDS: each row of YtodkomaeljbhaaaGreatDoorRows.lean that lists a variable, with what it lists TIED to the program's text (the seventh form; the later family's looks); each row that meets fmt, with fmt's text TOLD by the authors' own Lean function (tested against real Go, not proved from fmt's source: count such statements apart). THE CARD IS WHAT COUNTS. Prove the row's statement (the work); the ties are given (YtodkomaeljbhaaaGreatDoorTie.lean); close each card by the builder's one call (the guide's Derived/Test/ToyasCard.lean, 'card_holds'). Laid BY PROGRAM, IN A SANDBOX (cutbox-door.mjs). By AI agents, Wed Nov 11 2026. No macro, syntax, notation, axiom, sorry.
-/
import Derived.Test.YtodkomaeljbhaaaGreatDoorRows
import GoSem.ClaimSeven
namespace Go.Proofs.YtodkomaeljbhaaaGreatDoor
namespace Rows

/-- THE TIED CARD OF 'laws.FnExactFactsOf'. -/
def fnExactFactsOfCard : Claim7 := { stood := { row := fnExactFactsOfRow, standIns := [], harness := (true, "19e354ab4e452dd34c78eb967aaab556ddd5cbd916c2a4d2f28f7d19305d0a93"), looks := false }, kinds := [], alts := [], laidByText := true, laidKinds := [.wider], laidTests := true, laidLooks := .later }
def FnExactFactsOfCardSaid : Prop := Claim7.holds Tryz.pinned (.plain (OpenSpec.ofChange fnExactFactsOfSpec)) fnExactFactsOfCard

/-- THE TIED CARD OF 'laws.FnExactRotationOrder'. -/
def fnExactRotationOrderCard : Claim7 := { stood := { row := fnExactRotationOrderRow, standIns := [], harness := (true, "19e354ab4e452dd34c78eb967aaab556ddd5cbd916c2a4d2f28f7d19305d0a93"), looks := false }, kinds := [], alts := [], laidByText := true, laidKinds := [.wider], laidTests := true, laidLooks := .later }
def FnExactRotationOrderCardSaid : Prop := Claim7.holds Tryz.pinned (.plain (OpenSpec.ofChange fnExactRotationOrderSpec)) fnExactRotationOrderCard

/-- THE TIED CARD OF 'laws.FnExactCountCentres'. -/
def fnExactCountCentresCard : Claim7 := { stood := { row := fnExactCountCentresRow, standIns := [], harness := (true, "19e354ab4e452dd34c78eb967aaab556ddd5cbd916c2a4d2f28f7d19305d0a93"), looks := false }, kinds := [], alts := [], laidByText := true, laidKinds := [.wider], laidTests := true, laidLooks := .later }
def FnExactCountCentresCardSaid : Prop := Claim7.holds Tryz.pinned (.plain (OpenSpec.ofChange fnExactCountCentresSpec)) fnExactCountCentresCard

/-- THE TIED CARD OF 'laws.FnExactShiftsOf'. -/
def fnExactShiftsOfCard : Claim7 := { stood := { row := fnExactShiftsOfRow, standIns := [], harness := (true, "19e354ab4e452dd34c78eb967aaab556ddd5cbd916c2a4d2f28f7d19305d0a93"), looks := false }, kinds := [], alts := [], laidByText := true, laidKinds := [.wider], laidTests := true, laidLooks := .later }
def FnExactShiftsOfCardSaid : Prop := Claim7.holds Tryz.pinned (.plain (OpenSpec.ofChange fnExactShiftsOfSpec)) fnExactShiftsOfCard

/-- THE SECOND FORM's CARD OF 'laws.FnExactFactsOf'. -/
def fnExactFactsOfUptoCard : Claim7 := { stood := { row := fnExactFactsOfUptoRow, standIns := [], harness := (true, "19e354ab4e452dd34c78eb967aaab556ddd5cbd916c2a4d2f28f7d19305d0a93"), looks := false }, kinds := [], alts := [], laidByText := true, laidKinds := [.wider], laidTests := true, laidLooks := .later }
def FnExactFactsOfUptoCardSaid : Prop := Claim7.holds Tryz.pinned (.plain (OpenSpec.upto fnExactFactsOfSpec)) fnExactFactsOfUptoCard

/-- THE SECOND FORM's CARD OF 'laws.FnExactRotationOrder'. -/
def fnExactRotationOrderUptoCard : Claim7 := { stood := { row := fnExactRotationOrderUptoRow, standIns := [], harness := (true, "19e354ab4e452dd34c78eb967aaab556ddd5cbd916c2a4d2f28f7d19305d0a93"), looks := false }, kinds := [], alts := [], laidByText := true, laidKinds := [.wider], laidTests := true, laidLooks := .later }
def FnExactRotationOrderUptoCardSaid : Prop := Claim7.holds Tryz.pinned (.plain (OpenSpec.upto fnExactRotationOrderSpec)) fnExactRotationOrderUptoCard

/-- THE SECOND FORM's CARD OF 'laws.FnExactCountCentres'. -/
def fnExactCountCentresUptoCard : Claim7 := { stood := { row := fnExactCountCentresUptoRow, standIns := [], harness := (true, "19e354ab4e452dd34c78eb967aaab556ddd5cbd916c2a4d2f28f7d19305d0a93"), looks := false }, kinds := [], alts := [], laidByText := true, laidKinds := [.wider], laidTests := true, laidLooks := .later }
def FnExactCountCentresUptoCardSaid : Prop := Claim7.holds Tryz.pinned (.plain (OpenSpec.upto fnExactCountCentresSpec)) fnExactCountCentresUptoCard

/-- THE SECOND FORM's CARD OF 'laws.FnExactShiftsOf'. -/
def fnExactShiftsOfUptoCard : Claim7 := { stood := { row := fnExactShiftsOfUptoRow, standIns := [], harness := (true, "19e354ab4e452dd34c78eb967aaab556ddd5cbd916c2a4d2f28f7d19305d0a93"), looks := false }, kinds := [], alts := [], laidByText := true, laidKinds := [.wider], laidTests := true, laidLooks := .later }
def FnExactShiftsOfUptoCardSaid : Prop := Claim7.holds Tryz.pinned (.plain (OpenSpec.upto fnExactShiftsOfSpec)) fnExactShiftsOfUptoCard
end Rows
end Go.Proofs.YtodkomaeljbhaaaGreatDoor
