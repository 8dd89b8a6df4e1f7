/-
  DERIVED. GIVEN WITH THE SEED: THE CARDS: each row of YtngpoaglildbnaaGreatDoorRows.lean that lists a variable, with what it lists TIED to the program's text (the seventh form; the later family's looks); each row that meets fmt, with fmt's text TOLD by the authors' own Lean function (tested against real Go, not proved from fmt's source: count such statements apart). THE CARD IS WHAT COUNTS. Prove the row's statement (the work); the ties are given (YtngpoaglildbnaaGreatDoorTie.lean); close each card by the builder's one call (the guide's Derived/Test/ToyasCard.lean, 'card_holds'). Laid BY PROGRAM, IN A SANDBOX (cutbox-door.mjs). By AI agents, Wed Nov 11 2026. No macro, syntax, notation, axiom, sorry.
-/
import Derived.Test.YtngpoaglildbnaaGreatDoorRows
import GoSem.ClaimSeven
namespace Go.Proofs.YtngpoaglildbnaaGreatDoor
namespace Rows

/-- THE TIED CARD OF 'laws.FnExactStabiliserOf'. -/
def fnExactStabiliserOfCard : Claim7 := { stood := { row := fnExactStabiliserOfRow, standIns := [], harness := (true, "673dc17492be6770c38ae8a462b35ac52d608a0ea968ad9bcadbef95b15df56f"), looks := false }, kinds := [], alts := [], laidByText := true, laidKinds := [.wider], laidTests := true, laidLooks := .later }
def FnExactStabiliserOfCardSaid : Prop := Claim7.holds Tryz.pinned (.plain (OpenSpec.ofChange fnExactStabiliserOfSpec)) fnExactStabiliserOfCard

/-- THE TIED CARD OF 'laws.FnExactMoverOf'. -/
def fnExactMoverOfCard : Claim7 := { stood := { row := fnExactMoverOfRow, standIns := [], harness := (true, "673dc17492be6770c38ae8a462b35ac52d608a0ea968ad9bcadbef95b15df56f"), looks := false }, kinds := [], alts := [], laidByText := true, laidKinds := [.wider], laidTests := true, laidLooks := .later }
def FnExactMoverOfCardSaid : Prop := Claim7.holds Tryz.pinned (.plain (OpenSpec.ofChange fnExactMoverOfSpec)) fnExactMoverOfCard

/-- THE TIED CARD OF 'laws.FnExactShiftedGroup'. -/
def fnExactShiftedGroupCard : Claim7 := { stood := { row := fnExactShiftedGroupRow, standIns := [], harness := (true, "673dc17492be6770c38ae8a462b35ac52d608a0ea968ad9bcadbef95b15df56f"), looks := false }, kinds := [], alts := [], laidByText := true, laidKinds := [.wider], laidTests := true, laidLooks := .later }
def FnExactShiftedGroupCardSaid : Prop := Claim7.holds Tryz.pinned (.plain (OpenSpec.ofChange fnExactShiftedGroupSpec)) fnExactShiftedGroupCard

/-- THE TIED CARD OF 'laws.FnExactOrbitOf'. -/
def fnExactOrbitOfCard : Claim7 := { stood := { row := fnExactOrbitOfRow, standIns := [], harness := (true, "673dc17492be6770c38ae8a462b35ac52d608a0ea968ad9bcadbef95b15df56f"), looks := false }, kinds := [], alts := [], laidByText := true, laidKinds := [.wider], laidTests := true, laidLooks := .later }
def FnExactOrbitOfCardSaid : Prop := Claim7.holds Tryz.pinned (.plain (OpenSpec.ofChange fnExactOrbitOfSpec)) fnExactOrbitOfCard

/-- THE TIED CARD OF 'laws.FnExactOrbitsOf'. -/
def fnExactOrbitsOfCard : Claim7 := { stood := { row := fnExactOrbitsOfRow, standIns := [], harness := (true, "673dc17492be6770c38ae8a462b35ac52d608a0ea968ad9bcadbef95b15df56f"), looks := false }, kinds := [], alts := [], laidByText := true, laidKinds := [.wider], laidTests := true, laidLooks := .later }
def FnExactOrbitsOfCardSaid : Prop := Claim7.holds Tryz.pinned (.plain (OpenSpec.ofChange fnExactOrbitsOfSpec)) fnExactOrbitsOfCard

/-- THE TIED CARD OF 'laws.FnExactOrbitNumbers'. -/
def fnExactOrbitNumbersCard : Claim7 := { stood := { row := fnExactOrbitNumbersRow, standIns := [], harness := (true, "673dc17492be6770c38ae8a462b35ac52d608a0ea968ad9bcadbef95b15df56f"), looks := false }, kinds := [], alts := [], laidByText := true, laidKinds := [.wider], laidTests := true, laidLooks := .later }
def FnExactOrbitNumbersCardSaid : Prop := Claim7.holds Tryz.pinned (.plain (OpenSpec.ofChange fnExactOrbitNumbersSpec)) fnExactOrbitNumbersCard

/-- THE TIED CARD OF 'laws.FnExactCountOrbits'. -/
def fnExactCountOrbitsCard : Claim7 := { stood := { row := fnExactCountOrbitsRow, standIns := [], harness := (true, "673dc17492be6770c38ae8a462b35ac52d608a0ea968ad9bcadbef95b15df56f"), looks := false }, kinds := [], alts := [], laidByText := true, laidKinds := [.wider], laidTests := true, laidLooks := .later }
def FnExactCountOrbitsCardSaid : Prop := Claim7.holds Tryz.pinned (.plain (OpenSpec.ofChange fnExactCountOrbitsSpec)) fnExactCountOrbitsCard

/-- THE SECOND FORM's CARD OF 'laws.FnExactStabiliserOf'. -/
def fnExactStabiliserOfUptoCard : Claim7 := { stood := { row := fnExactStabiliserOfUptoRow, standIns := [], harness := (true, "673dc17492be6770c38ae8a462b35ac52d608a0ea968ad9bcadbef95b15df56f"), looks := false }, kinds := [], alts := [], laidByText := true, laidKinds := [.wider], laidTests := true, laidLooks := .later }
def FnExactStabiliserOfUptoCardSaid : Prop := Claim7.holds Tryz.pinned (.plain (OpenSpec.upto fnExactStabiliserOfSpec)) fnExactStabiliserOfUptoCard

/-- THE SECOND FORM's CARD OF 'laws.FnExactMoverOf'. -/
def fnExactMoverOfUptoCard : Claim7 := { stood := { row := fnExactMoverOfUptoRow, standIns := [], harness := (true, "673dc17492be6770c38ae8a462b35ac52d608a0ea968ad9bcadbef95b15df56f"), looks := false }, kinds := [], alts := [], laidByText := true, laidKinds := [.wider], laidTests := true, laidLooks := .later }
def FnExactMoverOfUptoCardSaid : Prop := Claim7.holds Tryz.pinned (.plain (OpenSpec.upto fnExactMoverOfSpec)) fnExactMoverOfUptoCard

/-- THE SECOND FORM's CARD OF 'laws.FnExactShiftedGroup'. -/
def fnExactShiftedGroupUptoCard : Claim7 := { stood := { row := fnExactShiftedGroupUptoRow, standIns := [], harness := (true, "673dc17492be6770c38ae8a462b35ac52d608a0ea968ad9bcadbef95b15df56f"), looks := false }, kinds := [], alts := [], laidByText := true, laidKinds := [.wider], laidTests := true, laidLooks := .later }
def FnExactShiftedGroupUptoCardSaid : Prop := Claim7.holds Tryz.pinned (.plain (OpenSpec.upto fnExactShiftedGroupSpec)) fnExactShiftedGroupUptoCard

/-- THE SECOND FORM's CARD OF 'laws.FnExactOrbitOf'. -/
def fnExactOrbitOfUptoCard : Claim7 := { stood := { row := fnExactOrbitOfUptoRow, standIns := [], harness := (true, "673dc17492be6770c38ae8a462b35ac52d608a0ea968ad9bcadbef95b15df56f"), looks := false }, kinds := [], alts := [], laidByText := true, laidKinds := [.wider], laidTests := true, laidLooks := .later }
def FnExactOrbitOfUptoCardSaid : Prop := Claim7.holds Tryz.pinned (.plain (OpenSpec.upto fnExactOrbitOfSpec)) fnExactOrbitOfUptoCard

/-- THE SECOND FORM's CARD OF 'laws.FnExactOrbitsOf'. -/
def fnExactOrbitsOfUptoCard : Claim7 := { stood := { row := fnExactOrbitsOfUptoRow, standIns := [], harness := (true, "673dc17492be6770c38ae8a462b35ac52d608a0ea968ad9bcadbef95b15df56f"), looks := false }, kinds := [], alts := [], laidByText := true, laidKinds := [.wider], laidTests := true, laidLooks := .later }
def FnExactOrbitsOfUptoCardSaid : Prop := Claim7.holds Tryz.pinned (.plain (OpenSpec.upto fnExactOrbitsOfSpec)) fnExactOrbitsOfUptoCard

/-- THE SECOND FORM's CARD OF 'laws.FnExactOrbitNumbers'. -/
def fnExactOrbitNumbersUptoCard : Claim7 := { stood := { row := fnExactOrbitNumbersUptoRow, standIns := [], harness := (true, "673dc17492be6770c38ae8a462b35ac52d608a0ea968ad9bcadbef95b15df56f"), looks := false }, kinds := [], alts := [], laidByText := true, laidKinds := [.wider], laidTests := true, laidLooks := .later }
def FnExactOrbitNumbersUptoCardSaid : Prop := Claim7.holds Tryz.pinned (.plain (OpenSpec.upto fnExactOrbitNumbersSpec)) fnExactOrbitNumbersUptoCard

/-- THE SECOND FORM's CARD OF 'laws.FnExactCountOrbits'. -/
def fnExactCountOrbitsUptoCard : Claim7 := { stood := { row := fnExactCountOrbitsUptoRow, standIns := [], harness := (true, "673dc17492be6770c38ae8a462b35ac52d608a0ea968ad9bcadbef95b15df56f"), looks := false }, kinds := [], alts := [], laidByText := true, laidKinds := [.wider], laidTests := true, laidLooks := .later }
def FnExactCountOrbitsUptoCardSaid : Prop := Claim7.holds Tryz.pinned (.plain (OpenSpec.upto fnExactCountOrbitsSpec)) fnExactCountOrbitsUptoCard
end Rows
end Go.Proofs.YtngpoaglildbnaaGreatDoor
