/-
  DERIVED. GIVEN WITH THE SEED: THE CARDS: each row of YtmadgbbkkkibcaaGreatDoorRows.lean that lists a variable, with what it lists TIED to the program's text (the seventh form; the later family's looks); each row that meets fmt, with fmt's text TOLD by the authors' own Lean function (tested against real Go, not proved from fmt's source: count such statements apart). THE CARD IS WHAT COUNTS. Prove the row's statement (the work); the ties are given (YtmadgbbkkkibcaaGreatDoorTie.lean); close each card by the builder's one call (the guide's Derived/Test/ToyasCard.lean, 'card_holds'). Laid BY PROGRAM, IN A SANDBOX (cutbox-door.mjs). By AI agents, Wed Nov 11 2026. No macro, syntax, notation, axiom, sorry.
-/
import Derived.Test.YtmadgbbkkkibcaaGreatDoorRows
import GoSem.ClaimSeven
namespace Go.Proofs.YtmadgbbkkkibcaaGreatDoor
namespace Rows

/-- THE TIED CARD OF 'laws.FnClosures'. -/
def fnClosuresCard : Claim7 := { stood := { row := fnClosuresRow, standIns := [], harness := (true, "077ccf7b9ecdc18bd5477b53ecded67dc49a7fcd45a00275fa44ad7972e57ac8"), looks := false }, kinds := [], alts := [], laidByText := true, laidKinds := [.wider], laidTests := true, laidLooks := .later }
def FnClosuresCardSaid : Prop := Claim7.holds Tryz.pinned (.plain (OpenSpec.ofChange fnClosuresSpec)) fnClosuresCard

/-- THE TIED CARD OF 'laws.FnMeets'. -/
def fnMeetsCard : Claim7 := { stood := { row := fnMeetsRow, standIns := [], harness := (true, "077ccf7b9ecdc18bd5477b53ecded67dc49a7fcd45a00275fa44ad7972e57ac8"), looks := false }, kinds := [], alts := [], laidByText := true, laidKinds := [.wider], laidTests := true, laidLooks := .later }
def FnMeetsCardSaid : Prop := Claim7.holds Tryz.pinned (.plain (OpenSpec.ofChange fnMeetsSpec)) fnMeetsCard

/-- THE TIED CARD OF 'laws.FnExactIsGroup'. -/
def fnExactIsGroupCard : Claim7 := { stood := { row := fnExactIsGroupRow, standIns := [], harness := (true, "077ccf7b9ecdc18bd5477b53ecded67dc49a7fcd45a00275fa44ad7972e57ac8"), looks := false }, kinds := [], alts := [], laidByText := true, laidKinds := [.wider], laidTests := true, laidLooks := .later }
def FnExactIsGroupCardSaid : Prop := Claim7.holds Tryz.pinned (.plain (OpenSpec.ofChange fnExactIsGroupSpec)) fnExactIsGroupCard

/-- THE TIED CARD OF 'laws.FnExactCloseGroup'. -/
def fnExactCloseGroupCard : Claim7 := { stood := { row := fnExactCloseGroupRow, standIns := [], harness := (true, "077ccf7b9ecdc18bd5477b53ecded67dc49a7fcd45a00275fa44ad7972e57ac8"), looks := false }, kinds := [], alts := [], laidByText := true, laidKinds := [.wider], laidTests := true, laidLooks := .later }
def FnExactCloseGroupCardSaid : Prop := Claim7.holds Tryz.pinned (.plain (OpenSpec.ofChange fnExactCloseGroupSpec)) fnExactCloseGroupCard

/-- THE TIED CARD OF 'laws.FnExactPointPart'. -/
def fnExactPointPartCard : Claim7 := { stood := { row := fnExactPointPartRow, standIns := [], harness := (true, "077ccf7b9ecdc18bd5477b53ecded67dc49a7fcd45a00275fa44ad7972e57ac8"), looks := false }, kinds := [], alts := [], laidByText := true, laidKinds := [.wider], laidTests := true, laidLooks := .later }
def FnExactPointPartCardSaid : Prop := Claim7.holds Tryz.pinned (.plain (OpenSpec.ofChange fnExactPointPartSpec)) fnExactPointPartCard

/-- THE TIED CARD OF 'laws.FnExactShiftsOf'. -/
def fnExactShiftsOfCard : Claim7 := { stood := { row := fnExactShiftsOfRow, standIns := [], harness := (true, "077ccf7b9ecdc18bd5477b53ecded67dc49a7fcd45a00275fa44ad7972e57ac8"), looks := false }, kinds := [], alts := [], laidByText := true, laidKinds := [.wider], laidTests := true, laidLooks := .later }
def FnExactShiftsOfCardSaid : Prop := Claim7.holds Tryz.pinned (.plain (OpenSpec.ofChange fnExactShiftsOfSpec)) fnExactShiftsOfCard

/-- THE TIED CARD OF 'laws.FnExactMeetGroups'. -/
def fnExactMeetGroupsCard : Claim7 := { stood := { row := fnExactMeetGroupsRow, standIns := [], harness := (true, "077ccf7b9ecdc18bd5477b53ecded67dc49a7fcd45a00275fa44ad7972e57ac8"), looks := false }, kinds := [], alts := [], laidByText := true, laidKinds := [.wider], laidTests := true, laidLooks := .later }
def FnExactMeetGroupsCardSaid : Prop := Claim7.holds Tryz.pinned (.plain (OpenSpec.ofChange fnExactMeetGroupsSpec)) fnExactMeetGroupsCard

/-- THE TIED CARD OF 'laws.FnExactShiftedGroup'. -/
def fnExactShiftedGroupCard : Claim7 := { stood := { row := fnExactShiftedGroupRow, standIns := [], harness := (true, "077ccf7b9ecdc18bd5477b53ecded67dc49a7fcd45a00275fa44ad7972e57ac8"), looks := false }, kinds := [], alts := [], laidByText := true, laidKinds := [.wider], laidTests := true, laidLooks := .later }
def FnExactShiftedGroupCardSaid : Prop := Claim7.holds Tryz.pinned (.plain (OpenSpec.ofChange fnExactShiftedGroupSpec)) fnExactShiftedGroupCard

/-- THE TIED CARD OF 'laws.FnOrbits'. -/
def fnOrbitsCard : Claim7 := { stood := { row := fnOrbitsRow, standIns := [], harness := (true, "077ccf7b9ecdc18bd5477b53ecded67dc49a7fcd45a00275fa44ad7972e57ac8"), looks := false }, kinds := [], alts := [], laidByText := true, laidKinds := [.wider], laidTests := true, laidLooks := .later }
def FnOrbitsCardSaid : Prop := Claim7.holds Tryz.pinned (.plain (OpenSpec.ofChange fnOrbitsSpec)) fnOrbitsCard

/-- THE TIED CARD OF 'laws.FnStabilisers'. -/
def fnStabilisersCard : Claim7 := { stood := { row := fnStabilisersRow, standIns := [], harness := (true, "077ccf7b9ecdc18bd5477b53ecded67dc49a7fcd45a00275fa44ad7972e57ac8"), looks := false }, kinds := [], alts := [], laidByText := true, laidKinds := [.wider], laidTests := true, laidLooks := .later }
def FnStabilisersCardSaid : Prop := Claim7.holds Tryz.pinned (.plain (OpenSpec.ofChange fnStabilisersSpec)) fnStabilisersCard

/-- THE TIED CARD OF 'laws.FnExactOrbitOf'. -/
def fnExactOrbitOfCard : Claim7 := { stood := { row := fnExactOrbitOfRow, standIns := [], harness := (true, "077ccf7b9ecdc18bd5477b53ecded67dc49a7fcd45a00275fa44ad7972e57ac8"), looks := false }, kinds := [], alts := [], laidByText := true, laidKinds := [.wider], laidTests := true, laidLooks := .later }
def FnExactOrbitOfCardSaid : Prop := Claim7.holds Tryz.pinned (.plain (OpenSpec.ofChange fnExactOrbitOfSpec)) fnExactOrbitOfCard

/-- THE TIED CARD OF 'laws.FnExactOrbitsOf'. -/
def fnExactOrbitsOfCard : Claim7 := { stood := { row := fnExactOrbitsOfRow, standIns := [], harness := (true, "077ccf7b9ecdc18bd5477b53ecded67dc49a7fcd45a00275fa44ad7972e57ac8"), looks := false }, kinds := [], alts := [], laidByText := true, laidKinds := [.wider], laidTests := true, laidLooks := .later }
def FnExactOrbitsOfCardSaid : Prop := Claim7.holds Tryz.pinned (.plain (OpenSpec.ofChange fnExactOrbitsOfSpec)) fnExactOrbitsOfCard

/-- THE TIED CARD OF 'laws.FnExactOrbitNumbers'. -/
def fnExactOrbitNumbersCard : Claim7 := { stood := { row := fnExactOrbitNumbersRow, standIns := [], harness := (true, "077ccf7b9ecdc18bd5477b53ecded67dc49a7fcd45a00275fa44ad7972e57ac8"), looks := false }, kinds := [], alts := [], laidByText := true, laidKinds := [.wider], laidTests := true, laidLooks := .later }
def FnExactOrbitNumbersCardSaid : Prop := Claim7.holds Tryz.pinned (.plain (OpenSpec.ofChange fnExactOrbitNumbersSpec)) fnExactOrbitNumbersCard

/-- THE TIED CARD OF 'laws.FnExactCountOrbits'. -/
def fnExactCountOrbitsCard : Claim7 := { stood := { row := fnExactCountOrbitsRow, standIns := [], harness := (true, "077ccf7b9ecdc18bd5477b53ecded67dc49a7fcd45a00275fa44ad7972e57ac8"), looks := false }, kinds := [], alts := [], laidByText := true, laidKinds := [.wider], laidTests := true, laidLooks := .later }
def FnExactCountOrbitsCardSaid : Prop := Claim7.holds Tryz.pinned (.plain (OpenSpec.ofChange fnExactCountOrbitsSpec)) fnExactCountOrbitsCard

/-- THE TIED CARD OF 'laws.FnExactStabiliserOf'. -/
def fnExactStabiliserOfCard : Claim7 := { stood := { row := fnExactStabiliserOfRow, standIns := [], harness := (true, "077ccf7b9ecdc18bd5477b53ecded67dc49a7fcd45a00275fa44ad7972e57ac8"), looks := false }, kinds := [], alts := [], laidByText := true, laidKinds := [.wider], laidTests := true, laidLooks := .later }
def FnExactStabiliserOfCardSaid : Prop := Claim7.holds Tryz.pinned (.plain (OpenSpec.ofChange fnExactStabiliserOfSpec)) fnExactStabiliserOfCard

/-- THE TIED CARD OF 'laws.FnExactMoverOf'. -/
def fnExactMoverOfCard : Claim7 := { stood := { row := fnExactMoverOfRow, standIns := [], harness := (true, "077ccf7b9ecdc18bd5477b53ecded67dc49a7fcd45a00275fa44ad7972e57ac8"), looks := false }, kinds := [], alts := [], laidByText := true, laidKinds := [.wider], laidTests := true, laidLooks := .later }
def FnExactMoverOfCardSaid : Prop := Claim7.holds Tryz.pinned (.plain (OpenSpec.ofChange fnExactMoverOfSpec)) fnExactMoverOfCard

/-- THE SECOND FORM's CARD OF 'laws.FnClosures'. -/
def fnClosuresUptoCard : Claim7 := { stood := { row := fnClosuresUptoRow, standIns := [], harness := (true, "077ccf7b9ecdc18bd5477b53ecded67dc49a7fcd45a00275fa44ad7972e57ac8"), looks := false }, kinds := [], alts := [], laidByText := true, laidKinds := [.wider], laidTests := true, laidLooks := .later }
def FnClosuresUptoCardSaid : Prop := Claim7.holds Tryz.pinned (.plain (OpenSpec.upto fnClosuresSpec)) fnClosuresUptoCard

/-- THE SECOND FORM's CARD OF 'laws.FnMeets'. -/
def fnMeetsUptoCard : Claim7 := { stood := { row := fnMeetsUptoRow, standIns := [], harness := (true, "077ccf7b9ecdc18bd5477b53ecded67dc49a7fcd45a00275fa44ad7972e57ac8"), looks := false }, kinds := [], alts := [], laidByText := true, laidKinds := [.wider], laidTests := true, laidLooks := .later }
def FnMeetsUptoCardSaid : Prop := Claim7.holds Tryz.pinned (.plain (OpenSpec.upto fnMeetsSpec)) fnMeetsUptoCard

/-- THE SECOND FORM's CARD OF 'laws.FnExactIsGroup'. -/
def fnExactIsGroupUptoCard : Claim7 := { stood := { row := fnExactIsGroupUptoRow, standIns := [], harness := (true, "077ccf7b9ecdc18bd5477b53ecded67dc49a7fcd45a00275fa44ad7972e57ac8"), looks := false }, kinds := [], alts := [], laidByText := true, laidKinds := [.wider], laidTests := true, laidLooks := .later }
def FnExactIsGroupUptoCardSaid : Prop := Claim7.holds Tryz.pinned (.plain (OpenSpec.upto fnExactIsGroupSpec)) fnExactIsGroupUptoCard

/-- THE SECOND FORM's CARD OF 'laws.FnExactCloseGroup'. -/
def fnExactCloseGroupUptoCard : Claim7 := { stood := { row := fnExactCloseGroupUptoRow, standIns := [], harness := (true, "077ccf7b9ecdc18bd5477b53ecded67dc49a7fcd45a00275fa44ad7972e57ac8"), looks := false }, kinds := [], alts := [], laidByText := true, laidKinds := [.wider], laidTests := true, laidLooks := .later }
def FnExactCloseGroupUptoCardSaid : Prop := Claim7.holds Tryz.pinned (.plain (OpenSpec.upto fnExactCloseGroupSpec)) fnExactCloseGroupUptoCard

/-- THE SECOND FORM's CARD OF 'laws.FnExactPointPart'. -/
def fnExactPointPartUptoCard : Claim7 := { stood := { row := fnExactPointPartUptoRow, standIns := [], harness := (true, "077ccf7b9ecdc18bd5477b53ecded67dc49a7fcd45a00275fa44ad7972e57ac8"), looks := false }, kinds := [], alts := [], laidByText := true, laidKinds := [.wider], laidTests := true, laidLooks := .later }
def FnExactPointPartUptoCardSaid : Prop := Claim7.holds Tryz.pinned (.plain (OpenSpec.upto fnExactPointPartSpec)) fnExactPointPartUptoCard

/-- THE SECOND FORM's CARD OF 'laws.FnExactShiftsOf'. -/
def fnExactShiftsOfUptoCard : Claim7 := { stood := { row := fnExactShiftsOfUptoRow, standIns := [], harness := (true, "077ccf7b9ecdc18bd5477b53ecded67dc49a7fcd45a00275fa44ad7972e57ac8"), looks := false }, kinds := [], alts := [], laidByText := true, laidKinds := [.wider], laidTests := true, laidLooks := .later }
def FnExactShiftsOfUptoCardSaid : Prop := Claim7.holds Tryz.pinned (.plain (OpenSpec.upto fnExactShiftsOfSpec)) fnExactShiftsOfUptoCard

/-- THE SECOND FORM's CARD OF 'laws.FnExactMeetGroups'. -/
def fnExactMeetGroupsUptoCard : Claim7 := { stood := { row := fnExactMeetGroupsUptoRow, standIns := [], harness := (true, "077ccf7b9ecdc18bd5477b53ecded67dc49a7fcd45a00275fa44ad7972e57ac8"), looks := false }, kinds := [], alts := [], laidByText := true, laidKinds := [.wider], laidTests := true, laidLooks := .later }
def FnExactMeetGroupsUptoCardSaid : Prop := Claim7.holds Tryz.pinned (.plain (OpenSpec.upto fnExactMeetGroupsSpec)) fnExactMeetGroupsUptoCard

/-- THE SECOND FORM's CARD OF 'laws.FnExactShiftedGroup'. -/
def fnExactShiftedGroupUptoCard : Claim7 := { stood := { row := fnExactShiftedGroupUptoRow, standIns := [], harness := (true, "077ccf7b9ecdc18bd5477b53ecded67dc49a7fcd45a00275fa44ad7972e57ac8"), looks := false }, kinds := [], alts := [], laidByText := true, laidKinds := [.wider], laidTests := true, laidLooks := .later }
def FnExactShiftedGroupUptoCardSaid : Prop := Claim7.holds Tryz.pinned (.plain (OpenSpec.upto fnExactShiftedGroupSpec)) fnExactShiftedGroupUptoCard

/-- THE SECOND FORM's CARD OF 'laws.FnOrbits'. -/
def fnOrbitsUptoCard : Claim7 := { stood := { row := fnOrbitsUptoRow, standIns := [], harness := (true, "077ccf7b9ecdc18bd5477b53ecded67dc49a7fcd45a00275fa44ad7972e57ac8"), looks := false }, kinds := [], alts := [], laidByText := true, laidKinds := [.wider], laidTests := true, laidLooks := .later }
def FnOrbitsUptoCardSaid : Prop := Claim7.holds Tryz.pinned (.plain (OpenSpec.upto fnOrbitsSpec)) fnOrbitsUptoCard

/-- THE SECOND FORM's CARD OF 'laws.FnStabilisers'. -/
def fnStabilisersUptoCard : Claim7 := { stood := { row := fnStabilisersUptoRow, standIns := [], harness := (true, "077ccf7b9ecdc18bd5477b53ecded67dc49a7fcd45a00275fa44ad7972e57ac8"), looks := false }, kinds := [], alts := [], laidByText := true, laidKinds := [.wider], laidTests := true, laidLooks := .later }
def FnStabilisersUptoCardSaid : Prop := Claim7.holds Tryz.pinned (.plain (OpenSpec.upto fnStabilisersSpec)) fnStabilisersUptoCard

/-- THE SECOND FORM's CARD OF 'laws.FnExactOrbitOf'. -/
def fnExactOrbitOfUptoCard : Claim7 := { stood := { row := fnExactOrbitOfUptoRow, standIns := [], harness := (true, "077ccf7b9ecdc18bd5477b53ecded67dc49a7fcd45a00275fa44ad7972e57ac8"), looks := false }, kinds := [], alts := [], laidByText := true, laidKinds := [.wider], laidTests := true, laidLooks := .later }
def FnExactOrbitOfUptoCardSaid : Prop := Claim7.holds Tryz.pinned (.plain (OpenSpec.upto fnExactOrbitOfSpec)) fnExactOrbitOfUptoCard

/-- THE SECOND FORM's CARD OF 'laws.FnExactOrbitsOf'. -/
def fnExactOrbitsOfUptoCard : Claim7 := { stood := { row := fnExactOrbitsOfUptoRow, standIns := [], harness := (true, "077ccf7b9ecdc18bd5477b53ecded67dc49a7fcd45a00275fa44ad7972e57ac8"), looks := false }, kinds := [], alts := [], laidByText := true, laidKinds := [.wider], laidTests := true, laidLooks := .later }
def FnExactOrbitsOfUptoCardSaid : Prop := Claim7.holds Tryz.pinned (.plain (OpenSpec.upto fnExactOrbitsOfSpec)) fnExactOrbitsOfUptoCard

/-- THE SECOND FORM's CARD OF 'laws.FnExactOrbitNumbers'. -/
def fnExactOrbitNumbersUptoCard : Claim7 := { stood := { row := fnExactOrbitNumbersUptoRow, standIns := [], harness := (true, "077ccf7b9ecdc18bd5477b53ecded67dc49a7fcd45a00275fa44ad7972e57ac8"), looks := false }, kinds := [], alts := [], laidByText := true, laidKinds := [.wider], laidTests := true, laidLooks := .later }
def FnExactOrbitNumbersUptoCardSaid : Prop := Claim7.holds Tryz.pinned (.plain (OpenSpec.upto fnExactOrbitNumbersSpec)) fnExactOrbitNumbersUptoCard

/-- THE SECOND FORM's CARD OF 'laws.FnExactCountOrbits'. -/
def fnExactCountOrbitsUptoCard : Claim7 := { stood := { row := fnExactCountOrbitsUptoRow, standIns := [], harness := (true, "077ccf7b9ecdc18bd5477b53ecded67dc49a7fcd45a00275fa44ad7972e57ac8"), looks := false }, kinds := [], alts := [], laidByText := true, laidKinds := [.wider], laidTests := true, laidLooks := .later }
def FnExactCountOrbitsUptoCardSaid : Prop := Claim7.holds Tryz.pinned (.plain (OpenSpec.upto fnExactCountOrbitsSpec)) fnExactCountOrbitsUptoCard

/-- THE SECOND FORM's CARD OF 'laws.FnExactStabiliserOf'. -/
def fnExactStabiliserOfUptoCard : Claim7 := { stood := { row := fnExactStabiliserOfUptoRow, standIns := [], harness := (true, "077ccf7b9ecdc18bd5477b53ecded67dc49a7fcd45a00275fa44ad7972e57ac8"), looks := false }, kinds := [], alts := [], laidByText := true, laidKinds := [.wider], laidTests := true, laidLooks := .later }
def FnExactStabiliserOfUptoCardSaid : Prop := Claim7.holds Tryz.pinned (.plain (OpenSpec.upto fnExactStabiliserOfSpec)) fnExactStabiliserOfUptoCard

/-- THE SECOND FORM's CARD OF 'laws.FnExactMoverOf'. -/
def fnExactMoverOfUptoCard : Claim7 := { stood := { row := fnExactMoverOfUptoRow, standIns := [], harness := (true, "077ccf7b9ecdc18bd5477b53ecded67dc49a7fcd45a00275fa44ad7972e57ac8"), looks := false }, kinds := [], alts := [], laidByText := true, laidKinds := [.wider], laidTests := true, laidLooks := .later }
def FnExactMoverOfUptoCardSaid : Prop := Claim7.holds Tryz.pinned (.plain (OpenSpec.upto fnExactMoverOfSpec)) fnExactMoverOfUptoCard
end Rows
end Go.Proofs.YtmadgbbkkkibcaaGreatDoor
