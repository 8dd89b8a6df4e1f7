/-
  DERIVED. GIVEN WITH THE SEED: THE CARDS: each row of YtkfdaepnjdnnmaaDoorRows.lean that lists a variable, with what it lists TIED to the program's text (the seventh form; the later family's looks); each row that meets fmt, with fmt's text TOLD by the authors' own Lean function (tested against real Go, not proved from fmt's source: count such statements apart). THE CARD IS WHAT COUNTS. Prove the row's statement (the work); the ties are given (YtkfdaepnjdnnmaaDoorTie.lean); close each card by the builder's one call (the guide's Derived/Test/ToyasCard.lean, 'card_holds'). Laid BY PROGRAM, IN A SANDBOX (cutbox-door.mjs). By AI agents, Wed Nov 11 2026. No macro, syntax, notation, axiom, sorry.
-/
import Derived.Test.YtkfdaepnjdnnmaaDoorRows
import GoSem.ClaimSeven
namespace Go.Proofs.YtkfdaepnjdnnmaaDoor
namespace Rows

/-- THE TIED CARD OF 'laws.FnExactGroupOfPattern'. -/
def fnExactGroupOfPatternCard : Claim7 := { stood := { row := fnExactGroupOfPatternRow, standIns := [], harness := (true, "ffaa6d2ff4b1df1369946d44a8f05aedbf3d93a694759ecd8d56a787c99f9a59"), looks := false }, kinds := [], alts := [], laidByText := true, laidKinds := [.wider], laidTests := true, laidLooks := .later }
def FnExactGroupOfPatternCardSaid : Prop := Claim7.holds Tryd.pinned (.plain (OpenSpec.ofChange fnExactGroupOfPatternSpec)) fnExactGroupOfPatternCard

/-- THE TIED CARD OF 'laws.FnExactIsSymmetry'. -/
def fnExactIsSymmetryCard : Claim7 := { stood := { row := fnExactIsSymmetryRow, standIns := [], harness := (true, "ffaa6d2ff4b1df1369946d44a8f05aedbf3d93a694759ecd8d56a787c99f9a59"), looks := false }, kinds := [], alts := [], laidByText := true, laidKinds := [.wider], laidTests := true, laidLooks := .later }
def FnExactIsSymmetryCardSaid : Prop := Claim7.holds Tryd.pinned (.plain (OpenSpec.ofChange fnExactIsSymmetrySpec)) fnExactIsSymmetryCard

/-- THE TIED CARD OF 'laws.FnExactWitnessAgainst'. -/
def fnExactWitnessAgainstCard : Claim7 := { stood := { row := fnExactWitnessAgainstRow, standIns := [], harness := (true, "ffaa6d2ff4b1df1369946d44a8f05aedbf3d93a694759ecd8d56a787c99f9a59"), looks := false }, kinds := [], alts := [], laidByText := true, laidKinds := [.wider], laidTests := true, laidLooks := .later }
def FnExactWitnessAgainstCardSaid : Prop := Claim7.holds Tryd.pinned (.plain (OpenSpec.ofChange fnExactWitnessAgainstSpec)) fnExactWitnessAgainstCard

/-- THE TIED CARD OF 'laws.FnExactCountSymmetries'. -/
def fnExactCountSymmetriesCard : Claim7 := { stood := { row := fnExactCountSymmetriesRow, standIns := [], harness := (true, "ffaa6d2ff4b1df1369946d44a8f05aedbf3d93a694759ecd8d56a787c99f9a59"), looks := false }, kinds := [], alts := [], laidByText := true, laidKinds := [.wider], laidTests := true, laidLooks := .later }
def FnExactCountSymmetriesCardSaid : Prop := Claim7.holds Tryd.pinned (.plain (OpenSpec.ofChange fnExactCountSymmetriesSpec)) fnExactCountSymmetriesCard

/-- THE TIED CARD OF 'laws.FnExactSiteSymmetries'. -/
def fnExactSiteSymmetriesCard : Claim7 := { stood := { row := fnExactSiteSymmetriesRow, standIns := [], harness := (true, "ffaa6d2ff4b1df1369946d44a8f05aedbf3d93a694759ecd8d56a787c99f9a59"), looks := false }, kinds := [], alts := [], laidByText := true, laidKinds := [.wider], laidTests := true, laidLooks := .later }
def FnExactSiteSymmetriesCardSaid : Prop := Claim7.holds Tryd.pinned (.plain (OpenSpec.ofChange fnExactSiteSymmetriesSpec)) fnExactSiteSymmetriesCard

/-- THE TIED CARD OF 'laws.FnExactSitesOf'. -/
def fnExactSitesOfCard : Claim7 := { stood := { row := fnExactSitesOfRow, standIns := [], harness := (true, "ffaa6d2ff4b1df1369946d44a8f05aedbf3d93a694759ecd8d56a787c99f9a59"), looks := false }, kinds := [], alts := [], laidByText := true, laidKinds := [.wider], laidTests := true, laidLooks := .later }
def FnExactSitesOfCardSaid : Prop := Claim7.holds Tryd.pinned (.plain (OpenSpec.ofChange fnExactSitesOfSpec)) fnExactSitesOfCard

/-- THE SECOND FORM's CARD OF 'laws.FnExactGroupOfPattern'. -/
def fnExactGroupOfPatternUptoCard : Claim7 := { stood := { row := fnExactGroupOfPatternUptoRow, standIns := [], harness := (true, "ffaa6d2ff4b1df1369946d44a8f05aedbf3d93a694759ecd8d56a787c99f9a59"), looks := false }, kinds := [], alts := [], laidByText := true, laidKinds := [.wider], laidTests := true, laidLooks := .later }
def FnExactGroupOfPatternUptoCardSaid : Prop := Claim7.holds Tryd.pinned (.plain (OpenSpec.upto fnExactGroupOfPatternSpec)) fnExactGroupOfPatternUptoCard

/-- THE SECOND FORM's CARD OF 'laws.FnExactIsSymmetry'. -/
def fnExactIsSymmetryUptoCard : Claim7 := { stood := { row := fnExactIsSymmetryUptoRow, standIns := [], harness := (true, "ffaa6d2ff4b1df1369946d44a8f05aedbf3d93a694759ecd8d56a787c99f9a59"), looks := false }, kinds := [], alts := [], laidByText := true, laidKinds := [.wider], laidTests := true, laidLooks := .later }
def FnExactIsSymmetryUptoCardSaid : Prop := Claim7.holds Tryd.pinned (.plain (OpenSpec.upto fnExactIsSymmetrySpec)) fnExactIsSymmetryUptoCard

/-- THE SECOND FORM's CARD OF 'laws.FnExactWitnessAgainst'. -/
def fnExactWitnessAgainstUptoCard : Claim7 := { stood := { row := fnExactWitnessAgainstUptoRow, standIns := [], harness := (true, "ffaa6d2ff4b1df1369946d44a8f05aedbf3d93a694759ecd8d56a787c99f9a59"), looks := false }, kinds := [], alts := [], laidByText := true, laidKinds := [.wider], laidTests := true, laidLooks := .later }
def FnExactWitnessAgainstUptoCardSaid : Prop := Claim7.holds Tryd.pinned (.plain (OpenSpec.upto fnExactWitnessAgainstSpec)) fnExactWitnessAgainstUptoCard

/-- THE SECOND FORM's CARD OF 'laws.FnExactCountSymmetries'. -/
def fnExactCountSymmetriesUptoCard : Claim7 := { stood := { row := fnExactCountSymmetriesUptoRow, standIns := [], harness := (true, "ffaa6d2ff4b1df1369946d44a8f05aedbf3d93a694759ecd8d56a787c99f9a59"), looks := false }, kinds := [], alts := [], laidByText := true, laidKinds := [.wider], laidTests := true, laidLooks := .later }
def FnExactCountSymmetriesUptoCardSaid : Prop := Claim7.holds Tryd.pinned (.plain (OpenSpec.upto fnExactCountSymmetriesSpec)) fnExactCountSymmetriesUptoCard

/-- THE SECOND FORM's CARD OF 'laws.FnExactSiteSymmetries'. -/
def fnExactSiteSymmetriesUptoCard : Claim7 := { stood := { row := fnExactSiteSymmetriesUptoRow, standIns := [], harness := (true, "ffaa6d2ff4b1df1369946d44a8f05aedbf3d93a694759ecd8d56a787c99f9a59"), looks := false }, kinds := [], alts := [], laidByText := true, laidKinds := [.wider], laidTests := true, laidLooks := .later }
def FnExactSiteSymmetriesUptoCardSaid : Prop := Claim7.holds Tryd.pinned (.plain (OpenSpec.upto fnExactSiteSymmetriesSpec)) fnExactSiteSymmetriesUptoCard

/-- THE SECOND FORM's CARD OF 'laws.FnExactSitesOf'. -/
def fnExactSitesOfUptoCard : Claim7 := { stood := { row := fnExactSitesOfUptoRow, standIns := [], harness := (true, "ffaa6d2ff4b1df1369946d44a8f05aedbf3d93a694759ecd8d56a787c99f9a59"), looks := false }, kinds := [], alts := [], laidByText := true, laidKinds := [.wider], laidTests := true, laidLooks := .later }
def FnExactSitesOfUptoCardSaid : Prop := Claim7.holds Tryd.pinned (.plain (OpenSpec.upto fnExactSitesOfSpec)) fnExactSitesOfUptoCard
end Rows
end Go.Proofs.YtkfdaepnjdnnmaaDoor
