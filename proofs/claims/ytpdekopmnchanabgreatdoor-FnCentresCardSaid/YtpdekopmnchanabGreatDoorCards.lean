/-
  DERIVED. GIVEN WITH THE SEED: THE CARDS: each row of YtpdekopmnchanabGreatDoorRows.lean that lists a variable, with what it lists TIED to the program's text (the seventh form; the later family's looks); each row that meets fmt, with fmt's text TOLD by the authors' own Lean function (tested against real Go, not proved from fmt's source: count such statements apart). THE CARD IS WHAT COUNTS. Prove the row's statement (the work); the ties are given (YtpdekopmnchanabGreatDoorTie.lean); close each card by the builder's one call (the guide's Derived/Test/ToyasCard.lean, 'card_holds'). Laid BY PROGRAM, IN A SANDBOX (cutbox-door.mjs). By AI agents, Wed Nov 11 2026. No macro, syntax, notation, axiom, sorry.
-/
import Derived.Test.YtpdekopmnchanabGreatDoorRows
import GoSem.ClaimSeven
namespace Go.Proofs.YtpdekopmnchanabGreatDoor
namespace Rows

/-- THE TIED CARD OF 'laws.FnCentres'. -/
def fnCentresCard : Claim7 := { stood := { row := fnCentresRow, standIns := [], harness := (true, "f152658c4f87230acec58baf4606757c403cb7481b43bfd23fb9370d35185817"), looks := true }, kinds := [], alts := [], laidByText := true, laidKinds := [.data, .data, .data, .data, .sentinel, .sentinel, .wider, .pinned], laidTests := true, laidLooks := .later }
def FnCentresCardSaid : Prop := Claim7.holds Tryz.pinned (.plain (OpenSpec.ofChange fnCentresSpec)) fnCentresCard

/-- THE SECOND FORM's CARD OF 'laws.FnCentres'. -/
def fnCentresUptoCard : Claim7 := { stood := { row := fnCentresUptoRow, standIns := [], harness := (true, "f152658c4f87230acec58baf4606757c403cb7481b43bfd23fb9370d35185817"), looks := true }, kinds := [], alts := [], laidByText := true, laidKinds := [.data, .data, .data, .data, .sentinel, .sentinel, .wider, .pinned], laidTests := true, laidLooks := .later }
def FnCentresUptoCardSaid : Prop := Claim7.holds Tryz.pinned (.plain (OpenSpec.upto fnCentresSpec)) fnCentresUptoCard
end Rows
end Go.Proofs.YtpdekopmnchanabGreatDoor
