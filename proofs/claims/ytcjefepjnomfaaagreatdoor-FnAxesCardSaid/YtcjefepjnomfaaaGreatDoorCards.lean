/-
  DERIVED. GIVEN WITH THE SEED: THE CARDS: each row of YtcjefepjnomfaaaGreatDoorRows.lean that lists a variable, with what it lists TIED to the program's text (the seventh form; the later family's looks); each row that meets fmt, with fmt's text TOLD by the authors' own Lean function (tested against real Go, not proved from fmt's source: count such statements apart). THE CARD IS WHAT COUNTS. Prove the row's statement (the work); the ties are given (YtcjefepjnomfaaaGreatDoorTie.lean); close each card by the builder's one call (the guide's Derived/Test/ToyasCard.lean, 'card_holds'). Laid BY PROGRAM, IN A SANDBOX (cutbox-door.mjs). By AI agents, Wed Nov 11 2026. No macro, syntax, notation, axiom, sorry.
-/
import Derived.Test.YtcjefepjnomfaaaGreatDoorRows
import GoSem.ClaimSeven
namespace Go.Proofs.YtcjefepjnomfaaaGreatDoor
namespace Rows

/-- THE TIED CARD OF 'laws.FnAxes'. -/
def fnAxesCard : Claim7 := { stood := { row := fnAxesRow, standIns := [], harness := (true, "3874023bf7f289472315c68b8a962a440db4c2eae8094d71b8576fc01290b0e0"), looks := true }, kinds := [], alts := [], laidByText := true, laidKinds := [.data, .data, .data, .data, .sentinel, .sentinel, .pinned], laidTests := true, laidLooks := .later }
def FnAxesCardSaid : Prop := Claim7.holds Tryz.pinned (.plain (OpenSpec.ofChange fnAxesSpec)) fnAxesCard

/-- THE SECOND FORM's CARD OF 'laws.FnAxes'. -/
def fnAxesUptoCard : Claim7 := { stood := { row := fnAxesUptoRow, standIns := [], harness := (true, "3874023bf7f289472315c68b8a962a440db4c2eae8094d71b8576fc01290b0e0"), looks := true }, kinds := [], alts := [], laidByText := true, laidKinds := [.data, .data, .data, .data, .sentinel, .sentinel, .pinned], laidTests := true, laidLooks := .later }
def FnAxesUptoCardSaid : Prop := Claim7.holds Tryz.pinned (.plain (OpenSpec.upto fnAxesSpec)) fnAxesUptoCard
end Rows
end Go.Proofs.YtcjefepjnomfaaaGreatDoor
