/-
  DERIVED. GIVEN WITH THE SEED: THE CARDS: each row of YtcphadkgmchnfabDoorRows.lean that lists a variable, with what it lists TIED to the program's text (the seventh form; the later family's looks); each row that meets fmt, with fmt's text TOLD by the authors' own Lean function (tested against real Go, not proved from fmt's source: count such statements apart). THE CARD IS WHAT COUNTS. Prove the row's statement (the work); the ties are given (YtcphadkgmchnfabDoorTie.lean); close each card by the builder's one call (the guide's Derived/Test/ToyasCard.lean, 'card_holds'). Laid BY PROGRAM, IN A SANDBOX (cutbox-door.mjs). By AI agents, Wed Nov 11 2026. No macro, syntax, notation, axiom, sorry.
-/
import Derived.Test.YtcphadkgmchnfabDoorRows
import GoSem.ClaimSeven
namespace Go.Proofs.YtcphadkgmchnfabDoor
namespace Rows

/-- THE TIED CARD OF 'laws.FnExactReadMat'. -/
def fnExactReadMatCard : Claim7 := { stood := { row := fnExactReadMatRow, standIns := [], harness := (true, "7be202c6dca9bed0108f5cf3ef6adc055d87ef9b93dc7390112f13b75cb3f82b"), looks := true }, kinds := [], alts := [], laidByText := true, laidKinds := [.data, .data, .data, .data, .sentinel, .sentinel, .pinned], laidTests := true, laidLooks := .later }
def FnExactReadMatCardSaid : Prop := Claim7.holds Tryd.pinned (.plain (OpenSpec.ofChange fnExactReadMatSpec)) fnExactReadMatCard

/-- THE SECOND FORM's CARD OF 'laws.FnExactReadMat'. -/
def fnExactReadMatUptoCard : Claim7 := { stood := { row := fnExactReadMatUptoRow, standIns := [], harness := (true, "7be202c6dca9bed0108f5cf3ef6adc055d87ef9b93dc7390112f13b75cb3f82b"), looks := true }, kinds := [], alts := [], laidByText := true, laidKinds := [.data, .data, .data, .data, .sentinel, .sentinel, .pinned], laidTests := true, laidLooks := .later }
def FnExactReadMatUptoCardSaid : Prop := Claim7.holds Tryd.pinned (.plain (OpenSpec.upto fnExactReadMatSpec)) fnExactReadMatUptoCard
end Rows
end Go.Proofs.YtcphadkgmchnfabDoor
