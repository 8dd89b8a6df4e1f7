/-
  DERIVED. GIVEN WITH THE SEED: THE CARDS: each row of YtpdekopmnchanabDoorRows.lean that lists a variable, with what it lists TIED to the program's text (the seventh form; the later family's looks); each row that meets fmt, with fmt's text TOLD by the authors' own Lean function (tested against real Go, not proved from fmt's source: count such statements apart). THE CARD IS WHAT COUNTS. Prove the row's statement (the work); the ties are given (YtpdekopmnchanabDoorTie.lean); close each card by the builder's one call (the guide's Derived/Test/ToyasCard.lean, 'card_holds'). Laid BY PROGRAM, IN A SANDBOX (cutbox-door.mjs). By AI agents, Wed Nov 11 2026. No macro, syntax, notation, axiom, sorry.
-/
import Derived.Test.YtpdekopmnchanabDoorRows
import GoSem.ClaimSeven
namespace Go.Proofs.YtpdekopmnchanabDoor
namespace Rows

/-- THE TIED CARD OF 'laws.FnMotions'. -/
def fnMotionsCard : Claim7 := { stood := { row := fnMotionsRow, standIns := [], harness := (true, "3222e5efa4be56f14168d4e7366603572e770dc30357f57e7c5f3dc0c492db31"), looks := false }, kinds := [], alts := [], laidByText := true, laidKinds := [.wider], laidTests := true, laidLooks := .later }
def FnMotionsCardSaid : Prop := Claim7.holds Tryd.pinned (.plain (OpenSpec.ofChange fnMotionsSpec)) fnMotionsCard

/-- THE TIED CARD OF 'laws.FnKinds'. -/
def fnKindsCard : Claim7 := { stood := { row := fnKindsRow, standIns := [], harness := (true, "3222e5efa4be56f14168d4e7366603572e770dc30357f57e7c5f3dc0c492db31"), looks := false }, kinds := [], alts := [], laidByText := true, laidKinds := [.wider], laidTests := true, laidLooks := .later }
def FnKindsCardSaid : Prop := Claim7.holds Tryd.pinned (.plain (OpenSpec.ofChange fnKindsSpec)) fnKindsCard

/-- THE SECOND FORM's CARD OF 'laws.FnMotions'. -/
def fnMotionsUptoCard : Claim7 := { stood := { row := fnMotionsUptoRow, standIns := [], harness := (true, "3222e5efa4be56f14168d4e7366603572e770dc30357f57e7c5f3dc0c492db31"), looks := false }, kinds := [], alts := [], laidByText := true, laidKinds := [.wider], laidTests := true, laidLooks := .later }
def FnMotionsUptoCardSaid : Prop := Claim7.holds Tryd.pinned (.plain (OpenSpec.upto fnMotionsSpec)) fnMotionsUptoCard

/-- THE SECOND FORM's CARD OF 'laws.FnKinds'. -/
def fnKindsUptoCard : Claim7 := { stood := { row := fnKindsUptoRow, standIns := [], harness := (true, "3222e5efa4be56f14168d4e7366603572e770dc30357f57e7c5f3dc0c492db31"), looks := false }, kinds := [], alts := [], laidByText := true, laidKinds := [.wider], laidTests := true, laidLooks := .later }
def FnKindsUptoCardSaid : Prop := Claim7.holds Tryd.pinned (.plain (OpenSpec.upto fnKindsSpec)) fnKindsUptoCard
end Rows
end Go.Proofs.YtpdekopmnchanabDoor
