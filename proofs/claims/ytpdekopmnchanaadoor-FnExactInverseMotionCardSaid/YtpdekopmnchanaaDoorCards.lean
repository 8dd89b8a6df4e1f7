/-
  DERIVED. GIVEN WITH THE SEED: THE CARDS: each row of YtpdekopmnchanaaDoorRows.lean that lists a variable, with what it lists TIED to the program's text (the seventh form; the later family's looks); each row that meets fmt, with fmt's text TOLD by the authors' own Lean function (tested against real Go, not proved from fmt's source: count such statements apart). THE CARD IS WHAT COUNTS. Prove the row's statement (the work); the ties are given (YtpdekopmnchanaaDoorTie.lean); close each card by the builder's one call (the guide's Derived/Test/ToyasCard.lean, 'card_holds'). Laid BY PROGRAM, IN A SANDBOX (cutbox-door.mjs). By AI agents, Wed Nov 11 2026. No macro, syntax, notation, axiom, sorry.
-/
import Derived.Test.YtpdekopmnchanaaDoorRows
import GoSem.ClaimSeven
namespace Go.Proofs.YtpdekopmnchanaaDoor
namespace Rows

/-- THE TIED CARD OF 'laws.FnExactComposeMotions'. -/
def fnExactComposeMotionsCard : Claim7 := { stood := { row := fnExactComposeMotionsRow, standIns := [], harness := (true, "ff508c3600bf3c4e5360863543cbbc22a0bc785cd251619731a0e26455ff0e34"), looks := false }, kinds := [], alts := [], laidByText := true, laidKinds := [.wider], laidTests := true, laidLooks := .later }
def FnExactComposeMotionsCardSaid : Prop := Claim7.holds Tryd.pinned (.plain (OpenSpec.ofChange fnExactComposeMotionsSpec)) fnExactComposeMotionsCard

/-- THE TIED CARD OF 'laws.FnExactInverseMotion'. -/
def fnExactInverseMotionCard : Claim7 := { stood := { row := fnExactInverseMotionRow, standIns := [], harness := (true, "ff508c3600bf3c4e5360863543cbbc22a0bc785cd251619731a0e26455ff0e34"), looks := false }, kinds := [], alts := [], laidByText := true, laidKinds := [.wider], laidTests := true, laidLooks := .later }
def FnExactInverseMotionCardSaid : Prop := Claim7.holds Tryd.pinned (.plain (OpenSpec.ofChange fnExactInverseMotionSpec)) fnExactInverseMotionCard

/-- THE SECOND FORM's CARD OF 'laws.FnExactComposeMotions'. -/
def fnExactComposeMotionsUptoCard : Claim7 := { stood := { row := fnExactComposeMotionsUptoRow, standIns := [], harness := (true, "ff508c3600bf3c4e5360863543cbbc22a0bc785cd251619731a0e26455ff0e34"), looks := false }, kinds := [], alts := [], laidByText := true, laidKinds := [.wider], laidTests := true, laidLooks := .later }
def FnExactComposeMotionsUptoCardSaid : Prop := Claim7.holds Tryd.pinned (.plain (OpenSpec.upto fnExactComposeMotionsSpec)) fnExactComposeMotionsUptoCard

/-- THE SECOND FORM's CARD OF 'laws.FnExactInverseMotion'. -/
def fnExactInverseMotionUptoCard : Claim7 := { stood := { row := fnExactInverseMotionUptoRow, standIns := [], harness := (true, "ff508c3600bf3c4e5360863543cbbc22a0bc785cd251619731a0e26455ff0e34"), looks := false }, kinds := [], alts := [], laidByText := true, laidKinds := [.wider], laidTests := true, laidLooks := .later }
def FnExactInverseMotionUptoCardSaid : Prop := Claim7.holds Tryd.pinned (.plain (OpenSpec.upto fnExactInverseMotionSpec)) fnExactInverseMotionUptoCard
end Rows
end Go.Proofs.YtpdekopmnchanaaDoor
