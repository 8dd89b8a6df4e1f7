/-
  DERIVED. GIVEN WITH THE SEED: THE CARDS: each row of YtkfdaepnjdnnmaaGreatDoorRows.lean that lists a variable, with what it lists TIED to the program's text (the seventh form; the later family's looks); each row that meets fmt, with fmt's text TOLD by the authors' own Lean function (tested against real Go, not proved from fmt's source: count such statements apart). THE CARD IS WHAT COUNTS. Prove the row's statement (the work); the ties are given (YtkfdaepnjdnnmaaGreatDoorTie.lean); close each card by the builder's one call (the guide's Derived/Test/ToyasCard.lean, 'card_holds'). Laid BY PROGRAM, IN A SANDBOX (cutbox-door.mjs). By AI agents, Wed Nov 11 2026. No macro, syntax, notation, axiom, sorry.
-/
import Derived.Test.YtkfdaepnjdnnmaaGreatDoorRows
import GoSem.ClaimSeven
namespace Go.Proofs.YtkfdaepnjdnnmaaGreatDoor
namespace Rows

/-- THE TIED CARD OF 'laws.FnExactUnbroken'. -/
def fnExactUnbrokenCard : Claim7 := { stood := { row := fnExactUnbrokenRow, standIns := [], harness := (true, "73bdb1d11e7c185776664a76f097638827e8037dce6fe09cec6613281ef05ddc"), looks := false }, kinds := [], alts := [], laidByText := true, laidKinds := [.wider], laidTests := true, laidLooks := .later }
def FnExactUnbrokenCardSaid : Prop := Claim7.holds Tryz.pinned (.plain (OpenSpec.ofChange fnExactUnbrokenSpec)) fnExactUnbrokenCard

/-- THE TIED CARD OF 'laws.FnExactOrbitsOf'. -/
def fnExactOrbitsOfCard : Claim7 := { stood := { row := fnExactOrbitsOfRow, standIns := [], harness := (true, "73bdb1d11e7c185776664a76f097638827e8037dce6fe09cec6613281ef05ddc"), looks := false }, kinds := [], alts := [], laidByText := true, laidKinds := [.wider], laidTests := true, laidLooks := .later }
def FnExactOrbitsOfCardSaid : Prop := Claim7.holds Tryz.pinned (.plain (OpenSpec.ofChange fnExactOrbitsOfSpec)) fnExactOrbitsOfCard

/-- THE TIED CARD OF 'laws.FnExactStabiliserOf'. -/
def fnExactStabiliserOfCard : Claim7 := { stood := { row := fnExactStabiliserOfRow, standIns := [], harness := (true, "73bdb1d11e7c185776664a76f097638827e8037dce6fe09cec6613281ef05ddc"), looks := false }, kinds := [], alts := [], laidByText := true, laidKinds := [.wider], laidTests := true, laidLooks := .later }
def FnExactStabiliserOfCardSaid : Prop := Claim7.holds Tryz.pinned (.plain (OpenSpec.ofChange fnExactStabiliserOfSpec)) fnExactStabiliserOfCard

/-- THE SECOND FORM's CARD OF 'laws.FnExactUnbroken'. -/
def fnExactUnbrokenUptoCard : Claim7 := { stood := { row := fnExactUnbrokenUptoRow, standIns := [], harness := (true, "73bdb1d11e7c185776664a76f097638827e8037dce6fe09cec6613281ef05ddc"), looks := false }, kinds := [], alts := [], laidByText := true, laidKinds := [.wider], laidTests := true, laidLooks := .later }
def FnExactUnbrokenUptoCardSaid : Prop := Claim7.holds Tryz.pinned (.plain (OpenSpec.upto fnExactUnbrokenSpec)) fnExactUnbrokenUptoCard

/-- THE SECOND FORM's CARD OF 'laws.FnExactOrbitsOf'. -/
def fnExactOrbitsOfUptoCard : Claim7 := { stood := { row := fnExactOrbitsOfUptoRow, standIns := [], harness := (true, "73bdb1d11e7c185776664a76f097638827e8037dce6fe09cec6613281ef05ddc"), looks := false }, kinds := [], alts := [], laidByText := true, laidKinds := [.wider], laidTests := true, laidLooks := .later }
def FnExactOrbitsOfUptoCardSaid : Prop := Claim7.holds Tryz.pinned (.plain (OpenSpec.upto fnExactOrbitsOfSpec)) fnExactOrbitsOfUptoCard

/-- THE SECOND FORM's CARD OF 'laws.FnExactStabiliserOf'. -/
def fnExactStabiliserOfUptoCard : Claim7 := { stood := { row := fnExactStabiliserOfUptoRow, standIns := [], harness := (true, "73bdb1d11e7c185776664a76f097638827e8037dce6fe09cec6613281ef05ddc"), looks := false }, kinds := [], alts := [], laidByText := true, laidKinds := [.wider], laidTests := true, laidLooks := .later }
def FnExactStabiliserOfUptoCardSaid : Prop := Claim7.holds Tryz.pinned (.plain (OpenSpec.upto fnExactStabiliserOfSpec)) fnExactStabiliserOfUptoCard
end Rows
end Go.Proofs.YtkfdaepnjdnnmaaGreatDoor
