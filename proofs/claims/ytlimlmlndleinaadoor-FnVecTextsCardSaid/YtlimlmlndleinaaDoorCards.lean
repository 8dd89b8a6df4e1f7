/-
  DERIVED. GIVEN WITH THE SEED: THE CARDS: each row of YtlimlmlndleinaaDoorRows.lean that lists a variable, with what it lists TIED to the program's text (the seventh form; the later family's looks); each row that meets fmt, with fmt's text TOLD by the authors' own Lean function (tested against real Go, not proved from fmt's source: count such statements apart). THE CARD IS WHAT COUNTS. Prove the row's statement (the work); the ties are given (YtlimlmlndleinaaDoorTie.lean); close each card by the builder's one call (the guide's Derived/Test/ToyasCard.lean, 'card_holds'). Laid BY PROGRAM, IN A SANDBOX (cutbox-door.mjs). By AI agents, Wed Nov 11 2026. No macro, syntax, notation, axiom, sorry.
-/
import Derived.Test.YtlimlmlndleinaaDoorRows
import GoSem.ClaimSeven
namespace Go.Proofs.YtlimlmlndleinaaDoor
namespace Rows

/-- THE TIED CARD OF 'laws.FnVecTexts'. -/
def fnVecTextsCard : Claim7 := { stood := { row := fnVecTextsRow, standIns := [], harness := (true, "8c9b85827ec6475540149b33a39f6c35fe2e2c396211838463078a54a59ff85d"), looks := true }, kinds := [], alts := [], laidByText := true, laidKinds := [.data, .data, .data, .sentinel, .sentinel], laidTests := true, laidLooks := .later }
def FnVecTextsCardSaid : Prop := Claim7.holds Tryd.pinned (.plain (OpenSpec.ofChange fnVecTextsSpec)) fnVecTextsCard

/-- THE TIED CARD OF 'laws.FnExactVecText'. -/
def fnExactVecTextCard : Claim7 := { stood := { row := fnExactVecTextRow, standIns := [], harness := (true, "8c9b85827ec6475540149b33a39f6c35fe2e2c396211838463078a54a59ff85d"), looks := true }, kinds := [], alts := [], laidByText := true, laidKinds := [.data, .data, .data], laidTests := true, laidLooks := .later }
def FnExactVecTextCardSaid : Prop := Claim7.holds Tryd.pinned (.plain (OpenSpec.ofChange fnExactVecTextSpec)) fnExactVecTextCard

/-- THE TIED CARD OF 'laws.FnExactReadVec'. -/
def fnExactReadVecCard : Claim7 := { stood := { row := fnExactReadVecRow, standIns := [], harness := (true, "8c9b85827ec6475540149b33a39f6c35fe2e2c396211838463078a54a59ff85d"), looks := true }, kinds := [], alts := [], laidByText := true, laidKinds := [.data, .data, .data, .sentinel, .sentinel], laidTests := true, laidLooks := .later }
def FnExactReadVecCardSaid : Prop := Claim7.holds Tryd.pinned (.plain (OpenSpec.ofChange fnExactReadVecSpec)) fnExactReadVecCard

/-- THE SECOND FORM's CARD OF 'laws.FnVecTexts'. -/
def fnVecTextsUptoCard : Claim7 := { stood := { row := fnVecTextsUptoRow, standIns := [], harness := (true, "8c9b85827ec6475540149b33a39f6c35fe2e2c396211838463078a54a59ff85d"), looks := true }, kinds := [], alts := [], laidByText := true, laidKinds := [.data, .data, .data, .sentinel, .sentinel], laidTests := true, laidLooks := .later }
def FnVecTextsUptoCardSaid : Prop := Claim7.holds Tryd.pinned (.plain (OpenSpec.upto fnVecTextsSpec)) fnVecTextsUptoCard

/-- THE SECOND FORM's CARD OF 'laws.FnExactVecText'. -/
def fnExactVecTextUptoCard : Claim7 := { stood := { row := fnExactVecTextUptoRow, standIns := [], harness := (true, "8c9b85827ec6475540149b33a39f6c35fe2e2c396211838463078a54a59ff85d"), looks := true }, kinds := [], alts := [], laidByText := true, laidKinds := [.data, .data, .data], laidTests := true, laidLooks := .later }
def FnExactVecTextUptoCardSaid : Prop := Claim7.holds Tryd.pinned (.plain (OpenSpec.upto fnExactVecTextSpec)) fnExactVecTextUptoCard

/-- THE SECOND FORM's CARD OF 'laws.FnExactReadVec'. -/
def fnExactReadVecUptoCard : Claim7 := { stood := { row := fnExactReadVecUptoRow, standIns := [], harness := (true, "8c9b85827ec6475540149b33a39f6c35fe2e2c396211838463078a54a59ff85d"), looks := true }, kinds := [], alts := [], laidByText := true, laidKinds := [.data, .data, .data, .sentinel, .sentinel], laidTests := true, laidLooks := .later }
def FnExactReadVecUptoCardSaid : Prop := Claim7.holds Tryd.pinned (.plain (OpenSpec.upto fnExactReadVecSpec)) fnExactReadVecUptoCard
end Rows
end Go.Proofs.YtlimlmlndleinaaDoor
