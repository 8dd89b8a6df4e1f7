/-
  DERIVED. GIVEN WITH THE SEED: THE CARDS: each row of YtpejihckepaojaaDoorRows.lean that lists a variable, with what it lists TIED to the program's text (the seventh form; the later family's looks); each row that meets fmt, with fmt's text TOLD by the authors' own Lean function (tested against real Go, not proved from fmt's source: count such statements apart). THE CARD IS WHAT COUNTS. Prove the row's statement (the work); the ties are given (YtpejihckepaojaaDoorTie.lean); close each card by the builder's one call (the guide's Derived/Test/ToyasCard.lean, 'card_holds'). Laid BY PROGRAM, IN A SANDBOX (cutbox-door.mjs). By AI agents, Wed Nov 11 2026. No macro, syntax, notation, axiom, sorry.
-/
import Derived.Test.YtpejihckepaojaaDoorRows
import GoSem.ClaimSeven
namespace Go.Proofs.YtpejihckepaojaaDoor
namespace Rows

/-- THE TIED CARD OF 'laws.FnExactLeanPattern'. -/
def fnExactLeanPatternCard : Claim7 := { stood := { row := fnExactLeanPatternRow, standIns := [], harness := (true, "780d736c0fb78f264ba9290d2669a21c899f84af901a21a82bcde0ac63d8dcad"), looks := true }, kinds := [], alts := [], laidByText := true, laidKinds := [.wider], laidTests := true, laidLooks := .later }
def FnExactLeanPatternCardSaid : Prop := Claim7.holds Tryd.pinned (.plain (OpenSpec.ofChange fnExactLeanPatternSpec)) fnExactLeanPatternCard

/-- THE TIED CARD OF 'laws.FnExactSpreadPattern'. -/
def fnExactSpreadPatternCard : Claim7 := { stood := { row := fnExactSpreadPatternRow, standIns := [], harness := (true, "780d736c0fb78f264ba9290d2669a21c899f84af901a21a82bcde0ac63d8dcad"), looks := true }, kinds := [], alts := [], laidByText := true, laidKinds := [.wider], laidTests := true, laidLooks := .later }
def FnExactSpreadPatternCardSaid : Prop := Claim7.holds Tryd.pinned (.plain (OpenSpec.ofChange fnExactSpreadPatternSpec)) fnExactSpreadPatternCard

/-- THE TIED CARD OF 'laws.FnExactArePatternsSame'. -/
def fnExactArePatternsSameCard : Claim7 := { stood := { row := fnExactArePatternsSameRow, standIns := [], harness := (true, "780d736c0fb78f264ba9290d2669a21c899f84af901a21a82bcde0ac63d8dcad"), looks := true }, kinds := [], alts := [], laidByText := true, laidKinds := [.wider], laidTests := true, laidLooks := .later }
def FnExactArePatternsSameCardSaid : Prop := Claim7.holds Tryd.pinned (.plain (OpenSpec.ofChange fnExactArePatternsSameSpec)) fnExactArePatternsSameCard

/-- THE TIED CARD OF 'laws.FnExactPatternText'. -/
def fnExactPatternTextCard : Claim7 := { stood := { row := fnExactPatternTextRow, standIns := [], harness := (true, "780d736c0fb78f264ba9290d2669a21c899f84af901a21a82bcde0ac63d8dcad"), looks := true }, kinds := [], alts := [], laidByText := true, laidKinds := [.data, .data, .data], laidTests := true, laidLooks := .later }
def FnExactPatternTextCardSaid : Prop := Claim7.holds Tryd.pinned (.plain (OpenSpec.ofChange fnExactPatternTextSpec)) fnExactPatternTextCard

/-- THE TIED CARD OF 'laws.FnExactReadPattern'. -/
def fnExactReadPatternCard : Claim7 := { stood := { row := fnExactReadPatternRow, standIns := [], harness := (true, "780d736c0fb78f264ba9290d2669a21c899f84af901a21a82bcde0ac63d8dcad"), looks := true }, kinds := [], alts := [], laidByText := true, laidKinds := [.data, .data, .data, .data, .sentinel, .sentinel, .pinned], laidTests := true, laidLooks := .later }
def FnExactReadPatternCardSaid : Prop := Claim7.holds Tryd.pinned (.plain (OpenSpec.ofChange fnExactReadPatternSpec)) fnExactReadPatternCard

/-- THE SECOND FORM's CARD OF 'laws.FnExactLeanPattern'. -/
def fnExactLeanPatternUptoCard : Claim7 := { stood := { row := fnExactLeanPatternUptoRow, standIns := [], harness := (true, "780d736c0fb78f264ba9290d2669a21c899f84af901a21a82bcde0ac63d8dcad"), looks := true }, kinds := [], alts := [], laidByText := true, laidKinds := [.wider], laidTests := true, laidLooks := .later }
def FnExactLeanPatternUptoCardSaid : Prop := Claim7.holds Tryd.pinned (.plain (OpenSpec.upto fnExactLeanPatternSpec)) fnExactLeanPatternUptoCard

/-- THE SECOND FORM's CARD OF 'laws.FnExactSpreadPattern'. -/
def fnExactSpreadPatternUptoCard : Claim7 := { stood := { row := fnExactSpreadPatternUptoRow, standIns := [], harness := (true, "780d736c0fb78f264ba9290d2669a21c899f84af901a21a82bcde0ac63d8dcad"), looks := true }, kinds := [], alts := [], laidByText := true, laidKinds := [.wider], laidTests := true, laidLooks := .later }
def FnExactSpreadPatternUptoCardSaid : Prop := Claim7.holds Tryd.pinned (.plain (OpenSpec.upto fnExactSpreadPatternSpec)) fnExactSpreadPatternUptoCard

/-- THE SECOND FORM's CARD OF 'laws.FnExactArePatternsSame'. -/
def fnExactArePatternsSameUptoCard : Claim7 := { stood := { row := fnExactArePatternsSameUptoRow, standIns := [], harness := (true, "780d736c0fb78f264ba9290d2669a21c899f84af901a21a82bcde0ac63d8dcad"), looks := true }, kinds := [], alts := [], laidByText := true, laidKinds := [.wider], laidTests := true, laidLooks := .later }
def FnExactArePatternsSameUptoCardSaid : Prop := Claim7.holds Tryd.pinned (.plain (OpenSpec.upto fnExactArePatternsSameSpec)) fnExactArePatternsSameUptoCard

/-- THE SECOND FORM's CARD OF 'laws.FnExactPatternText'. -/
def fnExactPatternTextUptoCard : Claim7 := { stood := { row := fnExactPatternTextUptoRow, standIns := [], harness := (true, "780d736c0fb78f264ba9290d2669a21c899f84af901a21a82bcde0ac63d8dcad"), looks := true }, kinds := [], alts := [], laidByText := true, laidKinds := [.data, .data, .data], laidTests := true, laidLooks := .later }
def FnExactPatternTextUptoCardSaid : Prop := Claim7.holds Tryd.pinned (.plain (OpenSpec.upto fnExactPatternTextSpec)) fnExactPatternTextUptoCard

/-- THE SECOND FORM's CARD OF 'laws.FnExactReadPattern'. -/
def fnExactReadPatternUptoCard : Claim7 := { stood := { row := fnExactReadPatternUptoRow, standIns := [], harness := (true, "780d736c0fb78f264ba9290d2669a21c899f84af901a21a82bcde0ac63d8dcad"), looks := true }, kinds := [], alts := [], laidByText := true, laidKinds := [.data, .data, .data, .data, .sentinel, .sentinel, .pinned], laidTests := true, laidLooks := .later }
def FnExactReadPatternUptoCardSaid : Prop := Claim7.holds Tryd.pinned (.plain (OpenSpec.upto fnExactReadPatternSpec)) fnExactReadPatternUptoCard
end Rows
end Go.Proofs.YtpejihckepaojaaDoor
