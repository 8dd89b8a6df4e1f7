/-
  DERIVED. GIVEN WITH THE SEED: THE CARDS: each row of YtjocmfnjfmlgiaaDoorRows.lean that lists a variable, with what it lists TIED to the program's text (the seventh form; the later family's looks); each row that meets fmt, with fmt's text TOLD by the authors' own Lean function (tested against real Go, not proved from fmt's source: count such statements apart). THE CARD IS WHAT COUNTS. Prove the row's statement (the work); the ties are given (YtjocmfnjfmlgiaaDoorTie.lean); close each card by the builder's one call (the guide's Derived/Test/ToyasCard.lean, 'card_holds'). Laid BY PROGRAM, IN A SANDBOX (cutbox-door.mjs). By AI agents, Wed Nov 11 2026. No macro, syntax, notation, axiom, sorry.
-/
import Derived.Test.YtjocmfnjfmlgiaaDoorRows
import GoSem.ClaimSeven
namespace Go.Proofs.YtjocmfnjfmlgiaaDoor
namespace Rows

/-- THE TIED CARD OF 'laws.FnExactGroupNames'. -/
def fnExactGroupNamesCard : Claim7 := { stood := { row := fnExactGroupNamesRow, standIns := [], harness := (true, "774a89168f34edd2288ec08b534295b0ca2fcd74e5ddf857d4a637c3acfd12dd"), looks := false }, kinds := [], alts := [], laidByText := true, laidKinds := [.data], laidTests := true, laidLooks := .later }
def FnExactGroupNamesCardSaid : Prop := Claim7.holds Tryd.pinned (.plain (OpenSpec.ofChange fnExactGroupNamesSpec)) fnExactGroupNamesCard

/-- THE TIED CARD OF 'laws.FnExactNameOfFacts'. -/
def fnExactNameOfFactsCard : Claim7 := { stood := { row := fnExactNameOfFactsRow, standIns := [], harness := (true, "774a89168f34edd2288ec08b534295b0ca2fcd74e5ddf857d4a637c3acfd12dd"), looks := false }, kinds := [], alts := [], laidByText := true, laidKinds := [.data, .data, .data], laidTests := true, laidLooks := .later }
def FnExactNameOfFactsCardSaid : Prop := Claim7.holds Tryd.pinned (.plain (OpenSpec.ofChange fnExactNameOfFactsSpec)) fnExactNameOfFactsCard

/-- THE TIED CARD OF 'laws.FnExactSignatureOf'. -/
def fnExactSignatureOfCard : Claim7 := { stood := { row := fnExactSignatureOfRow, standIns := [], harness := (true, "774a89168f34edd2288ec08b534295b0ca2fcd74e5ddf857d4a637c3acfd12dd"), looks := false }, kinds := [], alts := [], laidByText := true, laidKinds := [.data], laidTests := true, laidLooks := .later }
def FnExactSignatureOfCardSaid : Prop := Claim7.holds Tryd.pinned (.plain (OpenSpec.ofChange fnExactSignatureOfSpec)) fnExactSignatureOfCard

/-- THE TIED CARD OF 'laws.FnExactPointOrder'. -/
def fnExactPointOrderCard : Claim7 := { stood := { row := fnExactPointOrderRow, standIns := [], harness := (true, "774a89168f34edd2288ec08b534295b0ca2fcd74e5ddf857d4a637c3acfd12dd"), looks := false }, kinds := [], alts := [], laidByText := true, laidKinds := [.data], laidTests := true, laidLooks := .later }
def FnExactPointOrderCardSaid : Prop := Claim7.holds Tryd.pinned (.plain (OpenSpec.ofChange fnExactPointOrderSpec)) fnExactPointOrderCard

/-- THE TIED CARD OF 'laws.FnExactNameOfSignature'. -/
def fnExactNameOfSignatureCard : Claim7 := { stood := { row := fnExactNameOfSignatureRow, standIns := [], harness := (true, "774a89168f34edd2288ec08b534295b0ca2fcd74e5ddf857d4a637c3acfd12dd"), looks := false }, kinds := [], alts := [], laidByText := true, laidKinds := [.data], laidTests := true, laidLooks := .later }
def FnExactNameOfSignatureCardSaid : Prop := Claim7.holds Tryd.pinned (.plain (OpenSpec.ofChange fnExactNameOfSignatureSpec)) fnExactNameOfSignatureCard

/-- THE TIED CARD OF 'laws.FnSignatures'. -/
def fnSignaturesCard : Claim7 := { stood := { row := fnSignaturesRow, standIns := [], harness := (true, "774a89168f34edd2288ec08b534295b0ca2fcd74e5ddf857d4a637c3acfd12dd"), looks := false }, kinds := [], alts := [], laidByText := true, laidKinds := [.data], laidTests := true, laidLooks := .later }
def FnSignaturesCardSaid : Prop := Claim7.holds Tryd.pinned (.plain (OpenSpec.ofChange fnSignaturesSpec)) fnSignaturesCard

/-- THE SECOND FORM's CARD OF 'laws.FnExactGroupNames'. -/
def fnExactGroupNamesUptoCard : Claim7 := { stood := { row := fnExactGroupNamesUptoRow, standIns := [], harness := (true, "774a89168f34edd2288ec08b534295b0ca2fcd74e5ddf857d4a637c3acfd12dd"), looks := false }, kinds := [], alts := [], laidByText := true, laidKinds := [.data], laidTests := true, laidLooks := .later }
def FnExactGroupNamesUptoCardSaid : Prop := Claim7.holds Tryd.pinned (.plain (OpenSpec.upto fnExactGroupNamesSpec)) fnExactGroupNamesUptoCard

/-- THE SECOND FORM's CARD OF 'laws.FnExactNameOfFacts'. -/
def fnExactNameOfFactsUptoCard : Claim7 := { stood := { row := fnExactNameOfFactsUptoRow, standIns := [], harness := (true, "774a89168f34edd2288ec08b534295b0ca2fcd74e5ddf857d4a637c3acfd12dd"), looks := false }, kinds := [], alts := [], laidByText := true, laidKinds := [.data, .data, .data], laidTests := true, laidLooks := .later }
def FnExactNameOfFactsUptoCardSaid : Prop := Claim7.holds Tryd.pinned (.plain (OpenSpec.upto fnExactNameOfFactsSpec)) fnExactNameOfFactsUptoCard

/-- THE SECOND FORM's CARD OF 'laws.FnExactSignatureOf'. -/
def fnExactSignatureOfUptoCard : Claim7 := { stood := { row := fnExactSignatureOfUptoRow, standIns := [], harness := (true, "774a89168f34edd2288ec08b534295b0ca2fcd74e5ddf857d4a637c3acfd12dd"), looks := false }, kinds := [], alts := [], laidByText := true, laidKinds := [.data], laidTests := true, laidLooks := .later }
def FnExactSignatureOfUptoCardSaid : Prop := Claim7.holds Tryd.pinned (.plain (OpenSpec.upto fnExactSignatureOfSpec)) fnExactSignatureOfUptoCard

/-- THE SECOND FORM's CARD OF 'laws.FnExactPointOrder'. -/
def fnExactPointOrderUptoCard : Claim7 := { stood := { row := fnExactPointOrderUptoRow, standIns := [], harness := (true, "774a89168f34edd2288ec08b534295b0ca2fcd74e5ddf857d4a637c3acfd12dd"), looks := false }, kinds := [], alts := [], laidByText := true, laidKinds := [.data], laidTests := true, laidLooks := .later }
def FnExactPointOrderUptoCardSaid : Prop := Claim7.holds Tryd.pinned (.plain (OpenSpec.upto fnExactPointOrderSpec)) fnExactPointOrderUptoCard

/-- THE SECOND FORM's CARD OF 'laws.FnExactNameOfSignature'. -/
def fnExactNameOfSignatureUptoCard : Claim7 := { stood := { row := fnExactNameOfSignatureUptoRow, standIns := [], harness := (true, "774a89168f34edd2288ec08b534295b0ca2fcd74e5ddf857d4a637c3acfd12dd"), looks := false }, kinds := [], alts := [], laidByText := true, laidKinds := [.data], laidTests := true, laidLooks := .later }
def FnExactNameOfSignatureUptoCardSaid : Prop := Claim7.holds Tryd.pinned (.plain (OpenSpec.upto fnExactNameOfSignatureSpec)) fnExactNameOfSignatureUptoCard

/-- THE SECOND FORM's CARD OF 'laws.FnSignatures'. -/
def fnSignaturesUptoCard : Claim7 := { stood := { row := fnSignaturesUptoRow, standIns := [], harness := (true, "774a89168f34edd2288ec08b534295b0ca2fcd74e5ddf857d4a637c3acfd12dd"), looks := false }, kinds := [], alts := [], laidByText := true, laidKinds := [.data], laidTests := true, laidLooks := .later }
def FnSignaturesUptoCardSaid : Prop := Claim7.holds Tryd.pinned (.plain (OpenSpec.upto fnSignaturesSpec)) fnSignaturesUptoCard
end Rows
end Go.Proofs.YtjocmfnjfmlgiaaDoor
