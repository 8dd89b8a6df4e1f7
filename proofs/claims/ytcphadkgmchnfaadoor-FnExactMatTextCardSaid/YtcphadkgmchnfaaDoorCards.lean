/-
  DERIVED. GIVEN WITH THE SEED: THE CARDS: each row of YtcphadkgmchnfaaDoorRows.lean that lists a variable, with what it lists TIED to the program's text (the seventh form; the later family's looks); each row that meets fmt, with fmt's text TOLD by the authors' own Lean function (tested against real Go, not proved from fmt's source: count such statements apart). THE CARD IS WHAT COUNTS. Prove the row's statement (the work); the ties are given (YtcphadkgmchnfaaDoorTie.lean); close each card by the builder's one call (the guide's Derived/Test/ToyasCard.lean, 'card_holds'). Laid BY PROGRAM, IN A SANDBOX (cutbox-door.mjs). By AI agents, Wed Nov 11 2026. No macro, syntax, notation, axiom, sorry.
-/
import Derived.Test.YtcphadkgmchnfaaDoorRows
import GoSem.ClaimSeven
namespace Go.Proofs.YtcphadkgmchnfaaDoor
namespace Rows

/-- THE TIED CARD OF 'laws.FnOrders'. -/
def fnOrdersCard : Claim7 := { stood := { row := fnOrdersRow, standIns := [], harness := (true, "75e42cb008052454a7e4e7f9bd548d543b9c690427812ae368c0660070dfc381"), looks := false }, kinds := [], alts := [], laidByText := true, laidKinds := [.wider], laidTests := true, laidLooks := .later }
def FnOrdersCardSaid : Prop := Claim7.holds Tryd.pinned (.plain (OpenSpec.ofChange fnOrdersSpec)) fnOrdersCard

/-- THE TIED CARD OF 'laws.FnExactPowerMat'. -/
def fnExactPowerMatCard : Claim7 := { stood := { row := fnExactPowerMatRow, standIns := [], harness := (true, "75e42cb008052454a7e4e7f9bd548d543b9c690427812ae368c0660070dfc381"), looks := false }, kinds := [], alts := [], laidByText := true, laidKinds := [.wider], laidTests := true, laidLooks := .later }
def FnExactPowerMatCardSaid : Prop := Claim7.holds Tryd.pinned (.plain (OpenSpec.ofChange fnExactPowerMatSpec)) fnExactPowerMatCard

/-- THE TIED CARD OF 'laws.FnExactOrderOf'. -/
def fnExactOrderOfCard : Claim7 := { stood := { row := fnExactOrderOfRow, standIns := [], harness := (true, "75e42cb008052454a7e4e7f9bd548d543b9c690427812ae368c0660070dfc381"), looks := false }, kinds := [], alts := [], laidByText := true, laidKinds := [.wider], laidTests := true, laidLooks := .later }
def FnExactOrderOfCardSaid : Prop := Claim7.holds Tryd.pinned (.plain (OpenSpec.ofChange fnExactOrderOfSpec)) fnExactOrderOfCard

/-- THE TIED CARD OF 'laws.FnExactMatKind'. -/
def fnExactMatKindCard : Claim7 := { stood := { row := fnExactMatKindRow, standIns := [], harness := (true, "75e42cb008052454a7e4e7f9bd548d543b9c690427812ae368c0660070dfc381"), looks := false }, kinds := [], alts := [], laidByText := true, laidKinds := [.wider], laidTests := true, laidLooks := .later }
def FnExactMatKindCardSaid : Prop := Claim7.holds Tryd.pinned (.plain (OpenSpec.ofChange fnExactMatKindSpec)) fnExactMatKindCard

/-- THE TIED CARD OF 'laws.FnExactMatText'. -/
def fnExactMatTextCard : Claim7 := { stood := { row := fnExactMatTextRow, standIns := [], harness := (true, "75e42cb008052454a7e4e7f9bd548d543b9c690427812ae368c0660070dfc381"), looks := false }, kinds := [], alts := [], laidByText := true, laidKinds := [.data, .data, .data], laidTests := true, laidLooks := .later }
def FnExactMatTextCardSaid : Prop := Claim7.holds Tryd.pinned (.plain (OpenSpec.ofChange fnExactMatTextSpec)) fnExactMatTextCard

/-- THE SECOND FORM's CARD OF 'laws.FnOrders'. -/
def fnOrdersUptoCard : Claim7 := { stood := { row := fnOrdersUptoRow, standIns := [], harness := (true, "75e42cb008052454a7e4e7f9bd548d543b9c690427812ae368c0660070dfc381"), looks := false }, kinds := [], alts := [], laidByText := true, laidKinds := [.wider], laidTests := true, laidLooks := .later }
def FnOrdersUptoCardSaid : Prop := Claim7.holds Tryd.pinned (.plain (OpenSpec.upto fnOrdersSpec)) fnOrdersUptoCard

/-- THE SECOND FORM's CARD OF 'laws.FnExactPowerMat'. -/
def fnExactPowerMatUptoCard : Claim7 := { stood := { row := fnExactPowerMatUptoRow, standIns := [], harness := (true, "75e42cb008052454a7e4e7f9bd548d543b9c690427812ae368c0660070dfc381"), looks := false }, kinds := [], alts := [], laidByText := true, laidKinds := [.wider], laidTests := true, laidLooks := .later }
def FnExactPowerMatUptoCardSaid : Prop := Claim7.holds Tryd.pinned (.plain (OpenSpec.upto fnExactPowerMatSpec)) fnExactPowerMatUptoCard

/-- THE SECOND FORM's CARD OF 'laws.FnExactOrderOf'. -/
def fnExactOrderOfUptoCard : Claim7 := { stood := { row := fnExactOrderOfUptoRow, standIns := [], harness := (true, "75e42cb008052454a7e4e7f9bd548d543b9c690427812ae368c0660070dfc381"), looks := false }, kinds := [], alts := [], laidByText := true, laidKinds := [.wider], laidTests := true, laidLooks := .later }
def FnExactOrderOfUptoCardSaid : Prop := Claim7.holds Tryd.pinned (.plain (OpenSpec.upto fnExactOrderOfSpec)) fnExactOrderOfUptoCard

/-- THE SECOND FORM's CARD OF 'laws.FnExactMatKind'. -/
def fnExactMatKindUptoCard : Claim7 := { stood := { row := fnExactMatKindUptoRow, standIns := [], harness := (true, "75e42cb008052454a7e4e7f9bd548d543b9c690427812ae368c0660070dfc381"), looks := false }, kinds := [], alts := [], laidByText := true, laidKinds := [.wider], laidTests := true, laidLooks := .later }
def FnExactMatKindUptoCardSaid : Prop := Claim7.holds Tryd.pinned (.plain (OpenSpec.upto fnExactMatKindSpec)) fnExactMatKindUptoCard

/-- THE SECOND FORM's CARD OF 'laws.FnExactMatText'. -/
def fnExactMatTextUptoCard : Claim7 := { stood := { row := fnExactMatTextUptoRow, standIns := [], harness := (true, "75e42cb008052454a7e4e7f9bd548d543b9c690427812ae368c0660070dfc381"), looks := false }, kinds := [], alts := [], laidByText := true, laidKinds := [.data, .data, .data], laidTests := true, laidLooks := .later }
def FnExactMatTextUptoCardSaid : Prop := Claim7.holds Tryd.pinned (.plain (OpenSpec.upto fnExactMatTextSpec)) fnExactMatTextUptoCard
end Rows
end Go.Proofs.YtcphadkgmchnfaaDoor
