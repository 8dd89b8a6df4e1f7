/-
  DERIVED. GIVEN WITH THE SEED: THE CARDS: each row of YtapfjmmlogcmkaaDoorRows.lean that lists a variable, with what it lists TIED to the program's text (the seventh form; the later family's looks); each row that meets fmt, with fmt's text TOLD by the authors' own Lean function (tested against real Go, not proved from fmt's source: count such statements apart). THE CARD IS WHAT COUNTS. Prove the row's statement (the work); the ties are given (YtapfjmmlogcmkaaDoorTie.lean); close each card by the builder's one call (the guide's Derived/Test/ToyasCard.lean, 'card_holds'). Laid BY PROGRAM, IN A SANDBOX (cutbox-door.mjs). By AI agents, Wed Nov 11 2026. No macro, syntax, notation, axiom, sorry.
-/
import Derived.Test.YtapfjmmlogcmkaaDoorRows
import GoSem.ClaimSeven
namespace Go.Proofs.YtapfjmmlogcmkaaDoor
namespace Rows

/-- THE TIED CARD OF 'laws.FnMotions'. -/
def fnMotionsCard : Claim7 := { stood := { row := fnMotionsRow, standIns := [], harness := (true, "837287eb637b38500d39fe4740830c6d7cfbaf4cbcd6a0a62982d661dd77bd98"), looks := false }, kinds := [], alts := [], laidByText := true, laidKinds := [.wider], laidTests := true, laidLooks := .later }
def FnMotionsCardSaid : Prop := Claim7.holds Tryd.pinned (.plain (OpenSpec.ofChange fnMotionsSpec)) fnMotionsCard

/-- THE TIED CARD OF 'laws.FnKinds'. -/
def fnKindsCard : Claim7 := { stood := { row := fnKindsRow, standIns := [], harness := (true, "837287eb637b38500d39fe4740830c6d7cfbaf4cbcd6a0a62982d661dd77bd98"), looks := false }, kinds := [], alts := [], laidByText := true, laidKinds := [.wider], laidTests := true, laidLooks := .later }
def FnKindsCardSaid : Prop := Claim7.holds Tryd.pinned (.plain (OpenSpec.ofChange fnKindsSpec)) fnKindsCard

/-- THE TIED CARD OF 'laws.FnExactIsMotion'. -/
def fnExactIsMotionCard : Claim7 := { stood := { row := fnExactIsMotionRow, standIns := [], harness := (true, "837287eb637b38500d39fe4740830c6d7cfbaf4cbcd6a0a62982d661dd77bd98"), looks := false }, kinds := [], alts := [], laidByText := true, laidKinds := [.wider], laidTests := true, laidLooks := .later }
def FnExactIsMotionCardSaid : Prop := Claim7.holds Tryd.pinned (.plain (OpenSpec.ofChange fnExactIsMotionSpec)) fnExactIsMotionCard

/-- THE TIED CARD OF 'laws.FnExactComposeMotions'. -/
def fnExactComposeMotionsCard : Claim7 := { stood := { row := fnExactComposeMotionsRow, standIns := [], harness := (true, "837287eb637b38500d39fe4740830c6d7cfbaf4cbcd6a0a62982d661dd77bd98"), looks := false }, kinds := [], alts := [], laidByText := true, laidKinds := [.wider], laidTests := true, laidLooks := .later }
def FnExactComposeMotionsCardSaid : Prop := Claim7.holds Tryd.pinned (.plain (OpenSpec.ofChange fnExactComposeMotionsSpec)) fnExactComposeMotionsCard

/-- THE TIED CARD OF 'laws.FnExactInverseMotion'. -/
def fnExactInverseMotionCard : Claim7 := { stood := { row := fnExactInverseMotionRow, standIns := [], harness := (true, "837287eb637b38500d39fe4740830c6d7cfbaf4cbcd6a0a62982d661dd77bd98"), looks := false }, kinds := [], alts := [], laidByText := true, laidKinds := [.wider], laidTests := true, laidLooks := .later }
def FnExactInverseMotionCardSaid : Prop := Claim7.holds Tryd.pinned (.plain (OpenSpec.ofChange fnExactInverseMotionSpec)) fnExactInverseMotionCard

/-- THE TIED CARD OF 'laws.FnExactApplyMotion'. -/
def fnExactApplyMotionCard : Claim7 := { stood := { row := fnExactApplyMotionRow, standIns := [], harness := (true, "837287eb637b38500d39fe4740830c6d7cfbaf4cbcd6a0a62982d661dd77bd98"), looks := false }, kinds := [], alts := [], laidByText := true, laidKinds := [.wider], laidTests := true, laidLooks := .later }
def FnExactApplyMotionCardSaid : Prop := Claim7.holds Tryd.pinned (.plain (OpenSpec.ofChange fnExactApplyMotionSpec)) fnExactApplyMotionCard

/-- THE TIED CARD OF 'laws.FnExactKindOfMotion'. -/
def fnExactKindOfMotionCard : Claim7 := { stood := { row := fnExactKindOfMotionRow, standIns := [], harness := (true, "837287eb637b38500d39fe4740830c6d7cfbaf4cbcd6a0a62982d661dd77bd98"), looks := false }, kinds := [], alts := [], laidByText := true, laidKinds := [.wider], laidTests := true, laidLooks := .later }
def FnExactKindOfMotionCardSaid : Prop := Claim7.holds Tryd.pinned (.plain (OpenSpec.ofChange fnExactKindOfMotionSpec)) fnExactKindOfMotionCard

/-- THE TIED CARD OF 'laws.FnExactOrderOfMotion'. -/
def fnExactOrderOfMotionCard : Claim7 := { stood := { row := fnExactOrderOfMotionRow, standIns := [], harness := (true, "837287eb637b38500d39fe4740830c6d7cfbaf4cbcd6a0a62982d661dd77bd98"), looks := false }, kinds := [], alts := [], laidByText := true, laidKinds := [.wider], laidTests := true, laidLooks := .later }
def FnExactOrderOfMotionCardSaid : Prop := Claim7.holds Tryd.pinned (.plain (OpenSpec.ofChange fnExactOrderOfMotionSpec)) fnExactOrderOfMotionCard

/-- THE TIED CARD OF 'laws.FnExactCentreOf'. -/
def fnExactCentreOfCard : Claim7 := { stood := { row := fnExactCentreOfRow, standIns := [], harness := (true, "837287eb637b38500d39fe4740830c6d7cfbaf4cbcd6a0a62982d661dd77bd98"), looks := false }, kinds := [], alts := [], laidByText := true, laidKinds := [.wider], laidTests := true, laidLooks := .later }
def FnExactCentreOfCardSaid : Prop := Claim7.holds Tryd.pinned (.plain (OpenSpec.ofChange fnExactCentreOfSpec)) fnExactCentreOfCard

/-- THE TIED CARD OF 'laws.FnExactTwiceGlide'. -/
def fnExactTwiceGlideCard : Claim7 := { stood := { row := fnExactTwiceGlideRow, standIns := [], harness := (true, "837287eb637b38500d39fe4740830c6d7cfbaf4cbcd6a0a62982d661dd77bd98"), looks := false }, kinds := [], alts := [], laidByText := true, laidKinds := [.wider], laidTests := true, laidLooks := .later }
def FnExactTwiceGlideCardSaid : Prop := Claim7.holds Tryd.pinned (.plain (OpenSpec.ofChange fnExactTwiceGlideSpec)) fnExactTwiceGlideCard

/-- THE SECOND FORM's CARD OF 'laws.FnMotions'. -/
def fnMotionsUptoCard : Claim7 := { stood := { row := fnMotionsUptoRow, standIns := [], harness := (true, "837287eb637b38500d39fe4740830c6d7cfbaf4cbcd6a0a62982d661dd77bd98"), looks := false }, kinds := [], alts := [], laidByText := true, laidKinds := [.wider], laidTests := true, laidLooks := .later }
def FnMotionsUptoCardSaid : Prop := Claim7.holds Tryd.pinned (.plain (OpenSpec.upto fnMotionsSpec)) fnMotionsUptoCard

/-- THE SECOND FORM's CARD OF 'laws.FnKinds'. -/
def fnKindsUptoCard : Claim7 := { stood := { row := fnKindsUptoRow, standIns := [], harness := (true, "837287eb637b38500d39fe4740830c6d7cfbaf4cbcd6a0a62982d661dd77bd98"), looks := false }, kinds := [], alts := [], laidByText := true, laidKinds := [.wider], laidTests := true, laidLooks := .later }
def FnKindsUptoCardSaid : Prop := Claim7.holds Tryd.pinned (.plain (OpenSpec.upto fnKindsSpec)) fnKindsUptoCard

/-- THE SECOND FORM's CARD OF 'laws.FnExactIsMotion'. -/
def fnExactIsMotionUptoCard : Claim7 := { stood := { row := fnExactIsMotionUptoRow, standIns := [], harness := (true, "837287eb637b38500d39fe4740830c6d7cfbaf4cbcd6a0a62982d661dd77bd98"), looks := false }, kinds := [], alts := [], laidByText := true, laidKinds := [.wider], laidTests := true, laidLooks := .later }
def FnExactIsMotionUptoCardSaid : Prop := Claim7.holds Tryd.pinned (.plain (OpenSpec.upto fnExactIsMotionSpec)) fnExactIsMotionUptoCard

/-- THE SECOND FORM's CARD OF 'laws.FnExactComposeMotions'. -/
def fnExactComposeMotionsUptoCard : Claim7 := { stood := { row := fnExactComposeMotionsUptoRow, standIns := [], harness := (true, "837287eb637b38500d39fe4740830c6d7cfbaf4cbcd6a0a62982d661dd77bd98"), looks := false }, kinds := [], alts := [], laidByText := true, laidKinds := [.wider], laidTests := true, laidLooks := .later }
def FnExactComposeMotionsUptoCardSaid : Prop := Claim7.holds Tryd.pinned (.plain (OpenSpec.upto fnExactComposeMotionsSpec)) fnExactComposeMotionsUptoCard

/-- THE SECOND FORM's CARD OF 'laws.FnExactInverseMotion'. -/
def fnExactInverseMotionUptoCard : Claim7 := { stood := { row := fnExactInverseMotionUptoRow, standIns := [], harness := (true, "837287eb637b38500d39fe4740830c6d7cfbaf4cbcd6a0a62982d661dd77bd98"), looks := false }, kinds := [], alts := [], laidByText := true, laidKinds := [.wider], laidTests := true, laidLooks := .later }
def FnExactInverseMotionUptoCardSaid : Prop := Claim7.holds Tryd.pinned (.plain (OpenSpec.upto fnExactInverseMotionSpec)) fnExactInverseMotionUptoCard

/-- THE SECOND FORM's CARD OF 'laws.FnExactApplyMotion'. -/
def fnExactApplyMotionUptoCard : Claim7 := { stood := { row := fnExactApplyMotionUptoRow, standIns := [], harness := (true, "837287eb637b38500d39fe4740830c6d7cfbaf4cbcd6a0a62982d661dd77bd98"), looks := false }, kinds := [], alts := [], laidByText := true, laidKinds := [.wider], laidTests := true, laidLooks := .later }
def FnExactApplyMotionUptoCardSaid : Prop := Claim7.holds Tryd.pinned (.plain (OpenSpec.upto fnExactApplyMotionSpec)) fnExactApplyMotionUptoCard

/-- THE SECOND FORM's CARD OF 'laws.FnExactKindOfMotion'. -/
def fnExactKindOfMotionUptoCard : Claim7 := { stood := { row := fnExactKindOfMotionUptoRow, standIns := [], harness := (true, "837287eb637b38500d39fe4740830c6d7cfbaf4cbcd6a0a62982d661dd77bd98"), looks := false }, kinds := [], alts := [], laidByText := true, laidKinds := [.wider], laidTests := true, laidLooks := .later }
def FnExactKindOfMotionUptoCardSaid : Prop := Claim7.holds Tryd.pinned (.plain (OpenSpec.upto fnExactKindOfMotionSpec)) fnExactKindOfMotionUptoCard

/-- THE SECOND FORM's CARD OF 'laws.FnExactOrderOfMotion'. -/
def fnExactOrderOfMotionUptoCard : Claim7 := { stood := { row := fnExactOrderOfMotionUptoRow, standIns := [], harness := (true, "837287eb637b38500d39fe4740830c6d7cfbaf4cbcd6a0a62982d661dd77bd98"), looks := false }, kinds := [], alts := [], laidByText := true, laidKinds := [.wider], laidTests := true, laidLooks := .later }
def FnExactOrderOfMotionUptoCardSaid : Prop := Claim7.holds Tryd.pinned (.plain (OpenSpec.upto fnExactOrderOfMotionSpec)) fnExactOrderOfMotionUptoCard

/-- THE SECOND FORM's CARD OF 'laws.FnExactCentreOf'. -/
def fnExactCentreOfUptoCard : Claim7 := { stood := { row := fnExactCentreOfUptoRow, standIns := [], harness := (true, "837287eb637b38500d39fe4740830c6d7cfbaf4cbcd6a0a62982d661dd77bd98"), looks := false }, kinds := [], alts := [], laidByText := true, laidKinds := [.wider], laidTests := true, laidLooks := .later }
def FnExactCentreOfUptoCardSaid : Prop := Claim7.holds Tryd.pinned (.plain (OpenSpec.upto fnExactCentreOfSpec)) fnExactCentreOfUptoCard

/-- THE SECOND FORM's CARD OF 'laws.FnExactTwiceGlide'. -/
def fnExactTwiceGlideUptoCard : Claim7 := { stood := { row := fnExactTwiceGlideUptoRow, standIns := [], harness := (true, "837287eb637b38500d39fe4740830c6d7cfbaf4cbcd6a0a62982d661dd77bd98"), looks := false }, kinds := [], alts := [], laidByText := true, laidKinds := [.wider], laidTests := true, laidLooks := .later }
def FnExactTwiceGlideUptoCardSaid : Prop := Claim7.holds Tryd.pinned (.plain (OpenSpec.upto fnExactTwiceGlideSpec)) fnExactTwiceGlideUptoCard
end Rows
end Go.Proofs.YtapfjmmlogcmkaaDoor
