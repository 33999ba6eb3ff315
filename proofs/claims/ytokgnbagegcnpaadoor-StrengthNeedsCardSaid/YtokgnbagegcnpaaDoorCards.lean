/-
  DERIVED. GIVEN WITH THE SEED: THE CARDS: each row of YtokgnbagegcnpaaDoorRows.lean that lists a variable, with what it lists TIED to the program's text (the seventh form; the later family's looks); each row that meets fmt, with fmt's text TOLD by the authors' own Lean function (tested against real Go, not proved from fmt's source: count such statements apart). THE CARD IS WHAT COUNTS. Prove the row's statement (the work); the ties are given (YtokgnbagegcnpaaDoorTie.lean); close each card by the builder's one call (the guide's Derived/Test/ToyasCard.lean, 'card_holds'). Laid BY PROGRAM, IN A SANDBOX (cutbox-door.mjs). By AI agents, Wed Nov 11 2026. No macro, syntax, notation, axiom, sorry.
-/
import Derived.Test.YtokgnbagegcnpaaDoorRows
import GoSem.ClaimSeven
namespace Go.Proofs.YtokgnbagegcnpaaDoor
namespace Rows

/-- THE TIED CARD OF 'culletlaw05.StrengthChecks'. -/
def strengthChecksCard : Claim7 := { stood := { row := strengthChecksRow, standIns := [], harness := (true, "edcdd8f3a7bc084991aa79e5e735838bb0f2aaf79d3c71bfd90cf1fa01c0d68c"), looks := true }, kinds := [], alts := [], laidByText := true, laidKinds := [.data, .data], laidTests := true, laidLooks := .later }
def StrengthChecksCardSaid : Prop := Claim7.holds Tryd.pinned (.plain (OpenSpec.ofChange strengthChecksSpec)) strengthChecksCard

/-- THE TIED CARD OF 'culletlaw05.StrengthStresses'. -/
def strengthStressesCard : Claim7 := { stood := { row := strengthStressesRow, standIns := [], harness := (true, "edcdd8f3a7bc084991aa79e5e735838bb0f2aaf79d3c71bfd90cf1fa01c0d68c"), looks := true }, kinds := [], alts := [], laidByText := true, laidKinds := [.data, .data], laidTests := true, laidLooks := .later }
def StrengthStressesCardSaid : Prop := Claim7.holds Tryd.pinned (.plain (OpenSpec.ofChange strengthStressesSpec)) strengthStressesCard

/-- THE TIED CARD OF 'culletlaw05.StrengthNeeds'. -/
def strengthNeedsCard : Claim7 := { stood := { row := strengthNeedsRow, standIns := [], harness := (true, "edcdd8f3a7bc084991aa79e5e735838bb0f2aaf79d3c71bfd90cf1fa01c0d68c"), looks := true }, kinds := [], alts := [], laidByText := true, laidKinds := [.data, .data], laidTests := true, laidLooks := .later }
def StrengthNeedsCardSaid : Prop := Claim7.holds Tryd.pinned (.plain (OpenSpec.ofChange strengthNeedsSpec)) strengthNeedsCard

/-- THE TIED CARD OF 'culletlaw05.StrengthLehrs'. -/
def strengthLehrsCard : Claim7 := { stood := { row := strengthLehrsRow, standIns := [], harness := (true, "edcdd8f3a7bc084991aa79e5e735838bb0f2aaf79d3c71bfd90cf1fa01c0d68c"), looks := true }, kinds := [], alts := [], laidByText := true, laidKinds := [.data, .data], laidTests := true, laidLooks := .later }
def StrengthLehrsCardSaid : Prop := Claim7.holds Tryd.pinned (.plain (OpenSpec.ofChange strengthLehrsSpec)) strengthLehrsCard

/-- THE TIED CARD OF 'culletlaw05.StrengthInside'. -/
def strengthInsideCard : Claim7 := { stood := { row := strengthInsideRow, standIns := [], harness := (true, "edcdd8f3a7bc084991aa79e5e735838bb0f2aaf79d3c71bfd90cf1fa01c0d68c"), looks := true }, kinds := [], alts := [], laidByText := true, laidKinds := [.data, .data], laidTests := true, laidLooks := .later }
def StrengthInsideCardSaid : Prop := Claim7.holds Tryd.pinned (.plain (OpenSpec.ofChange strengthInsideSpec)) strengthInsideCard

/-- THE TIED CARD OF 'culletlaw05.StrengthBursts'. -/
def strengthBurstsCard : Claim7 := { stood := { row := strengthBurstsRow, standIns := [], harness := (true, "edcdd8f3a7bc084991aa79e5e735838bb0f2aaf79d3c71bfd90cf1fa01c0d68c"), looks := true }, kinds := [], alts := [], laidByText := true, laidKinds := [.data, .data], laidTests := true, laidLooks := .later }
def StrengthBurstsCardSaid : Prop := Claim7.holds Tryd.pinned (.plain (OpenSpec.ofChange strengthBurstsSpec)) strengthBurstsCard

/-- THE TIED CARD OF 'culletlaw05.StrengthMore'. -/
def strengthMoreCard : Claim7 := { stood := { row := strengthMoreRow, standIns := [], harness := (true, "edcdd8f3a7bc084991aa79e5e735838bb0f2aaf79d3c71bfd90cf1fa01c0d68c"), looks := true }, kinds := [], alts := [], laidByText := true, laidKinds := [.data, .data], laidTests := true, laidLooks := .later }
def StrengthMoreCardSaid : Prop := Claim7.holds Tryd.pinned (.plain (OpenSpec.ofChange strengthMoreSpec)) strengthMoreCard

/-- THE TIED CARD OF 'culletlaw05.StrengthPasses'. -/
def strengthPassesCard : Claim7 := { stood := { row := strengthPassesRow, standIns := [], harness := (true, "edcdd8f3a7bc084991aa79e5e735838bb0f2aaf79d3c71bfd90cf1fa01c0d68c"), looks := true }, kinds := [], alts := [], laidByText := true, laidKinds := [.data, .data], laidTests := true, laidLooks := .later }
def StrengthPassesCardSaid : Prop := Claim7.holds Tryd.pinned (.plain (OpenSpec.ofChange strengthPassesSpec)) strengthPassesCard

/-- THE TIED CARD OF 'culletlaw05.StrengthThin'. -/
def strengthThinCard : Claim7 := { stood := { row := strengthThinRow, standIns := [], harness := (true, "edcdd8f3a7bc084991aa79e5e735838bb0f2aaf79d3c71bfd90cf1fa01c0d68c"), looks := true }, kinds := [], alts := [], laidByText := true, laidKinds := [.data, .data], laidTests := true, laidLooks := .later }
def StrengthThinCardSaid : Prop := Claim7.holds Tryd.pinned (.plain (OpenSpec.ofChange strengthThinSpec)) strengthThinCard

/-- THE TIED CARD OF 'culletlaw05.StrengthWeights'. -/
def strengthWeightsCard : Claim7 := { stood := { row := strengthWeightsRow, standIns := [], harness := (true, "edcdd8f3a7bc084991aa79e5e735838bb0f2aaf79d3c71bfd90cf1fa01c0d68c"), looks := true }, kinds := [], alts := [], laidByText := true, laidKinds := [.data, .data], laidTests := true, laidLooks := .later }
def StrengthWeightsCardSaid : Prop := Claim7.holds Tryd.pinned (.plain (OpenSpec.ofChange strengthWeightsSpec)) strengthWeightsCard

/-- THE TIED CARD OF 'culletlaw05.StrengthShocks'. -/
def strengthShocksCard : Claim7 := { stood := { row := strengthShocksRow, standIns := [], harness := (true, "edcdd8f3a7bc084991aa79e5e735838bb0f2aaf79d3c71bfd90cf1fa01c0d68c"), looks := true }, kinds := [], alts := [], laidByText := true, laidKinds := [.data, .data], laidTests := true, laidLooks := .later }
def StrengthShocksCardSaid : Prop := Claim7.holds Tryd.pinned (.plain (OpenSpec.ofChange strengthShocksSpec)) strengthShocksCard

/-- THE TIED CARD OF 'culletlaw05.StrengthSlower'. -/
def strengthSlowerCard : Claim7 := { stood := { row := strengthSlowerRow, standIns := [], harness := (true, "edcdd8f3a7bc084991aa79e5e735838bb0f2aaf79d3c71bfd90cf1fa01c0d68c"), looks := true }, kinds := [], alts := [], laidByText := true, laidKinds := [.data, .data], laidTests := true, laidLooks := .later }
def StrengthSlowerCardSaid : Prop := Claim7.holds Tryd.pinned (.plain (OpenSpec.ofChange strengthSlowerSpec)) strengthSlowerCard

/-- THE TIED CARD OF 'culletlaw05.StrengthRecipes'. -/
def strengthRecipesCard : Claim7 := { stood := { row := strengthRecipesRow, standIns := [], harness := (true, "edcdd8f3a7bc084991aa79e5e735838bb0f2aaf79d3c71bfd90cf1fa01c0d68c"), looks := true }, kinds := [], alts := [], laidByText := true, laidKinds := [.data, .data], laidTests := true, laidLooks := .later }
def StrengthRecipesCardSaid : Prop := Claim7.holds Tryd.pinned (.plain (OpenSpec.ofChange strengthRecipesSpec)) strengthRecipesCard

/-- THE SECOND FORM's CARD OF 'culletlaw05.StrengthChecks'. -/
def strengthChecksUptoCard : Claim7 := { stood := { row := strengthChecksUptoRow, standIns := [], harness := (true, "edcdd8f3a7bc084991aa79e5e735838bb0f2aaf79d3c71bfd90cf1fa01c0d68c"), looks := true }, kinds := [], alts := [], laidByText := true, laidKinds := [.data, .data], laidTests := true, laidLooks := .later }
def StrengthChecksUptoCardSaid : Prop := Claim7.holds Tryd.pinned (.plain (OpenSpec.upto strengthChecksSpec)) strengthChecksUptoCard

/-- THE SECOND FORM's CARD OF 'culletlaw05.StrengthStresses'. -/
def strengthStressesUptoCard : Claim7 := { stood := { row := strengthStressesUptoRow, standIns := [], harness := (true, "edcdd8f3a7bc084991aa79e5e735838bb0f2aaf79d3c71bfd90cf1fa01c0d68c"), looks := true }, kinds := [], alts := [], laidByText := true, laidKinds := [.data, .data], laidTests := true, laidLooks := .later }
def StrengthStressesUptoCardSaid : Prop := Claim7.holds Tryd.pinned (.plain (OpenSpec.upto strengthStressesSpec)) strengthStressesUptoCard

/-- THE SECOND FORM's CARD OF 'culletlaw05.StrengthNeeds'. -/
def strengthNeedsUptoCard : Claim7 := { stood := { row := strengthNeedsUptoRow, standIns := [], harness := (true, "edcdd8f3a7bc084991aa79e5e735838bb0f2aaf79d3c71bfd90cf1fa01c0d68c"), looks := true }, kinds := [], alts := [], laidByText := true, laidKinds := [.data, .data], laidTests := true, laidLooks := .later }
def StrengthNeedsUptoCardSaid : Prop := Claim7.holds Tryd.pinned (.plain (OpenSpec.upto strengthNeedsSpec)) strengthNeedsUptoCard

/-- THE SECOND FORM's CARD OF 'culletlaw05.StrengthLehrs'. -/
def strengthLehrsUptoCard : Claim7 := { stood := { row := strengthLehrsUptoRow, standIns := [], harness := (true, "edcdd8f3a7bc084991aa79e5e735838bb0f2aaf79d3c71bfd90cf1fa01c0d68c"), looks := true }, kinds := [], alts := [], laidByText := true, laidKinds := [.data, .data], laidTests := true, laidLooks := .later }
def StrengthLehrsUptoCardSaid : Prop := Claim7.holds Tryd.pinned (.plain (OpenSpec.upto strengthLehrsSpec)) strengthLehrsUptoCard

/-- THE SECOND FORM's CARD OF 'culletlaw05.StrengthInside'. -/
def strengthInsideUptoCard : Claim7 := { stood := { row := strengthInsideUptoRow, standIns := [], harness := (true, "edcdd8f3a7bc084991aa79e5e735838bb0f2aaf79d3c71bfd90cf1fa01c0d68c"), looks := true }, kinds := [], alts := [], laidByText := true, laidKinds := [.data, .data], laidTests := true, laidLooks := .later }
def StrengthInsideUptoCardSaid : Prop := Claim7.holds Tryd.pinned (.plain (OpenSpec.upto strengthInsideSpec)) strengthInsideUptoCard

/-- THE SECOND FORM's CARD OF 'culletlaw05.StrengthBursts'. -/
def strengthBurstsUptoCard : Claim7 := { stood := { row := strengthBurstsUptoRow, standIns := [], harness := (true, "edcdd8f3a7bc084991aa79e5e735838bb0f2aaf79d3c71bfd90cf1fa01c0d68c"), looks := true }, kinds := [], alts := [], laidByText := true, laidKinds := [.data, .data], laidTests := true, laidLooks := .later }
def StrengthBurstsUptoCardSaid : Prop := Claim7.holds Tryd.pinned (.plain (OpenSpec.upto strengthBurstsSpec)) strengthBurstsUptoCard

/-- THE SECOND FORM's CARD OF 'culletlaw05.StrengthMore'. -/
def strengthMoreUptoCard : Claim7 := { stood := { row := strengthMoreUptoRow, standIns := [], harness := (true, "edcdd8f3a7bc084991aa79e5e735838bb0f2aaf79d3c71bfd90cf1fa01c0d68c"), looks := true }, kinds := [], alts := [], laidByText := true, laidKinds := [.data, .data], laidTests := true, laidLooks := .later }
def StrengthMoreUptoCardSaid : Prop := Claim7.holds Tryd.pinned (.plain (OpenSpec.upto strengthMoreSpec)) strengthMoreUptoCard

/-- THE SECOND FORM's CARD OF 'culletlaw05.StrengthPasses'. -/
def strengthPassesUptoCard : Claim7 := { stood := { row := strengthPassesUptoRow, standIns := [], harness := (true, "edcdd8f3a7bc084991aa79e5e735838bb0f2aaf79d3c71bfd90cf1fa01c0d68c"), looks := true }, kinds := [], alts := [], laidByText := true, laidKinds := [.data, .data], laidTests := true, laidLooks := .later }
def StrengthPassesUptoCardSaid : Prop := Claim7.holds Tryd.pinned (.plain (OpenSpec.upto strengthPassesSpec)) strengthPassesUptoCard

/-- THE SECOND FORM's CARD OF 'culletlaw05.StrengthThin'. -/
def strengthThinUptoCard : Claim7 := { stood := { row := strengthThinUptoRow, standIns := [], harness := (true, "edcdd8f3a7bc084991aa79e5e735838bb0f2aaf79d3c71bfd90cf1fa01c0d68c"), looks := true }, kinds := [], alts := [], laidByText := true, laidKinds := [.data, .data], laidTests := true, laidLooks := .later }
def StrengthThinUptoCardSaid : Prop := Claim7.holds Tryd.pinned (.plain (OpenSpec.upto strengthThinSpec)) strengthThinUptoCard

/-- THE SECOND FORM's CARD OF 'culletlaw05.StrengthWeights'. -/
def strengthWeightsUptoCard : Claim7 := { stood := { row := strengthWeightsUptoRow, standIns := [], harness := (true, "edcdd8f3a7bc084991aa79e5e735838bb0f2aaf79d3c71bfd90cf1fa01c0d68c"), looks := true }, kinds := [], alts := [], laidByText := true, laidKinds := [.data, .data], laidTests := true, laidLooks := .later }
def StrengthWeightsUptoCardSaid : Prop := Claim7.holds Tryd.pinned (.plain (OpenSpec.upto strengthWeightsSpec)) strengthWeightsUptoCard

/-- THE SECOND FORM's CARD OF 'culletlaw05.StrengthShocks'. -/
def strengthShocksUptoCard : Claim7 := { stood := { row := strengthShocksUptoRow, standIns := [], harness := (true, "edcdd8f3a7bc084991aa79e5e735838bb0f2aaf79d3c71bfd90cf1fa01c0d68c"), looks := true }, kinds := [], alts := [], laidByText := true, laidKinds := [.data, .data], laidTests := true, laidLooks := .later }
def StrengthShocksUptoCardSaid : Prop := Claim7.holds Tryd.pinned (.plain (OpenSpec.upto strengthShocksSpec)) strengthShocksUptoCard

/-- THE SECOND FORM's CARD OF 'culletlaw05.StrengthSlower'. -/
def strengthSlowerUptoCard : Claim7 := { stood := { row := strengthSlowerUptoRow, standIns := [], harness := (true, "edcdd8f3a7bc084991aa79e5e735838bb0f2aaf79d3c71bfd90cf1fa01c0d68c"), looks := true }, kinds := [], alts := [], laidByText := true, laidKinds := [.data, .data], laidTests := true, laidLooks := .later }
def StrengthSlowerUptoCardSaid : Prop := Claim7.holds Tryd.pinned (.plain (OpenSpec.upto strengthSlowerSpec)) strengthSlowerUptoCard

/-- THE SECOND FORM's CARD OF 'culletlaw05.StrengthRecipes'. -/
def strengthRecipesUptoCard : Claim7 := { stood := { row := strengthRecipesUptoRow, standIns := [], harness := (true, "edcdd8f3a7bc084991aa79e5e735838bb0f2aaf79d3c71bfd90cf1fa01c0d68c"), looks := true }, kinds := [], alts := [], laidByText := true, laidKinds := [.data, .data], laidTests := true, laidLooks := .later }
def StrengthRecipesUptoCardSaid : Prop := Claim7.holds Tryd.pinned (.plain (OpenSpec.upto strengthRecipesSpec)) strengthRecipesUptoCard
end Rows
end Go.Proofs.YtokgnbagegcnpaaDoor
