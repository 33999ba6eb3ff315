/-
  DERIVED. GIVEN WITH THE SEED: THE CARDS: each row of YtmmlocjiegkjeaaDoorRows.lean that lists a variable, with what it lists TIED to the program's text (the seventh form; the later family's looks); each row that meets fmt, with fmt's text TOLD by the authors' own Lean function (tested against real Go, not proved from fmt's source: count such statements apart). THE CARD IS WHAT COUNTS. Prove the row's statement (the work); the ties are given (YtmmlocjiegkjeaaDoorTie.lean); close each card by the builder's one call (the guide's Derived/Test/ToyasCard.lean, 'card_holds'). Laid BY PROGRAM, IN A SANDBOX (cutbox-door.mjs). By AI agents, Wed Nov 11 2026. No macro, syntax, notation, axiom, sorry.
-/
import Derived.Test.YtmmlocjiegkjeaaDoorRows
import GoSem.ClaimSeven
namespace Go.Proofs.YtmmlocjiegkjeaaDoor
namespace Rows

/-- THE TIED CARD OF 'culletlaw05.StrengthLehrs'. -/
def strengthLehrsCard : Claim7 := { stood := { row := strengthLehrsRow, standIns := [], harness := (true, "e5311fd018728593df8f945dc10421d30e694b62cdb6c462edc5e92abf1a67a3"), looks := true }, kinds := [], alts := [], laidByText := true, laidKinds := [.data, .data], laidTests := true, laidLooks := .later }
def StrengthLehrsCardSaid : Prop := Claim7.holds Tryd.pinned (.plain (OpenSpec.ofChange strengthLehrsSpec)) strengthLehrsCard

/-- THE TIED CARD OF 'culletlaw05.StrengthShocks'. -/
def strengthShocksCard : Claim7 := { stood := { row := strengthShocksRow, standIns := [], harness := (true, "e5311fd018728593df8f945dc10421d30e694b62cdb6c462edc5e92abf1a67a3"), looks := true }, kinds := [], alts := [], laidByText := true, laidKinds := [.data, .data], laidTests := true, laidLooks := .later }
def StrengthShocksCardSaid : Prop := Claim7.holds Tryd.pinned (.plain (OpenSpec.ofChange strengthShocksSpec)) strengthShocksCard

/-- THE TIED CARD OF 'culletlaw05.StrengthSlower'. -/
def strengthSlowerCard : Claim7 := { stood := { row := strengthSlowerRow, standIns := [], harness := (true, "e5311fd018728593df8f945dc10421d30e694b62cdb6c462edc5e92abf1a67a3"), looks := true }, kinds := [], alts := [], laidByText := true, laidKinds := [.data, .data], laidTests := true, laidLooks := .later }
def StrengthSlowerCardSaid : Prop := Claim7.holds Tryd.pinned (.plain (OpenSpec.ofChange strengthSlowerSpec)) strengthSlowerCard

/-- THE TIED CARD OF 'culletlaw05.StrengthRecipes'. -/
def strengthRecipesCard : Claim7 := { stood := { row := strengthRecipesRow, standIns := [], harness := (true, "e5311fd018728593df8f945dc10421d30e694b62cdb6c462edc5e92abf1a67a3"), looks := true }, kinds := [], alts := [], laidByText := true, laidKinds := [.data, .data], laidTests := true, laidLooks := .later }
def StrengthRecipesCardSaid : Prop := Claim7.holds Tryd.pinned (.plain (OpenSpec.ofChange strengthRecipesSpec)) strengthRecipesCard

/-- THE TIED CARD OF 'culletlaw05.StrengthStresses'. -/
def strengthStressesCard : Claim7 := { stood := { row := strengthStressesRow, standIns := [], harness := (true, "e5311fd018728593df8f945dc10421d30e694b62cdb6c462edc5e92abf1a67a3"), looks := true }, kinds := [], alts := [], laidByText := true, laidKinds := [.data, .data], laidTests := true, laidLooks := .later }
def StrengthStressesCardSaid : Prop := Claim7.holds Tryd.pinned (.plain (OpenSpec.ofChange strengthStressesSpec)) strengthStressesCard

/-- THE TIED CARD OF 'culletlaw05.StrengthChecks'. -/
def strengthChecksCard : Claim7 := { stood := { row := strengthChecksRow, standIns := [], harness := (true, "e5311fd018728593df8f945dc10421d30e694b62cdb6c462edc5e92abf1a67a3"), looks := true }, kinds := [], alts := [], laidByText := true, laidKinds := [.data, .data], laidTests := true, laidLooks := .later }
def StrengthChecksCardSaid : Prop := Claim7.holds Tryd.pinned (.plain (OpenSpec.ofChange strengthChecksSpec)) strengthChecksCard

/-- THE SECOND FORM's CARD OF 'culletlaw05.StrengthLehrs'. -/
def strengthLehrsUptoCard : Claim7 := { stood := { row := strengthLehrsUptoRow, standIns := [], harness := (true, "e5311fd018728593df8f945dc10421d30e694b62cdb6c462edc5e92abf1a67a3"), looks := true }, kinds := [], alts := [], laidByText := true, laidKinds := [.data, .data], laidTests := true, laidLooks := .later }
def StrengthLehrsUptoCardSaid : Prop := Claim7.holds Tryd.pinned (.plain (OpenSpec.upto strengthLehrsSpec)) strengthLehrsUptoCard

/-- THE SECOND FORM's CARD OF 'culletlaw05.StrengthShocks'. -/
def strengthShocksUptoCard : Claim7 := { stood := { row := strengthShocksUptoRow, standIns := [], harness := (true, "e5311fd018728593df8f945dc10421d30e694b62cdb6c462edc5e92abf1a67a3"), looks := true }, kinds := [], alts := [], laidByText := true, laidKinds := [.data, .data], laidTests := true, laidLooks := .later }
def StrengthShocksUptoCardSaid : Prop := Claim7.holds Tryd.pinned (.plain (OpenSpec.upto strengthShocksSpec)) strengthShocksUptoCard

/-- THE SECOND FORM's CARD OF 'culletlaw05.StrengthSlower'. -/
def strengthSlowerUptoCard : Claim7 := { stood := { row := strengthSlowerUptoRow, standIns := [], harness := (true, "e5311fd018728593df8f945dc10421d30e694b62cdb6c462edc5e92abf1a67a3"), looks := true }, kinds := [], alts := [], laidByText := true, laidKinds := [.data, .data], laidTests := true, laidLooks := .later }
def StrengthSlowerUptoCardSaid : Prop := Claim7.holds Tryd.pinned (.plain (OpenSpec.upto strengthSlowerSpec)) strengthSlowerUptoCard

/-- THE SECOND FORM's CARD OF 'culletlaw05.StrengthRecipes'. -/
def strengthRecipesUptoCard : Claim7 := { stood := { row := strengthRecipesUptoRow, standIns := [], harness := (true, "e5311fd018728593df8f945dc10421d30e694b62cdb6c462edc5e92abf1a67a3"), looks := true }, kinds := [], alts := [], laidByText := true, laidKinds := [.data, .data], laidTests := true, laidLooks := .later }
def StrengthRecipesUptoCardSaid : Prop := Claim7.holds Tryd.pinned (.plain (OpenSpec.upto strengthRecipesSpec)) strengthRecipesUptoCard

/-- THE SECOND FORM's CARD OF 'culletlaw05.StrengthStresses'. -/
def strengthStressesUptoCard : Claim7 := { stood := { row := strengthStressesUptoRow, standIns := [], harness := (true, "e5311fd018728593df8f945dc10421d30e694b62cdb6c462edc5e92abf1a67a3"), looks := true }, kinds := [], alts := [], laidByText := true, laidKinds := [.data, .data], laidTests := true, laidLooks := .later }
def StrengthStressesUptoCardSaid : Prop := Claim7.holds Tryd.pinned (.plain (OpenSpec.upto strengthStressesSpec)) strengthStressesUptoCard

/-- THE SECOND FORM's CARD OF 'culletlaw05.StrengthChecks'. -/
def strengthChecksUptoCard : Claim7 := { stood := { row := strengthChecksUptoRow, standIns := [], harness := (true, "e5311fd018728593df8f945dc10421d30e694b62cdb6c462edc5e92abf1a67a3"), looks := true }, kinds := [], alts := [], laidByText := true, laidKinds := [.data, .data], laidTests := true, laidLooks := .later }
def StrengthChecksUptoCardSaid : Prop := Claim7.holds Tryd.pinned (.plain (OpenSpec.upto strengthChecksSpec)) strengthChecksUptoCard
end Rows
end Go.Proofs.YtmmlocjiegkjeaaDoor
