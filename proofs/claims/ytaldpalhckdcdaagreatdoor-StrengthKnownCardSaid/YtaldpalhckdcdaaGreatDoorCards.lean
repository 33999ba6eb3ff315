/-
  DERIVED. GIVEN WITH THE SEED: THE CARDS: each row of YtaldpalhckdcdaaGreatDoorRows.lean that lists a variable, with what it lists TIED to the program's text (the seventh form; the later family's looks); each row that meets fmt, with fmt's text TOLD by the authors' own Lean function (tested against real Go, not proved from fmt's source: count such statements apart). THE CARD IS WHAT COUNTS. Prove the row's statement (the work); the ties are given (YtaldpalhckdcdaaGreatDoorTie.lean); close each card by the builder's one call (the guide's Derived/Test/ToyasCard.lean, 'card_holds'). Laid BY PROGRAM, IN A SANDBOX (cutbox-door.mjs). By AI agents, Wed Nov 11 2026. No macro, syntax, notation, axiom, sorry.
-/
import Derived.Test.YtaldpalhckdcdaaGreatDoorRows
import GoSem.ClaimSeven
namespace Go.Proofs.YtaldpalhckdcdaaGreatDoor
namespace Rows

/-- THE TIED CARD OF 'culletlaw05.StrengthKnown'. -/
def strengthKnownCard : Claim7 := { stood := { row := strengthKnownRow, standIns := [], harness := (true, "b07c936b5f830e2dd9d742c2a827173e466771f032638328dda81fa32956127e"), looks := true }, kinds := [], alts := [], laidByText := true, laidKinds := [.data, .data], laidTests := true, laidLooks := .later }
def StrengthKnownCardSaid : Prop := Claim7.holds Tryz.pinned (.plain (OpenSpec.ofChange strengthKnownSpec)) strengthKnownCard

/-- THE SECOND FORM's CARD OF 'culletlaw05.StrengthKnown'. -/
def strengthKnownUptoCard : Claim7 := { stood := { row := strengthKnownUptoRow, standIns := [], harness := (true, "b07c936b5f830e2dd9d742c2a827173e466771f032638328dda81fa32956127e"), looks := true }, kinds := [], alts := [], laidByText := true, laidKinds := [.data, .data], laidTests := true, laidLooks := .later }
def StrengthKnownUptoCardSaid : Prop := Claim7.holds Tryz.pinned (.plain (OpenSpec.upto strengthKnownSpec)) strengthKnownUptoCard
end Rows
end Go.Proofs.YtaldpalhckdcdaaGreatDoor
