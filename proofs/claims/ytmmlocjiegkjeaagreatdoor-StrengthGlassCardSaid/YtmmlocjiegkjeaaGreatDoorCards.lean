/-
  DERIVED. GIVEN WITH THE SEED: THE CARDS: each row of YtmmlocjiegkjeaaGreatDoorRows.lean that lists a variable, with what it lists TIED to the program's text (the seventh form; the later family's looks); each row that meets fmt, with fmt's text TOLD by the authors' own Lean function (tested against real Go, not proved from fmt's source: count such statements apart). THE CARD IS WHAT COUNTS. Prove the row's statement (the work); the ties are given (YtmmlocjiegkjeaaGreatDoorTie.lean); close each card by the builder's one call (the guide's Derived/Test/ToyasCard.lean, 'card_holds'). Laid BY PROGRAM, IN A SANDBOX (cutbox-door.mjs). By AI agents, Wed Nov 11 2026. No macro, syntax, notation, axiom, sorry.
-/
import Derived.Test.YtmmlocjiegkjeaaGreatDoorRows
import GoSem.ClaimSeven
namespace Go.Proofs.YtmmlocjiegkjeaaGreatDoor
namespace Rows

/-- THE TIED CARD OF 'culletlaw05.StrengthGlass'. -/
def strengthGlassCard : Claim7 := { stood := { row := strengthGlassRow, standIns := [], harness := (true, "b685e0ba7461a94b03338a1b824460b5ab248e7cab2da7ec8cee225aa2132390"), looks := true }, kinds := [], alts := [], laidByText := true, laidKinds := [.data, .data], laidTests := true, laidLooks := .later }
def StrengthGlassCardSaid : Prop := Claim7.holds Tryz.pinned (.plain (OpenSpec.ofChange strengthGlassSpec)) strengthGlassCard

/-- THE SECOND FORM's CARD OF 'culletlaw05.StrengthGlass'. -/
def strengthGlassUptoCard : Claim7 := { stood := { row := strengthGlassUptoRow, standIns := [], harness := (true, "b685e0ba7461a94b03338a1b824460b5ab248e7cab2da7ec8cee225aa2132390"), looks := true }, kinds := [], alts := [], laidByText := true, laidKinds := [.data, .data], laidTests := true, laidLooks := .later }
def StrengthGlassUptoCardSaid : Prop := Claim7.holds Tryz.pinned (.plain (OpenSpec.upto strengthGlassSpec)) strengthGlassUptoCard
end Rows
end Go.Proofs.YtmmlocjiegkjeaaGreatDoor
