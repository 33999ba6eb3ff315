/-
  DERIVED. GIVEN WITH THE SEED: THE PROGRAM's TIES (one call each: nine closed facts by the kernel) AND EACH ROW's TIE, after the 31st guide's Derived/Test/Toyas{Tie, Card}.lean. No idea stands in it: it is a product of the set-up. Laid BY PROGRAM, IN A SANDBOX (cutbox-door.mjs). By AI agents, Wed Nov 11 2026. No macro, syntax, notation, axiom, sorry.
-/
import Derived.Test.YtaldpalhckdcdaaGreatDoorRows
import Derived.LaidByTextLater
import Derived.SevenTiedAt
import Derived.LaidSub
import Derived.LaidOnce
namespace Go.Proofs.YtaldpalhckdcdaaGreatDoor
open Go
set_option maxRecDepth 100000
theorem seatTie1 : Tryz.prog.laidByTextLater [("cullet/strength.lessThanCircle", Rows.laid_cullet_strength_lessThanCircle), ("cullet/strength.moreThanCircle", Rows.laid_cullet_strength_moreThanCircle)] [.data, .data] true :=
  Program.laidByTextLater_by_one 19 8 3 (by kernel_rfl) (by kernel_rfl) (by kernel_rfl) (by kernel_rfl) (by kernel_rfl) (by kernel_rfl) (fun _ _ => by kernel_rfl)
theorem noOwnUnsafe : Tryz.pinned.checked.prog.headLifts.contains "ownunsafe" = false := by kernel_rfl
theorem tie : Tryz.prog.laidByTextLater [("cullet/strength.lessThanCircle", Rows.laid_cullet_strength_lessThanCircle), ("cullet/strength.moreThanCircle", Rows.laid_cullet_strength_moreThanCircle)] [.data, .data] true :=
  Program.laidByTextLater.sub seatTie1 ["cullet/strength.lessThanCircle", "cullet/strength.moreThanCircle"] (by kernel_rfl) (by kernel_rfl)
theorem strengthKnown_row_tie : Rows.strengthKnownRow.laidByTextAt .later Tryz.pinned [.data, .data] true :=
  OpenClaim.laidByTextAt_later rfl rfl tie noOwnUnsafe
theorem strengthKnownUpto_row_tie : Rows.strengthKnownUptoRow.laidByTextAt .later Tryz.pinned [.data, .data] true :=
  OpenClaim.laidByTextAt_later rfl rfl tie noOwnUnsafe
end Go.Proofs.YtaldpalhckdcdaaGreatDoor
