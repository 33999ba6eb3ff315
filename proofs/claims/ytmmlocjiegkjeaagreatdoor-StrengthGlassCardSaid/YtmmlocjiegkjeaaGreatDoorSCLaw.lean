/- The law StrengthChecks: every input; no statement is proved here. -/
import Derived.Test.YtmmlocjiegkjeaaGreatDoorSLives
import Derived.Test.YtmmlocjiegkjeaaGreatDoorThRef
import Derived.Test.YtmmlocjiegkjeaaGreatDoorTill
namespace Go.Proofs.YtmmlocjiegkjeaaGreatDoor
open Go.RowKit Go.PlainAid
set_option linter.unusedVariables false
def TrueB (w : World) (e : Ending) (w' : World) : Prop := e = .returned (.bool true) ∧ Below w.heap.size w w'

end Go.Proofs.YtmmlocjiegkjeaaGreatDoor
