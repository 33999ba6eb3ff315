/- The specification's Thickness; no statement is proved here. -/
import Derived.Test.YtmmlocjiegkjeaaGreatDoorSRef
import Derived.Test.YtmmlocjiegkjeaaGreatDoorSOwn
import Derived.Test.YtmmlocjiegkjeaaGreatDoorTill
namespace Go.Proofs.YtmmlocjiegkjeaaGreatDoor
open Go.RowKit Go.PlainAid
set_option linter.unusedVariables false
theorem rsps_nil' (w : World) : RSps w (.slice none 0 0) [] := ⟨none, 0, rfl, Nat.le_refl _, ⟨by omega, by simp⟩, fun i hi => by simp at hi⟩

end Go.Proofs.YtmmlocjiegkjeaaGreatDoor
