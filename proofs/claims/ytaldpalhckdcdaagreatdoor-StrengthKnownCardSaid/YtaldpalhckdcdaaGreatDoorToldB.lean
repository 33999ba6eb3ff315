/- What a function returns, or the error with which it goes wrong: told's contract at bool; no statement is proved here. -/
import Derived.Test.YtaldpalhckdcdaaGreatDoorErrOf
namespace Go.Proofs.YtaldpalhckdcdaaGreatDoor
open Go.RowKit Go.PlainAid
set_option linter.unusedVariables false
/-- what is found, or the number with which it goes wrong. -/
def Finds_bool (R : Bool → Prop) (B : Int → Prop) (W : World) (e : Ending) (w' : World) : Prop :=
  Below W.heap.size W w' ∧ ((∃ v : Bool, e = .returned (.bool v) ∧ R v) ∨ (∃ n, e = .panicked (failC n) ∧ B n))

end Go.Proofs.YtaldpalhckdcdaaGreatDoor
