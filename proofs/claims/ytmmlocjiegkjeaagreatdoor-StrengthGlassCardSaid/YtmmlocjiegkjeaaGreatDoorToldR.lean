/- What a function returns, or the error with which it goes wrong: told's contract at cullet/api.Ratio; no statement is proved here. -/
import Derived.Test.YtmmlocjiegkjeaaGreatDoorErrOf
namespace Go.Proofs.YtmmlocjiegkjeaaGreatDoor
open Go.RowKit Go.PlainAid
set_option linter.unusedVariables false
/-- what is found, or the number with which it goes wrong. -/
def Finds_ratio (R : Sp → Prop) (B : Int → Prop) (W : World) (e : Ending) (w' : World) : Prop :=
  Below W.heap.size W w' ∧ ((∃ v : Sp, e = .returned (.agg #[.int .i64 v.lo, .int .i64 v.hi]) ∧ R v) ∨ (∃ n, e = .panicked (failC n) ∧ B n))

end Go.Proofs.YtmmlocjiegkjeaaGreatDoor
