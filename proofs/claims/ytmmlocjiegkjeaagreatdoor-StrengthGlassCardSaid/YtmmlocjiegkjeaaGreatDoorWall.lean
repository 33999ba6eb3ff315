/- A bottle's wall: whether it surely holds, whether it surely breaks; no statement is proved here. -/
import Derived.Test.YtmmlocjiegkjeaaGreatDoorStress
import Derived.Test.YtmmlocjiegkjeaaGreatDoorFst
import Derived.Test.YtmmlocjiegkjeaaGreatDoorRingIt
import Derived.Test.YtmmlocjiegkjeaaGreatDoorTillIn
namespace Go.Proofs.YtmmlocjiegkjeaaGreatDoor
open Go.RowKit Go.PlainAid
set_option linter.unusedVariables false
attribute [local go_sem] Oper.semAt_some
def strAt (b : Bot) (ts : List Sp) (l : Ld) (i : Nat) : Sp := strR (b.rings.getD i ⟨⟨0, 0⟩, ⟨0, 0⟩, ⟨0, 0⟩, ⟨0, 0⟩, ⟨0, 0⟩⟩) (ts.getD i ⟨0, 0⟩) l
theorem strAt_eq {b : Bot} {ts : List Sp} {l : Ld} {i : Nat} (h : i < b.rings.length) (h2 : i < ts.length) : strAt b ts l i = strR b.rings[i] ts[i] l := by
  simp [strAt, List.getD, List.getElem?_eq_getElem h, List.getElem?_eq_getElem h2]
def HoldsW (b : Bot) (ts : List Sp) (l : Ld) (m : Int) : Prop := ∀ i, i < b.rings.length → (strAt b ts l i).hi ≤ m
def BreaksW (b : Bot) (ts : List Sp) (l : Ld) (m : Int) : Prop := ∃ i, i < b.rings.length ∧ m < (strAt b ts l i).lo

theorem field_lo5 (x y : Value) (w : World) : Sem.run Tryz.prog (Instr.field 30 (.agg #[x, y]) 0) w = .ok x w := by kernel_rfl
theorem field_hi5 (x y : Value) (w : World) : Sem.run Tryz.prog (Instr.field 30 (.agg #[x, y]) 1) w = .ok y w := by kernel_rfl

end Go.Proofs.YtmmlocjiegkjeaaGreatDoor
