/- Holds by its contract; no statement is proved here. -/
import Derived.Test.YtaldpalhckdcdaaGreatDoorLoad
import Derived.Test.YtaldpalhckdcdaaGreatDoorWall
import Derived.Test.YtaldpalhckdcdaaGreatDoorTill
import Derived.Test.YtaldpalhckdcdaaGreatDoorErrOf
namespace Go.Proofs.YtaldpalhckdcdaaGreatDoor
open Go.RowKit Go.PlainAid
set_option linter.unusedVariables false
attribute [local go_sem] Oper.semAt_some
theorem IsRoot.unique {q m n : Int} (h : IsRoot q m) (k : IsRoot q n) : m = n := by
  have h1 := (h.le_iff k.ge).2 k.sq
  have h2 := (k.le_iff h.ge).2 h.sq
  omega
def HoldsB (b : Bot) (ts : List Sp) (l : Ld) : Prop := ∃ m, IsRoot (b.tough / b.flaw) m ∧ HoldsW b ts l m
def BreaksB (b : Bot) (ts : List Sp) (l : Ld) : Prop := ∃ m, IsRoot (b.tough / b.flaw) m ∧ BreaksW b ts l m
theorem holdsB_iff {b : Bot} {ts : List Sp} {l : Ld} {m : Int} (h : IsRoot (b.tough / b.flaw) m) : HoldsB b ts l ↔ HoldsW b ts l m := ⟨fun ⟨n, h1, h2⟩ => h.unique h1 ▸ h2, fun h2 => ⟨m, h, h2⟩⟩
theorem breaksB_iff {b : Bot} {ts : List Sp} {l : Ld} {m : Int} (h : IsRoot (b.tough / b.flaw) m) : BreaksB b ts l ↔ BreaksW b ts l m := ⟨fun ⟨n, h1, h2⟩ => h.unique h1 ▸ h2, fun h2 => ⟨m, h, h2⟩⟩
structure OkWall (b : Bot) (ts : List Sp) (l : Ld) : Prop where
  bot : OkS b
  len : ts.length = b.rings.length
  thick : ∀ i (h : i < ts.length), OkT ts[i]
  load : OkL l
theorem okWall_of {b : Bot} {ts : List Sp} {l : Ld} (h : wallS b ts l = 0) : OkWall b ts l := by
  simp only [wallS] at h
  split at h
  next h1 =>
    split at h
    next h2 =>
      split at h
      next h3 => exact ⟨okS_of h1, h2, allT_true.1 h3, okL_of h⟩
      next => cases h
    next => cases h
  next h1 => exact absurd h h1

def HoldsP (w : World) (b : Bot) (ts : List Sp) (l : Ld) (p3 p4 : Nat) (e : Ending) (w' : World) : Prop :=
  (wallS b ts l = 0 ∧ e = .returned (.tuple #[]) ∧ ∃ h br, (h = true ↔ HoldsB b ts l) ∧ (br = true ↔ BreaksB b ts l) ∧ Blk w' p3 #[.bool h] 4 ∧ Blk w' p4 #[.bool br] 4 ∧ BelS (fun k => k = p3 ∨ k = p4) w.heap.size w w') ∨
  (wallS b ts l ≠ 0 ∧ e = .panicked (failC (wallS b ts l)) ∧ Below w.heap.size w w')

end Go.Proofs.YtaldpalhckdcdaaGreatDoor
