/- The stress of a ring under a load; no statement is proved here. -/
import Derived.Test.YtmmlocjiegkjeaaGreatDoorStr
import Derived.Test.YtmmlocjiegkjeaaGreatDoorRange
namespace Go.Proofs.YtmmlocjiegkjeaaGreatDoor
open Go.RowKit Go.PlainAid
set_option linter.unusedVariables false
def partAt (r : Rg) (t : Sp) (l : Ld) (k : Nat) : Sp := if k = 0 then pP r t l else if k = 1 then pF r t l else if k = 2 then pB r t l else pO r t l
def sumLo (r : Rg) (t : Sp) (l : Ld) : Nat → Int
  | 0 => 0
  | k + 1 => sumLo r t l k + (partAt r t l k).lo
def sumHi (r : Rg) (t : Sp) (l : Ld) : Nat → Int
  | 0 => 0
  | k + 1 => sumHi r t l k + (partAt r t l k).hi
theorem sum4 (r : Rg) (t : Sp) (l : Ld) : sumLo r t l 4 = (strR r t l).lo ∧ sumHi r t l 4 = (strR r t l).hi := by
  simp [sumLo, sumHi, partAt, strR]
theorem partAt_in {r : Rg} {t : Sp} {l : Ld} (hr : OkR r) (ht : OkT t) (hl : OkL l) (k : Nat) : SpIn (partAt r t l k) 2000000000000 := by
  obtain ⟨h1, h2, h3, h4⟩ := parts_in hr ht hl
  unfold partAt
  split
  · exact h1
  split
  · exact h2
  split
  · exact h3
  · exact h4
theorem sum_in {r : Rg} {t : Sp} {l : Ld} (hr : OkR r) (ht : OkT t) (hl : OkL l) : ∀ k : Nat, (0 ≤ sumLo r t l k ∧ sumLo r t l k ≤ 2000000000000 * (k : Int)) ∧ (0 ≤ sumHi r t l k ∧ sumHi r t l k ≤ 2000000000000 * (k : Int))
  | 0 => by simp [sumLo, sumHi]
  | k + 1 => by
    obtain ⟨⟨h1, h2⟩, h3, h4⟩ := sum_in hr ht hl k
    obtain ⟨⟨h5, h6⟩, h7, h8⟩ := partAt_in hr ht hl k
    unfold sumLo sumHi
    push_cast
    omega
theorem strR_in {r : Rg} {t : Sp} {l : Ld} (hr : OkR r) (ht : OkT t) (hl : OkL l) : SpIn (strR r t l) 8000000000000 := by
  have h := sum_in hr ht hl 4
  rw [(sum4 r t l).1, (sum4 r t l).2] at h
  unfold SpIn
  omega

end Go.Proofs.YtmmlocjiegkjeaaGreatDoor
