/- The search for the first number, and what a bottle's glass bears; no statement is proved here. -/
import Derived.Test.YtmmlocjiegkjeaaGreatDoorQuot
namespace Go.Proofs.YtmmlocjiegkjeaaGreatDoor
open Go.RowKit Go.PlainAid
set_option linter.unusedVariables false
structure IsFirst (p : Int → Bool) (lo hi n : Int) : Prop where
  ge : lo ≤ n
  le : n ≤ hi + 1
  no : ∀ x, lo ≤ x → x < n → p x = false
  yes : ∀ x, n ≤ x → x ≤ hi → p x = true

/-- the greatest number whose square is at most q. -/
structure IsRoot (q m : Int) : Prop where
  ge : 0 ≤ m
  sq : m * m ≤ q
  lt : q < (m + 1) * (m + 1)
theorem IsRoot.le_iff {q m s : Int} (h : IsRoot q m) (hs : 0 ≤ s) : s ≤ m ↔ s * s ≤ q := by
  constructor
  · intro h1
    exact Int.le_trans (Int.mul_le_mul h1 h1 hs (by omega)) h.sq
  · intro h1
    by_cases h2 : s ≤ m
    · exact h2
    · have h3 := Int.mul_le_mul (show m + 1 ≤ s by omega) (show m + 1 ≤ s by omega) (by have := h.ge; omega) (by omega)
      have := h.lt
      omega

def overP (q s : Int) : Bool := decide (q / s < s)
theorem overP_iff {q s : Int} (hs : 1 ≤ s) : overP q s = true ↔ q < s * s := by
  unfold overP
  rw [decide_eq_true_iff, Int.ediv_lt_iff_lt_mul (by omega)]

end Go.Proofs.YtmmlocjiegkjeaaGreatDoor
