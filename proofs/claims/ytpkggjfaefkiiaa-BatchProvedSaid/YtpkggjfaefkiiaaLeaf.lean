/- The small functions of package batch, each by its contract; no statement is proved here. -/
import Derived.Test.YtpkggjfaefkiiaaData
namespace Go.Proofs.Ytpkggjfaefkiiaa
open Go.RowKit
set_option linter.unusedVariables false

theorem between_any (n a b : Int) (w : World) :
    Calls Try.prog 55 #[.int .i64 n, .int .i64 a, .int .i64 b] w fun e w' => e = .returned (.bool (decide (a ≤ n) && decide (n ≤ b))) ∧ w = w' := by
  go_enter Try.func55, Try.ntmps55
  go_wp2
  all_goals go_ret
  all_goals (refine ⟨?_, rfl⟩; simp; try omega)

theorem within_any (l h a b : Int) (w : World) :
    Calls Try.prog 54 #[.agg #[.int .i64 l, .int .i64 h], .int .i64 a, .int .i64 b] w fun e w' => e = .returned (.bool (decide (a ≤ l) && decide (l ≤ h) && decide (h ≤ b))) ∧ Below w.heap.size w w' := by
  go_enter Try.func54, Try.ntmps54
  go_wp2
  all_goals go_ret
  all_goals (refine ⟨?_, by go_grown⟩; simp; try omega)

theorem low_any (l h : Int) (w : World) :
    Calls Try.prog 113 #[.agg #[.int .i64 l, .int .i64 h]] w fun e w' => e = .returned (.int .i64 l) ∧ Below w.heap.size w w' := by
  go_enter Try.func113, Try.ntmps113
  go_wp2
  all_goals go_ret
  all_goals exact ⟨rfl, by go_grown⟩

theorem high_any (l h : Int) (w : World) :
    Calls Try.prog 114 #[.agg #[.int .i64 l, .int .i64 h]] w fun e w' => e = .returned (.int .i64 h) ∧ Below w.heap.size w w' := by
  go_enter Try.func114, Try.ntmps114
  go_wp2
  all_goals go_ret
  all_goals exact ⟨rfl, by go_grown⟩

/-- rounding down and up. -/
theorem down_any (a b : Int) (w : World) (ha : -9223372036854775807 ≤ a ∧ a ≤ 9223372036854775807) (hb : 0 < b ∧ b ≤ 9223372036854775807) :
    Calls Try.prog 70 #[.int .i64 a, .int .i64 b] w fun e w' => e = .returned (.int .i64 (a / b)) ∧ w = w' := by
  obtain ⟨ha1, ha2⟩ := ha
  obtain ⟨hb1, hb2⟩ := hb
  go_enter Try.func70, Try.ntmps70
  have hq : -9223372036854775807 ≤ a.tdiv b ∧ a.tdiv b ≤ 9223372036854775807 := by
    have h1 := Int.natAbs_tdiv_le_natAbs a b
    constructor <;> omega
  go_wp2
  all_goals go_ret
  · rename_i hlt
    refine ⟨ret_int ?_, rfl⟩
    rw [← fdiv_neg a b hb1 hlt]
  · rename_i hlt
    exact ⟨ret_int (fdiv_pos a b hb1 hlt), rfl⟩

theorem up_any (a b : Int) (w : World) (ha : -9223372036854775807 ≤ a ∧ a ≤ 9223372036854775807) (hb : 0 < b ∧ b ≤ 9223372036854775807) :
    Calls Try.prog 71 #[.int .i64 a, .int .i64 b] w fun e w' => e = .returned (.int .i64 (-(-a / b))) ∧ w = w' := by
  have hd := down_any (-a) b
  have hq : -9223372036854775807 ≤ (-a) / b ∧ (-a) / b ≤ 9223372036854775807 := by
    have h1 := Int.natAbs_ediv_le_natAbs (-a) b
    omega
  obtain ⟨ha1, ha2⟩ := ha
  obtain ⟨hb1, hb2⟩ := hb
  obtain ⟨hq1, hq2⟩ := hq
  go_enter Try.func71, Try.ntmps71
  go_wp2_with (go_at_call 70; refine (hd _ (by omega) (by omega)).mono ?_; rintro e w' ⟨rfl, rfl⟩)
  go_ret
  exact ⟨rfl, rfl⟩

theorem greatest_any (n lo hi : Int) (w : World) :
    Calls Try.prog 97 #[.int .i64 n, .agg #[.int .i64 lo, .int .i64 hi]] w fun e w' => e = .returned (.int .i64 (max (wrap64 (n * lo)) (wrap64 (n * hi)))) ∧ Below w.heap.size w w' := by
  go_enter Try.func97, Try.ntmps97
  go_wp2
  all_goals go_ret
  all_goals refine ⟨ret_int ?_, by go_grown⟩
  all_goals omega

theorem isLetter_any (n : Int) (w : World) :
    Calls Try.prog 128 #[.int .u8 n] w fun e w' => e = .returned (.bool (decide (97 ≤ n) && decide (n ≤ 122))) ∧ w = w' := by
  go_enter Try.func128, Try.ntmps128
  go_wp2
  all_goals go_ret
  all_goals (refine ⟨?_, rfl⟩; simp; try omega)


end Go.Proofs.Ytpkggjfaefkiiaa
