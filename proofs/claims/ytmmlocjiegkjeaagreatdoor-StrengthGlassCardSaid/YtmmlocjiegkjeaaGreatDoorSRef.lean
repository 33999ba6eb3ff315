/- The specification's Check and small functions of layer 5; no statement is proved here. -/
import Derived.Test.YtmmlocjiegkjeaaGreatDoorSmall
import Derived.Handy
namespace Go.Proofs.YtmmlocjiegkjeaaGreatDoor
open Go.RowKit Go.PlainAid
set_option linter.unusedVariables false
set_option maxRecDepth 100000 in
theorem rdown_any (a b : Int) (w : World) (ha : 0 ≤ a ∧ a ≤ 9223372036854775807) (hb : 1 ≤ b) :
    Calls Tryz.prog 24 #[.int .i64 a, .int .i64 b] w fun e w' => e = .returned (.int .i64 (a / b)) ∧ w' = w := by
  have hn : ¬ b = 0 := by omega
  have hq : wrap64 (a.tdiv b) = a / b := by
    rw [Int.tdiv_eq_ediv_of_nonneg ha.1]
    have h1 := Int.ediv_nonneg ha.1 (show 0 ≤ b by omega)
    have h2 := Int.ediv_le_self b ha.1
    exact wrap_id _ (by unfold I64; omega)
  go_enter Tryz.func24, Tryz.ntmps24
  go_wp2
  go_ret
  exact ⟨rfl, rfl⟩

set_option maxRecDepth 100000 in
theorem rup_any (a b : Int) (w : World) (ha : 0 ≤ a ∧ a ≤ 4000000000000000000) (hb : 1 ≤ b ∧ b ≤ 4000000000000000000) :
    Calls Tryz.prog 25 #[.int .i64 a, .int .i64 b] w fun e w' => e = .returned (.int .i64 ((a + b - 1) / b)) ∧ w' = w := by
  have hn : ¬ b = 0 := by omega
  have h1 : wrap64 (a + b) = a + b := wrap_id _ (by unfold I64; omega)
  have h2 : wrap64 (a + b - 1) = a + b - 1 := wrap_id _ (by unfold I64; omega)
  have hq : wrap64 ((a + b - 1).tdiv b) = (a + b - 1) / b := by
    rw [Int.tdiv_eq_ediv_of_nonneg (by omega)]
    have h1 := Int.ediv_nonneg (show 0 ≤ a + b - 1 by omega) (show 0 ≤ b by omega)
    have h2 := Int.ediv_le_self b (show 0 ≤ a + b - 1 by omega)
    exact wrap_id _ (by unfold I64; omega)
  go_enter Tryz.func25, Tryz.ntmps25
  go_wp2
  go_ret
  exact ⟨rfl, rfl⟩

end Go.Proofs.YtmmlocjiegkjeaaGreatDoor
