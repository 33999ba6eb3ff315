/- Quotients of package strength: by, down, up; no statement is proved here. -/
import Derived.Test.YtmmlocjiegkjeaaGreatDoorSmall
namespace Go.Proofs.YtmmlocjiegkjeaaGreatDoor
open Go.RowKit Go.PlainAid
set_option linter.unusedVariables false
set_option maxRecDepth 100000 in
theorem by_any (a b c d : Int) (w : World) :
    Calls Tryz.prog 60 #[.agg #[.int .i64 a, .int .i64 b], .agg #[.int .i64 c, .int .i64 d]] w fun e w' => e = .returned (.agg #[.int .i64 (wrap64 (a * d)), .int .i64 (wrap64 (b * c))]) ∧ Below w.heap.size w w' := by
  have hA : Below w.heap.size w (((w.alloc (.cells #[.int .i64 a, .int .i64 b] 66)).alloc (.cells #[.int .i64 c, .int .i64 d] 66)).alloc (.cells #[.int .i64 (wrap64 (a * d)), .int .i64 (wrap64 (b * c))] 66)) := ((below_boxS w _).alloc (by simp) _).alloc (by simp only [World.size_alloc]; omega) _
  have hB := Blk.new ((w.alloc (.cells #[.int .i64 a, .int .i64 b] 66)).alloc (.cells #[.int .i64 c, .int .i64 d] 66)) #[.int .i64 (wrap64 (a * d)), .int .i64 (wrap64 (b * c))] 66
  have c0 := hB.cell 0 _ rfl
  have c1 := hB.cell 1 _ rfl
  simp only [World.size_alloc] at c0 c1
  have C0 := Lib.hid c0
  have C1 := Lib.hid c1
  have HA := Lib.hid hA
  clear c0 c1 hA hB
  go_enter Tryz.func60, Tryz.ntmps60
  go_wp2
  have c0 := C0.out
  have c1 := C1.out
  refine ⟨rfl, .agg #[.int .i64 (wrap64 (a * d)), .int .i64 (wrap64 (b * c))], ?_, rfl, HA.out⟩
  simp [results, Tryz.results60, go_sem]

set_option maxRecDepth 100000 in
theorem down_any (a b : Int) (w : World) (ha : 0 ≤ a ∧ a ≤ 9223372036854775807) (hb : 1 ≤ b) :
    Calls Tryz.prog 21 #[.agg #[.int .i64 a, .int .i64 b]] w fun e w' => e = .returned (.int .i64 (a / b)) ∧ Below w.heap.size w w' := by
  have hA := below_boxS w (.cells #[.int .i64 a, .int .i64 b] 66)
  have hn : ¬ b = 0 := by omega
  have hq : wrap64 (a.tdiv b) = a / b := by
    rw [Int.tdiv_eq_ediv_of_nonneg ha.1]
    have h1 := Int.ediv_nonneg ha.1 (show 0 ≤ b by omega)
    have h2 := Int.ediv_le_self b ha.1
    exact wrap_id _ (by unfold I64; omega)
  go_enter Tryz.func21, Tryz.ntmps21
  go_wp2
  go_ret
  exact ⟨rfl, hA⟩

set_option maxRecDepth 100000 in
theorem up_any (a b : Int) (w : World) (ha : 0 ≤ a ∧ a ≤ 4000000000000000000) (hb : 1 ≤ b ∧ b ≤ 4000000000000000000) :
    Calls Tryz.prog 22 #[.agg #[.int .i64 a, .int .i64 b]] w fun e w' => e = .returned (.int .i64 ((a + b - 1) / b)) ∧ Below w.heap.size w w' := by
  have hA := below_boxS w (.cells #[.int .i64 a, .int .i64 b] 66)
  have hn : ¬ b = 0 := by omega
  have h1 : wrap64 (a + b) = a + b := wrap_id _ (by unfold I64; omega)
  have h2 : wrap64 (a + b - 1) = a + b - 1 := wrap_id _ (by unfold I64; omega)
  have hq : wrap64 ((a + b - 1).tdiv b) = (a + b - 1) / b := by
    rw [Int.tdiv_eq_ediv_of_nonneg (by omega)]
    have h1 := Int.ediv_nonneg (show 0 ≤ a + b - 1 by omega) (show 0 ≤ b by omega)
    have h2 := Int.ediv_le_self b (show 0 ≤ a + b - 1 by omega)
    exact wrap_id _ (by unfold I64; omega)
  go_enter Tryz.func22, Tryz.ntmps22
  go_wp2
  go_ret
  exact ⟨rfl, hA⟩

end Go.Proofs.YtmmlocjiegkjeaaGreatDoor
