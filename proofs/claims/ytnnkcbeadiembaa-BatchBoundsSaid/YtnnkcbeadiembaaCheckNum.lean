/- A material's numbers; no statement is proved here. -/
import Derived.Test.YtnnkcbeadiembaaWithin
namespace Go.Proofs.Ytnnkcbeadiembaa
open Go.RowKit Go.PlainAid
set_option linter.unusedVariables false

def numB (m : Mat) (n : Int) : Int :=
  if (betweenB m.price 0 10000 && betweenB m.redox (-1000) 1000) = false then 1
  else if (betweenB m.least 0 10000 && betweenB m.most m.least 10000 && betweenB m.step 1 10000) = false then 1
  else if allWithinB m.content n 0 1000 = false then 1
  else if 1000 < (tot m.content).lo then 12 else 0

theorem field_lo (x y : Value) (w : World) : Sem.run Try.prog (Instr.field 27 (.agg #[x, y]) 0) w = .ok x w := by kernel_rfl
theorem field_hi (x y : Value) (w : World) : Sem.run Try.prog (Instr.field 27 (.agg #[x, y]) 1) w = .ok y w := by kernel_rfl

theorem below_box (w : World) (a : Obj) : Below w.heap.size w (w.alloc a) := by go_grown

set_option maxRecDepth 100000 in
theorem checkNumbers_any (m : Mat) (c : Value) (n : Int) (w : World) (h : RSps w c m.content) :
    Calls Try.prog 102 #[.agg #[.string m.name, .int .i64 m.price, .int .i64 m.redox, .int .i64 m.least, .int .i64 m.most, .int .i64 m.step, c], .int .i64 n] w fun e w' => e = .returned (.int .i64 (numB m n)) ∧ Below w.heap.size w w' := by
  have hA := below_box w (.cells #[.string m.name, .int .i64 m.price, .int .i64 m.redox, .int .i64 m.least, .int .i64 m.most, .int .i64 m.step, c] 58)
  have hB := Blk.new w #[.string m.name, .int .i64 m.price, .int .i64 m.redox, .int .i64 m.least, .int .i64 m.most, .int .i64 m.step, c] 58
  go_enter Try.func102, Try.ntmps102
  go_wp2_with fail
  refine (betweenN _ _ _ _).mono ?_
  rintro e w1 ⟨rfl, rfl⟩
  cases h1 : betweenB m.price 0 10000 with
  | false => go_wp2; go_ret; exact ⟨ret_int (by simp [numB, h1]), hA⟩
  | true =>
  go_wp2_with fail
  refine (betweenN _ _ _ _).mono ?_
  rintro e w1 ⟨rfl, rfl⟩
  cases h2 : betweenB m.redox (-1000) 1000 with
  | false => go_wp2; go_ret; exact ⟨ret_int (by simp [numB, h2]), hA⟩
  | true =>
  go_wp2_with fail
  refine (betweenN _ _ _ _).mono ?_
  rintro e w1 ⟨rfl, rfl⟩
  cases h3 : betweenB m.least 0 10000 with
  | false => go_wp2; go_ret; exact ⟨ret_int (by simp [numB, h1, h2, h3]), hA⟩
  | true =>
  go_wp2_with fail
  refine (betweenN _ _ _ _).mono ?_
  rintro e w1 ⟨rfl, rfl⟩
  cases h4 : betweenB m.most m.least 10000 with
  | false => go_wp2; go_ret; exact ⟨ret_int (by simp [numB, h1, h2, h3, h4]), hA⟩
  | true =>
  go_wp2_with fail
  refine (betweenN _ _ _ _).mono ?_
  rintro e w1 ⟨rfl, rfl⟩
  cases h5 : betweenB m.step 1 10000 with
  | false => go_wp2; go_ret; exact ⟨ret_int (by simp [numB, h1, h2, h3, h4, h5]), hA⟩
  | true =>
  go_wp2_with fail
  refine (allWithin_any c m.content n 0 1000 _ (h.mono (ext_of_below hA))).mono ?_
  rintro e w1 ⟨rfl, hb1⟩
  have hA1 := hA.trans (hb1.mono (by simp))
  have B1 := hB.below hb1 (by simp)
  have c6 : w1.cell? ⟨w.heap.size, 6, none⟩ = some c := B1.cell 6 _ rfl
  clear hb1 hB hA B1
  cases h6 : allWithinB m.content n 0 1000 with
  | false => go_wp2; go_ret; exact ⟨ret_int (by simp [numB, h1, h2, h3, h4, h5, h6]), hA1⟩
  | true =>
  go_wp2_with fail
  refine (total_any c m.content _ (h.mono (ext_of_below hA1))).mono ?_
  rintro e w2 ⟨rfl, hb2⟩
  have hA2 := hA1.trans (hb2.mono hA1.size)
  clear hb2 hA1
  have hfd := fun w => field_lo (.int .i64 (tot m.content).lo) (.int .i64 (tot m.content).hi) w
  by_cases h7 : 1000 < (tot m.content).lo
  · go_wp2; go_ret; exact ⟨ret_int (by simp [numB, h1, h2, h3, h4, h5, h6, h7]), hA2⟩
  · go_wp2; go_ret; exact ⟨ret_int (by simp [numB, h1, h2, h3, h4, h5, h6, h7]), hA2⟩

theorem checkNumbers_v (m : Mat) (v : Value) (n : Int) (w : World) (h : VMat w v m) :
    Calls Try.prog 102 #[v, .int .i64 n] w fun e w' => e = .returned (.int .i64 (numB m n)) ∧ Below w.heap.size w w' := by
  obtain ⟨c, rfl, h1, _⟩ := h
  exact checkNumbers_any m c n w h1

end Go.Proofs.Ytnnkcbeadiembaa
