/- The small functions of package forming: their contracts; no statement is proved here. -/
import Derived.Test.YtnldenjdbgfgmaaFmMath
import Derived.Test.YtnldenjdbgfgmaaRange
import Derived.Test.YtnldenjdbgfgmaaTillIn
import Derived.Deep.QuietTactic
import Derived.BigQuiet
import Derived.WalkLawsBesides
namespace Go.Proofs.Ytnldenjdbgfgmaa
open Go.RowKit Go.PlainAid
set_option linter.unusedVariables false
set_option linter.unusedSimpArgs false

theorem below_box (w : World) (a : Obj) : Below w.heap.size w (w.alloc a) := by go_grown
theorem bdrewN {B n : Nat} {a w : World} (h : Below B a w) : Below B a (w.drewN n) := ⟨h.os, h.tape, h.output, h.size, h.block⟩
def btw (n l m : Int) : Bool := decide (l ≤ n ∧ n ≤ m)

set_option maxRecDepth 100000 in
theorem between_any (n l m : Int) (w : World) : Calls Try.prog 26 #[.int .i64 n, .int .i64 l, .int .i64 m] w fun e w' => e = .returned (.bool (btw n l m)) ∧ w' = w := by
  go_enter Try.func26, Try.ntmps26
  by_cases h1 : l ≤ n
  · go_wp2
    go_ret
    exact ⟨ret_bool (by simp [btw, h1]), rfl⟩
  · go_wp2
    go_ret
    exact ⟨ret_bool (by simp [btw]; omega), rfl⟩

set_option maxRecDepth 100000 in
theorem isCycle_any (n : Int) (w : World) : Calls Try.prog 33 #[.int .i64 n] w fun e w' => e = .returned (.bool (btw n 1 3600)) ∧ w' = w := by
  go_enter Try.func33, Try.ntmps33
  go_wp2_with fail
  refine (between_any n 1 3600 _).mono ?_
  rintro e w' ⟨rfl, rfl⟩
  go_wp2
  go_ret
  exact ⟨rfl, rfl⟩

set_option maxRecDepth 100000 in
theorem isPlace_any (n : Int) (w : World) : Calls Try.prog 44 #[.int .i64 n] w fun e w' => e = .returned (.bool (btw n 0 1000000)) ∧ w' = w := by
  go_enter Try.func44, Try.ntmps44
  go_wp2_with fail
  refine (between_any n 0 1000000 _).mono ?_
  rintro e w' ⟨rfl, rfl⟩
  go_wp2
  go_ret
  exact ⟨rfl, rfl⟩

theorem emod_of (a n : Int) (h : 0 < n) : (a.tmod n + n).tmod n = a % n := by
  have h1 := Int.tmod_lt_of_pos a h
  have h2 := Int.lt_tmod_of_pos a h
  rw [Int.tmod_eq_emod_of_nonneg (by omega)]
  have : a.tmod n = a - n * (a.tdiv n) := by have := Int.mul_tdiv_add_tmod a n; omega
  rw [this, show a - n * a.tdiv n + n = a + n * (1 - a.tdiv n) by rw [Int.mul_sub]; omega, Int.add_mul_emod_self_left]

set_option maxRecDepth 100000 in
theorem modulo_any (a n : Int) (w : World) (hn : 1 ≤ n ∧ n ≤ 4000000000000000000) (ha : I64 a) : Calls Try.prog 46 #[.int .i64 a, .int .i64 n] w fun e w' => e = .returned (.int .i64 (a % n)) ∧ w' = w := by
  have h0 : ¬ n = 0 := by omega
  have h1 := Int.tmod_lt_of_pos a (show 0 < n by omega)
  have h2 := Int.lt_tmod_of_pos a (show 0 < n by omega)
  have hm := emod_of a n (by omega)
  have h3 := Int.emod_nonneg a h0
  have h4 := Int.emod_lt_of_pos a (show 0 < n by omega)
  have z1 : wrap64 (a.tmod n) = a.tmod n := wrap_id _ (by unfold I64; omega)
  have z2 : wrap64 (a.tmod n + n) = a.tmod n + n := wrap_id _ (by unfold I64; omega)
  have z3 : wrap64 (a % n) = a % n := wrap_id _ (by unfold I64; omega)
  go_enter Try.func46, Try.ntmps46
  go_wp2
  go_ret
  exact ⟨ret_int (by simp only [z1, z2, hm, z3]), rfl⟩

set_option maxRecDepth 100000 in
theorem divisor_any (a b : Int) (w : World) (ha : I64 a) (hb : b ≠ 0 ∧ -9223372036854775807 ≤ b ∧ b ≤ 9223372036854775807) : Calls Try.prog 45 #[.int .i64 a, .int .i64 b] w fun e w' => e = .returned (.int .i64 (gI a b)) ∧ Below w.heap.size w w' := by
  have hg := gI_le_abs a hb.1
  have hp := gI_pos a hb.1
  generalize hG : gI a b = G at *
  have hG2 : G ≤ 9223372036854775807 := by omega
  go_enter Try.func45, Try.ntmps45
  go_wp2
  go_loopw [0, 1] (fun x y wr => ∃ (p q : Int), x = .int .i64 p ∧ y = .int .i64 q ∧ I64 p ∧ I64 q ∧ gI p q = G ∧ Below w.heap.size w wr) (fun x y _ => (intOf y).natAbs)
  case atStart => exact ⟨a, b, rfl, rfl, ha, by unfold I64; omega, hG, Below.refl _ _⟩
  case round =>
    obtain ⟨p, q, rfl, rfl, hp1, hq1, hpq, hB⟩ := hrel
    by_cases hq : q = 0
    · subst hq
      rw [gI_zero] at hpq
      have z1 : wrap64 (-p) = -p := wrap_id _ (by unfold I64; omega)
      go_wp2
      all_goals (go_ret; exact ⟨ret_int (by omega), hB⟩)
    · have z1 : wrap64 (p.tmod q) = p.tmod q := wrap_id _ (by
        have h1 := Int.natAbs_tmod p q
        have h2 := Nat.mod_lt p.natAbs (show 0 < q.natAbs by omega)
        unfold I64 at *; omega)
      have hlt : (p.tmod q).natAbs < q.natAbs := by
        rw [Int.natAbs_tmod]; exact Nat.mod_lt _ (by omega)
      have hr := gI_rec p q
      go_wp2_with fail
      go_quiet (fail)
      go_wp2
      go_roundw
      case rel => exact ⟨q, p.tmod q, rfl, by simp only [z1], hq1, by unfold I64 at *; omega, by rw [hr]; exact hpq, bdrewN hB⟩
      case measure => simp only [intOf, z1]; exact hlt
end Go.Proofs.Ytnldenjdbgfgmaa
