/- Quotients of the specification of layer 4: their contracts; no statement is proved here. -/
import Derived.Test.YtnldenjdbgfgmaaFmQ
import Derived.Test.YtnldenjdbgfgmaaFmCov
namespace Go.Proofs.Ytnldenjdbgfgmaa
open Go.RowKit Go.PlainAid
set_option linter.unusedVariables false
set_option linter.unusedSimpArgs false

set_option maxRecDepth 100000 in
theorem rdivisor_any (a b : Int) (w : World) (ha : 0 ≤ a ∧ a ≤ 9223372036854775807) (hb : 0 ≤ b ∧ b ≤ 9223372036854775807) : Calls Try.prog 43 #[.int .i64 a, .int .i64 b] w fun e w' => e = .returned (.int .i64 (gI a b)) ∧ Below w.heap.size w w' := by
  generalize hG : gI a b = G at *
  go_enter Try.func43, Try.ntmps43
  go_wp2
  go_loopw [0, 1] (fun x y wr => ∃ (p q : Int), x = .int .i64 p ∧ y = .int .i64 q ∧ (0 ≤ p ∧ p ≤ 9223372036854775807) ∧ (0 ≤ q ∧ q ≤ 9223372036854775807) ∧ gI p q = G ∧ Below w.heap.size w wr) (fun x y _ => (intOf y).natAbs)
  case atStart => exact ⟨a, b, rfl, rfl, ha, hb, hG, Below.refl _ _⟩
  case round =>
    obtain ⟨p, q, rfl, rfl, hp1, hq1, hpq, hB⟩ := hrel
    by_cases hq : q = 0
    · subst hq
      rw [gI_zero] at hpq
      have hpg : p = G := by omega
      subst hpg
      clear hG hpq
      go_wp2
      go_ret
      exact ⟨rfl, hB⟩
    · have h1 := Int.tmod_lt_of_pos p (show 0 < q by omega)
      have h2 := Int.tmod_nonneg q hp1.1
      have z1 : wrap64 (p.tmod q) = p.tmod q := wrap_id _ (by unfold I64 at *; omega)
      have hlt : (p.tmod q).natAbs < q.natAbs := by omega
      have hr := gI_rec p q
      have he : p.tmod q = p % q := Int.tmod_eq_emod_of_nonneg hp1.1
      go_wp2_with fail
      go_quiet (fail)
      go_wp2
      go_roundw
      case rel => exact ⟨q, p % q, rfl, rfl, hq1, by omega, by rw [← he, hr]; exact hpq, bdrewN hB⟩
      case measure => simp only [intOf]; rw [← he]; exact hlt

theorem floor_of (a n : Int) (h : 0 < n) : a / n = if a.tmod n < 0 then a.tdiv n - 1 else a.tdiv n := by
  have h1 := Int.tmod_lt_of_pos a h
  have h2 := Int.lt_tmod_of_pos a h
  have h3 := Int.mul_tdiv_add_tmod a n
  have h4 := Int.mul_ediv_add_emod a n
  have h5 := Int.emod_nonneg a (show n ≠ 0 by omega)
  have h6 := Int.emod_lt_of_pos a h
  split
  · have h7 : n * (a / n) = n * (a.tdiv n - 1) := by
      rw [Int.mul_sub]
      have : a % n = a.tmod n + n := by
        have := emod_of a n h
        rw [Int.tmod_eq_emod_of_nonneg (by omega), Int.emod_eq_of_lt (by omega) (by omega)] at this
        exact this.symm
      omega
    exact Int.eq_of_mul_eq_mul_left (by omega) h7
  · have h7 : n * (a / n) = n * a.tdiv n := by
      have : a % n = a.tmod n := by
        rw [← emod_of a n h, Int.tmod_eq_emod_of_nonneg (by omega), Int.add_emod_right, Int.emod_eq_of_lt (by omega) (by omega)]
      omega
    exact Int.eq_of_mul_eq_mul_left (by omega) h7
theorem quot_bd {a n : Int} (ha : I64 a) (hn : 1 ≤ n) : I64 (a.tdiv n) := by
  have h1 : (a.tdiv n).natAbs = a.natAbs / n.natAbs := Int.natAbs_tdiv a n
  have h2 := Nat.div_le_self a.natAbs n.natAbs
  unfold I64 at *
  rw [← h1] at h2
  by_cases h3 : 0 ≤ a
  · have := Int.tdiv_nonneg h3 (show 0 ≤ n by omega); omega
  · have : (-a).tdiv n = - (a.tdiv n) := Int.neg_tdiv a n
    have := Int.tdiv_nonneg (show 0 ≤ -a by omega) (show 0 ≤ n by omega)
    omega

set_option maxRecDepth 100000 in
theorem rfloor_any (a n : Int) (w : World) (ha : -9223372036854775807 ≤ a ∧ a ≤ 9223372036854775807) (hn : 1 ≤ n ∧ n ≤ 9223372036854775807) : Calls Try.prog 48 #[.int .i64 a, .int .i64 n] w fun e w' => e = .returned (.int .i64 (a / n)) ∧ w' = w := by
  have h0 : ¬ n = 0 := by omega
  have hi : I64 a := by unfold I64; omega
  have hq := quot_bd hi hn.1
  have h1 := Int.tmod_lt_of_pos a (show 0 < n by omega)
  have h2 := Int.lt_tmod_of_pos a (show 0 < n by omega)
  have hf := floor_of a n (by omega)
  have z1 : wrap64 (a.tdiv n) = a.tdiv n := wrap_id _ hq
  have z2 : wrap64 (a.tmod n) = a.tmod n := wrap_id _ (by unfold I64; omega)
  have h3 : (a.tdiv n).natAbs = a.natAbs / n.natAbs := Int.natAbs_tdiv a n
  have h4 := Nat.div_le_self a.natAbs n.natAbs
  have z3 : wrap64 (a.tdiv n - 1) = a.tdiv n - 1 := wrap_id _ (by rw [← h3] at h4; unfold I64; omega)
  have HF := Lib.hid hf
  clear hf hq h3 h4
  go_enter Try.func48, Try.ntmps48
  by_cases hc : a.tmod n < 0
  · have hv : a / n = a.tdiv n - 1 := by rw [HF.out, if_pos hc]
    have HV := Lib.hid hv
    clear hv HF
    go_wp2
    go_ret
    exact ⟨ret_int (by first | (rw [HV.out]; done) | (rw [HV.out]; exact z3)), rfl⟩
  · have hv : a / n = a.tdiv n := by rw [HF.out, if_neg hc]
    have HV := Lib.hid hv
    clear hv HF
    go_wp2
    go_ret
    exact ⟨ret_int (by first | (rw [HV.out]; done) | (rw [HV.out]; exact z3)), rfl⟩

set_option maxRecDepth 100000 in
theorem rwhole_any (n : Int) (w : World) : Calls Try.prog 41 #[.int .i64 n] w fun e w' => e = .returned (rtV ⟨n, 1⟩) ∧ Below w.heap.size w w' := by
  have HA := Lib.hid (below_box w (.cells #[.int .i64 n, .int .i64 1] 24))
  have hB := Blk.new w #[.int .i64 n, .int .i64 1] 24
  have C0 := Lib.hid (hB.cell 0 _ rfl)
  have C1 := Lib.hid (hB.cell 1 _ rfl)
  clear hB
  go_enter Try.func41, Try.ntmps41
  go_wp2
  have c0 := C0.out
  have c1 := C1.out
  refine ⟨rfl, .agg #[.int .i64 n, .int .i64 1], ?_, rfl, HA.out⟩
  simp [results, Try.results41, go_sem]
end Go.Proofs.Ytnldenjdbgfgmaa
