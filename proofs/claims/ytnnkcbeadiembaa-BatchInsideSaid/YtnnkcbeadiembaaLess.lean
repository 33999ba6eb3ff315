/- The law's own floor and less; no statement is proved here. -/
import Derived.Test.YtnnkcbeadiembaaOwn
namespace Go.Proofs.Ytnnkcbeadiembaa
open Go.RowKit Go.PlainAid
set_option linter.unusedVariables false

theorem tdivl_low {a b : Int} (hb : 0 < b) (h : a < a.tdiv b * b) : a.tdiv b - 1 = a / b := by
  have h1 := Int.mul_tdiv_add_tmod a b
  have h3 := Int.lt_tmod_of_pos a hb
  rw [Int.mul_comm] at h1
  symm
  rw [Int.ediv_eq_iff_of_pos hb, Int.sub_mul]
  omega
theorem tdivl_high {a b : Int} (hb : 0 < b) (h : ¬ a < a.tdiv b * b) : a.tdiv b = a / b := by
  have h1 := Int.mul_tdiv_add_tmod a b
  have h2 := Int.tmod_lt_of_pos a hb
  rw [Int.mul_comm] at h1
  symm
  rw [Int.ediv_eq_iff_of_pos hb]
  omega

theorem lfloor_any (a b p : Int) (hp : a / b = p) (w : World) (ha : -2000000000000000000 ≤ a ∧ a ≤ 2000000000000000000) (hb : 0 < b ∧ b ≤ 2000000000000000000) :
    Calls Try.prog 56 #[.int .i64 a, .int .i64 b] w fun e w' => e = .returned (.int .i64 p) ∧ w = w' := by
  subst hp
  obtain ⟨ha1, ha2⟩ := ha
  obtain ⟨hb1, hb2⟩ := hb
  have hq : -2000000000000000000 ≤ a.tdiv b ∧ a.tdiv b ≤ 2000000000000000000 := by
    have h1 := Int.natAbs_tdiv_le_natAbs a b
    constructor <;> omega
  have hm : -4000000000000000000 ≤ a.tdiv b * b ∧ a.tdiv b * b ≤ 4000000000000000000 := by
    have h1 := Int.mul_tdiv_add_tmod a b
    rw [Int.mul_comm] at h1
    have h2 := Int.tmod_lt_of_pos a hb1
    have h3 := Int.lt_tmod_of_pos a hb1
    omega
  obtain ⟨hq1, hq2⟩ := hq
  obtain ⟨hm1, hm2⟩ := hm
  by_cases hlt : a < a.tdiv b * b
  · have hf := Lib.hid (tdivl_low hb1 hlt)
    go_enter Try.func56, Try.ntmps56
    go_wp2
    go_ret
    exact ⟨ret_int hf.out, rfl⟩
  · have hf := Lib.hid (tdivl_high hb1 hlt)
    go_enter Try.func56, Try.ntmps56
    go_wp2
    go_ret
    exact ⟨ret_int hf.out, rfl⟩

/-- a round of the comparison. -/
theorem less_step {a b c d p q : Int} (hb : 0 < b) (hc : 0 < c) (h : a * b ≤ c * d) (hp : a / c = p) (hq : d / b = q) :
    p ≤ q ∧ (0 ≤ a - p * c ∧ a - p * c < c) ∧ (0 ≤ d - q * b ∧ d - q * b < b) ∧ (p = q → (a - p * c) * b ≤ c * (d - q * b)) := by
  have h1 := Int.mul_ediv_add_emod a c
  have h2 := Int.emod_nonneg a (show c ≠ 0 by omega)
  have h3 := Int.emod_lt_of_pos a hc
  have h4 := Int.mul_ediv_add_emod d b
  have h5 := Int.emod_nonneg d (show b ≠ 0 by omega)
  have h6 := Int.emod_lt_of_pos d hb
  rw [hp, Int.mul_comm] at h1
  rw [hq, Int.mul_comm] at h4
  refine ⟨?_, by omega, by omega, fun e => ?_⟩
  · rw [← hq]
    apply Int.le_ediv_of_mul_le hb
    have h7 : p * c * b ≤ a * b := Int.mul_le_mul_of_nonneg_right (by omega) (by omega)
    have h8 : c * (p * b) ≤ c * d := by
      have e : p * c * b = c * (p * b) := by rw [Int.mul_comm p c, Int.mul_assoc]
      omega
    exact Int.le_of_mul_le_mul_left h8 hc
  · subst e
    have e : p * c * b = c * (p * b) := by rw [Int.mul_comm p c, Int.mul_assoc]
    rw [Int.sub_mul, Int.mul_sub, e]
    omega

theorem less_zero {r b c s : Int} (hb : 0 < b) (hr : 0 ≤ r) (h : r * b ≤ c * s) (hs : s = 0) : r = 0 := by
  subst hs
  rw [Int.mul_zero] at h
  rcases Int.lt_or_eq_of_le hr with h1 | h1
  · have := Int.mul_pos h1 hb; omega
  · exact h1.symm

def LessAt (a b c d : Int) : Prop := a * b ≤ c * d ∧ 0 < b ∧ 0 < c ∧ b ≤ 1000000000000000000 ∧ c ≤ 1000000000000000000 ∧ (-1000000000000000000 ≤ a ∧ a ≤ 1000000000000000000) ∧ (-1000000000000000000 ≤ d ∧ d ≤ 1000000000000000000)

set_option maxRecDepth 100000 in
theorem less_any (a b c d : Int) (w : World) (h : LessAt a b c d) :
    Calls Try.prog 24 #[.int .i64 a, .int .i64 b, .int .i64 c, .int .i64 d] w fun e w' => e = .returned (.bool true) ∧ w = w' := by
  go_enter Try.func24, Try.ntmps24
  go_wp2
  go_loop [0, 1, 2, 3, 9] (fun va vb vc vd vn => ∃ (a b c d : Int) (n : Nat), n ≤ 200 ∧ va = .int .i64 a ∧ vb = .int .i64 b ∧ vc = .int .i64 c ∧ vd = .int .i64 d ∧ vn = .int .i64 n ∧ LessAt a b c d) (fun _ _ _ _ vn => 200 - (intOf vn).toNat)
  case atStart => exact ⟨a, b, c, d, 0, by omega, rfl, rfl, rfl, rfl, rfl, h⟩
  case round =>
    clear h
    obtain ⟨a, b, c, d, n, hn, rfl, rfl, rfl, rfl, rfl, ⟨h, hb, hc, hb2, hc2, ⟨ha1, ha2⟩, ⟨hd1, hd2⟩⟩⟩ := hrel
    by_cases hlt : n < 200
    · obtain ⟨p, hp⟩ : ∃ p, a / c = p := ⟨_, rfl⟩
      obtain ⟨q, hq⟩ : ∃ q, d / b = q := ⟨_, rfl⟩
      obtain ⟨k1, ⟨k2, k3⟩, ⟨k4, k5⟩, k6⟩ := less_step hb hc h hp hq
      have c1 := lfloor_any a c p hp w (by omega) (by omega)
      have c2 := lfloor_any d b q hq w (by omega) (by omega)
      have m1 : -2000000000000000000 ≤ p * c := by omega
      have m2 : p * c ≤ 2000000000000000000 := by omega
      have m3 : -2000000000000000000 ≤ q * b := by omega
      have m4 : q * b ≤ 2000000000000000000 := by omega
      clear hp hq
      by_cases e : p = q
      · have k7 := k6 e
        have e1 : (p != q) = false := by simp [e]
        have z : ∀ hs : d - q * b = 0, a - p * c = 0 := fun hs => less_zero hb k2 k7 hs
        have hnext : 0 < a - p * c → 0 < d - q * b → LessAt b (a - p * c) (d - q * b) c := fun g1 g2 => ⟨by rw [Int.mul_comm b, Int.mul_comm (d - q * b) c]; exact k7, g1, g2, by omega, by omega, by omega, by omega⟩
        clear k6 h k7 e
        by_cases hr : a - p * c = 0
        · have hr1 : (a - p * c == 0) = true := by simp [hr]
          have HR := Lib.hid hr
          clear hr z hnext
          go_wp2_with (first | (with_reducible refine c1.mono ?_; rintro e w' ⟨rfl, rfl⟩) | (with_reducible refine c2.mono ?_; rintro e w' ⟨rfl, rfl⟩))
          go_ret
          exact ⟨rfl, rfl⟩
        · have hs : d - q * b ≠ 0 := fun hs => hr (z hs)
          have hx := hnext (by omega) (by omega)
          have hr1 : (a - p * c == 0) = false := by simp [hr]
          have hs1 : (d - q * b == 0) = false := by simp [hs]
          clear z hnext hr hs
          go_wp2_with (first | (with_reducible refine c1.mono ?_; rintro e w' ⟨rfl, rfl⟩) | (with_reducible refine c2.mono ?_; rintro e w' ⟨rfl, rfl⟩))
          go_round
          case rel => exact ⟨_, _, _, _, n + 1, by omega, rfl, rfl, rfl, rfl, by go_num, hx⟩
          case measure => simp [intOf]; omega
      · have e1 : (p != q) = true := by simp [e]
        have e2 : p < q := by omega
        clear k6 h e
        go_wp2_with (first | (with_reducible refine c1.mono ?_; rintro e w' ⟨rfl, rfl⟩) | (with_reducible refine c2.mono ?_; rintro e w' ⟨rfl, rfl⟩))
        go_ret
        exact ⟨rfl, rfl⟩
    · go_wp2
      go_ret
      exact ⟨rfl, rfl⟩

end Go.Proofs.Ytnnkcbeadiembaa
