/- The order of the specification's quotients; no statement is proved here. -/
import Derived.Test.YtnldenjdbgfgmaaFmRm
namespace Go.Proofs.Ytnldenjdbgfgmaa
open Go.RowKit Go.PlainAid
set_option linter.unusedVariables false
set_option linter.unusedSimpArgs false

theorem cmp_same {x y u v : Int} (h : x - y = u - v) : cmpI x y = cmpI u v := by
  unfold cmpI
  split <;> split <;> (try split) <;> (try split) <;> omega
theorem ord_diff (a b c d p : Int) : a * d - c * b = d * (a - p * b) - b * (c - p * d) := by
  have h1 : d * (p * b) = b * (p * d) := by ac_rfl
  rw [Int.mul_sub, Int.mul_sub, Int.mul_comm a d, Int.mul_comm c b]
  omega
theorem ord_lt {a b c d p q : Int} (hb : 1 ≤ b) (hd : 1 ≤ d) (h1 : a - p * b < b) (h2 : 0 ≤ c - q * d) (h : p < q) : a * d < c * b := by
  have e1 : a < (p + 1) * b := by rw [Int.add_mul]; omega
  have e2 := Int.mul_lt_mul_of_pos_right e1 (show 0 < d by omega)
  have e3 := Int.mul_le_mul_of_nonneg_right (Int.mul_le_mul_of_nonneg_right (show p + 1 ≤ q by omega) (show 0 ≤ b by omega)) (show 0 ≤ d by omega)
  have e4 : q * b * d = q * d * b := by ac_rfl
  have e5 := Int.mul_le_mul_of_nonneg_right (show q * d ≤ c by omega) (show 0 ≤ b by omega)
  omega
def Num4 (a : Int) : Prop := -4000000000000000000 ≤ a ∧ a ≤ 4000000000000000000
def Den4 (a : Int) : Prop := 1 ≤ a ∧ a ≤ 4000000000000000000
theorem fl_bd (a : Int) {b : Int} (hb : 1 ≤ b) : 0 ≤ a - a / b * b ∧ a - a / b * b < b := by
  have h1 := Int.emod_nonneg a (show b ≠ 0 by omega)
  have h2 := Int.emod_lt_of_pos a (show 0 < b by omega)
  have h3 := Int.mul_ediv_add_emod a b
  have h4 : b * (a / b) = a / b * b := Int.mul_comm _ _
  omega

theorem floor_q (x y : Int) (V : World) (hx : Num4 x) (hy : Den4 y) : Calls Try.prog 48 #[.int .i64 x, .int .i64 y] V fun e w' => e = .returned (.int .i64 (x / y)) ∧ w' = V := by
  unfold Num4 at hx; unfold Den4 at hy
  exact rfloor_any x y V (by omega) (by omega)

set_option maxHeartbeats 2000000 in
set_option maxRecDepth 100000 in
theorem order_any : ∀ (K : Nat) (a b c d : Int) (w : World), Num4 a → Den4 b → Num4 c → Den4 d → b + d ≤ (K : Int) →
    Calls Try.prog 42 #[.agg #[.int .i64 a, .int .i64 b], .agg #[.int .i64 c, .int .i64 d]] w fun e w' => e = .returned (.int .i64 (cmpI (a * d) (c * b))) ∧ Below w.heap.size w w' := by
  intro K
  induction K with
  | zero => intro a b c d w ha hb hc hd hK; exact absurd hK (by have := hb.1; have := hd.1; omega)
  | succ K ih =>
    intro a b c d w ha hb hc hd hK
    have hA : Below w.heap.size w ((w.alloc (.cells #[.int .i64 a, .int .i64 b] 24)).alloc (.cells #[.int .i64 c, .int .i64 d] 24)) := (below_box w _).alloc (by simp) _
    have hP := (Blk.new w #[.int .i64 a, .int .i64 b] 24).alloc (.cells #[.int .i64 c, .int .i64 d] 24)
    have hQ := Blk.new (w.alloc (.cells #[.int .i64 a, .int .i64 b] 24)) #[.int .i64 c, .int .i64 d] 24
    simp only [World.size_alloc] at hQ
    have p0 := hP.cell 0 _ rfl
    have p1 := hP.cell 1 _ rfl
    have q0 := hQ.cell 0 _ rfl
    have q1 := hQ.cell 1 _ rfl
    obtain ⟨R, hR⟩ : ∃ R, cmpI (a * d) (c * b) = R := ⟨_, rfl⟩
    rw [hR]
    have HR := Lib.hid hR
    have IH := Lib.hid ih
    clear hR ih
    go_enter Try.func42, Try.ntmps42
    go_wp2_with fail
    go_quiet ((go_at_call 48; exact Calls.quiet_of_same (floor_q _ _ _ (by assumption) (by assumption))))
    obtain ⟨a1, a2⟩ := ha; obtain ⟨b1, b2⟩ := hb; obtain ⟨c1, c2⟩ := hc; obtain ⟨d1, d2⟩ := hd
    obtain ⟨r0, r1⟩ := fl_bd a b1
    obtain ⟨s0, s1⟩ := fl_bd c d1
    generalize a / b = p at *
    generalize c / d = q at *
    have D0 := below_dr ((w.alloc (.cells #[.int .i64 a, .int .i64 b] 24)).alloc (.cells #[.int .i64 c, .int .i64 d] 24)) nq
    have hA2 := hA.trans (D0.mono hA.size)
    have hP2 := hP.below D0 hP.lt
    have hQ2 := hQ.below D0 hQ.lt
    clear p0 p1 q0 q1 hA hP hQ D0
    generalize World.drewN ((w.alloc (.cells #[.int .i64 a, .int .i64 b] 24)).alloc (.cells #[.int .i64 c, .int .i64 d] 24)) nq = w2 at *
    have p0 := hP2.cell 0 _ rfl
    have p1 := hP2.cell 1 _ rfl
    have q0 := hQ2.cell 0 _ rfl
    have q1 := hQ2.cell 1 _ rfl
    by_cases h1 : p < q
    · have hv : R = -1 := by
        rw [← HR.out]; have := ord_lt b1 d1 r1 s0 h1; unfold cmpI; rw [if_pos this]
      have HA := Lib.hid hA2
      subst hv
      clear IH HR hA2 hP2 hQ2 r0 r1 s0 s1
      go_wp2
      go_ret
      exact ⟨rfl, HA.out⟩
    by_cases h2 : q < p
    · have hv : R = 1 := by
        rw [← HR.out]; have := ord_lt d1 b1 s1 r0 h2; unfold cmpI; rw [if_neg (by omega), if_pos this]
      have HA := Lib.hid hA2
      subst hv
      clear IH HR hA2 hP2 hQ2 r0 r1 s0 s1
      go_wp2
      go_ret
      exact ⟨rfl, HA.out⟩
    have hpq : q = p := by omega
    subst hpq
    have hdf := ord_diff a b c d q
    have z1 := wrap_id (q * b) (by unfold I64; omega)
    have z2 := wrap_id (a - q * b) (by unfold I64; omega)
    have z3 := wrap_id (q * d) (by unfold I64; omega)
    have z4 := wrap_id (c - q * d) (by unfold I64; omega)
    obtain ⟨r, hr⟩ : ∃ r, a - q * b = r := ⟨_, rfl⟩
    obtain ⟨s, hs⟩ : ∃ s, c - q * d = s := ⟨_, rfl⟩
    rw [hr] at r0 r1 hdf
    rw [hs] at s0 s1 hdf
    have zr := wrap_id r (by unfold I64; omega)
    have zs := wrap_id s (by unfold I64; omega)
    have HRr := Lib.hid hr
    have HSs := Lib.hid hs
    have HDF := Lib.hid hdf
    clear hr hs hdf
    have HA2 := Lib.hid hA2
    have HP2 := Lib.hid hP2
    have HQ2 := Lib.hid hQ2
    clear hA2 hP2 hQ2
    go_wp2_with fail
    go_quiet (fail)
    rw [HRr.out, HSs.out]
    try rw [zr]
    try rw [zs]
    have D0 := below_dr w2 nq
    have hA3 := HA2.out.trans (D0.mono HA2.out.size)
    have hP3 := HP2.out.below D0 HP2.out.lt
    have hQ3 := HQ2.out.below D0 HQ2.out.lt
    clear p0 p1 q0 q1 HA2 HP2 HQ2 D0 z1 z2 z3 z4 HRr HSs
    generalize World.drewN w2 nq = w3 at *
    have p0 := hP3.cell 0 _ rfl
    have p1 := hP3.cell 1 _ rfl
    have q0 := hQ3.cell 0 _ rfl
    have q1 := hQ3.cell 1 _ rfl
    have HA3 := Lib.hid hA3
    clear hA3 hP3 hQ3
    by_cases hr0 : r = 0
    · subst hr0
      by_cases hs0 : s = 0
      · subst hs0
        have hv : R = 0 := by
          have := HDF.out; rw [Int.mul_zero, Int.mul_zero] at this
          rw [← HR.out]; unfold cmpI; rw [if_neg (by omega), if_neg (by omega)]
        subst hv
        clear IH HR HDF
        go_wp2
        go_ret
        exact ⟨rfl, HA3.out⟩
      · have hv : R = -1 := by
          have h3 := HDF.out; rw [Int.mul_zero] at h3
          have := Int.mul_pos (show 0 < b by omega) (show 0 < s by omega)
          rw [← HR.out]; unfold cmpI; rw [if_pos (by omega)]
        subst hv
        clear IH HR HDF
        go_wp2
        go_ret
        exact ⟨rfl, HA3.out⟩
    · by_cases hs0 : s = 0
      · subst hs0
        have hv : R = 1 := by
          have h3 := HDF.out; rw [Int.mul_zero] at h3
          have := Int.mul_pos (show 0 < d by omega) (show 0 < r by omega)
          rw [← HR.out]; unfold cmpI; rw [if_neg (by omega), if_pos (by omega)]
        subst hv
        clear IH HR HDF
        go_wp2
        go_ret
        exact ⟨rfl, HA3.out⟩
      · have HC := fun V => IH.out d s b r V (by unfold Num4; omega) (by unfold Den4; omega) (by unfold Num4; omega) (by unfold Den4; omega) (by omega)
        have hv : cmpI (d * r) (b * s) = R := by rw [← HR.out]; exact (cmp_same HDF.out).symm
        rw [hv] at HC
        clear IH HR HDF hv
        go_wp2_with fail
        refine (HC _).mono ?_
        rintro e w4 ⟨rfl, hb4⟩
        have HA4 := Lib.hid (HA3.out.trans (hb4.mono HA3.out.size))
        clear HC HA3 hb4 p0 p1 q0 q1
        go_wp2
        go_ret
        exact ⟨rfl, HA4.out⟩
end Go.Proofs.Ytnldenjdbgfgmaa
