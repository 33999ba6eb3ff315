/- Numbers of layer 4: quotients in lowest terms, their order; no statement is proved here. -/
import Derived.Test.YtnldenjdbgfgmaaFmData
namespace Go.Proofs.Ytnldenjdbgfgmaa
set_option linter.unusedVariables false

def gI (a b : Int) : Int := (Int.gcd a b : Int)
/-- a quotient in lowest terms. -/
def mk (n d : Int) : Rt := ⟨n / gI n d, d / gI n d⟩
def rat (n d : Int) : Rt := if 0 < d then mk n d else mk (-n) (-d)
def rv (r : Rt) : Rat := Rat.divInt r.n r.d

theorem gI_nonneg (a b : Int) : 0 ≤ gI a b := Int.natCast_nonneg _
theorem gI_pos (a : Int) {b : Int} (hb : b ≠ 0) : 1 ≤ gI a b := by
  have : 0 < Int.gcd a b := Int.gcd_pos_of_ne_zero_right a hb
  unfold gI; omega
theorem gI_dl (a b : Int) : gI a b ∣ a := Int.gcd_dvd_left a b
theorem gI_dr (a b : Int) : gI a b ∣ b := Int.gcd_dvd_right a b
theorem gI_le (a : Int) {b : Int} (hb : 0 < b) : gI a b ≤ b := Int.le_of_dvd hb (gI_dr a b)
theorem gI_neg_l (a b : Int) : gI (-a) b = gI a b := by unfold gI; rw [Int.neg_gcd]
theorem gI_neg_r (a b : Int) : gI a (-b) = gI a b := by unfold gI; rw [Int.gcd_neg]
theorem gI_le_abs (a : Int) {b : Int} (hb : b ≠ 0) : gI a b ≤ max b (-b) := by
  by_cases h : 0 < b
  · have := gI_le a h; omega
  · have := gI_le a (b := -b) (by omega); rw [gI_neg_r] at this; omega
theorem gI_abs (a b : Int) : gI (max a (-a)) b = gI a b := by
  rcases Int.le_total a (-a) with h | h
  · rw [Int.max_eq_right h, gI_neg_l]
  · rw [Int.max_eq_left h]
theorem gI_rec (a b : Int) : gI b (a.tmod b) = gI a b := by
  unfold gI
  rw [Int.gcd_eq_natAbs_gcd_natAbs, Int.gcd_eq_natAbs_gcd_natAbs, Int.natAbs_tmod, Nat.gcd_comm, ← Nat.gcd_rec, Nat.gcd_comm]
theorem gI_zero (a : Int) : gI a 0 = max a (-a) := by
  unfold gI; rw [Int.gcd_zero_right]; omega
theorem tdiv_gl (a b : Int) : a.tdiv (gI a b) = a / gI a b := Int.tdiv_eq_ediv_of_dvd (gI_dl a b)
theorem tdiv_gr (a b : Int) : b.tdiv (gI a b) = b / gI a b := Int.tdiv_eq_ediv_of_dvd (gI_dr a b)
theorem mk_n (n d : Int) : (mk n d).n * gI n d = n := Int.ediv_mul_cancel (gI_dl n d)
theorem mk_d (n d : Int) : (mk n d).d * gI n d = d := Int.ediv_mul_cancel (gI_dr n d)
theorem mk_dpos (n : Int) {d : Int} (h : 0 < d) : 1 ≤ (mk n d).d := by
  have h1 := mk_d n d
  have h2 := gI_pos n (b := d) (by omega)
  rcases Int.le_total (mk n d).d 0 with hq | hq
  · have := Int.mul_nonneg (show 0 ≤ -(mk n d).d by omega) (show 0 ≤ gI n d by omega)
    rw [Int.neg_mul] at this
    omega
  · rcases Int.lt_or_eq_of_le hq with hq | hq
    · omega
    · rw [← hq] at h1; omega
theorem mk_dle (n : Int) {d : Int} (h : 0 < d) : (mk n d).d ≤ d := Int.ediv_le_self _ (by omega)
theorem mk_nabs (n : Int) {d : Int} (h : 0 < d) (B : Int) (hB : -B ≤ n ∧ n ≤ B) : -B ≤ (mk n d).n ∧ (mk n d).n ≤ B := by
  have h1 := mk_n n d
  have h2 := gI_pos n (b := d) (by omega)
  generalize (mk n d).n = q at *
  generalize gI n d = g at *
  rcases Int.le_total 0 q with hq | hq
  · have : q * 1 ≤ q * g := Int.mul_le_mul_of_nonneg_left h2 hq
    omega
  · have : -q * 1 ≤ -q * g := Int.mul_le_mul_of_nonneg_left h2 (by omega)
    rw [Int.neg_mul, Int.neg_mul] at this
    omega
theorem mk_cross (n d : Int) : (mk n d).n * d = n * (mk n d).d := by
  have h1 := mk_n n d
  have h2 := mk_d n d
  generalize (mk n d).n = p at *
  generalize (mk n d).d = q at *
  rw [← h2]
  calc p * (q * gI n d) = (p * gI n d) * q := by rw [Int.mul_comm q, ← Int.mul_assoc]
    _ = n * q := by rw [h1]
theorem mk_rat (n : Int) {d : Int} (h : 0 < d) : (mk n d).n = (Rat.divInt n d).num ∧ (mk n d).d = ((Rat.divInt n d).den : Int) := by
  obtain ⟨k, rfl⟩ := Int.eq_ofNat_of_zero_le (Int.le_of_lt h)
  have hk : k ≠ 0 := by omega
  rw [Rat.divInt_ofNat, ← Rat.normalize_eq_mkRat hk, Rat.normalize_eq]
  unfold mk gI
  rw [Int.gcd_eq_natAbs_gcd_natAbs]
  simp
theorem mk_eq {n d n' d' : Int} (h : 0 < d) (h' : 0 < d') (e : n * d' = n' * d) : mk n d = mk n' d' := by
  obtain ⟨a1, a2⟩ := mk_rat n h
  obtain ⟨b1, b2⟩ := mk_rat n' h'
  have := (Rat.divInt_eq_divInt_iff (n₁ := n) (n₂ := n') (Int.ne_of_gt h) (Int.ne_of_gt h')).2 e
  rw [this, ← b1] at a1
  rw [this, ← b2] at a2
  cases hx : mk n d; cases hy : mk n' d'
  rw [hx, hy] at a1 a2
  simp only at a1 a2
  rw [a1, a2]
theorem mk_of_rv {n d n' d' : Int} (h : 0 < d) (h' : 0 < d') (e : Rat.divInt n d = Rat.divInt n' d') : mk n d = mk n' d' :=
  mk_eq h h' ((Rat.divInt_eq_divInt_iff (Int.ne_of_gt h) (Int.ne_of_gt h')).1 e)
theorem mk_one (n : Int) : mk n 1 = ⟨n, 1⟩ := by
  have : gI n 1 = 1 := by unfold gI; simp
  unfold mk; rw [this]; simp
theorem mk_self {r : Rt} (h : gI r.n r.d = 1) : mk r.n r.d = r := by
  unfold mk; rw [h]; simp
theorem mk_low (n : Int) {d : Int} (h : 0 < d) : gI (mk n d).n (mk n d).d = 1 := by
  obtain ⟨a1, a2⟩ := mk_rat n h
  rw [a1, a2]
  have := (Rat.divInt n d).reduced
  unfold gI
  rw [Int.gcd_eq_natAbs_gcd_natAbs]
  unfold Nat.Coprime at this
  simp [this]
theorem mk_mk (n : Int) {d : Int} (h : 0 < d) : mk (mk n d).n (mk n d).d = mk n d := mk_self (mk_low n h)
theorem rv_mk (n : Int) {d : Int} (h : 0 < d) : rv (mk n d) = Rat.divInt n d := by
  have := mk_dpos n h
  exact (Rat.divInt_eq_divInt_iff (by omega) (by omega)).2 (mk_cross n d)
/-- equal quotients in lowest terms are alike. -/
theorem low_eq {r s : Rt} (hr : 1 ≤ r.d) (hs : 1 ≤ s.d) (gr : gI r.n r.d = 1) (gs : gI s.n s.d = 1) (e : r.n * s.d = s.n * r.d) : r = s := by
  rw [← mk_self gr, ← mk_self gs]
  exact mk_eq (by omega) (by omega) e

theorem div_lt {a b c d : Int} (hb : 0 < b) (hd : 0 < d) : Rat.divInt a b < Rat.divInt c d ↔ a * d < c * b := by
  rw [← Rat.not_le, Rat.le_iff_sub_nonneg, Rat.divInt_sub_divInt _ _ (by omega) (by omega), Rat.divInt_nonneg_iff_of_pos_right (Int.mul_pos hb hd)]
  omega
theorem div_le {a b c d : Int} (hb : 0 < b) (hd : 0 < d) : Rat.divInt a b ≤ Rat.divInt c d ↔ a * d ≤ c * b := by
  rw [Rat.le_iff_sub_nonneg, Rat.divInt_sub_divInt _ _ (by omega) (by omega), Rat.divInt_nonneg_iff_of_pos_right (Int.mul_pos hd hb)]
  omega
theorem rv_lt {r s : Rt} (hr : 1 ≤ r.d) (hs : 1 ≤ s.d) : rv r < rv s ↔ r.n * s.d < s.n * r.d := div_lt (by omega) (by omega)
theorem rv_le {r s : Rt} (hr : 1 ≤ r.d) (hs : 1 ≤ s.d) : rv r ≤ rv s ↔ r.n * s.d ≤ s.n * r.d := div_le (by omega) (by omega)
theorem rv_eq {r s : Rt} (hr : 1 ≤ r.d) (hs : 1 ≤ s.d) : rv r = rv s ↔ r.n * s.d = s.n * r.d := Rat.divInt_eq_divInt_iff (by omega) (by omega)
end Go.Proofs.Ytnldenjdbgfgmaa
