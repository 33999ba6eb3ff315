/- Lehrs that are slower, spans that are narrower: in plain numbers; no statement is proved here. -/
import Derived.Test.YtmmlocjiegkjeaaDoorLeM
namespace Go.Proofs.YtmmlocjiegkjeaaDoor
open Go.RowKit Go.PlainAid
set_option linter.unusedVariables false
set_option linter.unusedSimpArgs false

/-- each piece takes twice as long. -/
def slowK (ks : List Sp) : List Sp := ks.map fun k => ⟨2 * k.lo, k.hi⟩
def slowL (l : Lr) : Lr := ⟨slowK l.knees, l.factor⟩
theorem slowK_len (ks : List Sp) : (slowK ks).length = ks.length := by simp [slowK]
theorem kn_slow (ks : List Sp) (i : Nat) : kn (slowK ks) i = ⟨2 * (kn ks i).lo, (kn ks i).hi⟩ := by
  simp only [kn, slowK, List.getD_eq_getElem?_getD, List.getElem?_map]
  cases ks[i]? <;> simp
theorem minP_slow (ks : List Sp) (i : Nat) : minP (slowK ks) i = 2 * minP ks i := by
  simp only [minP, kn_slow]; omega
theorem fallP_slow (ks : List Sp) (i : Nat) : fallP (slowK ks) i = fallP ks i := by
  simp only [fallP, kn_slow]
theorem meetP_slow (ks : List Sp) (t : Sp) (i : Nat) : meetP (slowK ks) t i = meetP ks t i := by
  simp only [meetP, kn_slow]

theorem pos_iff {f d : Int} (hd : 1 ≤ d) : 0 < f * d ↔ 0 < f :=
  ⟨fun h => Int.pos_of_mul_pos_left h (by omega), fun h => Int.mul_pos h (by omega)⟩

theorem mostK_slow {l : Lr} (h : OkLr l) (t : Sp) : ∀ k, k + 1 ≤ l.knees.length →
    (mostK (slowK l.knees) t k).1 = (mostK l.knees t k).1 ∧ ((mostK l.knees t k).1 = 0 ∨ (mostK (slowK l.knees) t k).2 = 2 * (mostK l.knees t k).2) ∧ 1 ≤ (mostK (slowK l.knees) t k).2
  | 0, _ => ⟨rfl, .inl rfl, by simp [mostK]⟩
  | k + 1, hk => by
    obtain ⟨h1, h2, h3⟩ := mostK_slow h t k (by omega)
    have hq := mostK_ok h t k (by omega)
    have hp := h.piece hk
    have hm := hp.m1
    simp only [mostK, stp, meetP_slow, minP_slow, fallP_slow]
    generalize mostK (slowK l.knees) t k = p at *
    generalize mostK l.knees t k = q at *
    have hc : (p.1 * (2 * minP l.knees k) < fallP l.knees k * p.2) ↔ (q.1 * minP l.knees k < fallP l.knees k * q.2) := by
      rw [h1]
      rcases h2 with h2 | h2
      · rw [h2, Int.zero_mul, Int.zero_mul, pos_iff h3, pos_iff hq.d1]
      · rw [h2, Int.mul_left_comm, Int.mul_left_comm (fallP l.knees k)]
        omega
    by_cases hb : meetP l.knees t k = true ∧ q.1 * minP l.knees k < fallP l.knees k * q.2
    · rw [if_pos hb, if_pos ⟨hb.1, hc.2 hb.2⟩]
      exact ⟨rfl, .inr rfl, by simp only; omega⟩
    · rw [if_neg hb, if_neg fun x => hb ⟨x.1, hc.1 x.2⟩]
      exact ⟨h1, h2, h3⟩

theorem steep_slow {l : Lr} (h : OkLr l) (t : Sp) : (steepL (slowL l) t).1 = (steepL l t).1 ∧ ((steepL l t).1 = 0 ∨ (steepL (slowL l) t).2 = 2 * (steepL l t).2) ∧ 1 ≤ (steepL (slowL l) t).2 := by
  have := mostK_slow h t (l.knees.length - 1) (by have := h.least; omega)
  simpa only [steepL, slowL, slowK_len] using this

/-- it cools at most half as fast. -/
theorem slow_ratio {l : Lr} (h : OkLr l) (t : Sp) : 2 * (lowQ (steepL (slowL l) t)).1 * (lowQ (steepL l t)).2 = (lowQ (steepL l t)).1 * (lowQ (steepL (slowL l) t)).2 := by
  obtain ⟨h1, h2, h3⟩ := steep_slow h t
  have hq := steepL_ok h t
  have a := lowQ_q hq
  have b := lowQ_ok (q := steepL (slowL l) t) (by rw [h1]; exact hq.n1) h3
  generalize steepL (slowL l) t = p at *
  generalize steepL l t = q at *
  have hg := a.g1
  have hh := b.g1
  rcases h2 with h2 | h2
  · have e1 : (lowQ q).1 = 0 := by simp [lowQ, h2]
    have e2 : (lowQ p).1 = 0 := by simp [lowQ, h1, h2]
    rw [e1, e2]; simp
  · have e : gq p * gq q * (2 * (lowQ p).1 * (lowQ q).2) = gq p * gq q * ((lowQ q).1 * (lowQ p).2) := by
      have e1 : gq p * gq q * (2 * (lowQ p).1 * (lowQ q).2) = 2 * ((gq p * (lowQ p).1) * (gq q * (lowQ q).2)) := by simp only [Int.mul_assoc, Int.mul_left_comm, Int.mul_comm]
      have e2 : gq p * gq q * ((lowQ q).1 * (lowQ p).2) = (gq q * (lowQ q).1) * (gq p * (lowQ p).2) := by simp only [Int.mul_assoc, Int.mul_left_comm, Int.mul_comm]
      rw [e1, e2, a.num, a.den, b.num, b.den, h1, h2]
      simp only [Int.mul_left_comm]
    exact Int.eq_of_mul_eq_mul_left (Int.ne_of_gt (Int.mul_pos (by omega) (by omega))) e

theorem slow_strain {l : Lr} (h : OkLr l) (hs : OkLr (slowL l)) (t : Sp) (th : Int) : strainL (slowL l) t th ≤ strainL l t th := by
  obtain ⟨h1, h2, h3⟩ := steep_slow h t
  have hq := steepL_ok h t
  have hp := steepL_ok hs t
  refine strQ_mono hp hq h.factor.1 ?_
  rw [h1]
  have hd := hq.d1
  rcases h2 with h2 | h2
  · rw [h2]; simp
  · rw [h2]
    refine Int.mul_le_mul_of_nonneg_left ?_ hq.n1
    omega

theorem two_div {m x y : Int} (hy : 0 < y) : 2 * (m * x / y) ≤ 2 * m * x / y := by
  refine (Int.le_ediv_iff_mul_le hy).2 ?_
  have := Int.ediv_mul_le (m * x) (b := y) (by omega)
  rw [Int.mul_assoc, Int.mul_assoc 2 m x]
  omega
theorem heldP_slow {ks : List Sp} {temp : Int} {i : Nat} (hp : PieceOk ks i) : 2 * heldP ks temp i ≤ heldP (slowK ks) temp i := by
  unfold heldP
  simp only [kn_slow, minP_slow]
  split
  · omega
  split
  · omega
  rename_i h1 h2
  exact two_div (by omega)
theorem heldK_slow {l : Lr} (h : OkLr l) (temp : Int) : ∀ k, k + 1 ≤ l.knees.length → 2 * heldK l.knees temp k ≤ heldK (slowK l.knees) temp k
  | 0, _ => by simp [heldK]
  | k + 1, hk => by
    have h1 := heldK_slow h temp k (by omega)
    have h2 := heldP_slow (temp := temp) (h.piece hk)
    simp only [heldK]
    omega
theorem slow_held {l : Lr} (h : OkLr l) (temp : Int) : 2 * heldL l temp ≤ heldL (slowL l) temp := by
  have := heldK_slow h temp (l.knees.length - 1) (by have := h.least; omega)
  simpa only [heldL, slowL, slowK_len] using this
theorem heldL_bd {l : Lr} (h : OkLr l) (temp : Int) : 0 ≤ heldL l temp ∧ heldL l temp ≤ 48000 := by
  have h1 := heldK_bd h temp (l.knees.length - 1) (by have := h.least; omega)
  have h2 := h.most
  have h3 := h.least
  unfold heldL
  omega

/-- in a narrower span it cools no faster. -/
theorem mostK_sub {l : Lr} (h : OkLr l) {s t : Sp} (h1 : t.lo ≤ s.lo) (h2 : s.hi ≤ t.hi) : ∀ k, k + 1 ≤ l.knees.length → (mostK l.knees s k).1 * (mostK l.knees t k).2 ≤ (mostK l.knees t k).1 * (mostK l.knees s k).2
  | 0, _ => by simp [mostK]
  | k + 1, hk => by
    have ih := mostK_sub h h1 h2 k (by omega)
    have hp := mostK_ok h s k (by omega)
    have hq := mostK_ok h t k (by omega)
    have hm := (h.piece hk).m1
    have hme : meetP l.knees s k = true → meetP l.knees t k = true := by
      simp only [meetP, Bool.and_eq_true, decide_eq_true_eq]; omega
    simp only [mostK, stp]
    generalize mostK l.knees s k = p at *
    generalize mostK l.knees t k = q at *
    generalize fallP l.knees k = f at *
    generalize minP l.knees k = m at *
    by_cases hb : meetP l.knees t k = true ∧ q.1 * m < f * q.2
    · rw [if_pos hb]
      by_cases ha : meetP l.knees s k = true ∧ p.1 * m < f * p.2
      · rw [if_pos ha]; exact Int.le_refl _
      · rw [if_neg ha]
        simp only
        -- p <= q < f / m
        have a1 : p.1 * q.2 * m ≤ q.1 * p.2 * m := Int.mul_le_mul_of_nonneg_right ih (by omega)
        have a2 : q.1 * m * p.2 ≤ f * q.2 * p.2 := Int.mul_le_mul_of_nonneg_right (by omega) (by have := hp.d1; omega)
        have e1 : p.1 * q.2 * m = q.2 * (p.1 * m) := by simp only [Int.mul_assoc, Int.mul_left_comm, Int.mul_comm]
        have e2 : q.1 * p.2 * m = q.1 * m * p.2 := by simp only [Int.mul_assoc, Int.mul_left_comm, Int.mul_comm]
        have e3 : f * q.2 * p.2 = q.2 * (f * p.2) := by simp only [Int.mul_assoc, Int.mul_left_comm, Int.mul_comm]
        exact Int.le_of_mul_le_mul_left (by rw [← e1, ← e3]; omega) (show 0 < q.2 by have := hq.d1; omega)
    · rw [if_neg hb]
      by_cases ha : meetP l.knees s k = true ∧ p.1 * m < f * p.2
      · rw [if_pos ha]
        simp only
        have : ¬ q.1 * m < f * q.2 := fun x => hb ⟨hme ha.1, x⟩
        omega
      · rw [if_neg ha]; exact ih
theorem steep_sub {l : Lr} (h : OkLr l) {s t : Sp} (h1 : t.lo ≤ s.lo) (h2 : s.hi ≤ t.hi) (th : Int) : strainL l s th ≤ strainL l t th :=
  strQ_mono (steepL_ok h s) (steepL_ok h t) h.factor.1 (mostK_sub h h1 h2 _ (by have := h.least; omega))

theorem heldP_anti {ks : List Sp} {x y : Int} {i : Nat} (hp : PieceOk ks i) (h : x ≤ y) : heldP ks y i ≤ heldP ks x i := by
  have hb := heldP_bd (temp := y) hp
  have hm := hp.m1
  by_cases h1 : x ≤ min (kn ks i).hi (kn ks (i + 1)).hi
  · have : heldP ks x i = minP ks i := by rw [heldP, if_pos h1]
    omega
  by_cases h2 : max (kn ks i).hi (kn ks (i + 1)).hi < y
  · have : heldP ks y i = 0 := by rw [heldP, if_neg (by omega), if_pos h2]
    have := (heldP_bd (temp := x) hp).1
    omega
  · rw [heldP, if_neg (by omega), if_neg h2, heldP, if_neg h1, if_neg (by omega)]
    exact Int.ediv_le_ediv (by omega) (Int.mul_le_mul_of_nonneg_left (by omega) (by omega))
theorem heldK_anti {l : Lr} (h : OkLr l) {x y : Int} (hxy : x ≤ y) : ∀ k, k + 1 ≤ l.knees.length → heldK l.knees y k ≤ heldK l.knees x k
  | 0, _ => by simp [heldK]
  | k + 1, hk => by
    have h1 := heldK_anti h hxy k (by omega)
    have h2 := heldP_anti (h.piece hk) hxy
    simp only [heldK]
    omega
theorem held_anti {l : Lr} (h : OkLr l) {x y : Int} (hxy : x ≤ y) : heldL l y ≤ heldL l x := heldK_anti h hxy _ (by have := h.least; omega)

end Go.Proofs.YtmmlocjiegkjeaaDoor
