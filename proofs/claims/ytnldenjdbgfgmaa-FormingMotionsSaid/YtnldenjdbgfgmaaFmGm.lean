/- The least of the program's distances and of the specification's are one number; no statement is proved here. -/
import Derived.Test.YtnldenjdbgfgmaaFmGap
import Derived.Test.YtnldenjdbgfgmaaFmRc
namespace Go.Proofs.Ytnldenjdbgfgmaa
set_option linter.unusedVariables false
set_option linter.unusedSimpArgs false

theorem stR_iff {c : Int} {s : St} (hc : 1 ≤ c ∧ c ≤ 3600) : StR c s ↔ StOk c s := by
  constructor
  · rintro ⟨⟨⟨a1, a2⟩, a3, a4⟩, ⟨⟨b1, b2⟩, b3, b4⟩, h3, h4, h5⟩
    have n0 : 0 ≤ s.a.n := by omega
    have m1 : 0 ≤ s.a.n * s.b.d := Int.mul_nonneg n0 (by omega)
    have n1 : 0 ≤ s.b.n := by
      rcases Int.lt_or_le s.b.n 0 with h | h
      · have := Int.mul_neg_of_neg_of_pos h (show 0 < s.a.d by omega); omega
      · exact h
    have m2 : s.b.n * s.a.d ≤ c * s.b.d * s.a.d := Int.mul_le_mul_of_nonneg_right (by omega) (by omega)
    have m3 : s.a.n ≤ c * s.a.d := by
      refine Int.le_of_mul_le_mul_right (a := s.b.d) ?_ (by omega)
      rw [show c * s.a.d * s.b.d = c * s.b.d * s.a.d by rw [Int.mul_right_comm]]
      omega
    exact ⟨⟨⟨a1, a2, a4⟩, n0, m3⟩, ⟨⟨b1, b2, b4⟩, n1, by omega⟩, by omega⟩
  · rintro ⟨⟨⟨a1, a2, a4⟩, a5, a6⟩, ⟨⟨b1, b2, b4⟩, b5, b6⟩, h⟩
    have k1 := cyc_bd hc ⟨a1, a2⟩
    have k2 := cyc_bd hc ⟨b1, b2⟩
    exact ⟨⟨⟨a1, a2⟩, by omega, a4⟩, ⟨⟨b1, b2⟩, by omega, b4⟩, by omega, by omega, by omega⟩

theorem leastG_low : ∀ (l : List Rt) (o : Option Rt), (∀ r, r ∈ l → 1 ≤ r.d) → (∀ m, o = some m → 1 ≤ m.d) → ∀ m, l.foldl stepG o = some m → (∀ r, r ∈ l → rv m ≤ rv r) ∧ (∀ q, o = some q → rv m ≤ rv q)
  | [], o, _, _, m, h => ⟨fun r hr => (by cases hr), fun q hq => (by cases (show o = some m from h).symm.trans hq; exact Rat.le_refl)⟩
  | d :: l, o, hl, ho, m, h => by
    have hd := hl d (List.mem_cons_self ..)
    have key : ∃ q', stepG o d = some q' ∧ 1 ≤ q'.d ∧ rv q' ≤ rv d ∧ ∀ q, o = some q → rv q' ≤ rv q := by
      cases o with
      | none => exact ⟨d, rfl, hd, Rat.le_refl, fun q hq => by cases hq⟩
      | some m0 =>
        have h0 := ho m0 rfl
        by_cases hc : m0.n * d.d ≤ d.n * m0.d
        · exact ⟨m0, if_pos hc, h0, (rv_le h0 hd).2 hc, fun q hq => by cases hq; exact Rat.le_refl⟩
        · exact ⟨d, if_neg hc, hd, Rat.le_refl, fun q hq => by cases hq; exact (rv_le hd h0).2 (by omega)⟩
    obtain ⟨q', e, hq, h1, h2⟩ := key
    obtain ⟨i1, i2⟩ := leastG_low l (stepG o d) (fun r hr => hl r (List.mem_cons_of_mem _ hr)) (fun m hm => by rw [e] at hm; cases hm; exact hq) m h
    have h3 := i2 q' e
    refine ⟨fun r hr => ?_, fun q hq => Rat.le_trans h3 (h2 q hq)⟩
    rcases List.mem_cons.1 hr with rfl | hr
    · exact Rat.le_trans h3 h1
    · exact i1 r hr
theorem leastR_low : ∀ (l : List Rt) (o : Option Rt), (∀ r, r ∈ l → 1 ≤ r.d) → (∀ m, o = some m → 1 ≤ m.d) → ∀ m, l.foldl stepR o = some m → (∀ r, r ∈ l → rv m ≤ rv r) ∧ (∀ q, o = some q → rv m ≤ rv q)
  | [], o, _, _, m, h => ⟨fun r hr => (by cases hr), fun q hq => (by cases (show o = some m from h).symm.trans hq; exact Rat.le_refl)⟩
  | d :: l, o, hl, ho, m, h => by
    have hd := hl d (List.mem_cons_self ..)
    have key : ∃ q', stepR o d = some q' ∧ 1 ≤ q'.d ∧ rv q' ≤ rv d ∧ ∀ q, o = some q → rv q' ≤ rv q := by
      cases o with
      | none => exact ⟨d, rfl, hd, Rat.le_refl, fun q hq => by cases hq⟩
      | some m0 =>
        have h0 := ho m0 rfl
        by_cases hc : d.n * m0.d < m0.n * d.d
        · exact ⟨d, if_pos hc, hd, Rat.le_refl, fun q hq => by cases hq; exact (rv_le hd h0).2 (by omega)⟩
        · exact ⟨m0, if_neg hc, h0, (rv_le h0 hd).2 (by omega), fun q hq => by cases hq; exact Rat.le_refl⟩
    obtain ⟨q', e, hq, h1, h2⟩ := key
    obtain ⟨i1, i2⟩ := leastR_low l (stepR o d) (fun r hr => hl r (List.mem_cons_of_mem _ hr)) (fun m hm => by rw [e] at hm; cases hm; exact hq) m h
    have h3 := i2 q' e
    refine ⟨fun r hr => ?_, fun q hq => Rat.le_trans h3 (h2 q hq)⟩
    rcases List.mem_cons.1 hr with rfl | hr
    · exact Rat.le_trans h3 h1
    · exact i1 r hr
theorem foldG_some (d : Rt) : ∀ (l : List Rt) (o : Option Rt), o ≠ none → l.foldl stepG o ≠ none
  | [], o, h => h
  | d :: l, o, h => foldG_some d l _ (by cases o <;> simp only [stepG] <;> (try split) <;> simp)
theorem foldR_some (d : Rt) : ∀ (l : List Rt) (o : Option Rt), o ≠ none → l.foldl stepR o ≠ none
  | [], o, h => h
  | d :: l, o, h => foldR_some d l _ (by cases o <;> simp only [stepR] <;> (try split) <;> simp)
theorem leastG_none {l : List Rt} : leastG l = none ↔ l = [] := by
  cases l with
  | nil => simp [leastG]
  | cons d l => simp only [leastG, List.foldl_cons, reduceCtorEq, iff_false]; exact foldG_some d l _ (by simp [stepG])
theorem leastR_none {l : List Rt} : leastR l = none ↔ l = [] := by
  cases l with
  | nil => simp [leastR]
  | cons d l => simp only [leastR, List.foldl_cons, reduceCtorEq, iff_false]; exact foldR_some d l _ (by simp [stepR])

theorem apart_low {x y : St} (h1 : 1 ≤ x.a.d) (h2 : 1 ≤ x.b.d) (h3 : 1 ≤ y.a.d) (h4 : 1 ≤ y.b.d) : gI (apartQ x y).n (apartQ x y).d = 1 := by
  have p1 := Int.mul_pos (show 0 < y.a.d by omega) (show 0 < x.b.d by omega)
  have p2 := Int.mul_pos (show 0 < x.a.d by omega) (show 0 < y.b.d by omega)
  unfold apartQ
  split
  · exact mk_low _ p1
  · split
    · exact mk_low _ p2
    · decide
theorem rv_zero {d : Int} (h : 1 ≤ d) : rv ⟨0, d⟩ = rv ⟨0, 1⟩ := (rv_eq (r := ⟨0, d⟩) (s := ⟨0, 1⟩) h (by decide)).2 (by simp)
/-- one distance of both sides. -/
theorem dist_same {x y : St} (hx : StS x) (hy : StS y) (t : Int) : rv (distQ x y t) = rv (apartQ x (shiftS y t)) := by
  have h1 := hx.1.2; have h2 := hx.2.2; have h3 := hy.1.2; have h4 := hy.2.2
  have p1 := Int.mul_pos (show 0 < y.a.d by omega) (show 0 < x.b.d by omega)
  have p2 := Int.mul_pos (show 0 < x.a.d by omega) (show 0 < y.b.d by omega)
  have e1 : aheadN x y t = (y.a.n + t * y.a.d) * x.b.d - x.b.n * y.a.d := by unfold aheadN; rw [Int.neg_mul]; omega
  have e2 : behindN x y t = x.a.n * y.b.d - (y.b.n + t * y.b.d) * x.a.d := by unfold behindN; rw [Int.neg_mul]; omega
  have A : apartQ x (shiftS y t) = if x.b.n * y.a.d < (y.a.n + t * y.a.d) * x.b.d then mk ((y.a.n + t * y.a.d) * x.b.d - x.b.n * y.a.d) (y.a.d * x.b.d) else if (y.b.n + t * y.b.d) * x.a.d < x.a.n * y.b.d then mk (x.a.n * y.b.d - (y.b.n + t * y.b.d) * x.a.d) (x.a.d * y.b.d) else ⟨0, 1⟩ := rfl
  rw [A]
  unfold distQ
  by_cases c1 : 0 < aheadN x y t
  · rw [if_pos c1, if_pos (show x.b.n * y.a.d < (y.a.n + t * y.a.d) * x.b.d by omega), rv_mk _ p1, e1]; rfl
  rw [if_neg c1, if_neg (show ¬ x.b.n * y.a.d < (y.a.n + t * y.a.d) * x.b.d by omega)]
  by_cases c2 : behindN x y t < 0
  · rw [if_pos c2, if_neg (show ¬ (y.b.n + t * y.b.d) * x.a.d < x.a.n * y.b.d by omega)]
  rw [if_neg c2]
  by_cases c3 : (y.b.n + t * y.b.d) * x.a.d < x.a.n * y.b.d
  · rw [if_pos c3, rv_mk _ p2, e2]; rfl
  rw [if_neg c3, show behindN x y t = 0 by omega]
  exact rv_zero (by omega)
/-- later by two cycles is not nearer than later by one. -/
theorem dist_two {c sh : Int} {x y : St} (hc : 1 ≤ c ∧ c ≤ 3600) (hs : 0 ≤ sh) (hx : StOk c x) (hy : StOk c y) : rv (distQ x y (sh + c)) ≤ rv (apartQ x (shiftS y (sh + 2 * c))) := by
  obtain ⟨⟨⟨a1, a2, -⟩, a3, a4⟩, ⟨⟨b1, b2, -⟩, b3, b4⟩, -⟩ := hx
  obtain ⟨⟨⟨d1, d2, -⟩, d3, d4⟩, ⟨⟨f1, f2, -⟩, f3, f4⟩, -⟩ := hy
  have p1 := Int.mul_pos (show 0 < y.a.d by omega) (show 0 < x.b.d by omega)
  have p2 := Int.mul_pos (show 0 < x.a.d by omega) (show 0 < y.b.d by omega)
  have q1 : x.b.n * y.a.d ≤ c * x.b.d * y.a.d := Int.mul_le_mul_of_nonneg_right b4 (by omega)
  have q2 : x.a.n * y.b.d ≤ c * x.a.d * y.b.d := Int.mul_le_mul_of_nonneg_right a4 (by omega)
  have g0 := Int.mul_nonneg d3 (show 0 ≤ x.b.d by omega)
  have g1 := Int.mul_nonneg f3 (show 0 ≤ x.a.d by omega)
  have g2 := Int.mul_nonneg hs (show 0 ≤ y.a.d * x.b.d by omega)
  have g3 := Int.mul_nonneg hs (show 0 ≤ x.a.d * y.b.d by omega)
  have g4 := Int.mul_pos (show 0 < c by omega) p1
  have e1 : aheadN x y (sh + c) = y.a.n * x.b.d + sh * (y.a.d * x.b.d) + c * (y.a.d * x.b.d) - x.b.n * y.a.d := by unfold aheadN; rw [Int.neg_mul]; simp only [Int.add_mul, Int.mul_assoc]; omega
  have e2 : behindN x y (sh + c) = x.a.n * y.b.d - (y.b.n * x.a.d + sh * (x.a.d * y.b.d) + c * (x.a.d * y.b.d)) := by unfold behindN; rw [Int.neg_mul, Int.mul_comm x.a.d y.b.d]; simp only [Int.add_mul, Int.mul_assoc]; rw [Int.mul_comm y.b.d x.a.d]; omega
  have e3 : (y.a.n + (sh + 2 * c) * y.a.d) * x.b.d = y.a.n * x.b.d + sh * (y.a.d * x.b.d) + 2 * (c * (y.a.d * x.b.d)) := by simp only [Int.add_mul, Int.mul_assoc]; omega
  have k1 : c * x.b.d * y.a.d = c * (y.a.d * x.b.d) := by rw [Int.mul_assoc, Int.mul_comm x.b.d]
  have k2 : c * x.a.d * y.b.d = c * (x.a.d * y.b.d) := by rw [Int.mul_assoc]
  have A : apartQ x (shiftS y (sh + 2 * c)) = if x.b.n * y.a.d < (y.a.n + (sh + 2 * c) * y.a.d) * x.b.d then mk ((y.a.n + (sh + 2 * c) * y.a.d) * x.b.d - x.b.n * y.a.d) (y.a.d * x.b.d) else if (y.b.n + (sh + 2 * c) * y.b.d) * x.a.d < x.a.n * y.b.d then mk (x.a.n * y.b.d - (y.b.n + (sh + 2 * c) * y.b.d) * x.a.d) (x.a.d * y.b.d) else ⟨0, 1⟩ := rfl
  rw [A, if_pos (show x.b.n * y.a.d < (y.a.n + (sh + 2 * c) * y.a.d) * x.b.d by omega), rv_mk _ p1, e3]
  unfold distQ
  by_cases c1 : 0 < aheadN x y (sh + c)
  · rw [if_pos c1]
    exact (div_le p1 p1).2 (Int.mul_le_mul_of_nonneg_right (by simp only; omega) (by omega))
  rw [if_neg c1]
  have hz : ∀ n : Int, n = 0 → rv ⟨0, 1⟩ ≤ Rat.divInt (y.a.n * x.b.d + sh * (y.a.d * x.b.d) + 2 * (c * (y.a.d * x.b.d)) - x.b.n * y.a.d) (y.a.d * x.b.d) := fun _ _ => (div_le (by decide) p1).2 (by simp only [Int.zero_mul, Int.mul_one]; omega)
  by_cases c2 : behindN x y (sh + c) < 0
  · rw [if_pos c2]; exact hz 0 rfl
  rw [if_neg c2, show behindN x y (sh + c) = 0 by omega, rv_zero (by omega)]
  exact hz 0 rfl

/-- the program's gap is the specification's. -/
theorem gap_same {c sh : Int} {la lb : List St} (hc : 1 ≤ c ∧ c ≤ 3600) (hs : 0 ≤ sh ∧ sh ≤ c - 1) (hla : ∀ s, s ∈ la → StOk c s) (hlb : ∀ s, s ∈ lb → StOk c s) :
    (leastG (distL c sh la lb) = none ∧ leastR (apL c sh la lb) = none) ∨ ∃ m g, leastG (distL c sh la lb) = some m ∧ leastR (apL c sh la lb) = some g ∧ rat m.n m.d = g := by
  have hoa : ∀ s, s ∈ la → StS s := fun s h => (hla s h).sized hc
  have hob : ∀ s, s ∈ lb → StS s := fun s h => (hlb s h).sized hc
  have hD := distL_bd hoa hob hc (show 0 ≤ sh ∧ sh ≤ c by omega)
  have hA := apL_bd hoa hob hc (show 0 ≤ sh ∧ sh ≤ c by omega)
  have hemp : distL c sh la lb = [] ↔ apL c sh la lb = [] := by
    have l1 := distL_len c sh la lb
    have l2 := apL_len c sh la lb
    rw [← List.length_eq_zero_iff, ← List.length_eq_zero_iff, l1, l2]
    simp [Nat.mul_eq_zero]
  cases hm : leastG (distL c sh la lb) with
  | none =>
    exact .inl ⟨rfl, leastR_none.2 (hemp.1 (leastG_none.1 hm))⟩
  | some m =>
    cases hg : leastR (apL c sh la lb) with
    | none => rw [leastG_none.2 (hemp.2 (leastR_none.1 hg))] at hm; cases hm
    | some g =>
      refine .inr ⟨m, g, rfl, rfl, ?_⟩
      have hml : m ∈ distL c sh la lb := (leastG_mem _ _ _ hm).resolve_left (by simp)
      have hgl : g ∈ apL c sh la lb := (leastR_mem _ _ _ hg).resolve_left (by simp)
      have mlow := (leastG_low _ _ (fun r hr => (hD r hr).2.1) (fun m h => by cases h) m hm).1
      have glow := (leastR_low _ _ (fun r hr => (hA r hr).2.1) (fun m h => by cases h) g hg).1
      have md := (hD m hml).2.1
      have gd := (hA g hgl).2.1
      have le1 : rv g ≤ rv m := by
        simp only [distL, distX, distY, List.mem_flatMap, List.mem_map, List.mem_range] at hml
        obtain ⟨x, hx, y, hy, u, hu, e⟩ := hml
        rw [← e, dist_same (hoa x hx) (hob y hy)]
        refine glow _ ?_
        simp only [apL, apX, apY, List.mem_flatMap, List.mem_map, List.mem_range]
        exact ⟨x, hx, y, hy, u, by omega, rfl⟩
      have le2 : rv m ≤ rv g ∧ gI g.n g.d = 1 := by
        simp only [apL, apX, apY, List.mem_flatMap, List.mem_map, List.mem_range] at hgl
        obtain ⟨x, hx, y, hy, u, hu, e⟩ := hgl
        have hx1 := hoa x hx; have hy1 := hob y hy
        have h1 := hx1.1.2; have h2 := hx1.2.2; have h3 := hy1.1.2; have h4 := hy1.2.2
        have p1 := Int.mul_pos (show 0 < y.a.d by omega) (show 0 < x.b.d by omega)
        have p2 := Int.mul_pos (show 0 < x.a.d by omega) (show 0 < y.b.d by omega)
        constructor
        · by_cases hu4 : u < 4
          · rw [← e, ← dist_same hx1 hy1]
            refine mlow _ ?_
            simp only [distL, distX, distY, List.mem_flatMap, List.mem_map, List.mem_range]
            exact ⟨x, hx, y, hy, u, by omega, rfl⟩
          · have hu' : u = 4 := by omega
            subst hu'
            have := dist_two hc hs.1 (hla x hx) (hlb y hy)
            rw [show sh + (((4 : Nat) : Int) - 2) * c = sh + 2 * c by omega] at e
            rw [← e]
            refine Rat.le_trans (mlow _ ?_) this
            simp only [distL, distX, distY, List.mem_flatMap, List.mem_map, List.mem_range]
            exact ⟨x, hx, y, hy, 3, by omega, by rw [show sh + (((3 : Nat) : Int) - 2) * c = sh + c by omega]⟩
        · rw [← e]
          exact apart_low h1.1 h2.1 h3.1 h4.1
      have ee := (rv_eq md gd).1 (Rat.le_antisymm le2.1 le1)
      rw [rat_pos (by omega), ← mk_self le2.2]
      exact mk_eq (by omega) (by omega) ee
end Go.Proofs.Ytnldenjdbgfgmaa
