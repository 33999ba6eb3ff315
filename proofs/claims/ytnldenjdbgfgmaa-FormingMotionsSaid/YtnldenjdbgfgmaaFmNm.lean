/- Distances of stretches as rational numbers; no statement is proved here. -/
import Derived.Test.YtnldenjdbgfgmaaFmGm
namespace Go.Proofs.Ytnldenjdbgfgmaa
set_option linter.unusedVariables false
set_option linter.unusedSimpArgs false

theorem rv_div (r : Rt) : rv r = (r.n : Rat) / (r.d : Rat) := Rat.divInt_eq_div ..
theorem dpos {d : Int} (h : 1 ≤ d) : (0 : Rat) < (d : Rat) := Rat.intCast_pos.2 (by omega)
theorem rv_ahead {p q : Rt} (hp : 1 ≤ p.d) (hq : 1 ≤ q.d) (t : Int) : rv ⟨(q.n + t * q.d) * p.d - p.n * q.d, q.d * p.d⟩ = rv q + (t : Rat) - rv p := by
  have h1 := dpos hp
  have h2 := dpos hq
  rw [rv_div, rv_div, rv_div]
  simp only [Rat.intCast_mul, Rat.intCast_add, Rat.intCast_sub]
  generalize (p.d : Rat) = a at *
  generalize (q.d : Rat) = b at *
  generalize (p.n : Rat) = c at *
  generalize (q.n : Rat) = e at *
  generalize (t : Rat) = s at *
  grind
/-- a distance as a number: 0, or how far the one begins behind the other one's end. -/
structure IsD (A B C D t v : Rat) : Prop where
  z : 0 ≤ v
  a : C + t - B ≤ v
  b : A - D - t ≤ v
  o : v = 0 ∨ v = C + t - B ∨ v = A - D - t
theorem isD {x y : St} (hx : StS x) (hy : StS y) (ox : rv x.a ≤ rv x.b) (oy : rv y.a ≤ rv y.b) (t : Int) : IsD (rv x.a) (rv x.b) (rv y.a) (rv y.b) t (rv (distQ x y t)) := by
  have h1 := hx.1.2; have h2 := hx.2.2; have h3 := hy.1.2; have h4 := hy.2.2
  have p1 := Int.mul_pos (show 0 < y.a.d by omega) (show 0 < x.b.d by omega)
  have p2 := Int.mul_pos (show 0 < x.a.d by omega) (show 0 < y.b.d by omega)
  have e1 : aheadN x y t = (y.a.n + t * y.a.d) * x.b.d - x.b.n * y.a.d := by unfold aheadN; rw [Int.neg_mul]; omega
  have e2 : behindN x y t = x.a.n * y.b.d - (y.b.n + t * y.b.d) * x.a.d := by unfold behindN; rw [Int.neg_mul]; omega
  have r1 := rv_ahead (p := x.b) (q := y.a) h2.1 h3.1 t
  have r2 : rv ⟨behindN x y t, x.a.d * y.b.d⟩ = rv x.a - rv y.b - (t : Rat) := by
    have := rv_ahead (p := y.b) (q := x.a) h4.1 h1.1 (-t)
    rw [e2, show x.a.n * y.b.d - (y.b.n + t * y.b.d) * x.a.d = (x.a.n + -t * x.a.d) * y.b.d - y.b.n * x.a.d by simp only [Int.add_mul, Int.neg_mul, Int.mul_right_comm t]; omega, this, Rat.intCast_neg]
    grind
  rw [← e1] at r1
  have s1 : 0 < aheadN x y t ↔ 0 < rv ⟨aheadN x y t, y.a.d * x.b.d⟩ := by
    rw [rv_div]
    have hd := dpos (show 1 ≤ y.a.d * x.b.d by omega)
    constructor
    · intro h
      simp only
      rw [Rat.div_def]
      exact Rat.mul_pos (Rat.intCast_pos.2 h) (Rat.inv_pos.2 hd)
    · intro h
      rcases Int.lt_or_le 0 (aheadN x y t) with g | g
      · exact g
      · have : ((aheadN x y t : Int) : Rat) ≤ 0 := by simpa using (Rat.intCast_le_intCast.2 g)
        simp only at h
        rw [Rat.div_def] at h
        have hi := Rat.inv_pos.2 hd
        have : ((aheadN x y t : Int) : Rat) * (((y.a.d * x.b.d : Int) : Rat))⁻¹ ≤ 0 := by
          have := Rat.mul_le_mul_of_nonneg_right this (Rat.le_of_lt hi)
          simpa using this
        exact absurd h (Rat.not_lt.2 this)
  have s2 : behindN x y t < 0 ↔ rv ⟨behindN x y t, x.a.d * y.b.d⟩ < 0 := by
    have := rv_lt (r := ⟨behindN x y t, x.a.d * y.b.d⟩) (s := ⟨0, 1⟩) (by simp only; omega) (by decide)
    simp only [Int.mul_one, Int.zero_mul] at this
    rw [← this, show rv ⟨0, 1⟩ = 0 by decide +kernel]
  rw [r1] at s1
  rw [r2] at s2
  unfold distQ
  by_cases c1 : 0 < aheadN x y t
  · have := s1.1 c1
    rw [if_pos c1, r1]
    exact ⟨by grind, by grind, by grind, by grind⟩
  have n1 := fun h => c1 (s1.2 h)
  rw [if_neg c1]
  by_cases c2 : behindN x y t < 0
  · have := s2.1 c2
    rw [if_pos c2, show rv ⟨0, 1⟩ = 0 by decide +kernel]
    exact ⟨by grind, by grind, by grind, by grind⟩
  have n2 := fun h => c2 (s2.2 h)
  rw [if_neg c2, r2]
  exact ⟨by grind, by grind, by grind, by grind⟩
theorem st_ord {c : Int} {s : St} (h : StOk c s) : rv s.a ≤ rv s.b := (rv_le h.1.1.1 h.2.1.1.1).2 h.2.2
theorem st_in {c : Int} {s : St} (h : StOk c s) : 0 ≤ rv s.a ∧ rv s.b ≤ (c : Rat) := by
  obtain ⟨⟨⟨a1, a2, -⟩, a3, a4⟩, ⟨⟨b1, b2, -⟩, b3, b4⟩, -⟩ := h
  constructor
  · rw [show (0 : Rat) = rv ⟨0, 1⟩ by decide +kernel]
    exact (rv_le (by decide) a1).2 (by simp only; omega)
  · rw [show (c : Rat) = rv ⟨c, 1⟩ by rw [rv_div]; grind]
    exact (rv_le b1 (show 1 ≤ (1 : Int) by decide)).2 (by simp only; omega)
/-- a list of distances as numbers. -/
def NearV (c sh : Int) (la lb : List St) (v : Rat) : Prop := ∃ x ∈ la, ∃ y ∈ lb, ∃ u : Int, -2 ≤ u ∧ u ≤ 1 ∧ IsD (rv x.a) (rv x.b) (rv y.a) (rv y.b) ((sh + u * c : Int) : Rat) v
theorem near_mem {c sh : Int} {la lb : List St} (hc : 1 ≤ c ∧ c ≤ 3600) (hla : ∀ s, s ∈ la → StOk c s) (hlb : ∀ s, s ∈ lb → StOk c s) {r : Rt} (h : r ∈ distL c sh la lb) : NearV c sh la lb (rv r) := by
  simp only [distL, distX, distY, List.mem_flatMap, List.mem_map, List.mem_range] at h
  obtain ⟨x, hx, y, hy, u, hu, rfl⟩ := h
  exact ⟨x, hx, y, hy, (u : Int) - 2, by omega, by omega, isD ((hla x hx).sized hc) ((hlb y hy).sized hc) (st_ord (hla x hx)) (st_ord (hlb y hy)) _⟩
theorem IsD.unique {A B C D t v w : Rat} (h : IsD A B C D t v) (k : IsD A B C D t w) : v = w := by
  obtain ⟨h1, h2, h3, h4⟩ := h
  obtain ⟨k1, k2, k3, k4⟩ := k
  grind
theorem mem_near {c sh : Int} {la lb : List St} (hc : 1 ≤ c ∧ c ≤ 3600) (hla : ∀ s, s ∈ la → StOk c s) (hlb : ∀ s, s ∈ lb → StOk c s) {v : Rat} (h : NearV c sh la lb v) : ∃ r, r ∈ distL c sh la lb ∧ rv r = v := by
  obtain ⟨x, hx, y, hy, u, h1, h2, hd⟩ := h
  refine ⟨distQ x y (sh + u * c), ?_, (isD ((hla x hx).sized hc) ((hlb y hy).sized hc) (st_ord (hla x hx)) (st_ord (hlb y hy)) _).unique hd⟩
  simp only [distL, distX, distY, List.mem_flatMap, List.mem_map, List.mem_range]
  exact ⟨x, hx, y, hy, (u + 2).toNat, by omega, by rw [show (((u + 2).toNat : Nat) : Int) - 2 = u by omega]⟩
/-- the least one. -/
def LeastV (c sh : Int) (la lb : List St) (v : Rat) : Prop := NearV c sh la lb v ∧ ∀ w, NearV c sh la lb w → v ≤ w
theorem least_is {c sh : Int} {la lb : List St} (hc : 1 ≤ c ∧ c ≤ 3600) (hs : 0 ≤ sh ∧ sh ≤ c) (hla : ∀ s, s ∈ la → StOk c s) (hlb : ∀ s, s ∈ lb → StOk c s) {m : Rt} (hm : leastG (distL c sh la lb) = some m) : LeastV c sh la lb (rv m) := by
  have hD := distL_bd (fun s h => (hla s h).sized hc) (fun s h => (hlb s h).sized hc) hc hs
  have hml : m ∈ distL c sh la lb := (leastG_mem _ _ _ hm).resolve_left (by simp)
  have mlow := (leastG_low _ _ (fun r hr => (hD r hr).2.1) (fun m h => by cases h) m hm).1
  refine ⟨near_mem hc hla hlb hml, fun w hw => ?_⟩
  obtain ⟨r, hr, rfl⟩ := mem_near hc hla hlb hw
  exact mlow r hr
/-- the list of the other side has nothing nearer. -/
theorem near_turn {c sh sh' : Int} {la lb : List St} (hc : 1 ≤ c ∧ c ≤ 3600) (hs : 0 ≤ sh ∧ sh ≤ c - 1) (hsh : sh' = if sh = 0 then 0 else c - sh) (hla : ∀ s, s ∈ la → StOk c s) (hlb : ∀ s, s ∈ lb → StOk c s) {v : Rat} (h : NearV c sh la lb v) : ∃ w, NearV c sh' lb la w ∧ w ≤ v := by
  obtain ⟨x, hx, y, hy, u, h1, h2, hd⟩ := h
  by_cases h0 : sh = 0
  · subst h0
    rw [if_pos rfl] at hsh
    subst hsh
    by_cases hu : u = -2
    · subst hu
      obtain ⟨r, hr, e⟩ := mem_near (sh := 0) hc hlb hla ⟨y, hy, x, hx, 1, by omega, by omega, isD ((hlb y hy).sized hc) ((hla x hx).sized hc) (st_ord (hlb y hy)) (st_ord (hla x hx)) _⟩
      have k1 := isD ((hlb y hy).sized hc) ((hla x hx).sized hc) (st_ord (hlb y hy)) (st_ord (hla x hx)) (0 + 1 * c)
      refine ⟨_, ⟨y, hy, x, hx, 1, by omega, by omega, k1⟩, ?_⟩
      have a1 := st_in (hla x hx); have a2 := st_in (hlb y hy); have a3 := st_ord (hla x hx); have a4 := st_ord (hlb y hy)
      have hcp := dpos hc.1
      obtain ⟨d1, d2, d3, d4⟩ := hd
      obtain ⟨g1, g2, g3, g4⟩ := k1
      simp only [Rat.intCast_add, Rat.intCast_mul, Rat.intCast_ofNat, Rat.intCast_neg, Rat.intCast_zero, Rat.intCast_one] at d2 d3 d4 g2 g3 g4
      grind
    · have k1 := isD ((hlb y hy).sized hc) ((hla x hx).sized hc) (st_ord (hlb y hy)) (st_ord (hla x hx)) (0 + -u * c)
      refine ⟨_, ⟨y, hy, x, hx, -u, by omega, by omega, k1⟩, ?_⟩
      obtain ⟨d1, d2, d3, d4⟩ := hd
      obtain ⟨g1, g2, g3, g4⟩ := k1
      simp only [Rat.intCast_add, Rat.intCast_mul, Rat.intCast_neg, Rat.intCast_zero] at d2 d3 d4 g2 g3 g4
      grind
  · rw [if_neg h0] at hsh
    subst hsh
    have k1 := isD ((hlb y hy).sized hc) ((hla x hx).sized hc) (st_ord (hlb y hy)) (st_ord (hla x hx)) (c - sh + (-u - 1) * c)
    refine ⟨_, ⟨y, hy, x, hx, -u - 1, by omega, by omega, k1⟩, ?_⟩
    obtain ⟨d1, d2, d3, d4⟩ := hd
    obtain ⟨g1, g2, g3, g4⟩ := k1
    simp only [Rat.intCast_add, Rat.intCast_sub, Rat.intCast_mul, Rat.intCast_neg, Rat.intCast_one] at d2 d3 d4 g2 g3 g4
    grind
theorem least_turn {c sh sh' : Int} {la lb : List St} (hc : 1 ≤ c ∧ c ≤ 3600) (hs : 0 ≤ sh ∧ sh ≤ c - 1) (hsh : sh' = if sh = 0 then 0 else c - sh) (hla : ∀ s, s ∈ la → StOk c s) (hlb : ∀ s, s ∈ lb → StOk c s) {v w : Rat} (h : LeastV c sh la lb v) (k : LeastV c sh' lb la w) : v = w := by
  obtain ⟨v', hv, lv⟩ := near_turn hc hs hsh hla hlb h.1
  have hs' : 0 ≤ sh' ∧ sh' ≤ c - 1 := by subst hsh; split <;> omega
  obtain ⟨w', hw, lw⟩ := near_turn (sh' := sh) hc hs' (by subst hsh; split <;> (try split) <;> omega) hlb hla k.1
  have := k.2 _ hv
  have := h.2 _ hw
  grind
/-- never more than half a cycle. -/
theorem least_half {c sh : Int} {la lb : List St} (hc : 1 ≤ c ∧ c ≤ 3600) (hs : 0 ≤ sh ∧ sh ≤ c - 1) (hla : ∀ s, s ∈ la → StOk c s) (hlb : ∀ s, s ∈ lb → StOk c s) {v : Rat} (h : LeastV c sh la lb v) : v ≤ (c : Rat) / 2 := by
  obtain ⟨x, hx, y, hy, -⟩ := id h.1
  have key : ∀ u : Int, -2 ≤ u → u ≤ 1 → rv y.a + ((sh + u * c : Int) : Rat) - rv x.a ≤ (c : Rat) / 2 → -((c : Rat) / 2) ≤ rv y.a + ((sh + u * c : Int) : Rat) - rv x.a → v ≤ (c : Rat) / 2 := fun u h1 h2 h3 h4 => by
    have k1 := isD ((hla x hx).sized hc) ((hlb y hy).sized hc) (st_ord (hla x hx)) (st_ord (hlb y hy)) (sh + u * c)
    have := h.2 _ ⟨x, hx, y, hy, u, h1, h2, k1⟩
    have a3 := st_ord (hla x hx); have a4 := st_ord (hlb y hy)
    have hcp := dpos hc.1
    obtain ⟨g1, g2, g3, g4⟩ := k1
    grind
  have a1 := st_in (hla x hx); have a2 := st_in (hlb y hy); have a3 := st_ord (hla x hx); have a4 := st_ord (hlb y hy)
  have hcp := dpos hc.1
  have s1 : (0 : Rat) ≤ (sh : Rat) := Rat.intCast_nonneg.2 hs.1
  have s2 : (sh : Rat) ≤ (c : Rat) := Rat.intCast_le_intCast.2 (by omega)
  have k0 := key (-2) (by omega) (by omega)
  have k1 := key (-1) (by omega) (by omega)
  have k2 := key 0 (by omega) (by omega)
  have k3 := key 1 (by omega) (by omega)
  simp only [Rat.intCast_add, Rat.intCast_mul, Rat.intCast_ofNat, Rat.intCast_neg, Rat.intCast_zero, Rat.intCast_one] at k0 k1 k2 k3
  grind
end Go.Proofs.Ytnldenjdbgfgmaa
