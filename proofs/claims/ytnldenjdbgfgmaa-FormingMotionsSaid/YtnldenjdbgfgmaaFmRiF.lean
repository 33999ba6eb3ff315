/- What within of the specification of layer 4 answers, as numbers; no statement is proved here. -/
import Derived.Test.YtnldenjdbgfgmaaFmAm
import Derived.Test.YtnldenjdbgfgmaaFmRw
namespace Go.Proofs.Ytnldenjdbgfgmaa
set_option linter.unusedVariables false
set_option linter.unusedSimpArgs false

/-- the time at which a leg's line is at a place, as the specification writes it. -/
def wtN (x y : Sp) (z g p : Int) : Int := x.lo * z + (p - x.hi) * g * (y.lo - x.lo)
def laterQ (a : Rt) (n : Int) : Rt := if a.n * 1 < n * a.d then ⟨n, 1⟩ else a
def soonerQ (a : Rt) (n : Int) : Rt := if a.n * 1 < n * a.d then a else ⟨n, 1⟩
theorem wt_bd {x y : Sp} (h : LegOk x y) {z g p : Int} (hz : 1 ≤ z ∧ z ≤ 1000000) (hg : -1 ≤ g ∧ g ≤ 1) (hp : -1000000 ≤ p ∧ p ≤ 2000000) :
    (0 ≤ x.lo * z ∧ x.lo * z ≤ 3600000000) ∧ (-3000000 ≤ (p - x.hi) * g ∧ (p - x.hi) * g ≤ 3000000) ∧ (-10800000000 ≤ (p - x.hi) * g * (y.lo - x.lo) ∧ (p - x.hi) * g * (y.lo - x.lo) ≤ 10800000000) ∧ (-20000000000 ≤ wtN x y z g p ∧ wtN x y z g p ≤ 20000000000) := by
  have h1 := h.a; have h2 := h.b; have h3 := h.c
  have a0 := Int.mul_nonneg h1.1 (show 0 ≤ z by omega)
  have a1 := bd_mul (a := x.lo) (b := z) (A := 3600) (B := 1000000) (by omega) (by omega) (by omega)
  have a2 := bd_mul (a := p - x.hi) (b := g) (A := 3000000) (B := 1) (by omega) (by omega) (by omega)
  have a3 := bd_mul (a := (p - x.hi) * g) (b := y.lo - x.lo) (A := 3000000) (B := 3600) (by omega) (by omega) (by omega)
  unfold wtN
  omega
theorem wt_at {x y : Sp} (h : LegOk x y) {z g : Int} (hz : 1 ≤ z) (hg : (y.hi - x.hi) * g = z) (p : Int) : legF x y (rv (mk (wtN x y z g p) z)) = (p : Rat) := by
  have hl := leg_len h
  have hzp := dpos hz
  rw [rv_mk _ (by omega), Rat.divInt_eq_div]
  have hgr := congrArg (fun u : Int => (u : Rat)) hg
  unfold wtN legF
  simp only [Rat.intCast_mul, Rat.intCast_add, Rat.intCast_sub] at hgr ⊢
  generalize (y.lo : Rat) = a at *
  generalize (x.lo : Rat) = b at *
  generalize (y.hi : Rat) = c at *
  generalize (x.hi : Rat) = d at *
  generalize (p : Rat) = q at *
  generalize (z : Rat) = u at *
  generalize (g : Rat) = v at *
  have hl2 : a - b ≠ 0 := by grind
  have hu : u ≠ 0 := by grind
  have e : (b * u + (q - d) * v * (a - b)) / u - b = (q - d) * v * (a - b) / u := by grind
  rw [e]
  have e2 : (c - d) / (a - b) * ((q - d) * v * (a - b) / u) = (q - d) * ((c - d) * v) / u := by grind
  rw [e2, hgr]
  grind
theorem later_rv {a : Rt} (ha : 1 ≤ a.d) (n : Int) : (rv a < (n : Rat) ∧ laterQ a n = ⟨n, 1⟩) ∨ ((n : Rat) ≤ rv a ∧ laterQ a n = a) := by
  have h := rv_lt (r := a) (s := ⟨n, 1⟩) ha (show 1 ≤ (1 : Int) by decide)
  rw [rv_int] at h
  simp only at h
  unfold laterQ
  by_cases hc : a.n * 1 < n * a.d
  · exact .inl ⟨h.2 hc, if_pos hc⟩
  · exact .inr ⟨Rat.not_lt.1 (fun x => hc (h.1 x)), if_neg hc⟩
theorem sooner_rv {a : Rt} (ha : 1 ≤ a.d) (n : Int) : (rv a < (n : Rat) ∧ soonerQ a n = a) ∨ ((n : Rat) ≤ rv a ∧ soonerQ a n = ⟨n, 1⟩) := by
  have h := rv_lt (r := a) (s := ⟨n, 1⟩) ha (show 1 ≤ (1 : Int) by decide)
  rw [rv_int] at h
  simp only at h
  unfold soonerQ
  by_cases hc : a.n * 1 < n * a.d
  · exact .inl ⟨h.2 hc, if_pos hc⟩
  · exact .inr ⟨Rat.not_lt.1 (fun x => hc (h.1 x)), if_neg hc⟩
theorem low1 (n : Int) : gI (⟨n, 1⟩ : Rt).n (⟨n, 1⟩ : Rt).d = 1 := by unfold gI; simp
/-- what within answers. -/
def WithR (x y s : Sp) (S : St) (b : Bool) : Prop := (b = true ∧ insF x y s = some S) ∨ (b = false ∧ insF x y s = none)
theorem leg_inj_up {x y : Sp} (h : LegOk x y) (hu : x.hi < y.hi) {s t : Rat} (e : legF x y s = legF x y t) : s = t := by
  have h1 := (leg_up h hu (s := s) (t := t)).1 (by rw [e]; exact Rat.le_refl)
  have h2 := (leg_up h hu (s := t) (t := s)).1 (by rw [e]; exact Rat.le_refl)
  grind
theorem leg_inj_down {x y : Sp} (h : LegOk x y) (hu : y.hi < x.hi) {s t : Rat} (e : legF x y s = legF x y t) : s = t := by
  have h1 := (leg_down h hu (s := s) (t := t)).1 (by rw [e]; exact Rat.le_refl)
  have h2 := (leg_down h hu (s := t) (t := s)).1 (by rw [e]; exact Rat.le_refl)
  grind
theorem with_up {x y s : Sp} (h : LegOk x y) (hu : x.hi < y.hi) (hs : s.lo ≤ s.hi) {z g : Int} (hz : 1 ≤ z) (hg : (y.hi - x.hi) * g = z) :
    WithR x y s ⟨laterQ (mk (wtN x y z g s.lo) z) x.lo, soonerQ (mk (wtN x y z g s.hi) z) y.lo⟩ (!decide ((soonerQ (mk (wtN x y z g s.hi) z) y.lo).n * (laterQ (mk (wtN x y z g s.lo) z) x.lo).d < (laterQ (mk (wtN x y z g s.lo) z) x.lo).n * (soonerQ (mk (wtN x y z g s.hi) z) y.lo).d)) := by
  have f1 := wt_at h hz hg s.lo
  have f2 := wt_at h hz hg s.hi
  have d1 := mk_dpos (wtN x y z g s.lo) (d := z) (by omega)
  have d2 := mk_dpos (wtN x y z g s.hi) (d := z) (by omega)
  have l1 := mk_low (wtN x y z g s.lo) (d := z) (by omega)
  have l2 := mk_low (wtN x y z g s.hi) (d := z) (by omega)
  generalize mk (wtN x y z g s.lo) z = F at *
  generalize mk (wtN x y z g s.hi) z = T at *
  have ha := legF_a (x := x) (y := y)
  have hb := legF_b h
  have hL : lowF x y s = max s.lo x.hi := by unfold lowF; omega
  have hH : highF x y s = min s.hi y.hi := by unfold highF; omega
  have A : (1 ≤ (laterQ F x.lo).d ∧ gI (laterQ F x.lo).n (laterQ F x.lo).d = 1) ∧ legF x y (rv (laterQ F x.lo)) = ((lowF x y s : Int) : Rat) := by
    rcases later_rv d1 x.lo with ⟨h1, e⟩ | ⟨h1, e⟩ <;> rw [e]
    · refine ⟨⟨show 1 ≤ (1 : Int) by decide, low1 _⟩, ?_⟩
      have k := (leg_up h hu (s := rv F) (t := (x.lo : Rat))).2 (Rat.le_of_lt h1)
      rw [f1, ha] at k
      have := Rat.intCast_le_intCast.1 k
      rw [rv_int, ha, hL, show max s.lo x.hi = x.hi by omega]
    · refine ⟨⟨d1, l1⟩, ?_⟩
      have k := (leg_up h hu (s := (x.lo : Rat)) (t := rv F)).2 h1
      rw [f1, ha] at k
      have := Rat.intCast_le_intCast.1 k
      rw [f1, hL, show max s.lo x.hi = s.lo by omega]
  have B : (1 ≤ (soonerQ T y.lo).d ∧ gI (soonerQ T y.lo).n (soonerQ T y.lo).d = 1) ∧ legF x y (rv (soonerQ T y.lo)) = ((highF x y s : Int) : Rat) := by
    rcases sooner_rv d2 y.lo with ⟨h1, e⟩ | ⟨h1, e⟩ <;> rw [e]
    · refine ⟨⟨d2, l2⟩, ?_⟩
      have k := (leg_up h hu (s := rv T) (t := (y.lo : Rat))).2 (Rat.le_of_lt h1)
      rw [f2, hb] at k
      have := Rat.intCast_le_intCast.1 k
      rw [f2, hH, show min s.hi y.hi = s.hi by omega]
    · refine ⟨⟨show 1 ≤ (1 : Int) by decide, low1 _⟩, ?_⟩
      have k := (leg_up h hu (s := (y.lo : Rat)) (t := rv T)).2 h1
      rw [f2, hb] at k
      have := Rat.intCast_le_intCast.1 k
      rw [rv_int, hb, hH, show min s.hi y.hi = y.hi by omega]
  generalize laterQ F x.lo = P at *
  generalize soonerQ T y.lo = Q at *
  obtain ⟨⟨a1, a2⟩, a3⟩ := A
  obtain ⟨⟨b1, b2⟩, b3⟩ := B
  have hlt : Q.n * P.d < P.n * Q.d ↔ highF x y s < lowF x y s := by
    rw [← rv_lt b1 a1]
    have k := leg_up h hu (s := rv P) (t := rv Q)
    rw [a3, b3] at k
    constructor
    · intro hx
      rcases Int.lt_or_le (highF x y s) (lowF x y s) with hc | hc
      · exact hc
      · have := k.1 (Rat.intCast_le_intCast.2 hc); grind
    · intro hx
      exact Rat.not_le.1 (fun hc => by have := Rat.intCast_le_intCast.1 (k.2 hc); omega)
  unfold WithR
  by_cases hc : highF x y s < lowF x y s
  · right
    rw [decide_eq_true (hlt.2 hc)]
    exact ⟨rfl, by unfold insF; rw [if_pos hc]⟩
  · left
    rw [decide_eq_false (fun hx => hc (hlt.1 hx))]
    refine ⟨rfl, ?_⟩
    have hin : insF x y s = some ⟨timeF x y (lowF x y s), timeF x y (highF x y s)⟩ := by unfold insF; rw [if_neg hc, if_pos hu]
    obtain ⟨⟨ea, eb⟩, -, -⟩ := ins_some h hin
    rw [hin]
    have t1 := timeF_at h (by omega) (lowF x y s)
    have t2 := timeF_at h (by omega) (highF x y s)
    have e1 := leg_inj_up h hu (t1.trans a3.symm)
    have e2 := leg_inj_up h hu (t2.trans b3.symm)
    have g1 := low_eq ea.d.1 a1 ea.g a2 ((rv_eq ea.d.1 a1).1 e1)
    have g2 := low_eq eb.d.1 b1 eb.g b2 ((rv_eq eb.d.1 b1).1 e2)
    simp only at g1 g2
    rw [g1, g2]
theorem with_down {x y s : Sp} (h : LegOk x y) (hu : y.hi < x.hi) (hs : s.lo ≤ s.hi) {z g : Int} (hz : 1 ≤ z) (hg : (y.hi - x.hi) * g = z) :
    WithR x y s ⟨laterQ (mk (wtN x y z g s.hi) z) x.lo, soonerQ (mk (wtN x y z g s.lo) z) y.lo⟩ (!decide ((soonerQ (mk (wtN x y z g s.lo) z) y.lo).n * (laterQ (mk (wtN x y z g s.hi) z) x.lo).d < (laterQ (mk (wtN x y z g s.hi) z) x.lo).n * (soonerQ (mk (wtN x y z g s.lo) z) y.lo).d)) := by
  have f1 := wt_at h hz hg s.hi
  have f2 := wt_at h hz hg s.lo
  have d1 := mk_dpos (wtN x y z g s.hi) (d := z) (by omega)
  have d2 := mk_dpos (wtN x y z g s.lo) (d := z) (by omega)
  have l1 := mk_low (wtN x y z g s.hi) (d := z) (by omega)
  have l2 := mk_low (wtN x y z g s.lo) (d := z) (by omega)
  generalize mk (wtN x y z g s.hi) z = F at *
  generalize mk (wtN x y z g s.lo) z = T at *
  have ha := legF_a (x := x) (y := y)
  have hb := legF_b h
  have hL : lowF x y s = max s.lo y.hi := by unfold lowF; omega
  have hH : highF x y s = min s.hi x.hi := by unfold highF; omega
  have A : (1 ≤ (laterQ F x.lo).d ∧ gI (laterQ F x.lo).n (laterQ F x.lo).d = 1) ∧ legF x y (rv (laterQ F x.lo)) = ((highF x y s : Int) : Rat) := by
    rcases later_rv d1 x.lo with ⟨h1, e⟩ | ⟨h1, e⟩ <;> rw [e]
    · refine ⟨⟨show 1 ≤ (1 : Int) by decide, low1 _⟩, ?_⟩
      have k := (leg_down h hu (s := (x.lo : Rat)) (t := rv F)).2 (Rat.le_of_lt h1)
      rw [f1, ha] at k
      have := Rat.intCast_le_intCast.1 k
      rw [rv_int, ha, hH, show min s.hi x.hi = x.hi by omega]
    · refine ⟨⟨d1, l1⟩, ?_⟩
      have k := (leg_down h hu (s := rv F) (t := (x.lo : Rat))).2 h1
      rw [f1, ha] at k
      have := Rat.intCast_le_intCast.1 k
      rw [f1, hH, show min s.hi x.hi = s.hi by omega]
  have B : (1 ≤ (soonerQ T y.lo).d ∧ gI (soonerQ T y.lo).n (soonerQ T y.lo).d = 1) ∧ legF x y (rv (soonerQ T y.lo)) = ((lowF x y s : Int) : Rat) := by
    rcases sooner_rv d2 y.lo with ⟨h1, e⟩ | ⟨h1, e⟩ <;> rw [e]
    · refine ⟨⟨d2, l2⟩, ?_⟩
      have k := (leg_down h hu (s := (y.lo : Rat)) (t := rv T)).2 (Rat.le_of_lt h1)
      rw [f2, hb] at k
      have := Rat.intCast_le_intCast.1 k
      rw [f2, hL, show max s.lo y.hi = s.lo by omega]
    · refine ⟨⟨show 1 ≤ (1 : Int) by decide, low1 _⟩, ?_⟩
      have k := (leg_down h hu (s := rv T) (t := (y.lo : Rat))).2 h1
      rw [f2, hb] at k
      have := Rat.intCast_le_intCast.1 k
      rw [rv_int, hb, hL, show max s.lo y.hi = y.hi by omega]
  generalize laterQ F x.lo = P at *
  generalize soonerQ T y.lo = Q at *
  obtain ⟨⟨a1, a2⟩, a3⟩ := A
  obtain ⟨⟨b1, b2⟩, b3⟩ := B
  have hlt : Q.n * P.d < P.n * Q.d ↔ highF x y s < lowF x y s := by
    rw [← rv_lt b1 a1]
    have k := leg_down h hu (s := rv Q) (t := rv P)
    rw [a3, b3] at k
    constructor
    · intro hx
      rcases Int.lt_or_le (highF x y s) (lowF x y s) with hc | hc
      · exact hc
      · have := k.1 (Rat.intCast_le_intCast.2 hc); grind
    · intro hx
      exact Rat.not_le.1 (fun hc => by have := Rat.intCast_le_intCast.1 (k.2 hc); omega)
  unfold WithR
  by_cases hc : highF x y s < lowF x y s
  · right
    rw [decide_eq_true (hlt.2 hc)]
    exact ⟨rfl, by unfold insF; rw [if_pos hc]⟩
  · left
    rw [decide_eq_false (fun hx => hc (hlt.1 hx))]
    refine ⟨rfl, ?_⟩
    have hin : insF x y s = some ⟨timeF x y (highF x y s), timeF x y (lowF x y s)⟩ := by unfold insF; rw [if_neg hc, if_neg (by omega), if_pos hu]
    obtain ⟨⟨ea, eb⟩, -, -⟩ := ins_some h hin
    rw [hin]
    have t1 := timeF_at h (by omega) (highF x y s)
    have t2 := timeF_at h (by omega) (lowF x y s)
    have e1 := leg_inj_down h hu (t1.trans a3.symm)
    have e2 := leg_inj_down h hu (t2.trans b3.symm)
    have g1 := low_eq ea.d.1 a1 ea.g a2 ((rv_eq ea.d.1 a1).1 e1)
    have g2 := low_eq eb.d.1 b1 eb.g b2 ((rv_eq eb.d.1 b1).1 e2)
    simp only at g1 g2
    rw [g1, g2]
theorem with_flat {x y s : Sp} (hu : x.hi = y.hi) (hs : s.lo ≤ s.hi) : WithR x y s ⟨⟨x.lo, 1⟩, ⟨y.lo, 1⟩⟩ (decide (s.lo ≤ x.hi) && decide (x.hi ≤ s.hi)) := by
  have hL : lowF x y s = max s.lo x.hi := by unfold lowF; omega
  have hH : highF x y s = min s.hi x.hi := by unfold highF; omega
  unfold WithR
  by_cases h1 : s.lo ≤ x.hi ∧ x.hi ≤ s.hi
  · left
    rw [decide_eq_true h1.1, decide_eq_true h1.2]
    refine ⟨rfl, ?_⟩
    unfold insF
    rw [if_neg (by omega), if_neg (by omega), if_neg (by omega)]
  · right
    refine ⟨?_, by unfold insF; rw [if_pos (by omega)]⟩
    by_cases h2 : s.lo ≤ x.hi
    · rw [decide_eq_true h2, decide_eq_false (fun h3 => h1 ⟨h2, h3⟩)]; rfl
    · rw [decide_eq_false h2]; rfl
end Go.Proofs.Ytnldenjdbgfgmaa

namespace Go.Proofs.Ytnldenjdbgfgmaa
open Go.RowKit Go.PlainAid
set_option linter.unusedVariables false
set_option linter.unusedSimpArgs false

theorem putBlkI {W : World} {k : Nat} {T : TypeId} {z0 z1 z2 z3 : Value} (h : Blk W k #[z0, z1, z2, z3] T) (a b c d : Value) : Blk ((((W.setCell ⟨k, 0, none⟩ a).setCell ⟨k, 1, none⟩ b).setCell ⟨k, 2, none⟩ c).setCell ⟨k, 3, none⟩ d) k #[a, b, c, d] T := by simpa using (((h.set 0 a).set 1 b).set 2 c).set 3 d
theorem put4BI {n : Nat} {w W : World} {p : Nat} (h : Below n w W) (hp : n ≤ p) (a b c d : Value) : Below n w ((((W.setCell ⟨p, 0, none⟩ a).setCell ⟨p, 1, none⟩ b).setCell ⟨p, 2, none⟩ c).setCell ⟨p, 3, none⟩ d) :=
  (((h.setCell (by simpa using hp) _).setCell (by simpa using hp) _).setCell (by simpa using hp) _).setCell (by simpa using hp) _
/-- the blocks that within keeps. -/
structure RI (w : World) (x y s : Sp) (X : World) : Prop where
  x : Blk X w.heap.size #[.int .i64 x.lo, .int .i64 x.hi] 47
  y : Blk X (w.heap.size + 1) #[.int .i64 y.lo, .int .i64 y.hi] 47
  s : Blk X (w.heap.size + 2) #[.int .i64 s.lo, .int .i64 s.hi] 26
  r : Blk X (w.heap.size + 3) #[.int .i64 0, .int .i64 0, .int .i64 0, .int .i64 0] 41
  bel : Below w.heap.size w X
theorem RI.below {w X Y : World} {x y s : Sp} (h : RI w x y s X) (hb : Below X.heap.size X Y) : RI w x y s Y := ⟨h.x.below hb h.x.lt, h.y.below hb h.y.lt, h.s.below hb h.s.lt, h.r.below hb h.r.lt, h.bel.trans (hb.mono h.bel.size)⟩
theorem RI.start (w : World) (x y s : Sp) : RI w x y s ((((w.alloc (.cells #[.int .i64 x.lo, .int .i64 x.hi] 47)).alloc (.cells #[.int .i64 y.lo, .int .i64 y.hi] 47)).alloc (.cells #[.int .i64 s.lo, .int .i64 s.hi] 26)).alloc (.cells #[.int .i64 0, .int .i64 0, .int .i64 0, .int .i64 0] 41)) := by
  have b1 := (((Blk.new w #[.int .i64 x.lo, .int .i64 x.hi] 47).alloc (.cells #[.int .i64 y.lo, .int .i64 y.hi] 47)).alloc (.cells #[.int .i64 s.lo, .int .i64 s.hi] 26)).alloc (.cells #[.int .i64 0, .int .i64 0, .int .i64 0, .int .i64 0] 41)
  have b2 := ((Blk.new (w.alloc (.cells #[.int .i64 x.lo, .int .i64 x.hi] 47)) #[.int .i64 y.lo, .int .i64 y.hi] 47).alloc (.cells #[.int .i64 s.lo, .int .i64 s.hi] 26)).alloc (.cells #[.int .i64 0, .int .i64 0, .int .i64 0, .int .i64 0] 41)
  have b3 := (Blk.new ((w.alloc (.cells #[.int .i64 x.lo, .int .i64 x.hi] 47)).alloc (.cells #[.int .i64 y.lo, .int .i64 y.hi] 47)) #[.int .i64 s.lo, .int .i64 s.hi] 26).alloc (.cells #[.int .i64 0, .int .i64 0, .int .i64 0, .int .i64 0] 41)
  have b4 := Blk.new (((w.alloc (.cells #[.int .i64 x.lo, .int .i64 x.hi] 47)).alloc (.cells #[.int .i64 y.lo, .int .i64 y.hi] 47)).alloc (.cells #[.int .i64 s.lo, .int .i64 s.hi] 26)) #[.int .i64 0, .int .i64 0, .int .i64 0, .int .i64 0] 41
  simp only [World.size_alloc] at b2 b3 b4
  exact ⟨b1, b2, b3, b4, (((below_box w _).alloc (by simp) _).alloc (by simp only [World.size_alloc]; omega) _).alloc (by simp only [World.size_alloc]; omega) _⟩
/-- the four stores of a result. -/
theorem RI.put {w X : World} {x y s : Sp} (h : RI w x y s X) (a b c d : Value) :
    Hid (Below w.heap.size w ((((X.setCell ⟨w.heap.size + 3, 0, none⟩ a).setCell ⟨w.heap.size + 3, 1, none⟩ b).setCell ⟨w.heap.size + 3, 2, none⟩ c).setCell ⟨w.heap.size + 3, 3, none⟩ d)) ∧ Hid (Blk ((((X.setCell ⟨w.heap.size + 3, 0, none⟩ a).setCell ⟨w.heap.size + 3, 1, none⟩ b).setCell ⟨w.heap.size + 3, 2, none⟩ c).setCell ⟨w.heap.size + 3, 3, none⟩ d) (w.heap.size + 3) #[a, b, c, d] 41) :=
  ⟨Lib.hid (put4BI h.bel (by omega) a b c d), Lib.hid (putBlkI h.r a b c d)⟩
def WithA (x y s : Sp) (e : Ending) : Prop := ∃ S b, e = .returned (.tuple #[stV S, .bool b]) ∧ WithR x y s S b

end Go.Proofs.Ytnldenjdbgfgmaa

namespace Go.Proofs.Ytnldenjdbgfgmaa
open Go.RowKit Go.PlainAid
set_option linter.unusedVariables false
set_option linter.unusedSimpArgs false

set_option maxHeartbeats 16000000 in
set_option maxRecDepth 100000 in
theorem rwithin_flat (x y s : Sp) (w : World) (h : LegOk x y) (HQ : Hid (x.hi = y.hi)) (hs : s.lo ≤ s.hi) (hb1 : -1000000 ≤ s.lo ∧ s.lo ≤ 2000000) (hb2 : -1000000 ≤ s.hi ∧ s.hi ≤ 2000000) :
    Calls Try.prog 52 #[.agg #[.int .i64 x.lo, .int .i64 x.hi], .agg #[.int .i64 y.lo, .int .i64 y.hi], .agg #[.int .i64 s.lo, .int .i64 s.hi]] w fun e w' => WithA x y s e ∧ Below w.heap.size w w' := by
  have hG := RI.start w x y s
  have ha := h.a; have hb := h.b; have hc := h.c
  have zd := wrap_id (y.hi - x.hi) (by unfold I64; omega)
  have u0 := hG.x.cell 0 _ rfl
  have u1 := hG.x.cell 1 _ rfl
  have v0 := hG.y.cell 0 _ rfl
  have v1 := hG.y.cell 1 _ rfl
  have s0 := hG.s.cell 0 _ rfl
  have s1 := hG.s.cell 1 _ rfl
  go_enter Try.func52, Try.ntmps52
  go_upto_region 1 with fail
  generalize (((w.alloc (.cells #[.int .i64 x.lo, .int .i64 x.hi] 47)).alloc (.cells #[.int .i64 y.lo, .int .i64 y.hi] 47)).alloc (.cells #[.int .i64 s.lo, .int .i64 s.hi] 26)).alloc (.cells #[.int .i64 0, .int .i64 0, .int .i64 0, .int .i64 0] 41) = W at *
  obtain ⟨D, hD⟩ : ∃ D, y.hi - x.hi = D := ⟨_, rfl⟩
  replace zd := zd.trans hD
  have HD := Lib.hid hD
  by_cases hd0 : D = 0
  · skip
    have hxy : x.hi = y.hi := by omega
    have HWR := Lib.hid (with_flat (s := s) hxy hs)
    have dd := hd0
    clear dd
    go_upto_region 3 with fail
    have D0 : Below W.heap.size W W.drew := (Below.refl _ _).drew
    have HSV : Hid (∀ V, Below W.heap.size W V → (fun w' : World => w'.cell? ⟨w.heap.size, 0, none⟩ = some (.int .i64 x.lo) ∧ w'.cell? ⟨w.heap.size, 1, none⟩ = some (.int .i64 x.hi) ∧ w'.cell? ⟨w.heap.size + 1, 0, none⟩ = some (.int .i64 y.lo) ∧ w'.cell? ⟨w.heap.size + 2, 0, none⟩ = some (.int .i64 s.lo) ∧ w'.cell? ⟨w.heap.size + 2, 1, none⟩ = some (.int .i64 s.hi)) V) := Lib.hid (fun V hV => ⟨ext_of_below hV _ _ u0, ext_of_below hV _ _ u1, ext_of_below hV _ _ v0, ext_of_below hV _ _ s0, ext_of_below hV _ _ s1⟩)
    have HSO : Hid (∀ V, Below W.heap.size W V → ∀ a b c d : Value, (fun w' : World => w'.cell? ⟨w.heap.size, 0, none⟩ = some (.int .i64 x.lo) ∧ w'.cell? ⟨w.heap.size, 1, none⟩ = some (.int .i64 x.hi) ∧ w'.cell? ⟨w.heap.size + 1, 0, none⟩ = some (.int .i64 y.lo) ∧ w'.cell? ⟨w.heap.size + 2, 0, none⟩ = some (.int .i64 s.lo) ∧ w'.cell? ⟨w.heap.size + 2, 1, none⟩ = some (.int .i64 s.hi)) ((((V.setCell ⟨w.heap.size + 3, 0, none⟩ a).setCell ⟨w.heap.size + 3, 1, none⟩ b).setCell ⟨w.heap.size + 3, 2, none⟩ c).setCell ⟨w.heap.size + 3, 3, none⟩ d)) := Lib.hid (fun V hV a b c d => ⟨(by rw [World.cell?_setCell_far _ _ _ _ (by simp only; omega), World.cell?_setCell_far _ _ _ _ (by simp only; omega), World.cell?_setCell_far _ _ _ _ (by simp only; omega), World.cell?_setCell_far _ _ _ _ (by simp only; omega)]; exact (HSV.out V hV).1), (by rw [World.cell?_setCell_far _ _ _ _ (by simp only; omega), World.cell?_setCell_far _ _ _ _ (by simp only; omega), World.cell?_setCell_far _ _ _ _ (by simp only; omega), World.cell?_setCell_far _ _ _ _ (by simp only; omega)]; exact (HSV.out V hV).2.1), (by rw [World.cell?_setCell_far _ _ _ _ (by simp only; omega), World.cell?_setCell_far _ _ _ _ (by simp only; omega), World.cell?_setCell_far _ _ _ _ (by simp only; omega), World.cell?_setCell_far _ _ _ _ (by simp only; omega)]; exact (HSV.out V hV).2.2.1), (by rw [World.cell?_setCell_far _ _ _ _ (by simp only; omega), World.cell?_setCell_far _ _ _ _ (by simp only; omega), World.cell?_setCell_far _ _ _ _ (by simp only; omega), World.cell?_setCell_far _ _ _ _ (by simp only; omega)]; exact (HSV.out V hV).2.2.2.1), (by rw [World.cell?_setCell_far _ _ _ _ (by simp only; omega), World.cell?_setCell_far _ _ _ _ (by simp only; omega), World.cell?_setCell_far _ _ _ _ (by simp only; omega), World.cell?_setCell_far _ _ _ _ (by simp only; omega)]; exact (HSV.out V hV).2.2.2.2)⟩)
    clear u0 u1 v0 v1 s0 s1 zd
    obtain ⟨B, hB⟩ : ∃ B, (decide (s.lo ≤ x.hi) && decide (x.hi ≤ s.hi)) = B := ⟨_, rfl⟩
    rw [hB] at HWR
    by_cases q1 : s.lo ≤ x.hi
    · skip
      by_cases q2 : x.hi ≤ s.hi
      · skip
        have d1 : decide (s.lo ≤ x.hi) = true := decide_eq_true q1
        have d2 : decide (x.hi ≤ s.hi) = true := decide_eq_true q2
        obtain rfl : B = true := by rw [← hB, d1, d2]; rfl
        clear hB
        have HW2 : Hid (WithA x y s (.returned (.tuple #[stV ⟨⟨x.lo, 1⟩, ⟨y.lo, 1⟩⟩, .bool true]))) := Lib.hid ⟨_, _, rfl, HWR.out⟩
        clear HWR HD hd0 hD hxy hs ha hb hc h hb1 hb2
        go_wp2_with fail
        refine wp_region_till (fun w' : World => w'.cell? ⟨w.heap.size, 0, none⟩ = some (.int .i64 x.lo) ∧ w'.cell? ⟨w.heap.size, 1, none⟩ = some (.int .i64 x.hi) ∧ w'.cell? ⟨w.heap.size + 1, 0, none⟩ = some (.int .i64 y.lo) ∧ w'.cell? ⟨w.heap.size + 2, 0, none⟩ = some (.int .i64 s.lo) ∧ w'.cell? ⟨w.heap.size + 2, 1, none⟩ = some (.int .i64 s.hi)) 20 (by kernel_rfl) (HSV.out _ D0) (fun hHeld => ?_)
        generalize W.drew = wd at *
        refine Till.take 0 (some 23) (v := ?_) rfl rfl (by kernel_rfl) (by kernel_rfl) (by kernel_rfl) (by kernel_rfl) (fun _ _ _ h => h) (Or.inl ⟨by rfl, ?_⟩) (by assumption) ?_
        rotate_left
        · (intro w hSw; (try dsimp only at hSw); go_simp; try with_reducible rfl)
        try simp only [Act.put, List.setIfInBounds_toArray, List.set_cons_zero, List.set_cons_succ]
        refine Till.take 1 (some 24) (v := ?_) rfl rfl (by kernel_rfl) (by kernel_rfl) (by kernel_rfl) (by kernel_rfl) (fun _ _ _ h => h) (Or.inl ⟨by rfl, ?_⟩) (by assumption) ?_
        rotate_left
        · (intro w hSw; (try dsimp only at hSw); go_simp; try with_reducible rfl)
        try simp only [Act.put, List.setIfInBounds_toArray, List.set_cons_zero, List.set_cons_succ]
        refine Till.take 3 (some 26) (v := ?_) rfl rfl (by kernel_rfl) (by kernel_rfl) (by kernel_rfl) (by kernel_rfl) (fun _ _ _ h => h) (Or.inl ⟨by rfl, ?_⟩) (by assumption) ?_
        rotate_left
        · (intro w hSw; (try dsimp only at hSw); go_simp; try with_reducible rfl)
        try simp only [Act.put, List.setIfInBounds_toArray, List.set_cons_zero, List.set_cons_succ]
        refine Till.take 4 (some 27) (v := ?_) rfl rfl (by kernel_rfl) (by kernel_rfl) (by kernel_rfl) (by kernel_rfl) (fun _ _ _ h => h) (Or.inl ⟨by rfl, ?_⟩) (by assumption) ?_
        rotate_left
        · (intro w hSw; (try dsimp only at hSw); go_simp; try with_reducible rfl)
        try simp only [Act.put, List.setIfInBounds_toArray, List.set_cons_zero, List.set_cons_succ]
        refine Till.take 7 (some 30) (v := ?_) rfl rfl (by kernel_rfl) (by kernel_rfl) (by kernel_rfl) (by kernel_rfl) (fun _ _ _ h => h) (Or.inl ⟨by rfl, ?_⟩) (by assumption) ?_
        rotate_left
        · (intro w hSw; (try dsimp only at hSw); go_simp; try with_reducible rfl)
        try simp only [Act.put, List.setIfInBounds_toArray, List.set_cons_zero, List.set_cons_succ]
        refine Till.take 8 (some 31) (v := ?_) rfl rfl (by kernel_rfl) (by kernel_rfl) (by kernel_rfl) (by kernel_rfl) (fun _ _ _ h => h) (Or.inl ⟨by rfl, ?_⟩) (by assumption) ?_
        rotate_left
        · (intro w hSw; (try dsimp only at hSw); go_simp; try with_reducible rfl)
        try simp only [Act.put, List.setIfInBounds_toArray, List.set_cons_zero, List.set_cons_succ]
        refine Till.take 9 (some 32) (v := ?_) rfl rfl (by kernel_rfl) (by kernel_rfl) (by kernel_rfl) (by kernel_rfl) (fun _ _ _ h => h) (Or.inl ⟨by rfl, ?_⟩) (by assumption) ?_
        rotate_left
        · (intro w hSw; (try dsimp only at hSw); go_simp; try with_reducible rfl)
        try simp only [Act.put, List.setIfInBounds_toArray, List.set_cons_zero, List.set_cons_succ]
        refine Till.take 10 (some 33) (v := ?_) rfl rfl (by kernel_rfl) (by kernel_rfl) (by kernel_rfl) (by kernel_rfl) (fun _ _ _ h => h) (Or.inl ⟨by rfl, ?_⟩) (by assumption) ?_
        rotate_left
        · (intro w hSw; (try dsimp only at hSw); go_simp; try with_reducible rfl)
        try simp only [Act.put, List.setIfInBounds_toArray, List.set_cons_zero, List.set_cons_succ]
        refine Till.take 11 (some 34) (v := ?_) rfl rfl (by kernel_rfl) (by kernel_rfl) (by kernel_rfl) (by kernel_rfl) (fun _ _ _ h => h) (Or.inl ⟨by rfl, ?_⟩) (by assumption) ?_
        rotate_left
        · (intro w hSw; (try dsimp only at hSw); go_simp; try with_reducible rfl)
        try simp only [Act.put, List.setIfInBounds_toArray, List.set_cons_zero, List.set_cons_succ]
        refine Till.one 2 rfl (by kernel_rfl) (fun K hK => ?_)
        go_simp
        go_at_call 41
        refine (rwhole_any x.lo _).mono ?_
        rintro e v1 ⟨rfl, hb1⟩
        have D1 := D0.trans (hb1.mono D0.size)
        have hh1 := HSV.out _ D1
        refine hK.out _ _ (fun _ => hh1) (fun hHeld1 => ?_)
        clear hK K hb1
        try simp only [Act.put, List.setIfInBounds_toArray, List.set_cons_zero, List.set_cons_succ]
        refine Till.one 5 rfl (by kernel_rfl) (fun K hK => ?_)
        go_simp
        go_at_call 41
        refine (rwhole_any y.lo _).mono ?_
        rintro e v2 ⟨rfl, hb2⟩
        have D2 := D1.trans (hb2.mono D1.size)
        have hh2 := HSV.out _ D2
        refine hK.out _ _ (fun _ => hh2) (fun hHeld2 => ?_)
        clear hK K hb2
        try simp only [Act.put, List.setIfInBounds_toArray, List.set_cons_zero, List.set_cons_succ]
        try simp only [rtV]
        refine Till.take 6 (some 29) (v := ?_) rfl rfl (by kernel_rfl) (by kernel_rfl) (by kernel_rfl) (by kernel_rfl) (fun _ _ _ h => h) (Or.inl ⟨by rfl, ?_⟩) (by assumption) ?_
        rotate_left
        · (intro w hSw; (try dsimp only at hSw); go_simp; try with_reducible rfl)
        try simp only [Act.put, List.setIfInBounds_toArray, List.set_cons_zero, List.set_cons_succ]
        refine Till.take 12 (some 35) (v := ?_) rfl rfl (by kernel_rfl) (by kernel_rfl) (by kernel_rfl) (by kernel_rfl) (fun _ _ _ h => h) (Or.inl ⟨by rfl, ?_⟩) (by assumption) ?_
        rotate_left
        · (intro w hSw; (try dsimp only at hSw); go_simp; try with_reducible rfl)
        try simp only [Act.put, List.setIfInBounds_toArray, List.set_cons_zero, List.set_cons_succ]
        refine Till.take 13 (some 36) (v := ?_) rfl rfl (by kernel_rfl) (by kernel_rfl) (by kernel_rfl) (by kernel_rfl) (fun _ _ _ h => h) (Or.inl ⟨by rfl, ?_⟩) (by assumption) ?_
        rotate_left
        · (intro w hSw; (try dsimp only at hSw); go_simp; try with_reducible rfl)
        try simp only [Act.put, List.setIfInBounds_toArray, List.set_cons_zero, List.set_cons_succ]
        refine Till.take 14 (some 37) (v := ?_) rfl rfl (by kernel_rfl) (by kernel_rfl) (by kernel_rfl) (by kernel_rfl) (fun _ _ _ h => h) (Or.inl ⟨by rfl, ?_⟩) (by assumption) ?_
        rotate_left
        · (intro w hSw; (try dsimp only at hSw); go_simp; try with_reducible rfl)
        try simp only [Act.put, List.setIfInBounds_toArray, List.set_cons_zero, List.set_cons_succ]
        refine Till.take 15 (some 38) (v := ?_) rfl rfl (by kernel_rfl) (by kernel_rfl) (by kernel_rfl) (by kernel_rfl) (fun _ _ _ h => h) (Or.inl ⟨by rfl, ?_⟩) (by assumption) ?_
        rotate_left
        · (intro w hSw; (try dsimp only at hSw); go_simp; try with_reducible rfl)
        try simp only [Act.put, List.setIfInBounds_toArray, List.set_cons_zero, List.set_cons_succ]
        refine Till.take 16 (some 39) (v := ?_) rfl rfl (by kernel_rfl) (by kernel_rfl) (by kernel_rfl) (by kernel_rfl) (fun _ _ _ h => h) (Or.inl ⟨by rfl, ?_⟩) (by assumption) ?_
        rotate_left
        · (intro w hSw; (try dsimp only at hSw); go_simp; try with_reducible rfl)
        try simp only [Act.put, List.setIfInBounds_toArray, List.set_cons_zero, List.set_cons_succ]
        refine Till.take 17 (some 40) (v := ?_) rfl rfl (by kernel_rfl) (by kernel_rfl) (by kernel_rfl) (by kernel_rfl) (fun _ _ _ h => h) (Or.inl ⟨by rfl, ?_⟩) (by assumption) ?_
        rotate_left
        · (intro w hSw; (try dsimp only at hSw); go_simp; try with_reducible rfl)
        try simp only [Act.put, List.setIfInBounds_toArray, List.set_cons_zero, List.set_cons_succ]
        refine Till.take 18 (some 41) (v := ?_) rfl rfl (by kernel_rfl) (by kernel_rfl) (by kernel_rfl) (by kernel_rfl) (fun _ _ _ h => h) (Or.inl ⟨by rfl, ?_⟩) (by assumption) ?_
        rotate_left
        · (intro w hSw; (try dsimp only at hSw); go_simp; try with_reducible rfl)
        try simp only [Act.put, List.setIfInBounds_toArray, List.set_cons_zero, List.set_cons_succ]
        have hGs := hG.below D2
        have g0 := hGs.r.cell 0 _ rfl
        have k0 := hGs.r.frozen 0
        have g1 := hGs.r.cell 1 _ rfl
        have k1 := hGs.r.frozen 1
        have g2 := hGs.r.cell 2 _ rfl
        have k2 := hGs.r.frozen 2
        have g3 := hGs.r.cell 3 _ rfl
        have k3 := hGs.r.frozen 3
        obtain ⟨HE, HB⟩ := hGs.put (.int .i64 x.lo) (.int .i64 1) (.int .i64 y.lo) (.int .i64 1)
        have HS2 := Lib.hid (HSO.out _ D2 (.int .i64 x.lo) (.int .i64 1) (.int .i64 y.lo) (.int .i64 1))
        refine Till.one 19 rfl (by kernel_rfl) (fun K hK => ?_)
        go_simp
        have hh := HS2.out
        refine hK.out _ _ (fun _ => hh) (fun hHeldS => ?_)
        clear hK K hh HS2 hGs g0 k0 g1 k1 g2 k2 g3 k3
        try simp only [Act.put, List.setIfInBounds_toArray, List.set_cons_zero, List.set_cons_succ]
        generalize ((((v2.setCell ⟨w.heap.size + 3, 0, none⟩ (.int .i64 x.lo)).setCell ⟨w.heap.size + 3, 1, none⟩ (.int .i64 1)).setCell ⟨w.heap.size + 3, 2, none⟩ (.int .i64 y.lo)).setCell ⟨w.heap.size + 3, 3, none⟩ (.int .i64 1)) = WE at *
        refine Till.one 20 rfl (by kernel_rfl) (fun K hK => ?_)
        go_simp
        refine hK.out _ _ (fun h => absurd rfl h) (fun _ => ?_)
        clear hK K
        try simp only [Act.put, List.setIfInBounds_toArray, List.set_cons_zero, List.set_cons_succ]
        refine Till.done (by kernel_rfl) ?_ _
        go_wp2
        have c0 := HB.out.cell 0 _ rfl
        have c1 := HB.out.cell 1 _ rfl
        have c2 := HB.out.cell 2 _ rfl
        have c3 := HB.out.cell 3 _ rfl
        have hE := HE.out
        clear HB HE
        refine ⟨rfl, .tuple #[stV ⟨⟨x.lo, 1⟩, ⟨y.lo, 1⟩⟩, .bool true], ?_, HW2.out, hE⟩
        simp [results, Try.results52, go_sem, c0, c1, c2, c3, stV]
      · skip
        have d1 : decide (s.lo ≤ x.hi) = true := decide_eq_true q1
        have d2 : decide (x.hi ≤ s.hi) = false := decide_eq_false q2
        obtain rfl : B = false := by rw [← hB, d1, d2]; rfl
        clear hB
        have HW2 : Hid (WithA x y s (.returned (.tuple #[stV ⟨⟨x.lo, 1⟩, ⟨y.lo, 1⟩⟩, .bool false]))) := Lib.hid ⟨_, _, rfl, HWR.out⟩
        clear HWR HD hd0 hD hxy hs ha hb hc h hb1 hb2
        go_wp2_with fail
        refine wp_region_till (fun w' : World => w'.cell? ⟨w.heap.size, 0, none⟩ = some (.int .i64 x.lo) ∧ w'.cell? ⟨w.heap.size, 1, none⟩ = some (.int .i64 x.hi) ∧ w'.cell? ⟨w.heap.size + 1, 0, none⟩ = some (.int .i64 y.lo) ∧ w'.cell? ⟨w.heap.size + 2, 0, none⟩ = some (.int .i64 s.lo) ∧ w'.cell? ⟨w.heap.size + 2, 1, none⟩ = some (.int .i64 s.hi)) 20 (by kernel_rfl) (HSV.out _ D0) (fun hHeld => ?_)
        generalize W.drew = wd at *
        refine Till.take 0 (some 23) (v := ?_) rfl rfl (by kernel_rfl) (by kernel_rfl) (by kernel_rfl) (by kernel_rfl) (fun _ _ _ h => h) (Or.inl ⟨by rfl, ?_⟩) (by assumption) ?_
        rotate_left
        · (intro w hSw; (try dsimp only at hSw); go_simp; try with_reducible rfl)
        try simp only [Act.put, List.setIfInBounds_toArray, List.set_cons_zero, List.set_cons_succ]
        refine Till.take 1 (some 24) (v := ?_) rfl rfl (by kernel_rfl) (by kernel_rfl) (by kernel_rfl) (by kernel_rfl) (fun _ _ _ h => h) (Or.inl ⟨by rfl, ?_⟩) (by assumption) ?_
        rotate_left
        · (intro w hSw; (try dsimp only at hSw); go_simp; try with_reducible rfl)
        try simp only [Act.put, List.setIfInBounds_toArray, List.set_cons_zero, List.set_cons_succ]
        refine Till.take 3 (some 26) (v := ?_) rfl rfl (by kernel_rfl) (by kernel_rfl) (by kernel_rfl) (by kernel_rfl) (fun _ _ _ h => h) (Or.inl ⟨by rfl, ?_⟩) (by assumption) ?_
        rotate_left
        · (intro w hSw; (try dsimp only at hSw); go_simp; try with_reducible rfl)
        try simp only [Act.put, List.setIfInBounds_toArray, List.set_cons_zero, List.set_cons_succ]
        refine Till.take 4 (some 27) (v := ?_) rfl rfl (by kernel_rfl) (by kernel_rfl) (by kernel_rfl) (by kernel_rfl) (fun _ _ _ h => h) (Or.inl ⟨by rfl, ?_⟩) (by assumption) ?_
        rotate_left
        · (intro w hSw; (try dsimp only at hSw); go_simp; try with_reducible rfl)
        try simp only [Act.put, List.setIfInBounds_toArray, List.set_cons_zero, List.set_cons_succ]
        refine Till.take 7 (some 30) (v := ?_) rfl rfl (by kernel_rfl) (by kernel_rfl) (by kernel_rfl) (by kernel_rfl) (fun _ _ _ h => h) (Or.inl ⟨by rfl, ?_⟩) (by assumption) ?_
        rotate_left
        · (intro w hSw; (try dsimp only at hSw); go_simp; try with_reducible rfl)
        try simp only [Act.put, List.setIfInBounds_toArray, List.set_cons_zero, List.set_cons_succ]
        refine Till.take 8 (some 31) (v := ?_) rfl rfl (by kernel_rfl) (by kernel_rfl) (by kernel_rfl) (by kernel_rfl) (fun _ _ _ h => h) (Or.inl ⟨by rfl, ?_⟩) (by assumption) ?_
        rotate_left
        · (intro w hSw; (try dsimp only at hSw); go_simp; try with_reducible rfl)
        try simp only [Act.put, List.setIfInBounds_toArray, List.set_cons_zero, List.set_cons_succ]
        refine Till.take 9 (some 32) (v := ?_) rfl rfl (by kernel_rfl) (by kernel_rfl) (by kernel_rfl) (by kernel_rfl) (fun _ _ _ h => h) (Or.inl ⟨by rfl, ?_⟩) (by assumption) ?_
        rotate_left
        · (intro w hSw; (try dsimp only at hSw); go_simp; try with_reducible rfl)
        try simp only [Act.put, List.setIfInBounds_toArray, List.set_cons_zero, List.set_cons_succ]
        refine Till.take 10 (some 33) (v := ?_) rfl rfl (by kernel_rfl) (by kernel_rfl) (by kernel_rfl) (by kernel_rfl) (fun _ _ _ h => h) (Or.inl ⟨by rfl, ?_⟩) (by assumption) ?_
        rotate_left
        · (intro w hSw; (try dsimp only at hSw); go_simp; try with_reducible rfl)
        try simp only [Act.put, List.setIfInBounds_toArray, List.set_cons_zero, List.set_cons_succ]
        refine Till.take 11 (some 34) (v := ?_) rfl rfl (by kernel_rfl) (by kernel_rfl) (by kernel_rfl) (by kernel_rfl) (fun _ _ _ h => h) (Or.inl ⟨by rfl, ?_⟩) (by assumption) ?_
        rotate_left
        · (intro w hSw; (try dsimp only at hSw); go_simp; try with_reducible rfl)
        try simp only [Act.put, List.setIfInBounds_toArray, List.set_cons_zero, List.set_cons_succ]
        refine Till.one 2 rfl (by kernel_rfl) (fun K hK => ?_)
        go_simp
        go_at_call 41
        refine (rwhole_any x.lo _).mono ?_
        rintro e v1 ⟨rfl, hb1⟩
        have D1 := D0.trans (hb1.mono D0.size)
        have hh1 := HSV.out _ D1
        refine hK.out _ _ (fun _ => hh1) (fun hHeld1 => ?_)
        clear hK K hb1
        try simp only [Act.put, List.setIfInBounds_toArray, List.set_cons_zero, List.set_cons_succ]
        refine Till.one 5 rfl (by kernel_rfl) (fun K hK => ?_)
        go_simp
        go_at_call 41
        refine (rwhole_any y.lo _).mono ?_
        rintro e v2 ⟨rfl, hb2⟩
        have D2 := D1.trans (hb2.mono D1.size)
        have hh2 := HSV.out _ D2
        refine hK.out _ _ (fun _ => hh2) (fun hHeld2 => ?_)
        clear hK K hb2
        try simp only [Act.put, List.setIfInBounds_toArray, List.set_cons_zero, List.set_cons_succ]
        try simp only [rtV]
        refine Till.take 6 (some 29) (v := ?_) rfl rfl (by kernel_rfl) (by kernel_rfl) (by kernel_rfl) (by kernel_rfl) (fun _ _ _ h => h) (Or.inl ⟨by rfl, ?_⟩) (by assumption) ?_
        rotate_left
        · (intro w hSw; (try dsimp only at hSw); go_simp; try with_reducible rfl)
        try simp only [Act.put, List.setIfInBounds_toArray, List.set_cons_zero, List.set_cons_succ]
        refine Till.take 12 (some 35) (v := ?_) rfl rfl (by kernel_rfl) (by kernel_rfl) (by kernel_rfl) (by kernel_rfl) (fun _ _ _ h => h) (Or.inl ⟨by rfl, ?_⟩) (by assumption) ?_
        rotate_left
        · (intro w hSw; (try dsimp only at hSw); go_simp; try with_reducible rfl)
        try simp only [Act.put, List.setIfInBounds_toArray, List.set_cons_zero, List.set_cons_succ]
        refine Till.take 13 (some 36) (v := ?_) rfl rfl (by kernel_rfl) (by kernel_rfl) (by kernel_rfl) (by kernel_rfl) (fun _ _ _ h => h) (Or.inl ⟨by rfl, ?_⟩) (by assumption) ?_
        rotate_left
        · (intro w hSw; (try dsimp only at hSw); go_simp; try with_reducible rfl)
        try simp only [Act.put, List.setIfInBounds_toArray, List.set_cons_zero, List.set_cons_succ]
        refine Till.take 14 (some 37) (v := ?_) rfl rfl (by kernel_rfl) (by kernel_rfl) (by kernel_rfl) (by kernel_rfl) (fun _ _ _ h => h) (Or.inl ⟨by rfl, ?_⟩) (by assumption) ?_
        rotate_left
        · (intro w hSw; (try dsimp only at hSw); go_simp; try with_reducible rfl)
        try simp only [Act.put, List.setIfInBounds_toArray, List.set_cons_zero, List.set_cons_succ]
        refine Till.take 15 (some 38) (v := ?_) rfl rfl (by kernel_rfl) (by kernel_rfl) (by kernel_rfl) (by kernel_rfl) (fun _ _ _ h => h) (Or.inl ⟨by rfl, ?_⟩) (by assumption) ?_
        rotate_left
        · (intro w hSw; (try dsimp only at hSw); go_simp; try with_reducible rfl)
        try simp only [Act.put, List.setIfInBounds_toArray, List.set_cons_zero, List.set_cons_succ]
        refine Till.take 16 (some 39) (v := ?_) rfl rfl (by kernel_rfl) (by kernel_rfl) (by kernel_rfl) (by kernel_rfl) (fun _ _ _ h => h) (Or.inl ⟨by rfl, ?_⟩) (by assumption) ?_
        rotate_left
        · (intro w hSw; (try dsimp only at hSw); go_simp; try with_reducible rfl)
        try simp only [Act.put, List.setIfInBounds_toArray, List.set_cons_zero, List.set_cons_succ]
        refine Till.take 17 (some 40) (v := ?_) rfl rfl (by kernel_rfl) (by kernel_rfl) (by kernel_rfl) (by kernel_rfl) (fun _ _ _ h => h) (Or.inl ⟨by rfl, ?_⟩) (by assumption) ?_
        rotate_left
        · (intro w hSw; (try dsimp only at hSw); go_simp; try with_reducible rfl)
        try simp only [Act.put, List.setIfInBounds_toArray, List.set_cons_zero, List.set_cons_succ]
        refine Till.take 18 (some 41) (v := ?_) rfl rfl (by kernel_rfl) (by kernel_rfl) (by kernel_rfl) (by kernel_rfl) (fun _ _ _ h => h) (Or.inl ⟨by rfl, ?_⟩) (by assumption) ?_
        rotate_left
        · (intro w hSw; (try dsimp only at hSw); go_simp; try with_reducible rfl)
        try simp only [Act.put, List.setIfInBounds_toArray, List.set_cons_zero, List.set_cons_succ]
        have hGs := hG.below D2
        have g0 := hGs.r.cell 0 _ rfl
        have k0 := hGs.r.frozen 0
        have g1 := hGs.r.cell 1 _ rfl
        have k1 := hGs.r.frozen 1
        have g2 := hGs.r.cell 2 _ rfl
        have k2 := hGs.r.frozen 2
        have g3 := hGs.r.cell 3 _ rfl
        have k3 := hGs.r.frozen 3
        obtain ⟨HE, HB⟩ := hGs.put (.int .i64 x.lo) (.int .i64 1) (.int .i64 y.lo) (.int .i64 1)
        have HS2 := Lib.hid (HSO.out _ D2 (.int .i64 x.lo) (.int .i64 1) (.int .i64 y.lo) (.int .i64 1))
        refine Till.one 19 rfl (by kernel_rfl) (fun K hK => ?_)
        go_simp
        have hh := HS2.out
        refine hK.out _ _ (fun _ => hh) (fun hHeldS => ?_)
        clear hK K hh HS2 hGs g0 k0 g1 k1 g2 k2 g3 k3
        try simp only [Act.put, List.setIfInBounds_toArray, List.set_cons_zero, List.set_cons_succ]
        generalize ((((v2.setCell ⟨w.heap.size + 3, 0, none⟩ (.int .i64 x.lo)).setCell ⟨w.heap.size + 3, 1, none⟩ (.int .i64 1)).setCell ⟨w.heap.size + 3, 2, none⟩ (.int .i64 y.lo)).setCell ⟨w.heap.size + 3, 3, none⟩ (.int .i64 1)) = WE at *
        refine Till.one 20 rfl (by kernel_rfl) (fun K hK => ?_)
        go_simp
        refine hK.out _ _ (fun h => absurd rfl h) (fun _ => ?_)
        clear hK K
        try simp only [Act.put, List.setIfInBounds_toArray, List.set_cons_zero, List.set_cons_succ]
        refine Till.done (by kernel_rfl) ?_ _
        go_wp2
        have c0 := HB.out.cell 0 _ rfl
        have c1 := HB.out.cell 1 _ rfl
        have c2 := HB.out.cell 2 _ rfl
        have c3 := HB.out.cell 3 _ rfl
        have hE := HE.out
        clear HB HE
        refine ⟨rfl, .tuple #[stV ⟨⟨x.lo, 1⟩, ⟨y.lo, 1⟩⟩, .bool false], ?_, HW2.out, hE⟩
        simp [results, Try.results52, go_sem, c0, c1, c2, c3, stV]
    · skip
      have d1 : decide (s.lo ≤ x.hi) = false := decide_eq_false q1
      obtain rfl : B = false := by rw [← hB, d1]; rfl
      clear hB
      have HW2 : Hid (WithA x y s (.returned (.tuple #[stV ⟨⟨x.lo, 1⟩, ⟨y.lo, 1⟩⟩, .bool false]))) := Lib.hid ⟨_, _, rfl, HWR.out⟩
      clear HWR HD hd0 hD hxy hs ha hb hc h hb1 hb2
      go_wp2_with fail
      refine wp_region_till (fun w' : World => w'.cell? ⟨w.heap.size, 0, none⟩ = some (.int .i64 x.lo) ∧ w'.cell? ⟨w.heap.size, 1, none⟩ = some (.int .i64 x.hi) ∧ w'.cell? ⟨w.heap.size + 1, 0, none⟩ = some (.int .i64 y.lo) ∧ w'.cell? ⟨w.heap.size + 2, 0, none⟩ = some (.int .i64 s.lo) ∧ w'.cell? ⟨w.heap.size + 2, 1, none⟩ = some (.int .i64 s.hi)) 20 (by kernel_rfl) (HSV.out _ D0) (fun hHeld => ?_)
      generalize W.drew = wd at *
      refine Till.take 0 (some 23) (v := ?_) rfl rfl (by kernel_rfl) (by kernel_rfl) (by kernel_rfl) (by kernel_rfl) (fun _ _ _ h => h) (Or.inl ⟨by rfl, ?_⟩) (by assumption) ?_
      rotate_left
      · (intro w hSw; (try dsimp only at hSw); go_simp; try with_reducible rfl)
      try simp only [Act.put, List.setIfInBounds_toArray, List.set_cons_zero, List.set_cons_succ]
      refine Till.take 1 (some 24) (v := ?_) rfl rfl (by kernel_rfl) (by kernel_rfl) (by kernel_rfl) (by kernel_rfl) (fun _ _ _ h => h) (Or.inl ⟨by rfl, ?_⟩) (by assumption) ?_
      rotate_left
      · (intro w hSw; (try dsimp only at hSw); go_simp; try with_reducible rfl)
      try simp only [Act.put, List.setIfInBounds_toArray, List.set_cons_zero, List.set_cons_succ]
      refine Till.take 3 (some 26) (v := ?_) rfl rfl (by kernel_rfl) (by kernel_rfl) (by kernel_rfl) (by kernel_rfl) (fun _ _ _ h => h) (Or.inl ⟨by rfl, ?_⟩) (by assumption) ?_
      rotate_left
      · (intro w hSw; (try dsimp only at hSw); go_simp; try with_reducible rfl)
      try simp only [Act.put, List.setIfInBounds_toArray, List.set_cons_zero, List.set_cons_succ]
      refine Till.take 4 (some 27) (v := ?_) rfl rfl (by kernel_rfl) (by kernel_rfl) (by kernel_rfl) (by kernel_rfl) (fun _ _ _ h => h) (Or.inl ⟨by rfl, ?_⟩) (by assumption) ?_
      rotate_left
      · (intro w hSw; (try dsimp only at hSw); go_simp; try with_reducible rfl)
      try simp only [Act.put, List.setIfInBounds_toArray, List.set_cons_zero, List.set_cons_succ]
      refine Till.take 7 (some 30) (v := ?_) rfl rfl (by kernel_rfl) (by kernel_rfl) (by kernel_rfl) (by kernel_rfl) (fun _ _ _ h => h) (Or.inl ⟨by rfl, ?_⟩) (by assumption) ?_
      rotate_left
      · (intro w hSw; (try dsimp only at hSw); go_simp; try with_reducible rfl)
      try simp only [Act.put, List.setIfInBounds_toArray, List.set_cons_zero, List.set_cons_succ]
      refine Till.take 8 (some 31) (v := ?_) rfl rfl (by kernel_rfl) (by kernel_rfl) (by kernel_rfl) (by kernel_rfl) (fun _ _ _ h => h) (Or.inl ⟨by rfl, ?_⟩) (by assumption) ?_
      rotate_left
      · (intro w hSw; (try dsimp only at hSw); go_simp; try with_reducible rfl)
      try simp only [Act.put, List.setIfInBounds_toArray, List.set_cons_zero, List.set_cons_succ]
      refine Till.take 9 (some 32) (v := ?_) rfl rfl (by kernel_rfl) (by kernel_rfl) (by kernel_rfl) (by kernel_rfl) (fun _ _ _ h => h) (Or.inl ⟨by rfl, ?_⟩) (by assumption) ?_
      rotate_left
      · (intro w hSw; (try dsimp only at hSw); go_simp; try with_reducible rfl)
      try simp only [Act.put, List.setIfInBounds_toArray, List.set_cons_zero, List.set_cons_succ]
      refine Till.take 10 (some 33) (v := ?_) rfl rfl (by kernel_rfl) (by kernel_rfl) (by kernel_rfl) (by kernel_rfl) (fun _ _ _ h => h) (Or.inl ⟨by rfl, ?_⟩) (by assumption) ?_
      rotate_left
      · (intro w hSw; (try dsimp only at hSw); go_simp; try with_reducible rfl)
      try simp only [Act.put, List.setIfInBounds_toArray, List.set_cons_zero, List.set_cons_succ]
      refine Till.take 11 (some 34) (v := ?_) rfl rfl (by kernel_rfl) (by kernel_rfl) (by kernel_rfl) (by kernel_rfl) (fun _ _ _ h => h) (Or.inl ⟨by rfl, ?_⟩) (by assumption) ?_
      rotate_left
      · (intro w hSw; (try dsimp only at hSw); go_simp; try with_reducible rfl)
      try simp only [Act.put, List.setIfInBounds_toArray, List.set_cons_zero, List.set_cons_succ]
      refine Till.one 2 rfl (by kernel_rfl) (fun K hK => ?_)
      go_simp
      go_at_call 41
      refine (rwhole_any x.lo _).mono ?_
      rintro e v1 ⟨rfl, hb1⟩
      have D1 := D0.trans (hb1.mono D0.size)
      have hh1 := HSV.out _ D1
      refine hK.out _ _ (fun _ => hh1) (fun hHeld1 => ?_)
      clear hK K hb1
      try simp only [Act.put, List.setIfInBounds_toArray, List.set_cons_zero, List.set_cons_succ]
      refine Till.one 5 rfl (by kernel_rfl) (fun K hK => ?_)
      go_simp
      go_at_call 41
      refine (rwhole_any y.lo _).mono ?_
      rintro e v2 ⟨rfl, hb2⟩
      have D2 := D1.trans (hb2.mono D1.size)
      have hh2 := HSV.out _ D2
      refine hK.out _ _ (fun _ => hh2) (fun hHeld2 => ?_)
      clear hK K hb2
      try simp only [Act.put, List.setIfInBounds_toArray, List.set_cons_zero, List.set_cons_succ]
      try simp only [rtV]
      refine Till.take 6 (some 29) (v := ?_) rfl rfl (by kernel_rfl) (by kernel_rfl) (by kernel_rfl) (by kernel_rfl) (fun _ _ _ h => h) (Or.inl ⟨by rfl, ?_⟩) (by assumption) ?_
      rotate_left
      · (intro w hSw; (try dsimp only at hSw); go_simp; try with_reducible rfl)
      try simp only [Act.put, List.setIfInBounds_toArray, List.set_cons_zero, List.set_cons_succ]
      refine Till.take 12 (some 35) (v := ?_) rfl rfl (by kernel_rfl) (by kernel_rfl) (by kernel_rfl) (by kernel_rfl) (fun _ _ _ h => h) (Or.inl ⟨by rfl, ?_⟩) (by assumption) ?_
      rotate_left
      · (intro w hSw; (try dsimp only at hSw); go_simp; try with_reducible rfl)
      try simp only [Act.put, List.setIfInBounds_toArray, List.set_cons_zero, List.set_cons_succ]
      refine Till.take 13 (some 36) (v := undef) rfl rfl (by kernel_rfl) (by kernel_rfl) (by kernel_rfl) (by kernel_rfl) (fun _ _ _ h => h) (Or.inr ⟨by rfl, rfl⟩) (by assumption) ?_
      try simp only [Act.put, List.setIfInBounds_toArray, List.set_cons_zero, List.set_cons_succ]
      refine Till.take 14 (some 37) (v := undef) rfl rfl (by kernel_rfl) (by kernel_rfl) (by kernel_rfl) (by kernel_rfl) (fun _ _ _ h => h) (Or.inr ⟨by rfl, rfl⟩) (by assumption) ?_
      try simp only [Act.put, List.setIfInBounds_toArray, List.set_cons_zero, List.set_cons_succ]
      refine Till.take 15 (some 38) (v := undef) rfl rfl (by kernel_rfl) (by kernel_rfl) (by kernel_rfl) (by kernel_rfl) (fun _ _ _ h => h) (Or.inr ⟨by rfl, rfl⟩) (by assumption) ?_
      try simp only [Act.put, List.setIfInBounds_toArray, List.set_cons_zero, List.set_cons_succ]
      refine Till.take 16 (some 39) (v := undef) rfl rfl (by kernel_rfl) (by kernel_rfl) (by kernel_rfl) (by kernel_rfl) (fun _ _ _ h => h) (Or.inr ⟨by rfl, rfl⟩) (by assumption) ?_
      try simp only [Act.put, List.setIfInBounds_toArray, List.set_cons_zero, List.set_cons_succ]
      refine Till.take 17 (some 40) (v := undef) rfl rfl (by kernel_rfl) (by kernel_rfl) (by kernel_rfl) (by kernel_rfl) (fun _ _ _ h => h) (Or.inr ⟨by rfl, rfl⟩) (by assumption) ?_
      try simp only [Act.put, List.setIfInBounds_toArray, List.set_cons_zero, List.set_cons_succ]
      refine Till.take 18 (some 41) (v := ?_) rfl rfl (by kernel_rfl) (by kernel_rfl) (by kernel_rfl) (by kernel_rfl) (fun _ _ _ h => h) (Or.inl ⟨by rfl, ?_⟩) (by assumption) ?_
      rotate_left
      · (intro w hSw; (try dsimp only at hSw); go_simp; try with_reducible rfl)
      try simp only [Act.put, List.setIfInBounds_toArray, List.set_cons_zero, List.set_cons_succ]
      have hGs := hG.below D2
      have g0 := hGs.r.cell 0 _ rfl
      have k0 := hGs.r.frozen 0
      have g1 := hGs.r.cell 1 _ rfl
      have k1 := hGs.r.frozen 1
      have g2 := hGs.r.cell 2 _ rfl
      have k2 := hGs.r.frozen 2
      have g3 := hGs.r.cell 3 _ rfl
      have k3 := hGs.r.frozen 3
      obtain ⟨HE, HB⟩ := hGs.put (.int .i64 x.lo) (.int .i64 1) (.int .i64 y.lo) (.int .i64 1)
      have HS2 := Lib.hid (HSO.out _ D2 (.int .i64 x.lo) (.int .i64 1) (.int .i64 y.lo) (.int .i64 1))
      refine Till.one 19 rfl (by kernel_rfl) (fun K hK => ?_)
      go_simp
      have hh := HS2.out
      refine hK.out _ _ (fun _ => hh) (fun hHeldS => ?_)
      clear hK K hh HS2 hGs g0 k0 g1 k1 g2 k2 g3 k3
      try simp only [Act.put, List.setIfInBounds_toArray, List.set_cons_zero, List.set_cons_succ]
      generalize ((((v2.setCell ⟨w.heap.size + 3, 0, none⟩ (.int .i64 x.lo)).setCell ⟨w.heap.size + 3, 1, none⟩ (.int .i64 1)).setCell ⟨w.heap.size + 3, 2, none⟩ (.int .i64 y.lo)).setCell ⟨w.heap.size + 3, 3, none⟩ (.int .i64 1)) = WE at *
      refine Till.one 20 rfl (by kernel_rfl) (fun K hK => ?_)
      go_simp
      refine hK.out _ _ (fun h => absurd rfl h) (fun _ => ?_)
      clear hK K
      try simp only [Act.put, List.setIfInBounds_toArray, List.set_cons_zero, List.set_cons_succ]
      refine Till.done (by kernel_rfl) ?_ _
      go_wp2
      have c0 := HB.out.cell 0 _ rfl
      have c1 := HB.out.cell 1 _ rfl
      have c2 := HB.out.cell 2 _ rfl
      have c3 := HB.out.cell 3 _ rfl
      have hE := HE.out
      clear HB HE
      refine ⟨rfl, .tuple #[stV ⟨⟨x.lo, 1⟩, ⟨y.lo, 1⟩⟩, .bool false], ?_, HW2.out, hE⟩
      simp [results, Try.results52, go_sem, c0, c1, c2, c3, stV]
  exfalso
  have hq := HQ.out
  have hd := HD.out
  omega
end Go.Proofs.Ytnldenjdbgfgmaa
