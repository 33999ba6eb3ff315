/- Motions as rational functions: legs, slopes; no statement is proved here. -/
import Derived.Test.YtnldenjdbgfgmaaFmNm
import Derived.Test.YtnldenjdbgfgmaaFmTm
namespace Go.Proofs.Ytnldenjdbgfgmaa
set_option linter.unusedVariables false
set_option linter.unusedSimpArgs false

/-- where a leg is at a time. -/
def legF (x y : Sp) (t : Rat) : Rat := (x.hi : Rat) + ((y.hi : Rat) - (x.hi : Rat)) / ((y.lo : Rat) - (x.lo : Rat)) * (t - (x.lo : Rat))
def InLeg (x y : Sp) (t : Rat) : Prop := (x.lo : Rat) ≤ t ∧ t ≤ (y.lo : Rat)
theorem leg_len {x y : Sp} (h : LegOk x y) : (0 : Rat) < (y.lo : Rat) - (x.lo : Rat) := by
  have := h.a
  have : (x.lo : Rat) < (y.lo : Rat) := Rat.intCast_lt_intCast.2 (by omega)
  grind
theorem legF_b {x y : Sp} (h : LegOk x y) : legF x y (y.lo : Rat) = (y.hi : Rat) := by
  have := leg_len h
  unfold legF
  generalize (y.lo : Rat) = a at *
  generalize (x.lo : Rat) = b at *
  grind
theorem legF_a {x y : Sp} : legF x y (x.lo : Rat) = (x.hi : Rat) := by unfold legF; grind
theorem rv_pos {x y : Sp} (h : LegOk x y) {td : Int} (ht : 1 ≤ td) (now : Int) : rv (posF x y td now) = legF x y ((now : Rat) / (td : Rat)) := by
  have h1 := h.a
  have p := Int.mul_pos (show 0 < td by omega) (show 0 < y.lo - x.lo by omega)
  have hl := leg_len h
  have hd := dpos ht
  unfold posF
  rw [rv_mk _ p, Rat.divInt_eq_div]
  unfold posN legF
  simp only [Rat.intCast_mul, Rat.intCast_add, Rat.intCast_sub]
  generalize (y.lo : Rat) = a at *
  generalize (x.lo : Rat) = b at *
  generalize (y.hi : Rat) = c at *
  generalize (x.hi : Rat) = d at *
  generalize (td : Rat) = e at *
  generalize (now : Rat) = n at *
  have hne : a - b ≠ 0 := by grind
  have hne2 : e ≠ 0 := by grind
  grind
/-- a leg that is not too steep. -/
def Flat (m : Rat) (x y : Sp) : Prop := (y.hi : Rat) - (x.hi : Rat) ≤ m * ((y.lo : Rat) - (x.lo : Rat)) ∧ (x.hi : Rat) - (y.hi : Rat) ≤ m * ((y.lo : Rat) - (x.lo : Rat))
theorem slope_le {d l m : Rat} (hl : 0 < l) (h : d ≤ m * l) : d / l ≤ m := by
  rw [Rat.div_def]
  have hi := Rat.inv_pos.2 hl
  have := Rat.mul_le_mul_of_nonneg_right h (Rat.le_of_lt hi)
  have e : m * l * l⁻¹ = m := by grind
  rwa [e] at this
theorem flat_leg {m : Rat} {x y : Sp} (h : LegOk x y) (hf : Flat m x y) {s t : Rat} (hst : s ≤ t) : legF x y t - legF x y s ≤ m * (t - s) ∧ legF x y s - legF x y t ≤ m * (t - s) := by
  have hl := leg_len h
  have h1 := slope_le hl hf.1
  have h2 := slope_le (d := (x.hi : Rat) - (y.hi : Rat)) hl hf.2
  have e2 : ((x.hi : Rat) - (y.hi : Rat)) / ((y.lo : Rat) - (x.lo : Rat)) = -(((y.hi : Rat) - (x.hi : Rat)) / ((y.lo : Rat) - (x.lo : Rat))) := by
    rw [Rat.div_def, Rat.div_def]; grind
  rw [e2] at h2
  have hd : 0 ≤ t - s := by grind
  have k1 := Rat.mul_le_mul_of_nonneg_right h1 hd
  have k2 := Rat.mul_le_mul_of_nonneg_right h2 hd
  unfold legF
  generalize (((y.hi : Rat) - (x.hi : Rat)) / ((y.lo : Rat) - (x.lo : Rat))) = z at *
  grind
/-- a path: legs that follow each other. -/
structure PathR (c h : Int) (l : List Sp) (m : Rat) : Prop where
  ok : ∀ i, i < nL l → LegOk (lgA h l i) (lgB c h l i)
  flat : ∀ i, i < nL l → Flat m (lgA h l i) (lgB c h l i)
  m0 : 0 ≤ m
theorem lg_next {c h : Int} {l : List Sp} {i : Nat} (hi : i + 1 < nL l) : lgB c h l i = lgA h l (i + 1) := by
  unfold nL at hi
  unfold lgA lgB
  rw [if_pos (by omega), if_neg (by omega)]
theorem lg_first {c h : Int} {l : List Sp} (H : chkM c h l = 0) : (lgA h l 0).lo = 0 := by
  obtain ⟨h1, h2, h3, h4⟩ := chkM_zero H
  unfold lgA
  by_cases h0 : l.length = 0
  · rw [if_pos h0]
  · rw [if_neg h0]
    exact (h4 0 (by omega)).2.1 rfl
theorem lg_last {c h : Int} {l : List Sp} : (lgB c h l (nL l - 1)).lo = c ∧ (lgB c h l (nL l - 1)).hi = (lgA h l 0).hi := by
  refine ⟨lgB_last c h l, ?_⟩
  unfold lgA lgB nL
  rw [if_neg (by omega)]
  by_cases h0 : l.length = 0
  · simp [h0]
  · simp [h0]
/-- from a time in a leg to the beginning of a later leg. -/
theorem lip_to {c h : Int} {l : List Sp} {m : Rat} (H : PathR c h l m) {i : Nat} (hi : i < nL l) {t : Rat} (ht : InLeg (lgA h l i) (lgB c h l i) t) : ∀ d, i + d < nL l →
    ((lgB c h l (i + d)).hi : Rat) - legF (lgA h l i) (lgB c h l i) t ≤ m * ((lgB c h l (i + d)).lo - t) ∧ legF (lgA h l i) (lgB c h l i) t - ((lgB c h l (i + d)).hi : Rat) ≤ m * ((lgB c h l (i + d)).lo - t) := by
  intro d
  induction d with
  | zero =>
    intro _
    have k := flat_leg (H.ok i hi) (H.flat i hi) ht.2
    rw [legF_b (H.ok i hi)] at k
    exact k
  | succ d ih =>
    intro hd
    obtain ⟨i1, i2⟩ := ih (by omega)
    rw [lg_next (c := c) (h := h) (show i + d + 1 < nL l by omega)] at i1 i2
    have k := H.flat (i + d + 1) (by omega)
    unfold Flat at k
    rw [show i + (d + 1) = i + d + 1 by omega]
    grind
/-- from a time in a leg to one in a later or the same leg. -/
theorem lip_le {c h : Int} {l : List Sp} {m : Rat} (H : PathR c h l m) {i j : Nat} (hi : i < nL l) (hj : j < nL l) (hij : i ≤ j) {s t : Rat} (hs : InLeg (lgA h l i) (lgB c h l i) s) (ht : InLeg (lgA h l j) (lgB c h l j) t) (hst : s ≤ t) :
    legF (lgA h l j) (lgB c h l j) t - legF (lgA h l i) (lgB c h l i) s ≤ m * (t - s) ∧ legF (lgA h l i) (lgB c h l i) s - legF (lgA h l j) (lgB c h l j) t ≤ m * (t - s) := by
  by_cases he : i = j
  · subst he; exact flat_leg (H.ok i hi) (H.flat i hi) hst
  have k1 := lip_to H hi hs (j - 1 - i) (by omega)
  rw [show i + (j - 1 - i) = j - 1 by omega, lg_next (c := c) (h := h) (show j - 1 + 1 < nL l by omega), show j - 1 + 1 = j by omega] at k1
  have k2 := flat_leg (H.ok j hj) (H.flat j hj) ht.1
  rw [legF_a] at k2
  obtain ⟨a1, a2⟩ := k1
  obtain ⟨b1, b2⟩ := k2
  grind
/-- where a path is at a time of its cycle. -/
def PosR (c h : Int) (l : List Sp) (t p : Rat) : Prop := ∃ i, i < nL l ∧ InLeg (lgA h l i) (lgB c h l i) t ∧ p = legF (lgA h l i) (lgB c h l i) t
theorem leg_mono {c h : Int} {l : List Sp} {m : Rat} (H : PathR c h l m) : ∀ (i d : Nat), i + d < nL l → ((lgA h l i).lo : Rat) ≤ ((lgA h l (i + d)).lo : Rat) := by
  intro i d
  induction d with
  | zero => intro _; exact Rat.le_refl
  | succ d ih =>
    intro hd
    have := ih (by omega)
    have k := leg_len (H.ok (i + d) (by omega))
    rw [lg_next (c := c) (h := h) (show i + d + 1 < nL l by omega)] at k
    rw [show i + (d + 1) = i + d + 1 by omega]
    grind
theorem pos_lip {c h : Int} {l : List Sp} {m : Rat} (H : PathR c h l m) {s t p q : Rat} (hs : PosR c h l s p) (ht : PosR c h l t q) (hst : s ≤ t) : q - p ≤ m * (t - s) ∧ p - q ≤ m * (t - s) := by
  obtain ⟨i, hi, hsi, rfl⟩ := hs
  obtain ⟨j, hj, htj, rfl⟩ := ht
  by_cases hij : i ≤ j
  · exact lip_le H hi hj hij hsi htj hst
  · -- then both are the same time, the end of the one leg and the beginning of the other one
    have k := leg_mono H (j + 1) (i - (j + 1)) (by omega)
    rw [show j + 1 + (i - (j + 1)) = i by omega] at k
    rw [← lg_next (c := c) (h := h) (show j + 1 < nL l by omega)] at k
    have e1 := hsi.1; have e2 := htj.2
    have ee : s = t := by grind
    subst ee
    have := lip_le H hj hi (by omega) htj hsi Rat.le_refl
    grind
theorem pos_end {c h : Int} {l : List Sp} {m : Rat} (H : PathR c h l m) (h0 : (lgA h l 0).lo = 0) {t p : Rat} (ht : PosR c h l t p) : (((lgA h l 0).hi : Rat) - p ≤ m * ((c : Rat) - t) ∧ p - ((lgA h l 0).hi : Rat) ≤ m * ((c : Rat) - t)) ∧ (((lgA h l 0).hi : Rat) - p ≤ m * t ∧ p - ((lgA h l 0).hi : Rat) ≤ m * t) ∧ 0 ≤ t ∧ t ≤ (c : Rat) := by
  have hn : 0 < nL l := by unfold nL; omega
  obtain ⟨e1, e2⟩ := lg_last (c := c) (h := h) (l := l)
  have f0 : PosR c h l 0 ((lgA h l 0).hi : Rat) := by
    have k := leg_len (H.ok 0 hn)
    have : ((lgA h l 0).lo : Rat) = 0 := by rw [h0]; rfl
    refine ⟨0, hn, ⟨by grind, by grind⟩, ?_⟩
    have := legF_a (x := lgA h l 0) (y := lgB c h l 0)
    rw [h0] at this
    exact this.symm
  have f1 : PosR c h l (c : Rat) ((lgA h l 0).hi : Rat) := by
    have k := leg_len (H.ok (nL l - 1) (by omega))
    have k2 := legF_b (H.ok (nL l - 1) (by omega))
    rw [e1, e2] at k2
    rw [e1] at k
    refine ⟨nL l - 1, by omega, ⟨by grind, by rw [e1]; exact Rat.le_refl⟩, k2.symm⟩
  have hb : 0 ≤ t ∧ t ≤ (c : Rat) := by
    obtain ⟨i, hi, hti, -⟩ := ht
    have k1 := leg_mono H 0 i (by omega)
    rw [h0, show 0 + i = i by omega] at k1
    have z : ((0 : Int) : Rat) = 0 := rfl
    rw [z] at k1
    have k3 := hti.1; have k4 := hti.2
    refine ⟨by grind, ?_⟩
    by_cases hl : i + 1 < nL l
    · have k2 := leg_mono H (i + 1) (nL l - 1 - (i + 1)) (by omega)
      rw [show i + 1 + (nL l - 1 - (i + 1)) = nL l - 1 by omega, ← lg_next (c := c) (h := h) hl] at k2
      have k5 := leg_len (H.ok (nL l - 1) (by omega))
      rw [e1] at k5
      grind
    · rw [show i = nL l - 1 by omega, e1] at k4
      exact k4
  have g1 := pos_lip H ht f1 hb.2
  have g0 := pos_lip H f0 ht hb.1
  grind
/-- two times, some cycles apart. -/
theorem pos_far {c h : Int} {l : List Sp} {m : Rat} (H : PathR c h l m) (h0 : (lgA h l 0).lo = 0) (hc : 1 ≤ c) {s t p r : Rat} (hs : PosR c h l s p) (ht : PosR c h l t r) (q k : Int) (he : (k : Rat) = t - s + (q : Rat) * (c : Rat)) :
    p - r ≤ m * ((max k (-k) : Int) : Rat) ∧ r - p ≤ m * ((max k (-k) : Int) : Rat) := by
  obtain ⟨⟨a1, a2⟩, ⟨a3, a4⟩, a5, a6⟩ := pos_end H h0 hs
  obtain ⟨⟨b1, b2⟩, ⟨b3, b4⟩, b5, b6⟩ := pos_end H h0 ht
  have hm := H.m0
  have hcp := dpos hc
  have k1 : (k : Rat) ≤ ((max k (-k) : Int) : Rat) := Rat.intCast_le_intCast.2 (by omega)
  have k2 : -(k : Rat) ≤ ((max k (-k) : Int) : Rat) := by rw [← Rat.intCast_neg]; exact Rat.intCast_le_intCast.2 (by omega)
  have step : ∀ x : Rat, 0 ≤ x → x ≤ ((max k (-k) : Int) : Rat) → m * x ≤ m * ((max k (-k) : Int) : Rat) := fun x h1 h2 => Rat.mul_le_mul_of_nonneg_left h2 hm
  rcases Int.lt_trichotomy q 0 with hq | hq | hq
  · have : (q : Rat) ≤ -1 := by
      have := (Rat.intCast_le_intCast (a := q) (b := -1)).2 (by omega)
      simpa using this
    have hqc := Rat.mul_le_mul_of_nonneg_right this (Rat.le_of_lt hcp)
    have := step ((c : Rat) - t + s) (by grind) (by grind)
    grind
  · subst hq
    have e0 : ((0 : Int) : Rat) = 0 := rfl
    rw [e0] at he
    by_cases hst : s ≤ t
    · have g := pos_lip H hs ht hst
      have := step (t - s) (by grind) (by grind)
      grind
    · have g := pos_lip H ht hs (by grind)
      have := step (s - t) (by grind) (by grind)
      grind
  · have : (1 : Rat) ≤ (q : Rat) := by
      have := (Rat.intCast_le_intCast (a := 1) (b := q)).2 (by omega)
      simpa using this
    have hqc := Rat.mul_le_mul_of_nonneg_right this (Rat.le_of_lt hcp)
    have := step ((c : Rat) - s + t) (by grind) (by grind)
    grind
end Go.Proofs.Ytnldenjdbgfgmaa
