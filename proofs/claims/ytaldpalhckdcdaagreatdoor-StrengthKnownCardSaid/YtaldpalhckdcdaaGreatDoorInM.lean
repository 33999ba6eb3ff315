/- What lies inside: a bottle whose measures are in others' spans; the pressure at which it bursts; no statement is proved here. -/
import Derived.Test.YtaldpalhckdcdaaGreatDoorMoreM
namespace Go.Proofs.YtaldpalhckdcdaaGreatDoor
open Go.RowKit Go.PlainAid
set_option linter.unusedVariables false
theorem div_monoP {a a' d d' : Int} (ha : 0 ≤ a) (h : a ≤ a') (hd : 1 ≤ d') (hdd : d' ≤ d) : a / d ≤ a' / d' := by
  rw [Int.le_ediv_iff_mul_le (by omega)]
  have h1 := Int.ediv_mul_le a (show d ≠ 0 by omega)
  have h2 := Int.mul_le_mul_of_nonneg_left hdd (Int.ediv_nonneg ha (show 0 ≤ d by omega))
  omega

structure InS (a s : Sp) : Prop where
  lo : s.lo ≤ a.lo
  hi : a.hi ≤ s.hi
structure InR (c r : Rg) : Prop where
  radius : InS c.radius r.radius
  factor : InS c.factor r.factor
  hit : InS c.hit r.hit
  share : c.share = r.share

theorem strR_lo_in {c r : Rg} {u t : Sp} {l l' : Ld} (hc : OkR c) (hr : OkR r) (hi : InR c r) (hu : OkT u) (ht : OkT t) (hut : InS u t) (hl : LessL l l') : (strR r t l).lo ≤ (strR c u l').lo := by
  have h1 := hr.radius
  have h2 := hr.factor
  have h3 := hr.hit
  have g1 := hc.radius
  have g2 := hc.factor
  have g3 := hc.hit
  have i1 := hi.radius.lo
  have i1' := hi.radius.hi
  have i2 := hi.factor.lo
  have i3 := hi.hit.lo
  have t1 := ht.lo
  have t2 := ht.le
  have u1 := hu.lo
  have u2 := hu.le
  have v1 := hut.lo
  have v2 := hut.hi
  have h5 := hl.press
  have h6 := hl.force
  have h7 := hl.speed
  have h8 := hl.other
  have p1 : (pP r t l).lo ≤ (pP c u l').lo := by
    have a1 : l.press * r.radius.lo ≤ l'.press * c.radius.lo := Int.mul_le_mul h5.2 i1 (by omega) (by omega)
    have a2 : 0 ≤ l.press * r.radius.lo := mulN h5.1 (by omega)
    exact div_monoP (mulN a2 (by omega)) (Int.mul_le_mul a1 i2 (by omega) (by omega)) (by omega) (by omega)
  have p2 : (pF r t l).lo ≤ (pF c u l').lo := by
    have e0 : 1 * 1 ≤ c.radius.hi * u.hi := Int.mul_le_mul (by omega) (by omega) (by omega) (by omega)
    have e1 : c.radius.hi * u.hi ≤ r.radius.hi * t.hi := Int.mul_le_mul i1' v2 (by omega) (by omega)
    exact div_monoP (by omega) (by omega) (by omega) (by omega)
  have p3 : (pB r t l).lo ≤ (pB c u l').lo :=
    div_monoP (mulN (by omega) h7.1) (Int.mul_le_mul i3 h7.2 h7.1 (by omega)) (by omega) (by omega)
  have p4 : (pO r t l).lo ≤ (pO c u l').lo := h8.2
  simp only [strR]
  omega

theorem strR_hi_in {c r : Rg} {u t : Sp} {l l' : Ld} (hc : OkR c) (hr : OkR r) (hi : InR c r) (hu : OkT u) (ht : OkT t) (hut : InS u t) (hl : LessL l l') : (strR c u l).hi ≤ (strR r t l').hi := by
  have h1 := hr.radius
  have h2 := hr.factor
  have h3 := hr.hit
  have g1 := hc.radius
  have g2 := hc.factor
  have g3 := hc.hit
  have i1 := hi.radius.lo
  have i1' := hi.radius.hi
  have i2 := hi.factor.hi
  have i3 := hi.hit.hi
  have t1 := ht.lo
  have t2 := ht.le
  have u1 := hu.lo
  have u2 := hu.le
  have v1 := hut.lo
  have v2 := hut.hi
  have h5 := hl.press
  have h6 := hl.force
  have h7 := hl.speed
  have h8 := hl.other
  have p1 : (pP c u l).hi ≤ (pP r t l').hi := by
    have a1 : l.press * c.radius.hi ≤ l'.press * r.radius.hi := Int.mul_le_mul h5.2 i1' (by omega) (by omega)
    have a2 : 0 ≤ l.press * c.radius.hi := mulN h5.1 (by omega)
    exact cdiv_mono (mulN a2 (by omega)) (Int.mul_le_mul a1 i2 (by omega) (by omega)) (by omega) (by omega)
  have p2 : (pF c u l).hi ≤ (pF r t l').hi := by
    have e0 : 1 * 1 ≤ r.radius.lo * t.lo := Int.mul_le_mul (by omega) (by omega) (by omega) (by omega)
    have e1 : r.radius.lo * t.lo ≤ c.radius.lo * u.lo := Int.mul_le_mul i1 v1 (by omega) (by omega)
    exact cdiv_mono (by omega) (by omega) (by omega) (by omega)
  have p3 : (pB c u l).hi ≤ (pB r t l').hi :=
    cdiv_mono (mulN (by omega) h7.1) (Int.mul_le_mul i3 h7.2 h7.1 (by omega)) (by omega) (by omega)
  have p4 : (pO c u l).hi ≤ (pO r t l').hi := h8.2
  simp only [strR]
  omega

theorem InS.refl (s : Sp) : InS s s := ⟨Int.le_refl _, Int.le_refl _⟩
theorem InR.refl (r : Rg) : InR r r := ⟨InS.refl _, InS.refl _, InS.refl _, rfl⟩
theorem OkL.less {l : Ld} (h : OkL l) : LessL l l := ⟨⟨h.press.1, Int.le_refl _⟩, ⟨h.force.1, Int.le_refl _⟩, ⟨h.speed.1, Int.le_refl _⟩, ⟨h.other.1, Int.le_refl _⟩⟩

def pressed (l : Ld) (p : Int) : Ld := ⟨p, l.force, l.speed, l.other⟩
theorem OkL.pressed {l : Ld} (h : OkL l) {p : Int} (h1 : 0 ≤ p) (h2 : p ≤ 10000) : OkL (pressed l p) := ⟨⟨h1, h2⟩, h.force, h.speed, h.other⟩
theorem OkL.pressed_less {l : Ld} (h : OkL l) {p q : Int} (h1 : 0 ≤ p) (h2 : p ≤ q) : LessL (Go.Proofs.YtaldpalhckdcdaaGreatDoor.pressed l p) (Go.Proofs.YtaldpalhckdcdaaGreatDoor.pressed l q) := ⟨⟨h1, h2⟩, ⟨h.force.1, Int.le_refl _⟩, ⟨h.speed.1, Int.le_refl _⟩, ⟨h.other.1, Int.le_refl _⟩⟩

/-- a bottle and thicknesses that lie in others. -/
structure InB (c b : Bot) (us ts : List Sp) : Prop where
  len : c.rings.length = b.rings.length
  ring : ∀ i (h : i < c.rings.length) (h' : i < b.rings.length), OkR c.rings[i] ∧ InR c.rings[i] b.rings[i]
  flaw : c.flaw = b.flaw
  tough : c.tough = b.tough
  ulen : us.length = ts.length
  thick : ∀ i (h : i < us.length) (h' : i < ts.length), OkT us[i] ∧ InS us[i] ts[i]

theorem shares_eq {c b : List Rg} (hl : c.length = b.length) (h : ∀ i (h : i < c.length) (h' : i < b.length), c[i].share = b[i].share) : c.map (·.share) = b.map (·.share) := by
  apply List.ext_getElem
  · simp [hl]
  · intro i h1 h2
    simp only [List.getElem_map]
    exact h i (by simpa using h1) (by simpa using h2)
theorem loS_full (l : List Rg) : loS l l.length = ((l.map (·.share)).map (·.lo)).sum := by unfold loS; rw [List.take_length, List.map_map]; rfl
theorem hiS_full (l : List Rg) : hiS l l.length = ((l.map (·.share)).map (·.hi)).sum := by unfold hiS; rw [List.take_length, List.map_map]; rfl

theorem checkS_in {c b : Bot} {us ts : List Sp} (h : checkS b = 0) (hi : InB c b us ts) : checkS c = 0 := by
  have hs := shares_eq hi.len (fun i h1 h2 => (hi.ring i h1 h2).2.share)
  have ha : allR c.rings = true := allR_true.2 (fun j hj => (hi.ring j hj (by rw [← hi.len]; exact hj)).1)
  have hlo : loS c.rings c.rings.length = loS b.rings b.rings.length := by rw [loS_full, loS_full, hs]
  have hhi : hiS c.rings c.rings.length = hiS b.rings b.rings.length := by rw [hiS_full, hiS_full, hs]
  unfold checkS at h ⊢
  rw [hlo, hhi, hi.flaw, hi.tough, hi.len, ha]
  split at h
  · cases h
  split at h
  · cases h
  split at h
  · cases h
  rename_i h1 h2 h3
  rw [if_neg h1, if_neg h2, if_neg (by decide)]
  exact h

theorem wallS_in {c b : Bot} {us ts : List Sp} {l : Ld} (h : wallS b ts l = 0) (hi : InB c b us ts) : wallS c us l = 0 := by
  have hok := okWall_of h
  have hc : checkS b = 0 := by
    simp only [wallS] at h
    split at h
    · assumption
    · exact h
  have hT : allT us = true := allT_true.2 (fun i h1 => (hi.thick i h1 (by rw [← hi.ulen]; exact h1)).1)
  simp [wallS, checkS_in hc hi, hi.len, hi.ulen, hok.len, hT, loadS_of hok.load]

theorem str_in {c b : Bot} {us ts : List Sp} {l : Ld} (h : wallS b ts l = 0) (hi : InB c b us ts) (i : Nat) (h1 : i < b.rings.length) :
    (strAt b ts l i).lo ≤ (strAt c us l i).lo ∧ (strAt c us l i).hi ≤ (strAt b ts l i).hi := by
  have hok := okWall_of h
  have h2 : i < ts.length := by rw [hok.len]; exact h1
  have h3 : i < c.rings.length := by rw [hi.len]; exact h1
  have h4 : i < us.length := by rw [hi.ulen]; exact h2
  rw [strAt_eq h1 h2, strAt_eq h3 h4]
  obtain ⟨a1, a2⟩ := hi.ring i h3 h1
  obtain ⟨b1, b2⟩ := hi.thick i h4 h2
  exact ⟨strR_lo_in a1 (hok.bot.rings i h1) a2 b1 (hok.thick i h2) b2 hok.load.less, strR_hi_in a1 (hok.bot.rings i h1) a2 b1 (hok.thick i h2) b2 hok.load.less⟩

theorem holds_in {c b : Bot} {us ts : List Sp} {l : Ld} (h : wallS b ts l = 0) (hi : InB c b us ts) (hH : HoldsB b ts l) : HoldsB c us l := by
  obtain ⟨m, hm, hW⟩ := hH
  refine ⟨m, by rw [hi.flaw, hi.tough]; exact hm, fun i h1 => ?_⟩
  have h2 : i < b.rings.length := by rw [← hi.len]; exact h1
  exact Int.le_trans (str_in h hi i h2).2 (hW i h2)
theorem breaks_in {c b : Bot} {us ts : List Sp} {l : Ld} (h : wallS b ts l = 0) (hi : InB c b us ts) (hH : BreaksB b ts l) : BreaksB c us l := by
  obtain ⟨m, hm, i, h1, h2⟩ := hH
  exact ⟨m, by rw [hi.flaw, hi.tough]; exact hm, i, by rw [hi.len]; exact h1, Int.lt_of_lt_of_le h2 (str_in h hi i h1).1⟩
theorem not_both {b : Bot} {ts : List Sp} {l : Ld} (h : wallS b ts l = 0) (hH : HoldsB b ts l) (hB : BreaksB b ts l) : False := by
  have hok := okWall_of h
  obtain ⟨m, hm, hW⟩ := hH
  obtain ⟨i, h1, h2⟩ := (breaksB_iff hm).1 hB
  have h3 := hW i h1
  have h4 : i < ts.length := by rw [hok.len]; exact h1
  rw [strAt_eq h1 h4] at h2 h3
  have := strR_le (hok.bot.rings i h1) (hok.thick i h4) hok.load
  omega

theorem wallS_pressed {b : Bot} {ts : List Sp} {l : Ld} (h : wallS b ts l = 0) {p : Int} (h1 : 0 ≤ p) (h2 : p ≤ 10000) : wallS b ts (pressed l p) = 0 := by
  have hok := okWall_of h
  have hc : checkS b = 0 := by
    simp only [wallS] at h
    split at h
    · assumption
    · exact h
  simp [wallS, hc, hok.len, allT_true.2 hok.thick, loadS_of (hok.load.pressed h1 h2)]

theorem holdsW_press {b : Bot} {ts : List Sp} {l : Ld} {m : Int} (h : wallS b ts l = 0) {p q : Int} (h1 : 0 ≤ p) (h2 : p ≤ q) (hH : HoldsW b ts (pressed l q) m) : HoldsW b ts (pressed l p) m := fun i hi => by
  have hok := okWall_of h
  have h3 := hH i hi
  have h4 : i < ts.length := by rw [hok.len]; exact hi
  rw [strAt_eq hi h4] at h3 ⊢
  exact Int.le_trans (strR_hi_in (hok.bot.rings i hi) (hok.bot.rings i hi) (InR.refl _) (hok.thick i h4) (hok.thick i h4) (InS.refl _) (hok.load.pressed_less h1 h2)) h3
theorem breaksW_press {b : Bot} {ts : List Sp} {l : Ld} {m : Int} (h : wallS b ts l = 0) {p q : Int} (h1 : 0 ≤ p) (h2 : p ≤ q) (hH : BreaksW b ts (pressed l p) m) : BreaksW b ts (pressed l q) m := by
  have hok := okWall_of h
  obtain ⟨i, hi, h3⟩ := hH
  have h4 : i < ts.length := by rw [hok.len]; exact hi
  refine ⟨i, hi, ?_⟩
  rw [strAt_eq hi h4] at h3 ⊢
  exact Int.lt_of_lt_of_le h3 (strR_lo_in (hok.bot.rings i hi) (hok.bot.rings i hi) (InR.refl _) (hok.thick i h4) (hok.thick i h4) (InS.refl _) (hok.load.pressed_less h1 h2))

/-- the bounds of the pressure at which a bottle bursts. -/
structure IsBurst (b : Bot) (ts : List Sp) (l : Ld) (u : Sp) : Prop where
  lo : -1 ≤ u.lo ∧ u.lo ≤ 10000
  hi : 0 ≤ u.hi ∧ u.hi ≤ 10001
  holds : ∀ p, 0 ≤ p → p ≤ 10000 → (HoldsB b ts (pressed l p) ↔ p ≤ u.lo)
  breaks : ∀ p, 0 ≤ p → p ≤ 10000 → (BreaksB b ts (pressed l p) ↔ u.hi ≤ p)

theorem IsBurst.lt {b : Bot} {ts : List Sp} {l : Ld} {u : Sp} (h : wallS b ts l = 0) (hu : IsBurst b ts l u) : u.lo < u.hi := by
  by_cases hlt : u.lo < u.hi
  · exact hlt
  · have h1 := hu.hi.1
    have h2 := hu.lo.2
    exact (not_both (wallS_pressed h h1 (by omega)) ((hu.holds u.hi h1 (by omega)).2 (by omega)) ((hu.breaks u.hi h1 (by omega)).2 (Int.le_refl _))).elim

theorem IsBurst.inside {c b : Bot} {us ts : List Sp} {l : Ld} {u v : Sp} (h : wallS b ts l = 0) (hi : InB c b us ts) (hu : IsBurst b ts l u) (hv : IsBurst c us l v) : u.lo ≤ v.lo ∧ v.hi ≤ u.hi := by
  have a1 := hu.lo
  have a2 := hu.hi
  have a3 := hv.lo
  have a4 := hv.hi
  constructor
  · by_cases h1 : u.lo ≤ v.lo
    · exact h1
    · have h2 := (hv.holds (v.lo + 1) (by omega) (by omega)).1 (holds_in (wallS_pressed h (by omega) (by omega)) hi ((hu.holds (v.lo + 1) (by omega) (by omega)).2 (by omega)))
      omega
  · by_cases h1 : v.hi ≤ u.hi
    · exact h1
    · have h2 := (hv.breaks u.hi (by omega) (by omega)).1 (breaks_in (wallS_pressed h (by omega) (by omega)) hi ((hu.breaks u.hi (by omega) (by omega)).2 (Int.le_refl _)))
      omega

end Go.Proofs.YtaldpalhckdcdaaGreatDoor
