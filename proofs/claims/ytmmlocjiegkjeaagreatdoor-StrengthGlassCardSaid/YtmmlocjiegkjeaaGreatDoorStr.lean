/- What a load makes of a ring: its four parts, and their sum; no statement is proved here. -/
import Derived.Test.YtmmlocjiegkjeaaGreatDoorThick
namespace Go.Proofs.YtmmlocjiegkjeaaGreatDoor
open Go.RowKit Go.PlainAid
set_option linter.unusedVariables false
structure OkL (l : Ld) : Prop where
  press : 0 ≤ l.press ∧ l.press ≤ 10000
  force : 0 ≤ l.force ∧ l.force ≤ 20000
  speed : 0 ≤ l.speed ∧ l.speed ≤ 2000
  other : 0 ≤ l.other ∧ l.other ≤ 10000000
structure OkT (t : Sp) : Prop where
  lo : 1 ≤ t.lo
  le : t.lo ≤ t.hi
  hi : t.hi ≤ 2000

def pP (r : Rg) (t : Sp) (l : Ld) : Sp := ⟨l.press * r.radius.lo * r.factor.lo / (100 * t.hi), (l.press * r.radius.hi * r.factor.hi + 100 * t.lo - 1) / (100 * t.lo)⟩
def pF (r : Rg) (t : Sp) (l : Ld) : Sp := ⟨500000 * l.force * 113 / (r.radius.hi * t.hi * 355), (500000 * l.force * 106 + r.radius.lo * t.lo * 333 - 1) / (r.radius.lo * t.lo * 333)⟩
def pB (r : Rg) (t : Sp) (l : Ld) : Sp := ⟨r.hit.lo * l.speed / t.hi, (r.hit.hi * l.speed + t.lo - 1) / t.lo⟩
def pO (r : Rg) (t : Sp) (l : Ld) : Sp := ⟨l.other, l.other⟩
def strR (r : Rg) (t : Sp) (l : Ld) : Sp := ⟨(pP r t l).lo + (pF r t l).lo + (pB r t l).lo + (pO r t l).lo, (pP r t l).hi + (pF r t l).hi + (pB r t l).hi + (pO r t l).hi⟩

theorem down_bd {a d : Int} (ha : 0 ≤ a) (hd : 1 ≤ d) : 0 ≤ a / d ∧ a / d ≤ a := ⟨Int.ediv_nonneg ha (by omega), Int.ediv_le_self d ha⟩
theorem up_bd {a d : Int} (ha : 0 ≤ a) (hd : 1 ≤ d) : 0 ≤ (a + d - 1) / d ∧ (a + d - 1) / d ≤ a := by
  refine ⟨Int.ediv_nonneg (by omega) (by omega), ?_⟩
  have h : (a + d - 1) / d < a + 1 := by
    rw [Int.ediv_lt_iff_lt_mul (by omega), Int.add_mul, Int.one_mul]
    have := Int.mul_le_mul_of_nonneg_left (c := a) hd ha
    omega
  omega

theorem part_bd {r : Rg} {t : Sp} {l : Ld} (hr : OkR r) (ht : OkT t) (hl : OkL l) :
    ((0 ≤ l.press * r.radius.lo ∧ l.press * r.radius.lo ≤ 10000000) ∧ (0 ≤ l.press * r.radius.lo * r.factor.lo ∧ l.press * r.radius.lo * r.factor.lo ≤ 100000000000) ∧ (0 ≤ l.press * r.radius.hi ∧ l.press * r.radius.hi ≤ 10000000) ∧ (0 ≤ l.press * r.radius.hi * r.factor.hi ∧ l.press * r.radius.hi * r.factor.hi ≤ 100000000000)) ∧
    ((1 ≤ r.radius.hi * t.hi ∧ r.radius.hi * t.hi ≤ 2000000) ∧ (1 ≤ r.radius.lo * t.lo ∧ r.radius.lo * t.lo ≤ 2000000)) ∧ ((0 ≤ r.hit.lo * l.speed ∧ r.hit.lo * l.speed ≤ 20000000) ∧ (0 ≤ r.hit.hi * l.speed ∧ r.hit.hi * l.speed ≤ 20000000)) := by
  have h1 := hr.radius
  have h2 := hr.factor
  have h3 := hr.hit
  have h4 := ht.lo
  have h5 := ht.le
  have h6 := ht.hi
  have h7 := hl.press
  have h8 := hl.speed
  have a1 := mulB (a := l.press) (A := 10000) (b := r.radius.lo) (B := 1000) (by omega) (by omega)
  have a2 := mulB (a := l.press * r.radius.lo) (A := 10000000) (b := r.factor.lo) (B := 10000) (by omega) (by omega)
  have a3 := mulB (a := l.press) (A := 10000) (b := r.radius.hi) (B := 1000) (by omega) (by omega)
  have a4 := mulB (a := l.press * r.radius.hi) (A := 10000000) (b := r.factor.hi) (B := 10000) (by omega) (by omega)
  have a5 := mulP (a := r.radius.hi) (A := 1000) (b := t.hi) (B := 2000) (by omega) (by omega)
  have a6 := mulP (a := r.radius.lo) (A := 1000) (b := t.lo) (B := 2000) (by omega) (by omega)
  have a7 := mulB (a := r.hit.lo) (A := 10000) (b := l.speed) (B := 2000) (by omega) (by omega)
  have a8 := mulB (a := r.hit.hi) (A := 10000) (b := l.speed) (B := 2000) (by omega) (by omega)
  exact ⟨⟨by omega, by omega, by omega, by omega⟩, ⟨by omega, by omega⟩, by omega, by omega⟩

def SpIn (s : Sp) (m : Int) : Prop := (0 ≤ s.lo ∧ s.lo ≤ m) ∧ (0 ≤ s.hi ∧ s.hi ≤ m)
theorem parts_in {r : Rg} {t : Sp} {l : Ld} (hr : OkR r) (ht : OkT t) (hl : OkL l) : SpIn (pP r t l) 2000000000000 ∧ SpIn (pF r t l) 2000000000000 ∧ SpIn (pB r t l) 2000000000000 ∧ SpIn (pO r t l) 2000000000000 := by
  obtain ⟨⟨-, a1, -, a2⟩, ⟨a3, a4⟩, a5, a6⟩ := part_bd hr ht hl
  have h4 := ht.lo
  have h5 := ht.le
  have h8 := hl.force
  have h9 := hl.other
  have d1 := down_bd (a := l.press * r.radius.lo * r.factor.lo) (d := 100 * t.hi) (by omega) (by omega)
  have d2 := up_bd (a := l.press * r.radius.hi * r.factor.hi) (d := 100 * t.lo) (by omega) (by omega)
  have d3 := down_bd (a := 500000 * l.force * 113) (d := r.radius.hi * t.hi * 355) (by omega) (by omega)
  have d4 := up_bd (a := 500000 * l.force * 106) (d := r.radius.lo * t.lo * 333) (by omega) (by omega)
  have d5 := down_bd (a := r.hit.lo * l.speed) (d := t.hi) (by omega) (by omega)
  have d6 := up_bd (a := r.hit.hi * l.speed) (d := t.lo) (by omega) (by omega)
  unfold SpIn pP pF pB pO
  simp only
  omega

end Go.Proofs.YtmmlocjiegkjeaaGreatDoor
