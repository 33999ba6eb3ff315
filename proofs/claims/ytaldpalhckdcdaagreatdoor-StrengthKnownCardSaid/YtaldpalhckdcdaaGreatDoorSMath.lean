/- What a bottle's thicknesses are, in plain numbers; no statement is proved here. -/
import Derived.Test.YtaldpalhckdcdaaGreatDoorSData
namespace Go.Proofs.YtaldpalhckdcdaaGreatDoor
open Go.RowKit Go.PlainAid
set_option linter.unusedVariables false
def btw (n l m : Int) : Bool := decide (l ≤ n ∧ n ≤ m)
def wi (s : Sp) (l m : Int) : Bool := decide (l ≤ s.lo ∧ s.lo ≤ s.hi ∧ s.hi ≤ m)
theorem wi_true {s : Sp} {l m : Int} : wi s l m = true ↔ l ≤ s.lo ∧ s.lo ≤ s.hi ∧ s.hi ≤ m := by simp [wi]
theorem btw_true {n l m : Int} : btw n l m = true ↔ l ≤ n ∧ n ≤ m := by simp [btw]

def okR (r : Rg) : Bool := wi r.radius 1 1000 && wi r.height 1 5000 && wi r.share 0 1000 && wi r.factor 0 10000 && wi r.hit 0 10000
structure OkR (r : Rg) : Prop where
  radius : 1 ≤ r.radius.lo ∧ r.radius.lo ≤ r.radius.hi ∧ r.radius.hi ≤ 1000
  height : 1 ≤ r.height.lo ∧ r.height.lo ≤ r.height.hi ∧ r.height.hi ≤ 5000
  share : 0 ≤ r.share.lo ∧ r.share.lo ≤ r.share.hi ∧ r.share.hi ≤ 1000
  factor : 0 ≤ r.factor.lo ∧ r.factor.lo ≤ r.factor.hi ∧ r.factor.hi ≤ 10000
  hit : 0 ≤ r.hit.lo ∧ r.hit.lo ≤ r.hit.hi ∧ r.hit.hi ≤ 10000
theorem okR_iff {r : Rg} : okR r = true ↔ OkR r := by
  unfold okR
  simp only [Bool.and_eq_true, wi_true]
  exact ⟨fun ⟨⟨⟨⟨a, b⟩, c⟩, d⟩, e⟩ => ⟨a, b, c, d, e⟩, fun h => ⟨⟨⟨⟨h.radius, h.height⟩, h.share⟩, h.factor⟩, h.hit⟩⟩

def loS (l : List Rg) (k : Nat) : Int := ((l.take k).map (·.share.lo)).sum
def hiS (l : List Rg) (k : Nat) : Int := ((l.take k).map (·.share.hi)).sum
theorem loS_succ {l : List Rg} {k : Nat} (h : k < l.length) : loS l (k + 1) = loS l k + l[k].share.lo := by
  unfold loS; rw [List.take_succ_eq_append_getElem h, List.map_append, List.sum_append]; simp only [List.map_cons, List.map_nil, List.sum_cons, List.sum_nil, Int.add_zero]
theorem hiS_succ {l : List Rg} {k : Nat} (h : k < l.length) : hiS l (k + 1) = hiS l k + l[k].share.hi := by
  unfold hiS; rw [List.take_succ_eq_append_getElem h, List.map_append, List.sum_append]; simp only [List.map_cons, List.map_nil, List.sum_cons, List.sum_nil, Int.add_zero]
theorem sums_bd {l : List Rg} : ∀ {k : Nat}, k ≤ l.length → (∀ j (h : j < k) (h2 : j < l.length), OkR l[j]) → 0 ≤ loS l k ∧ loS l k ≤ 1000 * (k : Int) ∧ 0 ≤ hiS l k ∧ hiS l k ≤ 1000 * (k : Int)
  | 0, _, _ => by simp [loS, hiS]
  | k + 1, hk, h => by
    obtain ⟨h1, h2, h3, h4⟩ := sums_bd (l := l) (k := k) (by omega) (fun j hj h2 => h j (by omega) h2)
    have hr := (h k (by omega) (by omega)).share
    rw [loS_succ (by omega), hiS_succ (by omega)]
    push_cast
    omega

/-- the first ring that is not right. -/
def allR (l : List Rg) : Bool := l.all okR
theorem allR_true {l : List Rg} : allR l = true ↔ ∀ j (h : j < l.length), OkR l[j] := by
  unfold allR
  rw [List.all_eq_true]
  exact ⟨fun h j hj => okR_iff.1 (h _ (List.getElem_mem hj)), fun h x hx => by
    obtain ⟨j, hj, rfl⟩ := List.getElem_of_mem hx
    exact okR_iff.2 (h j hj)⟩
theorem allR_false {l : List Rg} {j : Nat} (h : j < l.length) (hj : okR l[j] = false) : allR l = false := by
  cases ha : allR l with
  | false => rfl
  | true => rw [okR_iff.2 (allR_true.1 ha j h)] at hj; cases hj

/-- the number of a bottle's first error. -/
def checkS (b : Bot) : Int :=
  if 24 < b.rings.length then 3 else if b.rings.length = 0 then 1 else if allR b.rings = false then 1
  else if (decide (loS b.rings b.rings.length ≤ 1000) && decide (1000 ≤ hiS b.rings b.rings.length)) = false then 12
  else if btw b.flaw 1 1000 = false then 1 else if btw b.tough 0 1000000000000000 = false then 1 else 0

structure OkS (b : Bot) : Prop where
  most : b.rings.length ≤ 24
  some : b.rings.length ≠ 0
  rings : ∀ j (h : j < b.rings.length), OkR b.rings[j]
  flaw : 1 ≤ b.flaw ∧ b.flaw ≤ 1000
  tough : 0 ≤ b.tough ∧ b.tough ≤ 1000000000000000

theorem okS_of {b : Bot} (h : checkS b = 0) : OkS b := by
  unfold checkS at h
  split at h
  · cases h
  split at h
  · cases h
  split at h
  · cases h
  split at h
  · cases h
  split at h
  · cases h
  split at h
  · cases h
  rename_i h1 h2 h3 h4 h5 h6
  exact ⟨by omega, h2, allR_true.1 (by simpa using h3), btw_true.1 (by simpa using h5), btw_true.1 (by simpa using h6)⟩

theorem checkS_bd (b : Bot) : 0 ≤ checkS b ∧ checkS b ≤ 12 := by
  unfold checkS
  repeat' split
  all_goals omega

/-- products of numbers that are not below 0. -/
theorem mulB {a b A B : Int} (ha : 0 ≤ a ∧ a ≤ A) (hb : 0 ≤ b ∧ b ≤ B) : 0 ≤ a * b ∧ a * b ≤ A * B :=
  ⟨Int.mul_nonneg ha.1 hb.1, Int.mul_le_mul ha.2 hb.2 hb.1 (by omega)⟩
theorem mulP {a b A B : Int} (ha : 1 ≤ a ∧ a ≤ A) (hb : 1 ≤ b ∧ b ≤ B) : 1 ≤ a * b ∧ a * b ≤ A * B := by
  have h1 := mulB (a := a) (b := b) (A := A) (B := B) (by omega) (by omega)
  have h2 : 1 * 1 ≤ a * b := Int.mul_le_mul ha.1 hb.1 (by omega) (by omega)
  omega

def thickR (r : Rg) (w : Sp) : Sp :=
  ⟨(200 * w.lo * r.share.lo * 113) / (r.radius.hi * r.height.hi * 355), (200 * w.hi * r.share.hi * 106 + r.radius.lo * r.height.lo * 333 - 1) / (r.radius.lo * r.height.lo * 333)⟩

structure OkW (w : Sp) : Prop where
  lo : 1 ≤ w.lo
  le : w.lo ≤ w.hi
  hi : w.hi ≤ 100000

theorem thick_bd {r : Rg} {w : Sp} (hr : OkR r) (hw : OkW w) :
    (0 ≤ 200 * w.lo ∧ 200 * w.lo ≤ 20000000) ∧ (0 ≤ 200 * w.lo * r.share.lo ∧ 200 * w.lo * r.share.lo ≤ 20000000000) ∧ (1 ≤ r.radius.hi * r.height.hi ∧ r.radius.hi * r.height.hi ≤ 5000000) ∧
    (0 ≤ 200 * w.hi ∧ 200 * w.hi ≤ 20000000) ∧ (0 ≤ 200 * w.hi * r.share.hi ∧ 200 * w.hi * r.share.hi ≤ 20000000000) ∧ (1 ≤ r.radius.lo * r.height.lo ∧ r.radius.lo * r.height.lo ≤ 5000000) := by
  have h1 := hr.radius
  have h2 := hr.height
  have h3 := hr.share
  have h4 := hw.lo
  have h5 := hw.le
  have h6 := hw.hi
  have a1 := mulB (a := 200 * w.lo) (A := 20000000) (b := r.share.lo) (B := 1000) (by omega) (by omega)
  have a2 := mulB (a := 200 * w.hi) (A := 20000000) (b := r.share.hi) (B := 1000) (by omega) (by omega)
  have a3 := mulP (a := r.radius.hi) (A := 1000) (b := r.height.hi) (B := 5000) (by omega) (by omega)
  have a4 := mulP (a := r.radius.lo) (A := 1000) (b := r.height.lo) (B := 5000) (by omega) (by omega)
  omega

theorem thickR_bd {r : Rg} {w : Sp} (hr : OkR r) (hw : OkW w) : (0 ≤ (thickR r w).lo ∧ (thickR r w).lo ≤ 2260000000000) ∧ 0 ≤ (thickR r w).hi ∧ (thickR r w).hi ≤ 2120000000000 := by
  obtain ⟨h1, h2, h3, h4, h5, h6⟩ := thick_bd hr hw
  unfold thickR
  simp only
  generalize 200 * w.lo * r.share.lo = x at *
  generalize 200 * w.hi * r.share.hi = y at *
  generalize r.radius.hi * r.height.hi = d at *
  generalize r.radius.lo * r.height.lo = e at *
  have q1 : x * 113 / (d * 355) ≤ x * 113 := Int.ediv_le_self _ (by omega)
  have q2 : 0 ≤ x * 113 / (d * 355) := Int.ediv_nonneg (by omega) (by omega)
  have q3 : 0 ≤ (y * 106 + e * 333 - 1) / (e * 333) := Int.ediv_nonneg (by omega) (by omega)
  have q4 : (y * 106 + e * 333 - 1) / (e * 333) ≤ y * 106 := by
    have h7 : (y * 106 + e * 333 - 1) / (e * 333) < y * 106 + 1 := by
      rw [Int.ediv_lt_iff_lt_mul (by omega)]
      have : (y * 106 + 1) * 1 ≤ (y * 106 + 1) * (e * 333) - 0 := by
        have := Int.mul_le_mul_of_nonneg_left (c := y * 106 + 1) (show (1 : Int) ≤ e * 333 by omega) (by omega)
        omega
      rw [Int.add_mul, Int.one_mul]
      have h8 := Int.mul_le_mul_of_nonneg_left (c := y * 106) (show (1 : Int) ≤ e * 333 by omega) (by omega)
      omega
    omega
  omega

def thickL (b : Bot) (w : Sp) : List Sp := b.rings.map fun r => thickR r w
/-- what Thickness tells: the spans, and the error's number. -/
def thickS (b : Bot) (w : Sp) : List Sp × Int := if checkS b = 0 then (if wi w 1 100000 = true then (thickL b w, 0) else ([], 1)) else ([], checkS b)

end Go.Proofs.YtaldpalhckdcdaaGreatDoor
