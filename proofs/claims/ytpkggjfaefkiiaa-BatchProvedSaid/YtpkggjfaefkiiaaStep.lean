/- The allowed recipes in their order: the mathematics; no statement is proved here. -/
import Derived.Test.YtpkggjfaefkiiaaProv1
import Derived.Test.YtpkggjfaefkiiaaPL
import Derived.Deep.QuietTactic
import Derived.BigQuiet
import Derived.StillTailTactics
namespace Go.Proofs.Ytpkggjfaefkiiaa
open Go.RowKit Go.PlainAid
set_option linter.unusedVariables false

def valsM (m : Mat) : List Int := (List.range ((stepsE m).toNat + 1)).map fun i : Nat => m.least + (i : Int) * m.step
def recsM : List Mat → List (List Int)
  | [] => [[]]
  | m :: ms => (valsM m).flatMap fun x => (recsM ms).map (x :: ·)
/-- the next recipe. -/
def nextM : List Mat → List Int → Option (List Int)
  | m :: ms, x :: xs => match nextM ms xs with
    | some ys => some (x :: ys)
    | none => if x + m.step ≤ m.most then some ((x + m.step) :: ms.map Mat.least) else none
  | _, _ => none

theorem vals_len (m : Mat) : (valsM m).length = (stepsE m).toNat + 1 := by simp [valsM]
theorem vals_at (m : Mat) (q : Nat) (h : q < (valsM m).length) : (valsM m)[q] = m.least + (q : Int) * m.step := by simp [valsM]

theorem flat_length (R : List (List Int)) : ∀ L : List Int, (L.flatMap fun x => R.map (x :: ·)).length = L.length * R.length := by
  intro L
  induction L with
  | nil => simp
  | cons a L ih => rw [List.flatMap_cons, List.length_append, List.length_map, ih, List.length_cons, Nat.succ_mul, Nat.add_comm]
theorem flat_get (R : List (List Int)) : ∀ (L : List Int) (q t : Nat) (hq : q < L.length) (ht : t < R.length), (L.flatMap fun x => R.map (x :: ·))[q * R.length + t]? = some (L[q] :: R[t]) := by
  intro L
  induction L with
  | nil => intro q t hq; simp at hq
  | cons a L ih =>
    intro q t hq ht
    rw [List.flatMap_cons]
    cases q with
    | zero =>
      rw [Nat.zero_mul, Nat.zero_add, List.getElem?_append_left (by simpa using ht), List.getElem?_map, List.getElem?_eq_getElem ht]
      rfl
    | succ q =>
      rw [List.getElem?_append_right (by rw [List.length_map, Nat.succ_mul]; omega), List.length_map, show (q + 1) * R.length + t - R.length = q * R.length + t from by rw [Nat.succ_mul]; omega, ih q t (by simpa using hq) ht]
      rfl

theorem recs_pos (ms : List Mat) : 0 < (recsM ms).length := by
  induction ms with
  | nil => simp [recsM]
  | cons m ms ih => rw [recsM, flat_length, vals_len]; exact Nat.mul_pos (by omega) ih

structure StOk (m : Mat) : Prop where
  step : 0 < m.step
  le : m.least ≤ m.most

theorem recs_first : ∀ ms : List Mat, (recsM ms)[0]? = some (ms.map Mat.least) := by
  intro ms
  induction ms with
  | nil => rfl
  | cons m ms ih =>
    have h1 := recs_pos ms
    have h2 := flat_get (recsM ms) (valsM m) 0 0 (by rw [vals_len]; omega) h1
    rw [Nat.zero_mul, Nat.zero_add, vals_at] at h2
    rw [recsM, h2]
    rw [List.getElem?_eq_getElem h1] at ih
    simp only [Option.some.injEq] at ih
    rw [ih]
    simp

theorem steps_more {m : Mat} (h : StOk m) (q : Nat) : m.least + (q : Int) * m.step + m.step ≤ m.most ↔ q + 1 < (stepsE m).toNat + 1 := by
  have h1 : 0 ≤ stepsE m := Int.ediv_nonneg (by have := h.le; omega) (by have := h.step; omega)
  have h2 := Int.le_ediv_iff_mul_le (a := (q : Int) + 1) (b := m.most - m.least) h.step
  rw [Int.add_mul, Int.one_mul] at h2
  unfold stepsE at h1 ⊢
  omega

/-- the recipe behind one in the list is the next one. -/
theorem next_at : ∀ ms : List Mat, (∀ m ∈ ms, StOk m) → ∀ i (h : i < (recsM ms).length), nextM ms ((recsM ms)[i]) = (recsM ms)[i + 1]? := by
  intro ms
  induction ms with
  | nil => intro _ i h; simp [recsM] at h; subst h; simp [recsM, nextM]
  | cons m ms ih =>
    intro hok i h
    have hN := recs_pos ms
    have hm := hok m List.mem_cons_self
    have hms := fun x hx => hok x (List.mem_cons_of_mem _ hx)
    have hlen : (recsM (m :: ms)).length = (valsM m).length * (recsM ms).length := flat_length _ _
    obtain ⟨q, t, ht, hqt⟩ : ∃ q t, t < (recsM ms).length ∧ i = q * (recsM ms).length + t := ⟨i / (recsM ms).length, i % (recsM ms).length, Nat.mod_lt _ hN, by rw [Nat.mul_comm]; exact (Nat.div_add_mod _ _).symm⟩
    have hq : q < (valsM m).length := by
      rcases Nat.lt_or_ge q (valsM m).length with h1 | h1
      · exact h1
      · have := Nat.mul_le_mul_right (recsM ms).length h1
        omega
    have e1 : (recsM (m :: ms))[i]? = some ((valsM m)[q] :: (recsM ms)[t]) := by rw [hqt]; exact flat_get _ _ q t hq ht
    rw [List.getElem?_eq_getElem h, Option.some.injEq] at e1
    rw [e1]
    have h3 := ih hms t ht
    unfold nextM
    rw [h3]
    by_cases h4 : t + 1 < (recsM ms).length
    · rw [List.getElem?_eq_getElem h4]
      have := flat_get (recsM ms) (valsM m) q (t + 1) hq h4
      show some _ = (recsM (m :: ms))[i + 1]?
      rw [hqt, Nat.add_assoc]
      exact this.symm
    · rw [List.getElem?_eq_none (by omega)]
      have ht2 : t + 1 = (recsM ms).length := by omega
      show (if (valsM m)[q] + m.step ≤ m.most then some (((valsM m)[q] + m.step) :: ms.map Mat.least) else none) = (recsM (m :: ms))[i + 1]?
      have hi : i + 1 = (q + 1) * (recsM ms).length + 0 := by rw [hqt, Nat.succ_mul]; omega
      rw [vals_at]
      by_cases h5 : m.least + (q : Int) * m.step + m.step ≤ m.most
      · rw [if_pos h5]
        have h6 := (steps_more hm q).1 h5
        have h7 : q + 1 < (valsM m).length := by rw [vals_len]; exact h6
        have h8 := flat_get (recsM ms) (valsM m) (q + 1) 0 h7 hN
        have h9 := recs_first ms
        rw [List.getElem?_eq_getElem hN, Option.some.injEq] at h9
        rw [h9, vals_at] at h8
        rw [hi]
        refine Eq.trans ?_ h8.symm
        congr 2
        rw [Int.natCast_succ, Int.add_mul]
        omega
      · rw [if_neg h5]
        have h6 : (valsM m).length ≤ q + 1 := by
          rw [vals_len]
          have := mt (steps_more hm q).2 h5
          omega
        rw [List.getElem?_eq_none]
        rw [hlen, hi]
        have := Nat.mul_le_mul_right (recsM ms).length h6
        omega

def lexLt : List Int → List Int → Prop
  | x :: xs, y :: ys => x < y ∨ (x = y ∧ lexLt xs ys)
  | _, _ => False

/-- the list is in order. -/
theorem recs_lex : ∀ ms : List Mat, (∀ m ∈ ms, StOk m) → ∀ i j (hi : i < (recsM ms).length) (hj : j < (recsM ms).length), i < j → lexLt ((recsM ms)[i]) ((recsM ms)[j]) := by
  intro ms
  induction ms with
  | nil => intro _ i j hi hj hij; simp [recsM] at hi hj; omega
  | cons m ms ih =>
    intro hok i j hi hj hij
    have hN := recs_pos ms
    have hm := hok m List.mem_cons_self
    have hms := fun x hx => hok x (List.mem_cons_of_mem _ hx)
    have hlen : (recsM (m :: ms)).length = (valsM m).length * (recsM ms).length := flat_length _ _
    have key : ∀ i, i < (recsM (m :: ms)).length → ∃ q t, t < (recsM ms).length ∧ q < (valsM m).length ∧ i = q * (recsM ms).length + t := by
      intro i hi
      refine ⟨i / (recsM ms).length, i % (recsM ms).length, Nat.mod_lt _ hN, ?_, by rw [Nat.mul_comm]; exact (Nat.div_add_mod _ _).symm⟩
      exact Nat.div_lt_of_lt_mul (by rw [Nat.mul_comm]; omega)
    obtain ⟨q1, t1, ht1, hq1, e1⟩ := key i hi
    obtain ⟨q2, t2, ht2, hq2, e2⟩ := key j hj
    have f1 : (recsM (m :: ms))[i] = (valsM m)[q1] :: (recsM ms)[t1] := by
      have := flat_get (recsM ms) (valsM m) q1 t1 hq1 ht1
      rw [← e1] at this
      exact (List.getElem_eq_iff hi).2 this
    have f2 : (recsM (m :: ms))[j] = (valsM m)[q2] :: (recsM ms)[t2] := by
      have := flat_get (recsM ms) (valsM m) q2 t2 hq2 ht2
      rw [← e2] at this
      exact (List.getElem_eq_iff hj).2 this
    rw [f1, f2, vals_at, vals_at]
    rcases Nat.lt_trichotomy q1 q2 with h | h | h
    · left
      have := Int.mul_lt_mul_of_pos_right (show (q1 : Int) < q2 by omega) hm.step
      omega
    · subst h
      right
      exact ⟨rfl, ih hms t1 t2 ht1 ht2 (by omega)⟩
    · exfalso
      have := Nat.mul_le_mul_right (recsM ms).length (show q2 + 1 ≤ q1 from h)
      rw [Nat.succ_mul] at this
      omega

theorem recs_len : ∀ (ms : List Mat) (r : List Int), r ∈ recsM ms → r.length = ms.length := by
  intro ms
  induction ms with
  | nil => intro r hr; simp [recsM] at hr; simp [hr]
  | cons m ms ih =>
    intro r hr
    rw [recsM] at hr
    obtain ⟨x, -, hx⟩ := List.mem_flatMap.1 hr
    obtain ⟨y, hy, rfl⟩ := List.mem_map.1 hx
    simp [ih y hy]

/-- what is allowed of a material. -/
def okM (m : Mat) (x : Int) : Prop := m.least ≤ x ∧ x ≤ m.most ∧ (x - m.least) % m.step = 0
theorem vals_mem {m : Mat} (h : StOk m) (x : Int) : x ∈ valsM m ↔ okM m x := by
  unfold valsM okM
  rw [List.mem_map]
  have hs := h.step
  have h0 : 0 ≤ stepsE m := Int.ediv_nonneg (by have := h.le; omega) (by omega)
  constructor
  · rintro ⟨i, hi, rfl⟩
    have hi := List.mem_range.1 hi
    have h1 : (i : Int) * m.step ≤ m.most - m.least := (Int.le_ediv_iff_mul_le (a := (i : Int)) (b := m.most - m.least) hs).1 (by unfold stepsE at hi h0; omega)
    have h2 : 0 ≤ (i : Int) * m.step := Int.mul_nonneg (by omega) (by omega)
    refine ⟨by omega, by omega, ?_⟩
    rw [show m.least + (i : Int) * m.step - m.least = (i : Int) * m.step by omega]
    exact Int.mul_emod_left _ _
  · rintro ⟨h1, h2, h3⟩
    have h4 := Int.mul_ediv_add_emod (x - m.least) m.step
    rw [h3, Int.mul_comm] at h4
    have h5 : 0 ≤ (x - m.least) / m.step := Int.ediv_nonneg (by omega) (by omega)
    have h6 : (x - m.least) / m.step ≤ stepsE m := Int.ediv_le_ediv hs (by omega)
    refine ⟨((x - m.least) / m.step).toNat, List.mem_range.2 (by omega), ?_⟩
    rw [Int.toNat_of_nonneg h5]
    omega

theorem recs_mem : ∀ (ms : List Mat), (∀ m ∈ ms, StOk m) → ∀ r : List Int, r ∈ recsM ms ↔ r.length = ms.length ∧ ∀ i (h : i < ms.length), okM (ms[i]) (r.getD i 0) := by
  intro ms
  induction ms with
  | nil =>
    intro _ r
    simp only [recsM, List.mem_singleton, List.length_nil, List.length_eq_zero_iff]
    constructor
    · intro h; exact ⟨h, fun i hi => by omega⟩
    · intro h; exact h.1
  | cons m ms ih =>
    intro hok r
    have hm := hok m List.mem_cons_self
    have hms := fun x hx => hok x (List.mem_cons_of_mem _ hx)
    rw [recsM, List.mem_flatMap]
    constructor
    · rintro ⟨x, hx, hr⟩
      obtain ⟨y, hy, rfl⟩ := List.mem_map.1 hr
      obtain ⟨h1, h2⟩ := (ih hms y).1 hy
      refine ⟨by simp [h1], fun i hi => ?_⟩
      cases i with
      | zero => simpa using (vals_mem hm x).1 hx
      | succ i => simpa using h2 i (by simpa using hi)
    · rintro ⟨h1, h2⟩
      cases r with
      | nil => simp at h1
      | cons x y =>
        refine ⟨x, (vals_mem hm x).2 (show okM m x from h2 0 (by simp)), List.mem_map.2 ⟨y, (ih hms y).2 ⟨by simpa using h1, fun i hi => ?_⟩, rfl⟩⟩
        exact (show okM (ms[i]) (y.getD i 0) from h2 (i + 1) (by simpa using hi))

end Go.Proofs.Ytpkggjfaefkiiaa

namespace Go.Proofs.Ytpkggjfaefkiiaa
open Go.RowKit Go.PlainAid
set_option linter.unusedVariables false

theorem next_front : ∀ (A B : List Mat) (X Y Z : List Int), A.length = X.length → nextM B Y = some Z → nextM (A ++ B) (X ++ Y) = some (X ++ Z) := by
  intro A
  induction A with
  | nil => intro B X Y Z hl h; cases X with
    | nil => exact h
    | cons x X => simp at hl
  | cons a A ih => intro B X Y Z hl h; cases X with
    | nil => simp at hl
    | cons x X =>
      have := ih B X Y Z (by simpa using hl) h
      show nextM (a :: (A ++ B)) (x :: (X ++ Y)) = some (x :: (X ++ Z))
      unfold nextM
      rw [this]

/-- the row while the last j of it are counted. -/
def rowTo (b : Bat) (r : List Int) (j : Nat) : List Int := r.take j ++ (b.mats.map Mat.least).drop j
theorem rowTo_len (b : Bat) (r : List Int) (j : Nat) (hr : r.length = b.mats.length) : (rowTo b r j).length = b.mats.length := by
  unfold rowTo; rw [List.length_append, List.length_take, List.length_drop, List.length_map]; omega
theorem rowTo_all (b : Bat) (r : List Int) (hr : r.length = b.mats.length) : rowTo b r b.mats.length = r := by
  unfold rowTo
  rw [List.take_of_length_le (by omega), List.drop_of_length_le (by simp), List.append_nil]
theorem rowTo_at (b : Bat) (r : List Int) (i : Nat) (hr : r.length = b.mats.length) (hi : i < b.mats.length) : (rowTo b r (i + 1))[i]? = some (r.getD i 0) := by
  unfold rowTo
  rw [List.getElem?_append_left (by rw [List.length_take]; omega), List.getElem?_take_of_lt (by omega), List.getElem?_eq_getElem (by omega)]
  simp [List.getD, List.getElem?_eq_getElem (show i < r.length by omega)]
theorem rowTo_set (b : Bat) (r : List Int) (i : Nat) (x : Int) (hr : r.length = b.mats.length) (hi : i < b.mats.length) : (rowTo b r (i + 1)).set i x = r.take i ++ x :: (b.mats.map Mat.least).drop (i + 1) := by
  unfold rowTo
  rw [List.set_append_left _ _ (by rw [List.length_take]; omega), List.take_succ_eq_append_getElem (by omega), List.set_append_right _ _ (by rw [List.length_take]; omega), List.length_take, show i - min i r.length = 0 by omega, List.set_cons_zero, List.append_assoc]
  rfl
theorem rowTo_back (b : Bat) (r : List Int) (i : Nat) (hr : r.length = b.mats.length) (hi : i < b.mats.length) : (rowTo b r (i + 1)).set i (b.mats[i]).least = rowTo b r i := by
  rw [rowTo_set b r i _ hr hi]
  unfold rowTo
  rw [List.drop_eq_getElem_cons (show i < (b.mats.map Mat.least).length by simpa using hi), List.getElem_map]

theorem next_here {b : Bat} {r : List Int} {i : Nat} (hr : r.length = b.mats.length) (hi : i < b.mats.length) (h : nextM (b.mats.drop (i + 1)) (r.drop (i + 1)) = none) :
    nextM (b.mats.drop i) (r.drop i) = if r.getD i 0 + (b.mats[i]).step ≤ (b.mats[i]).most then some ((r.getD i 0 + (b.mats[i]).step) :: (b.mats.map Mat.least).drop (i + 1)) else none := by
  rw [List.drop_eq_getElem_cons hi, List.drop_eq_getElem_cons (show i < r.length by omega)]
  unfold nextM
  rw [h]
  simp only [List.getD, List.getElem?_eq_getElem (show i < r.length by omega), Option.getD_some, List.map_drop]
theorem next_some {b : Bat} {r : List Int} {i : Nat} (hr : r.length = b.mats.length) (hi : i < b.mats.length) (h : nextM (b.mats.drop (i + 1)) (r.drop (i + 1)) = none) (hx : r.getD i 0 + (b.mats[i]).step ≤ (b.mats[i]).most) :
    nextM b.mats r = some ((rowTo b r (i + 1)).set i (r.getD i 0 + (b.mats[i]).step)) := by
  have h1 := next_here hr hi h
  rw [if_pos hx] at h1
  have h2 := next_front (b.mats.take i) (b.mats.drop i) (r.take i) (r.drop i) _ (by rw [List.length_take, List.length_take]; omega) h1
  rw [List.take_append_drop, List.take_append_drop] at h2
  rw [h2, rowTo_set b r i _ hr hi]

/-- only block g has changed, among what was there. -/
structure Only (g : Nat) (w w' : World) : Prop where
  os : w'.os = w.os
  tape : w'.tape = w.tape
  output : w'.output = w.output
  size : w.heap.size ≤ w'.heap.size
  block : ∀ k, k < w.heap.size → k ≠ g → w'.heap[k]? = w.heap[k]?
theorem Only.refl (g : Nat) (w : World) : Only g w w := ⟨rfl, rfl, rfl, Nat.le_refl _, fun _ _ _ => rfl⟩
theorem Only.trans {g : Nat} {a b c : World} (h : Only g a b) (k : Only g b c) : Only g a c := ⟨k.os.trans h.os, k.tape.trans h.tape, k.output.trans h.output, Nat.le_trans h.size k.size, fun i hi hg => (k.block i (Nat.lt_of_lt_of_le hi h.size) hg).trans (h.block i hi hg)⟩
theorem Only.of_below {g : Nat} {a b : World} (h : Below a.heap.size a b) : Only g a b := ⟨h.os, h.tape, h.output, h.size, fun k hk _ => h.block k hk⟩
theorem Only.alloc {g : Nat} {a b : World} (h : Only g a b) (o : Obj) : Only g a (b.alloc o) := h.trans (Only.of_below (below_box b o))
theorem Only.set {g : Nat} {a b : World} (h : Only g a b) (i : Nat) (v : Value) : Only g a (b.setCell ⟨g, i, none⟩ v) :=
  h.trans ⟨rfl, rfl, rfl, by simp, fun k hk hg => Below.heap_setCell _ _ _ _ hg⟩
theorem Only.drewN {g n : Nat} {a b : World} (h : Only g a b) : Only g a (b.drewN n) := ⟨h.os, h.tape, h.output, h.size, h.block⟩
/-- what lies below g stays. -/
theorem Only.ext {g : Nat} {w w' : World} (h : Only g w w') : Ext (vis (· < g) w) w' := fun p x hp => by
  obtain ⟨h1, h2⟩ := vis_cell.1 hp
  have hlt := cell_lt h2
  unfold World.cell? at h2 ⊢
  rw [h.block _ hlt (by omega)]
  exact h2

def StepTo (b : Bat) (r : List Int) (base g cap : Nat) (w : World) (e : Ending) (w' : World) : Prop :=
  ∃ r', e = .returned (.bool (nextM b.mats r).isSome) ∧ w'.ownsRow base 3 1 (.slice (some ⟨g, 0, none⟩) b.mats.length cap) b.mats.length (r'.map (Value.int .i64)) ∧ (∀ ys, nextM b.mats r = some ys → r' = ys) ∧ Only g w w'

set_option maxHeartbeats 1000000 in
set_option maxRecDepth 100000 in
theorem step_any (vb : Value) (b : Bat) (r : List Int) (base g cap : Nat) (w : World) (h : RBat (vis (· < g) w) vb b) (hk : OkB b) (hr : r.length = b.mats.length) (hbd : ∀ x ∈ r, 0 ≤ x ∧ x ≤ 10000)
    (hown : w.ownsRow base 3 1 (.slice (some ⟨g, 0, none⟩) b.mats.length cap) b.mats.length (r.map (Value.int .i64))) :
    Calls Try.prog 135 #[vb, .slice (some ⟨g, 0, none⟩) b.mats.length cap] w (StepTo b r base g cap w) := by
  obtain ⟨v0, v1, v2, v3, rfl, h0, h1, h2, h3, i1, i2, i3⟩ := id h
  obtain ⟨a0, k0, rfl, -, ⟨-, l0⟩, -⟩ := h0
  obtain ⟨a1, k1, rfl, -, ⟨-, l1⟩, hl⟩ := id h1
  obtain ⟨a2, k2, rfl, -, ⟨-, l2⟩, -⟩ := h2
  obtain ⟨a3, k3, rfl, -, ⟨-, l3⟩, -⟩ := h3
  clear h1 h
  have hmt := hk.mt
  have hgw : g < w.heap.size := own_lt hown _ rfl
  have hA := Only.of_below (g := g) (below_box w (.cells #[.slice a0 b.oxides.length k0, .slice a1 b.mats.length k1, .slice a2 b.shares.length k2, .slice a3 b.props.length k3, .int .i64 b.redox.lo, .int .i64 b.redox.hi, .int .i64 b.wanted] 29))
  have hB := Blk.new w #[.slice a0 b.oxides.length k0, .slice a1 b.mats.length k1, .slice a2 b.shares.length k2, .slice a3 b.props.length k3, .int .i64 b.redox.lo, .int .i64 b.redox.hi, .int .i64 b.wanted] 29
  have hown0 := own_below hown (below_box w (.cells #[.slice a0 b.oxides.length k0, .slice a1 b.mats.length k1, .slice a2 b.shares.length k2, .slice a3 b.props.length k3, .int .i64 b.redox.lo, .int .i64 b.redox.hi, .int .i64 b.wanted] 29)) (own_lt hown)
  rw [show r.map (Value.int .i64) = (rowTo b r b.mats.length).map (Value.int .i64) by rw [rowTo_all b r hr]] at hown0
  have HR := Lib.hid hr
  clear hown hr
  go_enter Try.func135, Try.ntmps135
  go_wp2
  generalize hW : w.alloc (.cells #[.slice a0 b.oxides.length k0, .slice a1 b.mats.length k1, .slice a2 b.shares.length k2, .slice a3 b.props.length k3, .int .i64 b.redox.lo, .int .i64 b.redox.hi, .int .i64 b.wanted] 29) = W at *
  clear hW
  go_loopw [5] (fun i wr => ∃ (j : Nat), j ≤ b.mats.length ∧ i = .int .i64 ((j : Int) - 1) ∧ wr.ownsRow base 3 1 (.slice (some ⟨g, 0, none⟩) b.mats.length cap) b.mats.length ((rowTo b r j).map (Value.int .i64)) ∧ Hid (nextM (b.mats.drop j) (r.drop j) = none) ∧ Only g W wr) (fun i _ => (intOf i + 1).toNat)
  case atStart => exact ⟨b.mats.length, Nat.le_refl _, rfl, hown0, (by show nextM _ _ = none; rw [List.drop_of_length_le (Nat.le_refl _), List.drop_of_length_le (by rw [HR.out]; exact Nat.le_refl _)]; rfl), Only.refl _ _⟩
  case round =>
    clear hown0
    obtain ⟨j, hj, rfl, hown, hno, hO⟩ := hrel
    have hOw := hA.trans hO
    cases j with
    | zero =>
      have hn : nextM b.mats r = none := hno.out
      have d0 : decide ((0 : Int) ≤ ((0 : Nat) : Int) - 1) = false := by simp
      have HN := Lib.hid hn
      clear hl hn hno
      go_wp2
      go_ret
      refine ⟨_, ret_bool ?_, hown, fun ys hy => ?_, hOw⟩
      · rw [HN.out]; rfl
      · rw [HN.out] at hy; cases hy
    | succ i =>
      have hi : i < b.mats.length := by omega
      obtain ⟨b1, o1, rfl, c, ⟨g0, g1, g2, g3, g4, g5, g6⟩, hc, hs⟩ := hl i hi
      obtain ⟨ac, kc, rfl, -, -, -⟩ := id hc
      have e1 := hOw.ext
      simp only at g0 g1 g2 g3 g4 g5 g6
      replace g0 := e1 _ _ g0
      replace g1 := e1 _ _ g1
      replace g2 := e1 _ _ g2
      replace g3 := e1 _ _ g3
      replace g4 := e1 _ _ g4
      replace g5 := e1 _ _ g5
      replace g6 := e1 _ _ g6
      have hmo := hk.mats _ (List.getElem_mem hi)
      have hrb := hbd _ (getD_mem (d := 0) (show i < r.length by rw [HR.out]; exact hi))
      have hnx := next_some HR.out hi hno.out
      have hnh := next_here HR.out hi hno.out
      have hbk := rowTo_back b r i HR.out hi
      have hat := rowTo_at b r i HR.out hi
      have HBK := Lib.hid hbk
      have HNX := Lib.hid hnx
      have HNH := Lib.hid hnh
      have HAT := Lib.hid hat
      have hle := hmo.least
      have hmx := hmo.most
      have hst := hmo.step
      clear hl e1 hbk hnx hnh hat hno hmo
      generalize b.mats[i]'hi = m at *
      generalize r.getD i 0 = x at *
      have n1 : (0 : Int) ≤ (i : Int) := Int.natCast_nonneg _
      have n2 : (i : Int) < (b.mats.length : Int) := by omega
      have f1 : wr.cell? ⟨w.heap.size, 1, none⟩ = some (.slice (some ⟨b1, o1, none⟩) b.mats.length k1) := by
        have := (hB.cell 1 _ rfl : W.cell? ⟨w.heap.size, 1, none⟩ = _)
        unfold World.cell? at this ⊢
        rw [hO.block _ hB.lt (by omega)]
        exact this
      have hI : (((i + 1 : Nat) : Int) - 1) = (i : Int) := by omega
      rw [hI]
      have hX := below_box wr (.cells #[.string m.name, .int .i64 m.price, .int .i64 m.redox, .int .i64 m.least, .int .i64 m.most, .int .i64 m.step, .slice ac m.content.length kc] 68)
      have BX := Blk.new wr #[.string m.name, .int .i64 m.price, .int .i64 m.redox, .int .i64 m.least, .int .i64 m.most, .int .i64 m.step, .slice ac m.content.length kc] 68
      have hown2 := own_below hown hX (own_lt hown)
      have hOX := hO.alloc (.cells #[.string m.name, .int .i64 m.price, .int .i64 m.redox, .int .i64 m.least, .int .i64 m.most, .int .i64 m.step, .slice ac m.content.length kc] 68)
      have hgl : g < wr.heap.size := own_lt hown _ rfl
      have hgne : g ≠ wr.heap.size := by omega
      have u0 := hown2.cellAt i (by omega)
      rw [List.getElem?_map, HAT.out, Option.map_some] at u0
      have z0 := hown2.frozenAt i
      have x3 := BX.cell 3 _ rfl
      have x4 := BX.cell 4 _ rfl
      have x5 := BX.cell 5 _ rfl
      clear hX hown hO hOw hI
      by_cases hx : x + m.step ≤ m.most
      · have d1 : decide (x + m.step ≤ m.most) = true := decide_eq_true hx
        have hS := (hown2.stored i (.int .i64 (x + m.step))).1
        rw [← List.map_set] at hS
        have hOS := hOX.set i (.int .i64 (x + m.step))
        have hn := Lib.hid (HNX.out hx)
        have hSn : ∀ k, ((((wr.alloc (.cells #[.string m.name, .int .i64 m.price, .int .i64 m.redox, .int .i64 m.least, .int .i64 m.most, .int .i64 m.step, .slice ac m.content.length kc] 68)).drewN k).drew).setCell ⟨g, i, none⟩ (.int .i64 (x + m.step))).ownsRow base 3 1 (.slice (some ⟨g, 0, none⟩) b.mats.length cap) b.mats.length (((rowTo b r (i + 1)).set i (x + m.step)).map (Value.int .i64)) := fun _ => hS
        have hOn : ∀ k, Only g w ((((wr.alloc (.cells #[.string m.name, .int .i64 m.price, .int .i64 m.redox, .int .i64 m.least, .int .i64 m.most, .int .i64 m.step, .slice ac m.content.length kc] 68)).drewN k).drew).setCell ⟨g, i, none⟩ (.int .i64 (x + m.step))) := fun k => hA.trans (((hOX.drewN (n := k)).drewN (n := 1)).set i (.int .i64 (x + m.step)))
        have hcn : ∀ k, ((wr.alloc (.cells #[.string m.name, .int .i64 m.price, .int .i64 m.redox, .int .i64 m.least, .int .i64 m.most, .int .i64 m.step, .slice ac m.content.length kc] 68)).drewN k).cell? ⟨g, i, none⟩ = some (.int .i64 x) ∧ ((wr.alloc (.cells #[.string m.name, .int .i64 m.price, .int .i64 m.redox, .int .i64 m.least, .int .i64 m.most, .int .i64 m.step, .slice ac m.content.length kc] 68)).drewN k).frozen? ⟨g, i, none⟩ = false ∧ ((wr.alloc (.cells #[.string m.name, .int .i64 m.price, .int .i64 m.redox, .int .i64 m.least, .int .i64 m.most, .int .i64 m.step, .slice ac m.content.length kc] 68)).drewN k).cell? ⟨wr.heap.size, 5, none⟩ = some (.int .i64 m.step) := fun _ => ⟨u0, z0, x5⟩
        clear hown2 hOX hB hA hS hOS
        go_wp2_with fail
        generalize wr.alloc (.cells #[.string m.name, .int .i64 m.price, .int .i64 m.redox, .int .i64 m.least, .int .i64 m.most, .int .i64 m.step, .slice ac m.content.length kc] 68) = WX at *
        generalize wr.heap.size = nx at *
        have i1 : IntKind.i64.wrap (x + m.step) = x + m.step := IntWalk.i64_in _ (by omega)
        go_quiet (fail)
        go_wp2_with fail
        have hSq := hSn nq
        have hOq := hOn nq
        obtain ⟨y0, y1, y2⟩ := hcn nq
        clear hSn hOn hcn u0 z0 x3 x4 x5
        generalize WX.drewN nq = WR at *
        go_still_tail 7, (by kernel_rfl)
        go_wp2
        go_ret
        have hn2 := hn.out
        exact ⟨_, ret_bool (by rw [hn2]; rfl), hSq, fun ys hy => by rw [hn2] at hy; exact Option.some.inj hy, hOq⟩
      · have d1 : decide (x + m.step ≤ m.most) = false := decide_eq_false hx
        have hS := (hown2.stored i (.int .i64 m.least)).1
        rw [← List.map_set, HBK.out] at hS
        have hSn : ∀ k, (((wr.alloc (.cells #[.string m.name, .int .i64 m.price, .int .i64 m.redox, .int .i64 m.least, .int .i64 m.most, .int .i64 m.step, .slice ac m.content.length kc] 68)).drewN k).setCell ⟨g, i, none⟩ (.int .i64 m.least)).ownsRow base 3 1 (.slice (some ⟨g, 0, none⟩) b.mats.length cap) b.mats.length ((rowTo b r i).map (Value.int .i64)) := fun _ => hS
        have hOn : ∀ k, Only g W (((wr.alloc (.cells #[.string m.name, .int .i64 m.price, .int .i64 m.redox, .int .i64 m.least, .int .i64 m.most, .int .i64 m.step, .slice ac m.content.length kc] 68)).drewN k).setCell ⟨g, i, none⟩ (.int .i64 m.least)) := fun k => ((hOX.drewN (n := k))).set i (.int .i64 m.least)
        have hn2 : nextM (b.mats.drop i) (r.drop i) = none := by rw [HNH.out, if_neg hx]
        have HN2 := Lib.hid hn2
        clear hown2 hOX hB hA hS hn2
        go_wp2_with fail
        generalize wr.alloc (.cells #[.string m.name, .int .i64 m.price, .int .i64 m.redox, .int .i64 m.least, .int .i64 m.most, .int .i64 m.step, .slice ac m.content.length kc] 68) = WX at *
        generalize wr.heap.size = nx at *
        have i1 : IntKind.i64.wrap (x + m.step) = x + m.step := IntWalk.i64_in _ (by omega)
        go_quiet (fail)
        clear i1
        go_wp2
        go_roundw
        case rel => exact ⟨i, by omega, by first | rfl | go_num, hSn _, HN2.out, hOn _⟩
        case measure => simp [intOf]

end Go.Proofs.Ytpkggjfaefkiiaa
