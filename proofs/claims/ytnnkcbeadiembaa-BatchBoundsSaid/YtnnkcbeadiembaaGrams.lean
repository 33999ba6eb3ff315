/- The grams of a recipe; no statement is proved here. -/
import Derived.Test.YtnnkcbeadiembaaPasses
namespace Go.Proofs.Ytnnkcbeadiembaa
open Go.RowKit Go.PlainAid
set_option linter.unusedVariables false

def cont (b : Bat) (k q : Nat) : Sp := match b.mats[k]? with | some m => m.content.getD q ⟨0, 0⟩ | none => ⟨0, 0⟩
def loSum (b : Bat) (r : List Int) (c q : Nat) : Int := ((List.range c).map fun k => r.getD k 0 * (cont b k q).lo).sum
def hiSum (b : Bat) (r : List Int) (c q : Nat) : Int := ((List.range c).map fun k => r.getD k 0 * (cont b k q).hi).sum
def gAt (b : Bat) (r : List Int) (c q : Nat) : Sp := ⟨wrap64 (loSum b r c q), wrap64 (hiSum b r c q)⟩
/-- behind c materials, and behind j oxides of the next one. -/
def gTo (b : Bat) (r : List Int) (c j : Nat) : List Sp := (List.range b.oxides.length).map fun q => gAt b r (if q < j then c + 1 else c) q
def gramsB (b : Bat) (r : List Int) : List Sp := gTo b r b.mats.length 0

theorem gTo_len (b : Bat) (r : List Int) (c j : Nat) : (gTo b r c j).length = b.oxides.length := by simp [gTo]
theorem gTo_get (b : Bat) (r : List Int) (c j q : Nat) (h : q < (gTo b r c j).length) : (gTo b r c j)[q] = gAt b r (if q < j then c + 1 else c) q := by simp [gTo]
theorem gTo_next (b : Bat) (r : List Int) (c j : Nat) (h : b.oxides.length ≤ j) : gTo b r c j = gTo b r (c + 1) 0 := by
  unfold gTo
  apply List.map_congr_left
  intro q hq
  have := List.mem_range.1 hq
  rw [if_pos (by omega), if_neg (by omega)]

theorem gAt_succ (b : Bat) (r : List Int) (c q : Nat) (m : Mat) (s : Sp) (hm : b.mats[c]? = some m) (hs : m.content[q]? = some s) :
    gAt b r (c + 1) q = ⟨wrap64 ((gAt b r c q).lo + wrap64 (r.getD c 0 * s.lo)), wrap64 ((gAt b r c q).hi + wrap64 (r.getD c 0 * s.hi))⟩ := by
  have e : cont b c q = s := by simp [cont, hm, List.getD, hs]
  unfold gAt
  simp only [wrap_add', wrap_add]
  unfold loSum hiSum
  rw [List.range_succ, List.map_append, List.map_append, List.map_singleton, List.map_singleton, sum_snoc, sum_snoc, e]

theorem gTo_set (b : Bat) (r : List Int) (c j : Nat) (h : j < b.oxides.length) : (gTo b r c j).set j (gAt b r (c + 1) j) = gTo b r c (j + 1) := by
  apply List.ext_getElem
  · simp [gTo]
  intro q h1 h2
  rw [gTo_get]
  by_cases hq : q = j
  · subst hq
    rw [List.getElem_set_self, if_pos (by omega)]
  · rw [List.getElem_set_ne (by omega), gTo_get]
    by_cases hj : q < j
    · rw [if_pos hj, if_pos (by omega)]
    · rw [if_neg hj, if_neg (by omega)]

theorem flat_set0 (l : List Sp) (j : Nat) (a : Int) (h : j < l.length) : (l.flatMap spCells).set (j * 2) (.int .i64 a) = (l.set j ⟨a, (l[j]'h).hi⟩).flatMap spCells := by
  induction l generalizing j with
  | nil => simp at h
  | cons x l ih =>
    cases j with
    | zero => rfl
    | succ j =>
      rw [show (j + 1) * 2 = j * 2 + 2 from by omega]
      show Value.int .i64 x.lo :: Value.int .i64 x.hi :: ((l.flatMap spCells).set (j * 2) (.int .i64 a)) = Value.int .i64 x.lo :: Value.int .i64 x.hi :: ((l.set j ⟨a, (l[j]'(by simpa using h)).hi⟩).flatMap spCells)
      rw [ih j (by simpa using h)]
theorem flat_set1 (l : List Sp) (j : Nat) (a : Int) (h : j < l.length) : (l.flatMap spCells).set (j * 2 + 1) (.int .i64 a) = (l.set j ⟨(l[j]'h).lo, a⟩).flatMap spCells := by
  induction l generalizing j with
  | nil => simp at h
  | cons x l ih =>
    cases j with
    | zero => rfl
    | succ j =>
      rw [show (j + 1) * 2 + 1 = j * 2 + 1 + 2 from by omega]
      show Value.int .i64 x.lo :: Value.int .i64 x.hi :: ((l.flatMap spCells).set (j * 2 + 1) (.int .i64 a)) = Value.int .i64 x.lo :: Value.int .i64 x.hi :: ((l.set j ⟨(l[j]'(by simpa using h)).lo, a⟩).flatMap spCells)
      rw [ih j (by simpa using h)]

theorem zero_spans (n : Nat) : (madeCells #[Value.int .i64 0, Value.int .i64 0] (n * 2)).toList = (List.replicate n (⟨0, 0⟩ : Sp)).flatMap spCells := by
  apply List.ext_getElem?
  intro j
  by_cases hj : j < n * 2
  · obtain ⟨q, t, ht, rfl⟩ : ∃ q t, t < 2 ∧ j = q * 2 + t := ⟨j / 2, j % 2, by omega, by omega⟩
    rw [flat_at spCells 2 (fun _ => rfl) _ q t (by simp; omega) ht]
    simp only [List.getElem_replicate]
    have : t = 0 ∨ t = 1 := by omega
    rcases this with rfl | rfl
    · simp only [madeCells, spCells, Nat.add_zero] at hj ⊢
      simp
      exact ⟨q * 2, by rw [List.getElem?_range (by omega)], by simp⟩
    · simp only [madeCells, spCells] at hj ⊢
      simp
      exact ⟨q * 2 + 1, by rw [List.getElem?_range (by omega)], by simp [Nat.add_mod]⟩
  · rw [List.getElem?_eq_none (by simp [madeCells]; omega), List.getElem?_eq_none (by rw [flat_len spCells 2 (fun _ => rfl)]; simp; omega)]

theorem gTo_zero (b : Bat) (r : List Int) : gTo b r 0 0 = List.replicate b.oxides.length ⟨0, 0⟩ := by
  apply List.ext_getElem
  · simp [gTo]
  intro q h1 h2
  rw [gTo_get, List.getElem_replicate, if_neg (by omega)]
  simp [gAt, loSum, hiSum, wrap64]

end Go.Proofs.Ytnnkcbeadiembaa
