/- A line over a recipe is a form over its grams; no statement is proved here. -/
import Derived.Test.YtpkggjfaefkiiaaMeans
namespace Go.Proofs.Ytpkggjfaefkiiaa
open Go.RowKit Go.PlainAid
set_option linter.unusedVariables false

theorem grE_lin {n a b r l h : Int} (hab : a ≤ b) (hlh : l ≤ h) (hr : 0 ≤ r) : grE n ⟨a + r * l, b + r * h⟩ = grE n ⟨a, b⟩ + grE n ⟨l, h⟩ * r := by
  have h1 : r * l ≤ r * h := Int.mul_le_mul_of_nonneg_left hlh hr
  by_cases hn : 0 ≤ n
  · rw [grE_pos hn (by simp only; omega), grE_pos hn (by simpa using hab), grE_pos hn (by simpa using hlh)]
    simp only
    rw [Int.mul_add, Int.mul_comm r h, Int.mul_assoc]
  · rw [grE_neg (by omega) (by simp only; omega), grE_neg (by omega) (by simpa using hab), grE_neg (by omega) (by simpa using hlh)]
    simp only
    rw [Int.mul_add, Int.mul_comm r l, Int.mul_assoc]

theorem loSum_succ (b : Bat) (r : List Int) (c q : Nat) : loSum b r (c + 1) q = loSum b r c q + r.getD c 0 * (cont b c q).lo := by
  unfold loSum
  rw [List.range_succ, List.map_append, List.map_singleton, sum_snoc]
theorem hiSum_succ (b : Bat) (r : List Int) (c q : Nat) : hiSum b r (c + 1) q = hiSum b r c q + r.getD c 0 * (cont b c q).hi := by
  unfold hiSum
  rw [List.range_succ, List.map_append, List.map_singleton, sum_snoc]

/-- a form over what some materials bring. -/
def sumF (o : Nat → Int) (b : Bat) (r : List Int) (k n : Nat) : Int := ((List.range n).map fun i => grE (o i) ⟨loSum b r k i, hiSum b r k i⟩).sum
theorem sumF_succ (o : Nat → Int) (b : Bat) (r : List Int) (k n : Nat) : sumF o b r k (n + 1) = sumF o b r k n + grE (o n) ⟨loSum b r k n, hiSum b r k n⟩ := by
  unfold sumF
  rw [List.range_succ, List.map_append, List.map_singleton, sum_snoc]

def sumO (o : Nat → Int) (l : List Sp) (n : Nat) : Int := ((List.range n).map fun i => grE (o i) (l.getD i ⟨0, 0⟩)).sum
theorem sumO_succ (o : Nat → Int) (l : List Sp) (n : Nat) : sumO o l (n + 1) = sumO o l n + grE (o n) (l.getD n ⟨0, 0⟩) := by
  unfold sumO
  rw [List.range_succ, List.map_append, List.map_singleton, sum_snoc]

theorem map_at {α β : Type} (f : α → β) (l : List α) (k : Nat) (d : β) (h : k < l.length) : (l.map f).getD k d = f (l[k]'h) := by
  simp [List.getD, List.getElem?_eq_getElem h]

theorem cont_at {b : Bat} {k : Nat} (h : k < b.mats.length) (i : Nat) : cont b k i = (b.mats[k]'h).content.getD i ⟨0, 0⟩ := by
  unfold cont
  rw [List.getElem?_eq_getElem h]

theorem sumF_step {b : Bat} (hb : OkB b) {r : List Int} (hr : ∀ x ∈ r, 0 ≤ x ∧ x ≤ 10000) (hl : r.length = b.mats.length) (o : Nat → Int) {k : Nat} (hk : k < b.mats.length) :
    ∀ n, n ≤ b.oxides.length → sumF o b r (k + 1) n = sumF o b r k n + sumO o (b.mats[k]'hk).content n * r.getD k 0 := by
  intro n
  induction n with
  | zero => intro _; simp [sumF, sumO]
  | succ n ih =>
    intro hn
    have h1 := ih (by omega)
    have h2 := sums_ok hb hr hl n (by omega) k (by omega)
    have h3 := cont_ok hb k n hk (by omega)
    have h4 := hr _ (getD_mem (d := 0) (show k < r.length by omega))
    rw [sumF_succ, sumF_succ, sumO_succ, h1, loSum_succ, hiSum_succ, grE_lin h2.2.1 h3.le h4.1, Int.add_mul, ← cont_at hk]
    have e : (⟨(cont b k n).lo, (cont b k n).hi⟩ : Sp) = cont b k n := rfl
    rw [e]
    omega

theorem dot_sumF {b : Bat} (hb : OkB b) {r : List Int} (hr : ∀ x ∈ r, 0 ≤ x ∧ x ≤ 10000) (hl : r.length = b.mats.length) (o : Nat → Int) {n : Nat} (hn : n ≤ b.oxides.length) :
    ∀ k, k ≤ b.mats.length → dotTo (b.mats.map fun m => sumO o m.content n) r k = sumF o b r k n := by
  intro k
  induction k with
  | zero =>
    intro _
    have : sumF o b r 0 n = 0 := by
      clear hn
      induction n with
      | zero => rfl
      | succ n ih => rw [sumF_succ, ih]; simp [grE, loSum, hiSum]
    rw [this]; simp [dotTo]
  | succ k ih =>
    intro hk
    rw [dotTo_succ', ih (by omega), sumF_step hb hr hl o (by omega) n hn, map_at _ _ _ _ (show k < b.mats.length by omega)]

theorem grams_at {b : Bat} (hb : OkB b) {r : List Int} (hr : ∀ x ∈ r, 0 ≤ x ∧ x ≤ 10000) (hl : r.length = b.mats.length) {i : Nat} (hi : i < b.oxides.length) :
    (gramsB b r).getD i ⟨0, 0⟩ = ⟨loSum b r b.mats.length i, hiSum b r b.mats.length i⟩ := by
  have hlen : i < (gTo b r b.mats.length 0).length := by rw [gTo_len]; exact hi
  show (gTo b r b.mats.length 0).getD i ⟨0, 0⟩ = _
  rw [show (gTo b r b.mats.length 0).getD i ⟨0, 0⟩ = (gTo b r b.mats.length 0)[i] from by simp [List.getD, List.getElem?_eq_getElem hlen]]
  rw [gTo_get, if_neg (by omega)]
  exact gAt_ok hb hr hl i hi

theorem sumF_grams {b : Bat} (hb : OkB b) {r : List Int} (hr : ∀ x ∈ r, 0 ≤ x ∧ x ≤ 10000) (hl : r.length = b.mats.length) (o : Nat → Int) :
    ∀ n, n ≤ b.oxides.length → sumF o b r b.mats.length n = sumO o (gramsB b r) n := by
  intro n
  induction n with
  | zero => intro _; rfl
  | succ n ih =>
    intro hn
    rw [sumF_succ, sumO_succ, ih (by omega), grams_at hb hr hl (by omega)]

/-- a line over a recipe is a form over its grams. -/
theorem dot_grams {b : Bat} (hb : OkB b) {r : List Int} (hr : ∀ x ∈ r, 0 ≤ x ∧ x ≤ 10000) (hl : r.length = b.mats.length) (o : Nat → Int) :
    dotTo (b.mats.map fun m => sumO o m.content b.oxides.length) r b.mats.length = sumO o (gramsB b r) b.oxides.length := by
  rw [dot_sumF hb hr hl o (Nat.le_refl _) _ (Nat.le_refl _), sumF_grams hb hr hl o _ (Nat.le_refl _)]

theorem fac_sumO (f : Fm) (l : List Sp) (n : Nat) : facE f l n = sumO (fun i => overE f (f.coefs.getD i 0)) l n := rfl
theorem fE_sumO (c : List Int) (m : Int) (g : List Sp) (n : Nat) : fE c m g n = sumO (fun i => c.getD i 0 - m) g n := rfl

theorem neg_at (c : List Int) (i : Nat) (h : i < c.length) : (negB c).getD i 0 = -(c.getD i 0) := by
  simp [negB, List.getD, List.getElem?_eq_getElem h]

theorem sumO_congr {o p : Nat → Int} {l : List Sp} {n : Nat} (h : ∀ i, i < n → o i = p i) : sumO o l n = sumO p l n := by
  unfold sumO
  congr 1
  apply List.map_congr_left
  intro i hi
  rw [h i (List.mem_range.1 hi)]

end Go.Proofs.Ytpkggjfaefkiiaa
