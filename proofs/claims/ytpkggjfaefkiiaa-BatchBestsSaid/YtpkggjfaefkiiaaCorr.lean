/- Correct, by its contract; the specification's Best and Correct, by theirs; no statement is proved here. -/
import Derived.Test.YtpkggjfaefkiiaaSearch
import Derived.Test.YtpkggjfaefkiiaaRRec
namespace Go.Proofs.Ytpkggjfaefkiiaa
open Go.RowKit Go.PlainAid
set_option linter.unusedVariables false

theorem wrap_right (a c : Int) : wrap64 (a + wrap64 c) = wrap64 (a + c) := by unfold wrap64; omega
theorem wrap_both (a c : Int) : wrap64 (wrap64 a + c) = wrap64 (a + c) := by unfold wrap64; omega

/-- both searches find the same. -/
theorem folds_same {b : Bat} {there : List Int} {lots times : Int} {keeps : List Int → Bool} : ∀ (l : List (List Int)) (o : Option (List Int)), (∀ r ∈ l, keeps r = fitsB b there lots times r) →
    l.foldl (bestStep b there lots times) (o.map fun r => (r, dotB (b.mats.map Mat.price) r)) = (l.foldl (refStep b keeps) o).map fun r => (r, dotB (b.mats.map Mat.price) r) := by
  intro l
  induction l with
  | nil => intro o _; rfl
  | cons r l ih =>
    intro o h
    rw [List.foldl_cons, List.foldl_cons, ← ih _ (fun r hr => h r (List.mem_cons_of_mem _ hr))]
    congr 1
    have hk := h r List.mem_cons_self
    unfold bestStep refStep
    rw [hk]
    cases o with
    | none => by_cases hf : fitsB b there lots times r = true <;> simp [hf]
    | some q =>
      by_cases hf : fitsB b there lots times r = true
      · by_cases hc : dotB (b.mats.map Mat.price) q ≤ dotB (b.mats.map Mat.price) r
        · simp [hf, hc, show ¬ dotB (b.mats.map Mat.price) r < dotB (b.mats.map Mat.price) q by omega]
        · simp [hf, hc, show dotB (b.mats.map Mat.price) r < dotB (b.mats.map Mat.price) q by omega]
      · simp [hf]

theorem keeps1_fits {b : Bat} (hok : OkB b) (r : List Int) : keeps1 b r = fitsB b (List.replicate b.mats.length 0) 1 1 r := by
  rw [fits_pass hok]
  unfold keeps1 keepsB passB brokenB
  congr 1
  rw [Bool.eq_iff_iff, List.any_eq_true, List.any_eq_true]
  have e : ∀ l ∈ linesB b, wrap64 (1 * l.bound) = l.bound := fun l hl => by
    have := line_bd hok l hl
    rw [Int.one_mul, wrap_id _ (by unfold I64; omega)]
  constructor
  · rintro ⟨l, hl, h⟩; rw [e l hl] at h; exact ⟨l, hl, h⟩
  · rintro ⟨l, hl, h⟩; exact ⟨l, hl, by rw [e l hl]; exact h⟩

theorem dot_lots {f there r : List Int} {lots : Int} (ht : ∀ x ∈ there, 0 ≤ x ∧ x ≤ 10000) (hr : ∀ x ∈ r, 0 ≤ x ∧ x ≤ 10000) (hlo : 1 ≤ lots ∧ lots ≤ 100) (hl : there.length = r.length) : ∀ k, k ≤ r.length → dotTo f (addL there lots r) k = dotTo f there k + lots * dotTo f r k := by
  intro k
  induction k with
  | zero => intro _; simp [dotTo]
  | succ k ih =>
    intro hk
    have h1 := ht _ (getD_mem (d := 0) (show k < there.length by omega))
    have h2 := hr _ (getD_mem (d := 0) (show k < r.length by omega))
    have h3 : 0 ≤ lots * r.getD k 0 := Int.mul_nonneg (by omega) h2.1
    have h4 : lots * r.getD k 0 ≤ 100 * r.getD k 0 := Int.mul_le_mul_of_nonneg_right hlo.2 h2.1
    have h5 : (addL there lots r).getD k 0 = there.getD k 0 + lots * r.getD k 0 := by
      rw [show (addL there lots r).getD k 0 = wrap64 (there.getD k 0 + wrap64 (lots * r.getD k 0)) by simp [addL, List.getD, show k < r.length by omega]]
      rw [wrap_id (lots * r.getD k 0) (by unfold I64; omega), wrap_id _ (by unfold I64; omega)]
    rw [dotTo_succ', dotTo_succ', dotTo_succ', ih (by omega), h5, Int.mul_add, Int.mul_add, Int.mul_left_comm]
    omega

theorem keepsS_fits {b : Bat} (hok : OkB b) {there : List Int} {lots : Int} (ht : ∀ x ∈ there, 0 ≤ x ∧ x ≤ 10000) (hlo : 1 ≤ lots ∧ lots ≤ 100) (hl : there.length = b.mats.length) {r : List Int} (hr : r ∈ recsM b.mats) : keepsS b there lots r = fitsB b there lots (lots + 1) r := by
  obtain ⟨hrl, hrb⟩ := recs_bnd hok hr
  unfold keepsS keepsB fitsB
  rw [Bool.eq_iff_iff]
  simp only [Bool.not_eq_true', List.any_eq_false, decide_eq_true_eq, List.all_eq_true]
  have key : ∀ l ∈ linesB b, dotB l.fs (addL there lots r) = wrap64 (dotB l.fs there + wrap64 (lots * dotB l.fs r)) := fun l hm => by
    have h1 := line_bd hok l hm
    have h2 := line_len hm
    have hmt := hok.mt
    have e1 := dot_exact h1.2.2 ht (by rw [h2, hl]) (by rw [h2]; exact hmt.2)
    have e2 := dot_exact h1.2.2 hrb (by rw [h2, hrl]) (by rw [h2]; exact hmt.2)
    rw [wrap_right, e1, e2]
    unfold dotB
    rw [dot_lots ht hrb hlo (by omega) _ (by omega)]
  constructor
  · intro h l hm; have := h l hm; rw [key l hm] at this; omega
  · intro h l hm; have := h l hm; rw [key l hm]; omega

def correctB (b : Bat) (there : List Int) (lots : Int) : Option (List Int × Int) × Int :=
  if bothB b there = 0 then (if 1 ≤ lots ∧ lots ≤ 100 then searchB b there lots (lots + 1) else (none, 1)) else (none, bothB b there)

theorem best_ref {b : Bat} (hc : checkB b = 0) (h : ¬ 100000 < cntB b) : bestB b = (((refOver b (keeps1 b) [] none).map fun r => (r, dotB (b.mats.map Mat.price) r)), 0) := by
  have hok := ok_of hc
  unfold bestB searchB
  rw [if_pos hc, if_neg h]
  congr 1
  unfold bestOf refOver
  have := folds_same (b := b) (there := List.replicate b.mats.length 0) (lots := 1) (times := 1) (keeps := keeps1 b) (recsM b.mats) none (fun r _ => keeps1_fits hok r)
  simpa using this
theorem correct_ref {b : Bat} {there : List Int} {lots : Int} (hc : bothB b there = 0) (hlo : 1 ≤ lots ∧ lots ≤ 100) (h : ¬ 100000 < cntB b) : correctB b there lots = (((refOver b (keepsS b there lots) [] none).map fun r => (r, dotB (b.mats.map Mat.price) r)), 0) := by
  obtain ⟨h1, h2, h3⟩ := rec_len hc
  have hok := ok_of h1
  unfold correctB searchB
  rw [if_pos hc, if_pos hlo, if_neg h]
  congr 1
  unfold bestOf refOver
  have := folds_same (b := b) (there := there) (lots := lots) (times := lots + 1) (keeps := keepsS b there lots) (recsM b.mats) none (fun r hr => keepsS_fits hok h3 hlo h2 hr)
  simpa using this

end Go.Proofs.Ytpkggjfaefkiiaa
