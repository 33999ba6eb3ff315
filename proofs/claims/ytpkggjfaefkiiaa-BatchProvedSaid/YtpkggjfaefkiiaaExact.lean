/- The lines' factors without wraps; sums of recipes; no statement is proved here. -/
import Derived.Test.YtpkggjfaefkiiaaGreat
namespace Go.Proofs.Ytpkggjfaefkiiaa
open Go.RowKit Go.PlainAid
set_option linter.unusedVariables false

def grE (n : Int) (s : Sp) : Int := max (n * s.lo) (n * s.hi)

theorem mul_le_of {a b m : Int} (ha : -m ≤ a ∧ a ≤ m) (hb : 0 ≤ b) : -(m * b) ≤ a * b ∧ a * b ≤ m * b := by
  have h1 : a * b ≤ m * b := Int.mul_le_mul_of_nonneg_right ha.2 hb
  have h2 : -m * b ≤ a * b := Int.mul_le_mul_of_nonneg_right ha.1 hb
  rw [Int.neg_mul] at h2
  omega

theorem gr_exact {n : Int} {s : Sp} (hn : -20000 ≤ n ∧ n ≤ 20000) (h0 : 0 ≤ s.lo) (h1 : s.lo ≤ s.hi) (h2 : s.hi ≤ 2000000000) : grB n s = grE n s ∧ -(20000 * s.hi) ≤ grE n s ∧ grE n s ≤ 20000 * s.hi := by
  have a1 := mul_le_of (m := 20000) (by omega) h0 (a := n)
  have a2 := mul_le_of (m := 20000) (by omega) (show 0 ≤ s.hi by omega) (a := n)
  unfold grB grE
  rw [wrap_id _ (by unfold I64; omega), wrap_id _ (by unfold I64; omega)]
  exact ⟨rfl, by omega, by omega⟩

theorem tot_mat {m : Mat} {n : Nat} (h : MatOk m n) (hn : n ≤ 12) : (tot m.content).lo = (m.content.map Sp.lo).sum ∧ (tot m.content).hi = (m.content.map Sp.hi).sum ∧ 0 ≤ (tot m.content).lo ∧ (tot m.content).lo ≤ (tot m.content).hi ∧ (tot m.content).hi ≤ 12000 := by
  have h1 := sum_bd Sp.lo 1000 (by omega) m.content fun s hs => by have q := h.spans s hs; have := q.lo; have := q.le; have := q.hi; omega
  have h2 := sum_bd Sp.hi 1000 (by omega) m.content fun s hs => by have q := h.spans s hs; have := q.lo; have := q.le; have := q.hi; omega
  have hle : (m.content.map Sp.lo).sum ≤ (m.content.map Sp.hi).sum := by
    have hs := h.spans
    clear h1 h2 h
    generalize m.content = l at hs
    induction l with
    | nil => simp
    | cons a l ih =>
      have := ih fun s hs' => hs s (List.mem_cons_of_mem _ hs')
      have := (hs a List.mem_cons_self).le
      simp only [List.map_cons, List.sum_cons]
      omega
  have hl := h.len
  rw [hl] at h1 h2
  unfold tot
  simp only
  rw [wrap_id _ (by unfold I64; omega), wrap_id _ (by unfold I64; omega)]
  omega

theorem f1_exact {m : Mat} {n : Nat} (h : MatOk m n) (hn : n ≤ 12) : f1B m = -(m.content.map Sp.lo).sum ∧ -12000 ≤ f1B m ∧ f1B m ≤ 0 := by
  have ht := tot_mat h hn
  unfold f1B
  rw [wrap_id _ (by unfold I64; omega)]
  omega

def f2E (b : Bat) (m : Mat) : Int := 1000000 * m.redox + grE (-b.redox.hi) (tot m.content)
def f3E (b : Bat) (m : Mat) : Int := grE b.redox.lo (tot m.content) - 1000000 * m.redox

theorem f2_exact {b : Bat} (hb : OkB b) {m : Mat} (h : MatOk m b.oxides.length) : f2B b m = f2E b m ∧ -2000000000 ≤ f2E b m ∧ f2E b m ≤ 2000000000 := by
  have ht := tot_mat h hb.ox.2
  have hr := hb.redox
  have := hr.lo; have := hr.le; have := hr.hi
  have hg := gr_exact (n := -b.redox.hi) (s := tot m.content) (by omega) ht.2.2.1 ht.2.2.2.1 (by omega)
  have hm := h.redox
  unfold f2B f2E
  rw [wrap_id (-b.redox.hi) (by unfold I64; omega), hg.1, wrap_id (1000000 * m.redox) (by unfold I64; omega), wrap_id _ (by unfold I64; omega)]
  exact ⟨rfl, by omega, by omega⟩

theorem f3_exact {b : Bat} (hb : OkB b) {m : Mat} (h : MatOk m b.oxides.length) : f3B b m = f3E b m ∧ -2000000000 ≤ f3E b m ∧ f3E b m ≤ 2000000000 := by
  have ht := tot_mat h hb.ox.2
  have hr := hb.redox
  have := hr.lo; have := hr.le; have := hr.hi
  have hg := gr_exact (n := b.redox.lo) (s := tot m.content) (by omega) ht.2.2.1 ht.2.2.2.1 (by omega)
  have hm := h.redox
  unfold f3B f3E
  rw [hg.1, wrap_id (1000000 * m.redox) (by unfold I64; omega), wrap_id _ (by unfold I64; omega)]
  exact ⟨rfl, by omega, by omega⟩

def overE (f : Fm) (c : Int) : Int := if f.up = true then c - f.t.hi else f.t.lo - c
def facE (f : Fm) (l : List Sp) (k : Nat) : Int := ((List.range k).map fun i => grE (overE f (f.coefs.getD i 0)) (l.getD i ⟨0, 0⟩)).sum

theorem over_exact {f : Fm} {n : Nat} (h : FmOk f n) {c : Int} (hc : -10000 ≤ c ∧ c ≤ 10000) : overB f c = overE f c ∧ -20000 ≤ overE f c ∧ overE f c ≤ 20000 := by
  have ht := h.t
  have := ht.lo; have := ht.le; have := ht.hi
  unfold overB overE
  split
  · rw [wrap_id _ (by unfold I64; omega)]; omega
  · rw [wrap_id _ (by unfold I64; omega)]; omega

theorem getD_mem {α : Type} {l : List α} {k : Nat} {d : α} (h : k < l.length) : l.getD k d ∈ l := by
  rw [show l.getD k d = l[k] from by simp [List.getD, List.getElem?_eq_getElem h]]
  exact List.getElem_mem h

theorem fac_exact {f : Fm} {m : Mat} {n : Nat} (hf : FmOk f n) (hm : MatOk m n) (hn : n ≤ 12) : facB f m = facE f m.content n ∧ -240000000 ≤ facE f m.content n ∧ facE f m.content n ≤ 240000000 := by
  have key : ∀ k, k ≤ n → facTo f m.content k = facE f m.content k ∧ -(20000000 * (k : Int)) ≤ facE f m.content k ∧ facE f m.content k ≤ 20000000 * k := by
    intro k
    induction k with
    | zero => intro _; simp [facTo, facE]
    | succ k ih =>
      intro hk
      have h1 := ih (by omega)
      have h2 := hf.coefs _ (getD_mem (d := 0) (show k < f.coefs.length by rw [hf.len]; omega))
      have h3 := hm.spans _ (getD_mem (d := ⟨0, 0⟩) (show k < m.content.length by rw [hm.len]; omega))
      have h4 := over_exact hf h2
      have := h3.lo; have := h3.le; have := h3.hi
      have h5 := gr_exact (n := overE f (f.coefs.getD k 0)) (s := m.content.getD k ⟨0, 0⟩) h4.2 (by omega) (by omega) (by omega)
      unfold facTo facE at h1 ⊢
      rw [List.range_succ, List.map_append, List.map_append, List.map_singleton, List.map_singleton, sum_snoc, sum_snoc, h4.1, h5.1]
      omega
  have h := key n (Nat.le_refl _)
  unfold facB
  rw [hm.len, h.1, wrap_id _ (by unfold I64; omega)]
  omega

/-- the lines without wraps. -/
def lnE (b : Bat) : List Ln :=
  ⟨b.mats.map fun m => -(m.content.map Sp.lo).sum, -1000 * b.wanted⟩ :: (((formsB b).map fun f => (⟨b.mats.map fun m => facE f m.content b.oxides.length, 0⟩ : Ln)) ++ [⟨b.mats.map (f2E b), 0⟩, ⟨b.mats.map (f3E b), 0⟩])

theorem lines_exact {b : Bat} (h : OkB b) : linesB b = lnE b := by
  have h1 : b.mats.map f1B = b.mats.map fun m => -(m.content.map Sp.lo).sum := List.map_congr_left fun m hm => (f1_exact (h.mats m hm) h.ox.2).1
  have h2 : b.mats.map (f2B b) = b.mats.map (f2E b) := List.map_congr_left fun m hm => (f2_exact h (h.mats m hm)).1
  have h3 : b.mats.map (f3B b) = b.mats.map (f3E b) := List.map_congr_left fun m hm => (f3_exact h (h.mats m hm)).1
  have hw := h.wanted
  unfold linesB lnTo lnE
  rw [h1, h2, h3, wrap_id _ (by unfold I64; omega), List.take_of_length_le (Nat.le_refl _), List.cons_append]
  congr 2
  apply List.map_congr_left
  intro f hf
  congr 1
  exact List.map_congr_left fun m hm => (fac_exact (forms_ok h f hf) (h.mats m hm) h.ox.2).1

theorem line_bd {b : Bat} (h : OkB b) : ∀ l ∈ linesB b, l.bound ≤ 0 ∧ -10000000 ≤ l.bound ∧ ∀ x ∈ l.fs, -2000000000 ≤ x ∧ x ≤ 2000000000 := by
  rw [lines_exact h]
  intro l hl
  have hw := h.wanted
  unfold lnE at hl
  simp only [List.mem_cons, List.mem_append, List.mem_map, List.not_mem_nil, or_false] at hl
  rcases hl with rfl | ⟨f, hf, rfl⟩ | rfl | rfl
  · refine ⟨by simp only; omega, by simp only; omega, fun x hx => ?_⟩
    obtain ⟨m, hm, rfl⟩ := List.mem_map.1 hx
    have := f1_exact (h.mats m hm) h.ox.2
    omega
  · refine ⟨Int.le_refl _, by simp only; omega, fun x hx => ?_⟩
    obtain ⟨m, hm, rfl⟩ := List.mem_map.1 hx
    have := fac_exact (forms_ok h f hf) (h.mats m hm) h.ox.2
    omega
  · refine ⟨Int.le_refl _, by simp only; omega, fun x hx => ?_⟩
    obtain ⟨m, hm, rfl⟩ := List.mem_map.1 hx
    have := f2_exact h (h.mats m hm)
    omega
  · refine ⟨Int.le_refl _, by simp only; omega, fun x hx => ?_⟩
    obtain ⟨m, hm, rfl⟩ := List.mem_map.1 hx
    have := f3_exact h (h.mats m hm)
    omega

theorem dotTo_succ' (a b : List Int) (k : Nat) : dotTo a b (k + 1) = dotTo a b k + a.getD k 0 * b.getD k 0 := by
  unfold dotTo
  rw [List.range_succ, List.map_append, List.map_singleton, sum_snoc]

theorem dot_bd {a r : List Int} (ha : ∀ x ∈ a, -2000000000 ≤ x ∧ x ≤ 2000000000) (hr : ∀ x ∈ r, 0 ≤ x ∧ x ≤ 10000) (hl : a.length = r.length) : ∀ k, k ≤ a.length → -(20000000000000 * (k : Int)) ≤ dotTo a r k ∧ dotTo a r k ≤ 20000000000000 * k := by
  intro k
  induction k with
  | zero => intro _; simp [dotTo]
  | succ k ih =>
    intro hk
    have h1 := ih (by omega)
    have h2 := ha _ (getD_mem (d := 0) (show k < a.length by omega))
    have h3 := hr _ (getD_mem (d := 0) (show k < r.length by omega))
    have h4 := mul_le_of (m := 2000000000) (a := a.getD k 0) (b := r.getD k 0) (by omega) h3.1
    rw [dotTo_succ']
    omega

theorem dot_exact {a r : List Int} (ha : ∀ x ∈ a, -2000000000 ≤ x ∧ x ≤ 2000000000) (hr : ∀ x ∈ r, 0 ≤ x ∧ x ≤ 10000) (hl : a.length = r.length) (hn : a.length ≤ 12) : dotB a r = dotTo a r a.length := by
  have h := dot_bd ha hr hl a.length (Nat.le_refl _)
  unfold dotB
  exact wrap_id _ (by unfold I64; omega)

theorem passB_iff {b : Bat} {r : List Int} (hb : OkB b) (hr : ∀ x ∈ r, 0 ≤ x ∧ x ≤ 10000) (hl : r.length = b.mats.length) : passB b r = true ↔ ∀ l ∈ linesB b, dotTo l.fs r l.fs.length ≤ l.bound := by
  unfold passB
  simp only [Bool.not_eq_true', List.any_eq_false, brokenB, decide_eq_true_eq]
  constructor
  · intro h l hlm
    have h1 := h l hlm
    have h2 := (line_bd hb l hlm).2.2
    rw [dot_exact h2 hr (by rw [line_len hlm, hl]) (by rw [line_len hlm]; exact hb.mt.2)] at h1
    omega
  · intro h l hlm
    have h1 := h l hlm
    have h2 := (line_bd hb l hlm).2.2
    rw [dot_exact h2 hr (by rw [line_len hlm, hl]) (by rw [line_len hlm]; exact hb.mt.2)]
    omega

def addB (a c : List Int) : List Int := (List.range a.length).map fun i => wrap64 (a.getD i 0 + c.getD i 0)

theorem addB_get (a c : List Int) (i : Nat) (h : i < a.length) : (addB a c).getD i 0 = wrap64 (a.getD i 0 + c.getD i 0) := by
  simp [addB, List.getD, h]

theorem dot_add {f r1 r2 : List Int} (h1 : ∀ x ∈ r1, 0 ≤ x ∧ x ≤ 10000) (h2 : ∀ x ∈ r2, 0 ≤ x ∧ x ≤ 10000) (hl : r1.length = r2.length) : ∀ k, k ≤ r1.length → dotTo f (addB r1 r2) k = dotTo f r1 k + dotTo f r2 k := by
  intro k
  induction k with
  | zero => intro _; simp [dotTo]
  | succ k ih =>
    intro hk
    have e1 := h1 _ (getD_mem (d := 0) (show k < r1.length by omega))
    have e2 := h2 _ (getD_mem (d := 0) (show k < r2.length by omega))
    rw [dotTo_succ', dotTo_succ', dotTo_succ', ih (by omega), addB_get _ _ _ (by omega), wrap_id _ (by unfold I64; omega), Int.mul_add]
    omega

/-- the sum of two recipes that pass passes, or is no recipe. -/
theorem sums_pass {b : Bat} {r1 r2 : List Int} (h1 : passesB b r1 = (true, 0)) (h2 : passesB b r2 = (true, 0)) : passesB b (addB r1 r2) = (true, 0) ∨ (passesB b (addB r1 r2)).2 = 1 := by
  have k1 : bothB b r1 = 0 ∧ passB b r1 = true := by
    unfold passesB at h1
    split at h1
    · rename_i e; simp only [Prod.mk.injEq] at h1; exact ⟨e, h1.1⟩
    · simp at h1
  have k2 : bothB b r2 = 0 ∧ passB b r2 = true := by
    unfold passesB at h2
    split at h2
    · rename_i e; simp only [Prod.mk.injEq] at h2; exact ⟨e, h2.1⟩
    · simp at h2
  obtain ⟨c1, c2, c3⟩ := rec_len k1.1
  obtain ⟨d1, d2, d3⟩ := rec_len k2.1
  have hok := ok_of c1
  by_cases hb : bothB b (addB r1 r2) = 0
  · left
    obtain ⟨e1, e2, e3⟩ := rec_len hb
    unfold passesB
    rw [if_pos hb]
    have p1 := (passB_iff hok c3 c2).1 k1.2
    have p2 := (passB_iff hok d3 d2).1 k2.2
    have : passB b (addB r1 r2) = true := (passB_iff hok e3 e2).2 fun l hl => by
      have q1 := p1 l hl
      have q2 := p2 l hl
      have q3 := (line_bd hok l hl).1
      rw [dot_add c3 d3 (by omega) _ (by rw [line_len hl]; omega)]
      omega
    rw [this]
  · right
    unfold passesB
    rw [if_neg hb]
    unfold bothB at hb ⊢
    rw [c1] at hb ⊢
    simp only [ne_eq, not_true_eq_false, if_false] at hb ⊢
    unfold recB at hb ⊢
    split at hb
    · exact absurd rfl hb
    · rename_i h; rw [if_neg h]

end Go.Proofs.Ytpkggjfaefkiiaa
