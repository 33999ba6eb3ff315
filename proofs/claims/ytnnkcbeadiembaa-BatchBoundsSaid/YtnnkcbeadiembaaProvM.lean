/- What multipliers prove: the mathematics; no statement is proved here. -/
import Derived.Test.YtnnkcbeadiembaaExact
namespace Go.Proofs.Ytnnkcbeadiembaa
open Go.RowKit Go.PlainAid
set_option linter.unusedVariables false

def stepsE (m : Mat) : Int := (m.most - m.least) / m.step
def mostE (m : Mat) : Int := m.least + stepsE m * m.step
theorem most_ok {m : Mat} {n : Nat} (h : MatOk m n) : (0 ≤ stepsE m ∧ stepsE m ≤ 10000) ∧ (0 ≤ stepsE m * m.step ∧ stepsE m * m.step ≤ m.most - m.least) ∧ m.least ≤ mostE m ∧ mostE m ≤ 10000 := by
  have h1 := h.least
  have h2 := h.most
  have h3 := h.step
  have h4 : stepsE m * m.step ≤ m.most - m.least := Int.ediv_mul_le _ (by omega)
  have h5 : 0 ≤ stepsE m := Int.ediv_nonneg (by omega) (by omega)
  have h6 : stepsE m ≤ m.most - m.least := Int.ediv_le_self _ (by omega)
  have h7 : 0 ≤ stepsE m * m.step := Int.mul_nonneg h5 (by omega)
  unfold mostE
  omega

def zipE (l o : List Int) (n : Int) : List Int := (List.range l.length).map fun i => wrap64 (l.getD i 0 + wrap64 (n * o.getD i 0))
def plusE (l : Ln) (n : Int) (o : Ln) : Ln := ⟨zipE l.fs o.fs n, wrap64 (l.bound + wrap64 (n * o.bound))⟩
theorem zip_len (l o : List Int) (n : Int) : (zipE l o n).length = l.length := by simp [zipE]
theorem zip_at (l o : List Int) (n : Int) (i : Nat) (h : i < l.length) : (zipE l o n).getD i 0 = wrap64 (l.getD i 0 + wrap64 (n * o.getD i 0)) := by
  simp [zipE, List.getD, h]

def lnAt (L : List Ln) (k : Nat) : Ln := L.getD k ⟨[], 0⟩
def sumT (P : List Int) (L : List Ln) (s : Int) (ws : List Int) : Nat → Ln
  | 0 => plusE ⟨List.replicate P.length 0, 0⟩ s ⟨P, 0⟩
  | k + 1 => plusE (sumT P L s ws k) (ws.getD k 0) (lnAt L k)
def FE (P : List Int) (L : List Ln) (s : Int) (ws : List Int) (k i : Nat) : Int := s * P.getD i 0 + ((List.range k).map fun j => ws.getD j 0 * (lnAt L j).fs.getD i 0).sum
def BE (L : List Ln) (ws : List Int) (k : Nat) : Int := ((List.range k).map fun j => ws.getD j 0 * (lnAt L j).bound).sum
theorem FE_succ (P : List Int) (L : List Ln) (s : Int) (ws : List Int) (k i : Nat) : FE P L s ws (k + 1) i = FE P L s ws k i + ws.getD k 0 * (lnAt L k).fs.getD i 0 := by
  unfold FE; rw [List.range_succ, List.map_append, List.map_singleton, sum_snoc]; omega
theorem BE_succ (L : List Ln) (ws : List Int) (k : Nat) : BE L ws (k + 1) = BE L ws k + ws.getD k 0 * (lnAt L k).bound := by
  unfold BE; rw [List.range_succ, List.map_append, List.map_singleton, sum_snoc]

/-- what a proof that may be is like. -/
structure PfOk (P : List Int) (L : List Ln) (s : Int) (ws : List Int) : Prop where
  hs : 0 ≤ s ∧ s ≤ 1000000
  hP : ∀ x ∈ P, 0 ≤ x ∧ x ≤ 10000
  hw : ∀ x ∈ ws, 0 ≤ x ∧ x ≤ 1000
  len : ws.length = L.length
  n : L.length ≤ 39
  fs : ∀ l ∈ L, l.fs.length = P.length ∧ (∀ x ∈ l.fs, -1240000000 ≤ x ∧ x ≤ 1240000000) ∧ -10000000 ≤ l.bound ∧ l.bound ≤ 0

theorem mul_in {a b A B : Int} (ha : 0 ≤ a ∧ a ≤ A) (hb : -B ≤ b ∧ b ≤ B) : -(A * B) ≤ a * b ∧ a * b ≤ A * B := by
  have hB : 0 ≤ B := by omega
  have h1 : a * b ≤ a * B := Int.mul_le_mul_of_nonneg_left hb.2 ha.1
  have h2 : a * -B ≤ a * b := Int.mul_le_mul_of_nonneg_left hb.1 ha.1
  have h3 : a * B ≤ A * B := Int.mul_le_mul_of_nonneg_right ha.2 hB
  rw [Int.mul_neg] at h2
  omega

theorem ln_at {L : List Ln} {k : Nat} (h : k < L.length) : lnAt L k = L[k] := by simp [lnAt, List.getD, List.getElem?_eq_getElem h]

section
variable {P : List Int} {L : List Ln} {s : Int} {ws : List Int} (h : PfOk P L s ws)
include h

theorem step_bd {k i : Nat} (hk : k < L.length) (hi : i < P.length) : -1240000000000 ≤ ws.getD k 0 * (lnAt L k).fs.getD i 0 ∧ ws.getD k 0 * (lnAt L k).fs.getD i 0 ≤ 1240000000000 := by
  have h1 := h.hw _ (getD_mem (d := 0) (show k < ws.length by rw [h.len]; exact hk))
  have h2 := h.fs _ (List.getElem_mem hk)
  rw [ln_at hk]
  have h3 := h2.2.1 _ (getD_mem (d := 0) (show i < (L[k]).fs.length by rw [h2.1]; exact hi))
  have := mul_in (A := 1000) (B := 1240000000) h1 h3
  omega
theorem bnd_bd {k : Nat} (hk : k < L.length) : -10000000000 ≤ ws.getD k 0 * (lnAt L k).bound ∧ ws.getD k 0 * (lnAt L k).bound ≤ 0 := by
  have h1 := h.hw _ (getD_mem (d := 0) (show k < ws.length by rw [h.len]; exact hk))
  have h2 := h.fs _ (List.getElem_mem hk)
  rw [ln_at hk]
  have h3 := mul_in (A := 1000) (B := 10000000) h1 (b := (L[k]).bound) (by omega)
  have h4 := Int.mul_nonneg h1.1 (show 0 ≤ -(L[k]).bound by omega)
  rw [Int.mul_neg] at h4
  omega

theorem FE_bd {i : Nat} (hi : i < P.length) : ∀ k, k ≤ L.length → -(10000000000 + 1240000000000 * (k : Int)) ≤ FE P L s ws k i ∧ FE P L s ws k i ≤ 10000000000 + 1240000000000 * k := by
  intro k
  induction k with
  | zero =>
    intro _
    have h1 := h.hP _ (getD_mem (d := 0) hi)
    have := mul_in (A := 1000000) (B := 10000) h.hs (b := P.getD i 0) (by omega)
    simp only [FE, List.range_zero, List.map_nil, List.sum_nil]
    omega
  | succ k ih =>
    intro hk
    have h1 := ih (by omega)
    have h2 := step_bd h (show k < L.length by omega) hi
    rw [FE_succ]
    omega
theorem BE_bd : ∀ k, k ≤ L.length → -(10000000000 * (k : Int)) ≤ BE L ws k ∧ BE L ws k ≤ 0 := by
  intro k
  induction k with
  | zero => intro _; simp [BE]
  | succ k ih =>
    intro hk
    have h1 := ih (by omega)
    have h2 := bnd_bd h (show k < L.length by omega)
    rw [BE_succ]
    omega

/-- the line that a proof makes, without wraps. -/
theorem sum_exact : ∀ k, k ≤ L.length → (sumT P L s ws k).fs.length = P.length ∧ (∀ i, i < P.length → (sumT P L s ws k).fs.getD i 0 = FE P L s ws k i) ∧ (sumT P L s ws k).bound = BE L ws k := by
  have hn := h.n
  intro k
  induction k with
  | zero =>
    intro _
    refine ⟨by simp [sumT, plusE, zip_len], fun i hi => ?_, ?_⟩
    · have h1 := FE_bd h hi 0 (Nat.zero_le _)
      have e : FE P L s ws 0 i = s * P.getD i 0 := by simp [FE]
      rw [e] at h1 ⊢
      show (zipE (List.replicate P.length 0) P s).getD i 0 = _
      rw [zip_at _ _ _ _ (by simpa using hi)]
      have e2 : (List.replicate P.length (0 : Int)).getD i 0 = 0 := by simp [List.getD, hi]
      rw [e2, wrap_id (s * P.getD i 0) (by unfold I64; omega), Int.zero_add, wrap_id _ (by unfold I64; omega)]
    · simp [sumT, plusE, BE, wrap64]
  | succ k ih =>
    intro hk
    obtain ⟨i1, i2, i3⟩ := ih (by omega)
    refine ⟨by simp only [sumT, plusE, zip_len]; exact i1, fun i hi => ?_, ?_⟩
    · have h1 := FE_bd h hi (k + 1) hk
      have h2 := step_bd h (show k < L.length by omega) hi
      show (zipE (sumT P L s ws k).fs (lnAt L k).fs (ws.getD k 0)).getD i 0 = _
      rw [zip_at _ _ _ _ (by rw [i1]; exact hi), i2 i hi, FE_succ] 
      rw [FE_succ] at h1
      rw [wrap_id (ws.getD k 0 * _) (by unfold I64; omega), wrap_id _ (by unfold I64; omega)]
    · have h1 := BE_bd h (k + 1) hk
      have h2 := bnd_bd h (show k < L.length by omega)
      show wrap64 ((sumT P L s ws k).bound + wrap64 (ws.getD k 0 * (lnAt L k).bound)) = _
      rw [i3, BE_succ]
      rw [BE_succ] at h1
      rw [wrap_id (ws.getD k 0 * _) (by unfold I64; omega), wrap_id _ (by unfold I64; omega)]
end

/-- by how much materials go beyond, each at its better end. -/
def beyTo (F : Nat → Int) (ls ms : List Int) (k : Nat) : Int := ((List.range k).map fun i => min (F i * ls.getD i 0) (F i * ms.getD i 0)).sum
theorem beyTo_succ (F : Nat → Int) (ls ms : List Int) (k : Nat) : beyTo F ls ms (k + 1) = beyTo F ls ms k + min (F k * ls.getD k 0) (F k * ms.getD k 0) := by
  unfold beyTo; rw [List.range_succ, List.map_append, List.map_singleton, sum_snoc]
theorem beyTo_congr {F G : Nat → Int} {ls ms : List Int} {k : Nat} (h : ∀ i, i < k → F i = G i) : beyTo F ls ms k = beyTo G ls ms k := by
  unfold beyTo
  congr 1
  apply List.map_congr_left
  intro i hi
  rw [h i (List.mem_range.1 hi)]

theorem end_bd {f l : Int} (hf : -48370000000000 ≤ f ∧ f ≤ 48370000000000) (hl : 0 ≤ l ∧ l ≤ 10000) : -483700000000000000 ≤ f * l ∧ f * l ≤ 483700000000000000 := by
  have := mul_in (A := 10000) (B := 48370000000000) hl hf
  rw [Int.mul_comm l f] at this
  omega
theorem bey_bd {F : Nat → Int} {ls ms : List Int} {n : Nat} (hF : ∀ i, i < n → -48370000000000 ≤ F i ∧ F i ≤ 48370000000000) (hl : ∀ i, i < n → 0 ≤ ls.getD i 0 ∧ ls.getD i 0 ≤ 10000) (hm : ∀ i, i < n → 0 ≤ ms.getD i 0 ∧ ms.getD i 0 ≤ 10000) :
    ∀ k, k ≤ n → -(483700000000000000 * (k : Int)) ≤ beyTo F ls ms k ∧ beyTo F ls ms k ≤ 483700000000000000 * k := by
  intro k
  induction k with
  | zero => intro _; simp [beyTo]
  | succ k ih =>
    intro hk
    have h1 := ih (by omega)
    have h2 := end_bd (hF k (by omega)) (hl k (by omega))
    have h3 := end_bd (hF k (by omega)) (hm k (by omega))
    rw [beyTo_succ]
    omega

theorem forms_len {b : Bat} (h : OkB b) : (formsB b).length ≤ 36 := by
  have h1 := h.ox
  have h2 := h.pr
  have h3 := h.shLen
  unfold formsB fmsTo2 fmsTo1
  rw [List.take_of_length_le (Nat.le_refl _)]
  simp only [List.length_append, List.length_flatMap, sidesB, List.length_cons, List.length_nil, List.map_const', List.sum_replicate_nat, List.length_range]
  omega
theorem lines_len {b : Bat} (h : OkB b) : (linesB b).length ≤ 39 := by
  have := forms_len h
  rw [lines_exact h]
  simp [lnE]
  omega

theorem f2_tight {b : Bat} (hb : OkB b) {m : Mat} (h : MatOk m b.oxides.length) : -1240000000 ≤ f2E b m ∧ f2E b m ≤ 1240000000 := by
  have ht := tot_mat h hb.ox.2
  have hr := hb.redox
  have := hr.lo; have := hr.le; have := hr.hi
  have hg := gr_exact (n := -b.redox.hi) (s := tot m.content) (by omega) ht.2.2.1 ht.2.2.2.1 (by omega)
  have hm := h.redox
  unfold f2E
  omega
theorem f3_tight {b : Bat} (hb : OkB b) {m : Mat} (h : MatOk m b.oxides.length) : -1240000000 ≤ f3E b m ∧ f3E b m ≤ 1240000000 := by
  have ht := tot_mat h hb.ox.2
  have hr := hb.redox
  have := hr.lo; have := hr.le; have := hr.hi
  have hg := gr_exact (n := b.redox.lo) (s := tot m.content) (by omega) ht.2.2.1 ht.2.2.2.1 (by omega)
  have hm := h.redox
  unfold f3E
  omega
theorem line_tight {b : Bat} (h : OkB b) : ∀ l ∈ linesB b, l.fs.length = b.mats.length ∧ (∀ x ∈ l.fs, -1240000000 ≤ x ∧ x ≤ 1240000000) ∧ -10000000 ≤ l.bound ∧ l.bound ≤ 0 := by
  intro l hl
  have h0 := line_bd h l hl
  rw [lines_exact h] at hl
  unfold lnE at hl
  simp only [List.mem_cons, List.mem_append, List.mem_map, List.not_mem_nil, or_false] at hl
  rcases hl with rfl | ⟨f, hf, rfl⟩ | rfl | rfl
  · refine ⟨by simp, fun x hx => ?_, h0.2.1, h0.1⟩
    obtain ⟨m, hm, rfl⟩ := List.mem_map.1 hx
    have := f1_exact (h.mats m hm) h.ox.2
    omega
  · refine ⟨by simp, fun x hx => ?_, h0.2.1, h0.1⟩
    obtain ⟨m, hm, rfl⟩ := List.mem_map.1 hx
    have := fac_exact (forms_ok h f hf) (h.mats m hm) h.ox.2
    omega
  · refine ⟨by simp, fun x hx => ?_, h0.2.1, h0.1⟩
    obtain ⟨m, hm, rfl⟩ := List.mem_map.1 hx
    exact f2_tight h (h.mats m hm)
  · refine ⟨by simp, fun x hx => ?_, h0.2.1, h0.1⟩
    obtain ⟨m, hm, rfl⟩ := List.mem_map.1 hx
    exact f3_tight h (h.mats m hm)

end Go.Proofs.Ytnnkcbeadiembaa
