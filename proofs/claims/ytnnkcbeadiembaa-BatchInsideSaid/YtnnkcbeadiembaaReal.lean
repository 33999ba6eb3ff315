/- Contents that a delivery really had: the mathematics; no statement is proved here. -/
import Derived.Test.YtnnkcbeadiembaaInside
namespace Go.Proofs.Ytnnkcbeadiembaa
open Go.RowKit Go.PlainAid
set_option linter.unusedVariables false

/-- what a material really brings of an oxide, a hundred times; P: the parts. -/
def realC (b : Bat) (P : Nat → Nat → Int) (k q : Nat) : Int := 100 * (cont b k q).lo + P k q * ((cont b k q).hi - (cont b k q).lo)
def rSum (b : Bat) (r : List Int) (P : Nat → Nat → Int) (c q : Nat) : Int := ((List.range c).map fun k => r.getD k 0 * realC b P k q).sum
theorem rSum_succ (b : Bat) (r : List Int) (P : Nat → Nat → Int) (c q : Nat) : rSum b r P (c + 1) q = rSum b r P c q + r.getD c 0 * realC b P c q := by
  unfold rSum
  rw [List.range_succ, List.map_append, List.map_singleton, sum_snoc]

theorem realC_bd {b : Bat} (h : OkB b) {P : Nat → Nat → Int} (hP : ∀ k q, 0 ≤ P k q ∧ P k q ≤ 100) (k q : Nat) (hk : k < b.mats.length) (hq : q < b.oxides.length) :
    100 * (cont b k q).lo ≤ realC b P k q ∧ realC b P k q ≤ 100 * (cont b k q).hi ∧ 0 ≤ P k q * ((cont b k q).hi - (cont b k q).lo) ∧ P k q * ((cont b k q).hi - (cont b k q).lo) ≤ 100000 := by
  have h2 := cont_ok h k q hk hq
  have h3 := hP k q
  have h4 := h2.le
  have h5 := h2.lo
  have h6 := h2.hi
  have h7 : 0 ≤ P k q * ((cont b k q).hi - (cont b k q).lo) := Int.mul_nonneg h3.1 (by omega)
  have h8 : P k q * ((cont b k q).hi - (cont b k q).lo) ≤ 100 * ((cont b k q).hi - (cont b k q).lo) := Int.mul_le_mul_of_nonneg_right h3.2 (by omega)
  unfold realC
  omega

theorem rSum_ok {b : Bat} (h : OkB b) {r : List Int} (hr : ∀ x ∈ r, 0 ≤ x ∧ x ≤ 10000) (hl : r.length = b.mats.length) {P : Nat → Nat → Int} (hP : ∀ k q, 0 ≤ P k q ∧ P k q ≤ 100) (q : Nat) (hq : q < b.oxides.length) :
    ∀ c, c ≤ b.mats.length → 100 * loSum b r c q ≤ rSum b r P c q ∧ rSum b r P c q ≤ 100 * hiSum b r c q := by
  intro c
  induction c with
  | zero => intro _; simp [loSum, hiSum, rSum]
  | succ c ih =>
    intro hc
    have h1 := ih (by omega)
    have h2 := realC_bd h hP c q (by omega) hq
    have h4 := hr _ (getD_mem (d := 0) (show c < r.length by omega))
    have h6 : r.getD c 0 * (100 * (cont b c q).lo) ≤ r.getD c 0 * realC b P c q := Int.mul_le_mul_of_nonneg_left h2.1 h4.1
    have h7 : r.getD c 0 * realC b P c q ≤ r.getD c 0 * (100 * (cont b c q).hi) := Int.mul_le_mul_of_nonneg_left h2.2.1 h4.1
    rw [Int.mul_left_comm] at h6
    rw [Int.mul_left_comm _ 100] at h7
    rw [rSum_succ, loSum_succ, hiSum_succ]
    omega

/-- the grams of a recipe, a hundred times, with j oxides of the next material. -/
def rTo (b : Bat) (r : List Int) (P : Nat → Nat → Int) (c j : Nat) : List Int := (List.range b.oxides.length).map fun q => rSum b r P (if q < j then c + 1 else c) q
def realB (b : Bat) (r : List Int) (P : Nat → Nat → Int) : List Int := rTo b r P b.mats.length 0
theorem rTo_len (b : Bat) (r : List Int) (P : Nat → Nat → Int) (c j : Nat) : (rTo b r P c j).length = b.oxides.length := by simp [rTo]
theorem rTo_get (b : Bat) (r : List Int) (P : Nat → Nat → Int) (c j q : Nat) (h : q < (rTo b r P c j).length) : (rTo b r P c j)[q] = rSum b r P (if q < j then c + 1 else c) q := by simp [rTo]
theorem rTo_next (b : Bat) (r : List Int) (P : Nat → Nat → Int) (c j : Nat) (h : b.oxides.length ≤ j) : rTo b r P c j = rTo b r P (c + 1) 0 := by
  unfold rTo
  apply List.map_congr_left
  intro q hq
  have := List.mem_range.1 hq
  rw [if_pos (by omega), if_neg (by omega)]
theorem rTo_set (b : Bat) (r : List Int) (P : Nat → Nat → Int) (c j : Nat) (h : j < b.oxides.length) : (rTo b r P c j).set j (rSum b r P (c + 1) j) = rTo b r P c (j + 1) := by
  apply List.ext_getElem
  · simp [rTo]
  intro q h1 h2
  rw [rTo_get]
  by_cases hq : q = j
  · subst hq
    rw [List.getElem_set_self, if_pos (by omega)]
  · rw [List.getElem_set_ne (by omega), rTo_get]
    by_cases hj : q < j
    · rw [if_pos hj, if_pos (by omega)]
    · rw [if_neg hj, if_neg (by omega)]
theorem rTo_zero (b : Bat) (r : List Int) (P : Nat → Nat → Int) : rTo b r P 0 0 = List.replicate b.oxides.length 0 := by
  apply List.ext_getElem
  · simp [rTo]
  intro q h1 h2
  rw [rTo_get, List.getElem_replicate, if_neg (by omega)]
  simp [rSum]

/-- numbers that lie in spans, a hundred times. -/
structure Betw (g : List Int) (G : List Sp) : Prop where
  len : g.length = G.length
  all : ∀ i, i < G.length → 100 * (G.getD i ⟨0, 0⟩).lo ≤ g.getD i 0 ∧ g.getD i 0 ≤ 100 * (G.getD i ⟨0, 0⟩).hi

theorem real_betw {b : Bat} (h : OkB b) {r : List Int} (hr : ∀ x ∈ r, 0 ≤ x ∧ x ≤ 10000) (hl : r.length = b.mats.length) {P : Nat → Nat → Int} (hP : ∀ k q, 0 ≤ P k q ∧ P k q ≤ 100) : Betw (realB b r P) (gramsB b r) := by
  have hlen : (gramsB b r).length = b.oxides.length := gTo_len _ _ _ _
  refine ⟨by rw [hlen]; exact rTo_len _ _ _ _ _, fun i hi => ?_⟩
  rw [hlen] at hi
  rw [grams_at h hr hl hi]
  have hl2 : i < (rTo b r P b.mats.length 0).length := by rw [rTo_len]; exact hi
  have e : (realB b r P).getD i 0 = rSum b r P b.mats.length i := by
    show (rTo b r P b.mats.length 0).getD i 0 = _
    rw [show (rTo b r P b.mats.length 0).getD i 0 = (rTo b r P b.mats.length 0)[i] from by simp [List.getD, List.getElem?_eq_getElem hl2], rTo_get, if_neg (by omega)]
  rw [e]
  exact rSum_ok h hr hl hP i hi _ (Nat.le_refl _)

def wTot (g : List Int) (k : Nat) : Int := ((List.range k).map fun i => g.getD i 0).sum
theorem wTot_succ (g : List Int) (k : Nat) : wTot g (k + 1) = wTot g k + g.getD k 0 := by
  unfold wTot; rw [List.range_succ, List.map_append, List.map_singleton, sum_snoc]

theorem real_form {c g : List Int} {G : List Sp} (hb : Betw g G) (hg : ∀ s ∈ G, 0 ≤ s.lo ∧ s.lo ≤ s.hi ∧ s.hi ≤ 1000000000) (n : Int) :
    ∀ k, k ≤ G.length → dotTo c g k - n * wTot g k ≤ 100 * fE c n G k := by
  intro k
  induction k with
  | zero => intro _; simp [dotTo, wTot, fE]
  | succ k ih =>
    intro hk
    have h1 := ih (by omega)
    have h2 := hb.all k (by omega)
    have h3 := g_at hg k (by omega)
    have h4 : (c.getD k 0 - n) * g.getD k 0 ≤ 100 * grE (c.getD k 0 - n) (G.getD k ⟨0, 0⟩) := by
      by_cases hn : 0 ≤ c.getD k 0 - n
      · rw [grE_pos hn h3.2]
        have := Int.mul_le_mul_of_nonneg_left h2.2 hn
        rw [Int.mul_left_comm] at this
        exact this
      · rw [grE_neg (by omega) h3.2]
        have := Int.mul_le_mul_of_nonpos_left (show c.getD k 0 - n ≤ 0 by omega) h2.1
        rw [Int.mul_left_comm] at this
        exact this
    rw [dotTo_succ', wTot_succ, fE_succ, Int.mul_add]
    rw [Int.sub_mul] at h4
    omega

theorem real_le {c g : List Int} {G : List Sp} (hm : MeanOk c G) (hb : Betw g G) {n : Int} (h : gmB c G ≤ n) : dotTo c g c.length ≤ n * wTot g c.length := by
  have h1 := (gm_iff hm n).1 h
  have h2 := real_form (c := c) hb hm.hg n c.length (by rw [hm.len]; exact Nat.le_refl _)
  omega

theorem dot_neg (c g : List Int) : ∀ k, k ≤ c.length → dotTo (negB c) g k = -(dotTo c g k) := by
  intro k
  induction k with
  | zero => intro _; simp [dotTo]
  | succ k ih => intro hk; rw [dotTo_succ', dotTo_succ', ih (by omega), neg_at c k (by omega), Int.neg_mul]; omega

/-- what numbers in spans make of a property lies in what is told. -/
theorem real_value {c g : List Int} {G : List Sp} (hm : MeanOk c G) (hb : Betw g G) {t : Sp} (h1 : t.lo ≤ (valueB c G).lo) (h2 : (valueB c G).hi ≤ t.hi) :
    t.lo * wTot g c.length ≤ dotTo c g c.length ∧ dotTo c g c.length ≤ t.hi * wTot g c.length := by
  have h3 := real_le hm hb (n := t.hi) h2
  have hn := neg_ok hm
  have h4 := real_le hn hb (n := -t.lo) (by simp only [valueB] at h1; omega)
  have e : (negB c).length = c.length := by simp [negB]
  rw [e, dot_neg c g _ (Nat.le_refl _), Int.neg_mul] at h4
  omega

theorem dot_share (n i : Nat) (g : List Int) (hi : i < n) : ∀ k, k ≤ n → dotTo (shareB n i) g k = if i < k then 1000 * g.getD i 0 else 0 := by
  intro k
  induction k with
  | zero => intro _; simp [dotTo]
  | succ k ih =>
    intro hk
    rw [dotTo_succ', ih (by omega)]
    unfold shareB
    by_cases e : i = k
    · subst e
      rw [if_neg (by omega), if_pos (by omega)]
      simp [List.getD, hi]
    · simp only [List.getD, List.getElem?_set, if_neg e]
      by_cases h : i < k
      · rw [if_pos h, if_pos (by omega)]; simp [show k < n by omega]
      · rw [if_neg h, if_neg (by omega)]; simp [show k < n by omega]

theorem shareB_len (n i : Nat) : (shareB n i).length = n := by simp [shareB]

theorem real_share {b : Bat} (hb : OkB b) {r : List Int} (hr : ∀ x ∈ r, 0 ≤ x ∧ x ≤ 10000) (hl : r.length = b.mats.length) (hz : (tot (gramsB b r)).lo ≠ 0) {g : List Int} (hg : Betw g (gramsB b r)) {i : Nat} (hi : i < b.oxides.length) {t : Sp}
    (h1 : t.lo ≤ (valueB (shareB b.oxides.length i) (gramsB b r)).lo) (h2 : (valueB (shareB b.oxides.length i) (gramsB b r)).hi ≤ t.hi) :
    t.lo * wTot g b.oxides.length ≤ 1000 * g.getD i 0 ∧ 1000 * g.getD i 0 ≤ t.hi * wTot g b.oxides.length := by
  have h := real_value (share_ok hb hr hl hz i) hg h1 h2
  rw [shareB_len, dot_share _ _ _ hi _ (Nat.le_refl _), if_pos hi] at h
  exact h

theorem wTot_bd {g : List Int} {G : List Sp} (hb : Betw g G) : ∀ k, k ≤ G.length → 100 * ((G.take k).map Sp.lo).sum ≤ wTot g k ∧ wTot g k ≤ 100 * ((G.take k).map Sp.hi).sum := by
  intro k
  induction k with
  | zero => intro _; simp [wTot]
  | succ k ih =>
    intro hk
    have h1 := ih (by omega)
    have h2 := hb.all k (by omega)
    rw [wTot_succ, List.take_succ_eq_append_getElem (by omega), List.map_append, List.map_append, List.map_singleton, List.map_singleton, sum_snoc, sum_snoc]
    have e : G.getD k ⟨0, 0⟩ = G[k]'(by omega) := by simp [List.getD, List.getElem?_eq_getElem (show k < G.length by omega)]
    rw [e] at h2
    omega

theorem wTot_in {b : Bat} (hb : OkB b) {r : List Int} (hr : ∀ x ∈ r, 0 ≤ x ∧ x ≤ 10000) (hl : r.length = b.mats.length) {g : List Int} (hg : Betw g (gramsB b r)) :
    100 * (tot (gramsB b r)).lo ≤ wTot g b.oxides.length ∧ wTot g b.oxides.length ≤ 100 * (tot (gramsB b r)).hi := by
  have ht := tot_ok hb hr hl
  have hlen : (gramsB b r).length = b.oxides.length := gTo_len _ _ _ _
  have h := wTot_bd hg b.oxides.length (by omega)
  rw [List.take_of_length_le (by omega)] at h
  rw [ht.1, ht.2.1]
  exact h

theorem real_redox {b : Bat} (hb : OkB b) {r : List Int} (hr : ∀ x ∈ r, 0 ≤ x ∧ x ≤ 10000) (hl : r.length = b.mats.length) (hz : (tot (gramsB b r)).lo ≠ 0) {g : List Int} (hg : Betw g (gramsB b r)) {t : Sp} (h1 : t.lo ≤ (rdxB b r).lo) (h2 : (rdxB b r).hi ≤ t.hi) :
    t.lo * wTot g b.oxides.length ≤ 100 * rdxTo b r b.mats.length ∧ -t.hi * wTot g b.oxides.length ≤ 100 * -(rdxTo b r b.mats.length) := by
  have ht := tot_bd hb hr hl
  have hw := wTot_in hb hr hl hg
  have hl1 : 0 < (tot (gramsB b r)).lo := by omega
  have hl2 : 0 < (tot (gramsB b r)).hi := by omega
  generalize wTot g b.oxides.length = w at *
  unfold rdxB at h1 h2
  simp only at h1 h2
  have a1 := (le_floor (s := rdxTo b r b.mats.length) (n := t.lo) hl1).1 (by omega)
  have a2 := (le_floor (s := rdxTo b r b.mats.length) (n := t.lo) hl2).1 (by omega)
  have b1 := (ceil_le (s := rdxTo b r b.mats.length) (n := t.hi) hl1).1 (by omega)
  have b2 := (ceil_le (s := rdxTo b r b.mats.length) (n := t.hi) hl2).1 (by omega)
  constructor
  · by_cases h : 0 ≤ t.lo
    · have := Int.mul_le_mul_of_nonneg_left hw.2 h
      rw [Int.mul_left_comm] at this
      omega
    · have := Int.mul_le_mul_of_nonpos_left (show t.lo ≤ 0 by omega) hw.1
      rw [Int.mul_left_comm] at this
      omega
  · rw [Int.neg_mul]
    by_cases h : 0 ≤ t.hi
    · have := Int.mul_le_mul_of_nonneg_left hw.1 h
      rw [Int.mul_left_comm] at this
      omega
    · have := Int.mul_le_mul_of_nonpos_left (show t.hi ≤ 0 by omega) hw.2
      rw [Int.mul_left_comm] at this
      omega

end Go.Proofs.Ytnnkcbeadiembaa
