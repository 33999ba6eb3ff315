/- When a greatest weighted mean is at most a number; no statement is proved here. -/
import Derived.Test.YtpkggjfaefkiiaaExact
namespace Go.Proofs.Ytpkggjfaefkiiaa
open Go.RowKit Go.PlainAid
set_option linter.unusedVariables false

theorem foldl_max_le (n : Int) : ∀ (l : List Int) (a : Int), l.foldl max a ≤ n ↔ a ≤ n ∧ ∀ x ∈ l, x ≤ n := by
  intro l
  induction l with
  | nil => intro a; simp
  | cons x l ih =>
    intro a
    rw [List.foldl_cons, ih]
    simp only [List.mem_cons, forall_eq_or_imp]
    constructor
    · rintro ⟨h1, h2⟩; exact ⟨by omega, by omega, h2⟩
    · rintro ⟨h1, h2, h3⟩; exact ⟨by omega, h3⟩

theorem gm_le {c : List Int} {g : List Sp} (h : MeanOk c g) (n : Int) : gmB c g ≤ n ↔ ∀ t ∈ c, meanB c g t ≤ n := by
  unfold gmB maxB
  rw [foldl_max_le]
  have hl : 0 < (meansB c g).length := by have := h.n; simp [meansB]; omega
  rw [show (meansB c g).getD 0 0 = (meansB c g)[0] from by simp [List.getD, List.getElem?_eq_getElem hl]]
  constructor
  · rintro ⟨-, h2⟩ t ht
    exact h2 _ (List.mem_map_of_mem ht)
  · intro h2
    have key : ∀ x ∈ meansB c g, x ≤ n := by
      intro x hx
      obtain ⟨t, ht, rfl⟩ := List.mem_map.1 hx
      exact h2 t ht
    exact ⟨key _ (List.getElem_mem hl), key⟩

theorem ceil_le {s w n : Int} (hw : 0 < w) : -(-s / w) ≤ n ↔ s ≤ n * w := by
  have h := Int.le_ediv_iff_mul_le (a := -n) (b := -s) hw
  rw [Int.neg_mul] at h
  omega
theorem le_floor {s w n : Int} (hw : 0 < w) : n ≤ s / w ↔ n * w ≤ s := Int.le_ediv_iff_mul_le hw

theorem mean_le {c : List Int} {g : List Sp} (h : MeanOk c g) (t n : Int) : meanB c g t ≤ n ↔ sumTo c g t c.length ≤ n * wTo c g t c.length := by
  unfold meanB
  exact ceil_le (by have := w_pos h t; omega)

/-- what goes beyond a number, at most. -/
def fE (c : List Int) (n : Int) (g : List Sp) (k : Nat) : Int := ((List.range k).map fun i => grE (c.getD i 0 - n) (g.getD i ⟨0, 0⟩)).sum
theorem fE_succ (c : List Int) (n : Int) (g : List Sp) (k : Nat) : fE c n g (k + 1) = fE c n g k + grE (c.getD k 0 - n) (g.getD k ⟨0, 0⟩) := by
  unfold fE
  rw [List.range_succ, List.map_append, List.map_singleton, sum_snoc]

theorem g_at {g : List Sp} (hg : ∀ s ∈ g, 0 ≤ s.lo ∧ s.lo ≤ s.hi ∧ s.hi ≤ 1000000000) (k : Nat) (hk : k < g.length) : 0 ≤ (g.getD k ⟨0, 0⟩).lo ∧ (g.getD k ⟨0, 0⟩).lo ≤ (g.getD k ⟨0, 0⟩).hi := by
  have := hg _ (getD_mem (d := ⟨0, 0⟩) hk)
  omega

theorem grE_pos {n : Int} {s : Sp} (hn : 0 ≤ n) (h : s.lo ≤ s.hi) : grE n s = n * s.hi := by
  have := Int.mul_le_mul_of_nonneg_left h hn
  unfold grE; omega
theorem grE_neg {n : Int} {s : Sp} (hn : n ≤ 0) (h : s.lo ≤ s.hi) : grE n s = n * s.lo := by
  have := Int.mul_le_mul_of_nonneg_left h (show 0 ≤ -n by omega)
  rw [Int.neg_mul, Int.neg_mul] at this
  unfold grE; omega

theorem pick_le (c n t : Int) (s : Sp) : c * pickB t c s - n * pickB t c s ≤ grE (c - n) s := by
  rw [← Int.sub_mul]
  unfold pickB grE
  split <;> omega

theorem mean_beyond {c : List Int} {g : List Sp} (t n : Int) : ∀ k, sumTo c g t k - n * wTo c g t k ≤ fE c n g k := by
  intro k
  induction k with
  | zero => simp [sumTo, wTo, fE]
  | succ k ih =>
    have h1 := pick_le (c.getD k 0) n t (g.getD k ⟨0, 0⟩)
    rw [sumTo_succ, wTo_succ, fE_succ, Int.mul_add]
    omega

theorem mean_meets {c : List Int} {g : List Sp} (hg : ∀ s ∈ g, 0 ≤ s.lo ∧ s.lo ≤ s.hi ∧ s.hi ≤ 1000000000) (hl : c.length = g.length) (t n : Int) (ht : ∀ x ∈ c, t ≤ x ↔ n < x) : ∀ k, k ≤ c.length → sumTo c g t k - n * wTo c g t k = fE c n g k := by
  intro k
  induction k with
  | zero => intro _; simp [sumTo, wTo, fE]
  | succ k ih =>
    intro hk
    have h0 := ih (by omega)
    have h1 := g_at hg k (by omega)
    have h2 := ht _ (getD_mem (d := 0) (show k < c.length by omega))
    have h3 : c.getD k 0 * pickB t (c.getD k 0) (g.getD k ⟨0, 0⟩) - n * pickB t (c.getD k 0) (g.getD k ⟨0, 0⟩) = grE (c.getD k 0 - n) (g.getD k ⟨0, 0⟩) := by
      rw [← Int.sub_mul]
      unfold pickB
      split
      · rw [grE_pos (by omega) h1.2]
      · rw [grE_neg (by omega) h1.2]
    rw [sumTo_succ, wTo_succ, fE_succ, Int.mul_add]
    omega

theorem least_above (n : Int) : ∀ c : List Int, (∃ t ∈ c, ∀ x ∈ c, t ≤ x ↔ n < x) ∨ ∀ x ∈ c, x ≤ n := by
  intro c
  have key : (∃ t ∈ c, n < t ∧ ∀ x ∈ c, n < x → t ≤ x) ∨ ∀ x ∈ c, x ≤ n := by
    induction c with
    | nil => exact .inr (by simp)
    | cons a c ih =>
      rcases ih with ⟨t, h1, h2, h3⟩ | h
      · by_cases ha : n < a
        · by_cases hat : a ≤ t
          · refine .inl ⟨a, List.mem_cons_self, ha, fun x hx hn => ?_⟩
            rcases List.mem_cons.1 hx with rfl | hx
            · omega
            · have := h3 x hx hn; omega
          · refine .inl ⟨t, List.mem_cons_of_mem _ h1, h2, fun x hx hn => ?_⟩
            rcases List.mem_cons.1 hx with rfl | hx
            · omega
            · exact h3 x hx hn
        · refine .inl ⟨t, List.mem_cons_of_mem _ h1, h2, fun x hx hn => ?_⟩
          rcases List.mem_cons.1 hx with rfl | hx
          · omega
          · exact h3 x hx hn
      · by_cases ha : n < a
        · refine .inl ⟨a, List.mem_cons_self, ha, fun x hx hn => ?_⟩
          rcases List.mem_cons.1 hx with rfl | hx
          · omega
          · have := h x hx; omega
        · refine .inr fun x hx => ?_
          rcases List.mem_cons.1 hx with rfl | hx
          · omega
          · exact h x hx
  rcases key with ⟨t, h1, h2, h3⟩ | h
  · exact .inl ⟨t, h1, fun x hx => ⟨fun h => by omega, h3 x hx⟩⟩
  · exact .inr h

theorem below_all {c : List Int} {g : List Sp} (hg : ∀ s ∈ g, 0 ≤ s.lo ∧ s.lo ≤ s.hi ∧ s.hi ≤ 1000000000) (hl : c.length = g.length) (n : Int) (h : ∀ x ∈ c, x ≤ n) : ∀ k, k ≤ c.length → fE c n g k ≤ 0 := by
  intro k
  induction k with
  | zero => intro _; simp [fE]
  | succ k ih =>
    intro hk
    have h0 := ih (by omega)
    have h1 := g_at hg k (by omega)
    have h2 := h _ (getD_mem (d := 0) (show k < c.length by omega))
    rw [fE_succ, grE_neg (by omega) h1.2]
    have := Int.mul_nonneg (show 0 ≤ -(c.getD k 0 - n) by omega) h1.1
    rw [Int.neg_mul] at this
    omega

/-- the greatest mean is at most n just if no glass goes beyond n. -/
theorem gm_iff {c : List Int} {g : List Sp} (h : MeanOk c g) (n : Int) : gmB c g ≤ n ↔ fE c n g c.length ≤ 0 := by
  rw [gm_le h]
  constructor
  · intro hm
    rcases least_above n c with ⟨t, ht, hx⟩ | hx
    · have h1 := (mean_le h t n).1 (hm t ht)
      have h2 := mean_meets h.hg h.len t n hx c.length (Nat.le_refl _)
      omega
    · exact below_all h.hg h.len n hx _ (Nat.le_refl _)
  · intro hf t _
    rw [mean_le h]
    have := mean_beyond (c := c) (g := g) t n c.length
    omega

end Go.Proofs.Ytpkggjfaefkiiaa
