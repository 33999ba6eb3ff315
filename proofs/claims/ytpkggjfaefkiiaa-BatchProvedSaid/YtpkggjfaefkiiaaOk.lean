/- What a batch without an error is like; no statement is proved here. -/
import Derived.Test.YtpkggjfaefkiiaaDot
namespace Go.Proofs.Ytpkggjfaefkiiaa
open Go.RowKit Go.PlainAid
set_option linter.unusedVariables false

structure SpIn (s : Sp) (a b : Int) : Prop where
  lo : a ≤ s.lo
  le : s.lo ≤ s.hi
  hi : s.hi ≤ b

structure MatOk (m : Mat) (n : Nat) : Prop where
  price : 0 ≤ m.price ∧ m.price ≤ 10000
  redox : -1000 ≤ m.redox ∧ m.redox ≤ 1000
  least : 0 ≤ m.least ∧ m.least ≤ 10000
  most : m.least ≤ m.most ∧ m.most ≤ 10000
  step : 1 ≤ m.step ∧ m.step ≤ 10000
  len : m.content.length = n
  spans : ∀ s ∈ m.content, SpIn s 0 1000
  sum : (tot m.content).lo ≤ 1000

structure PrpOk (p : Prp) (n : Nat) : Prop where
  len : p.coefs.length = n
  coefs : ∀ c ∈ p.coefs, -10000 ≤ c ∧ c ≤ 10000
  target : SpIn p.target (-10000) 10000

structure OkB (b : Bat) : Prop where
  ox : 1 ≤ b.oxides.length ∧ b.oxides.length ≤ 12
  mt : 1 ≤ b.mats.length ∧ b.mats.length ≤ 12
  mats : ∀ m ∈ b.mats, MatOk m b.oxides.length
  shLen : b.shares.length = b.oxides.length
  shares : ∀ s ∈ b.shares, SpIn s 0 1000
  pr : b.props.length ≤ 6
  props : ∀ p ∈ b.props, PrpOk p b.oxides.length
  redox : SpIn b.redox (-10000) 10000
  wanted : 1 ≤ b.wanted ∧ b.wanted ≤ 10000

theorem within_iff {s : Sp} {a b : Int} (h : withinB s a b = true) : SpIn s a b := by
  unfold withinB at h
  simp only [Bool.and_eq_true, decide_eq_true_eq] at h
  exact ⟨h.1.1, h.1.2, h.2⟩
theorem within_iff' {s : Sp} {a b : Int} (h : SpIn s a b) : withinB s a b = true := by
  unfold withinB
  simp only [Bool.and_eq_true, decide_eq_true_eq]
  exact ⟨⟨h.lo, h.le⟩, h.hi⟩
theorem between_iff {n a b : Int} (h : betweenB n a b = true) : a ≤ n ∧ n ≤ b := by
  unfold betweenB at h
  simpa only [Bool.and_eq_true, decide_eq_true_eq] using h
theorem allWithin_iff {l : List Sp} {n : Nat} {a b : Int} (h : allWithinB l n a b = true) : l.length = n ∧ ∀ s ∈ l, SpIn s a b := by
  unfold allWithinB at h
  simp only [Bool.and_eq_true, beq_iff_eq, Bool.not_eq_true', List.any_eq_false] at h
  refine ⟨by omega, fun s hs => within_iff ?_⟩
  have := h.2 s hs
  simpa using this
theorem allBetween_iff {l : List Int} {n : Nat} {a b : Int} (h : allBetweenB l n a b = true) : l.length = n ∧ ∀ s ∈ l, a ≤ s ∧ s ≤ b := by
  unfold allBetweenB at h
  simp only [Bool.and_eq_true, beq_iff_eq, Bool.not_eq_true', List.any_eq_false] at h
  refine ⟨by omega, fun s hs => between_iff ?_⟩
  have := h.2 s hs
  simpa using this

theorem seqB_zero {α : Type} (name : α → ByteArray) (chk : α → Int) : ∀ (l seen : List α), seqB name chk seen l = 0 → ∀ x ∈ l, chk x = 0 := by
  intro l
  induction l with
  | nil => intro seen h x hx; cases hx
  | cons a l ih =>
    intro seen h x hx
    unfold seqB at h
    split at h
    · omega
    · split at h
      · omega
      · split at h
        · rename_i h0
          rcases List.mem_cons.1 hx with rfl | hx
          · exact h0
          · exact ih _ h x hx
        · rename_i h0
          exact absurd h h0

theorem mat_ok {m : Mat} {n : Nat} (h : numB m n = 0) : MatOk m n := by
  unfold numB at h
  split at h
  · omega
  rename_i h1
  split at h
  · omega
  rename_i h2
  split at h
  · omega
  rename_i h3
  split at h
  · omega
  rename_i h4
  simp only [Bool.not_eq_false, Bool.and_eq_true] at h1 h2 h3
  obtain ⟨e1, e2⟩ := allWithin_iff h3
  exact ⟨between_iff h1.1, between_iff h1.2, between_iff h2.1.1, between_iff h2.1.2, between_iff h2.2, e1, e2, by omega⟩

theorem prp_ok {p : Prp} {n : Nat} (h : prpB n p = 0) : PrpOk p n := by
  unfold prpB at h
  split at h
  · omega
  rename_i h1
  simp only [Bool.not_eq_false, Bool.and_eq_true] at h1
  obtain ⟨e1, e2⟩ := allBetween_iff h1.1
  exact ⟨e1, e2, within_iff h1.2⟩

theorem ok_of {b : Bat} (h : checkB b = 0) : OkB b := by
  unfold checkB at h
  split at h
  · rename_i h1; exact absurd h h1
  rename_i h1
  split at h
  · rename_i h1; exact absurd h h1
  rename_i h2
  split at h
  · omega
  rename_i h3
  split at h
  · rename_i h1; exact absurd h h1
  rename_i h4
  split at h
  · omega
  rename_i h5
  simp only [ne_eq, Decidable.not_not] at h1 h2 h4
  simp only [Bool.not_eq_false, Bool.and_eq_true] at h3 h5
  have o : 1 ≤ b.oxides.length ∧ b.oxides.length ≤ 12 := by
    unfold oxB at h1
    split at h1
    · omega
    split at h1
    · omega
    omega
  have m : 1 ≤ b.mats.length ∧ b.mats.length ≤ 12 ∧ ∀ m ∈ b.mats, numB m b.oxides.length = 0 := by
    unfold matsB at h2
    split at h2
    · omega
    split at h2
    · omega
    exact ⟨by omega, by omega, seqB_zero _ _ _ _ h2⟩
  have p : b.props.length ≤ 6 ∧ ∀ p ∈ b.props, prpB b.oxides.length p = 0 := by
    unfold prpsB at h4
    split at h4
    · omega
    exact ⟨by omega, seqB_zero _ _ _ _ h4⟩
  obtain ⟨e1, e2⟩ := allWithin_iff h3
  exact ⟨o, ⟨m.1, m.2.1⟩, fun x hx => mat_ok (m.2.2 x hx), e1, e2, p.1, fun x hx => prp_ok (p.2 x hx), within_iff h5.1, between_iff h5.2⟩

structure FmOk (f : Fm) (n : Nat) : Prop where
  len : f.coefs.length = n
  coefs : ∀ c ∈ f.coefs, -10000 ≤ c ∧ c ≤ 10000
  t : SpIn f.t (-10000) 10000

theorem share_mem {n i : Nat} {c : Int} (h : c ∈ shareB n i) : c = 0 ∨ c = 1000 := by
  rcases List.mem_or_eq_of_mem_set h with h4 | h4
  · exact .inl (List.mem_replicate.1 h4).2
  · exact .inr h4

theorem forms_ok {b : Bat} (h : OkB b) : ∀ f ∈ formsB b, FmOk f b.oxides.length := by
  intro f hf
  unfold formsB fmsTo2 at hf
  rcases List.mem_append.1 hf with hf | hf
  · unfold fmsTo1 at hf
    obtain ⟨i, hi, hf⟩ := List.mem_flatMap.1 hf
    have hi := List.mem_range.1 hi
    have hs := h.shares _ (List.getElem_mem hi)
    rw [show b.shares.getD i ⟨0, 0⟩ = b.shares[i] from by simp [List.getD, List.getElem?_eq_getElem hi]] at hf
    have hsp : SpIn b.shares[i] (-10000) 10000 := ⟨by have := hs.lo; omega, hs.le, by have := hs.hi; omega⟩
    have hc : ∀ c ∈ shareB b.oxides.length i, -10000 ≤ c ∧ c ≤ 10000 := fun c hc => by rcases share_mem hc with rfl | rfl <;> omega
    simp only [sidesB, List.mem_cons, List.not_mem_nil, or_false] at hf
    rcases hf with rfl | rfl
    · exact ⟨by simp [shareB], hc, hsp⟩
    · exact ⟨by simp [shareB], hc, hsp⟩
  · rw [List.take_of_length_le (Nat.le_refl _)] at hf
    obtain ⟨p, hp, hf⟩ := List.mem_flatMap.1 hf
    have := h.props p hp
    simp only [sidesB, List.mem_cons, List.not_mem_nil, or_false] at hf
    rcases hf with rfl | rfl
    · exact ⟨this.len, this.coefs, this.target⟩
    · exact ⟨this.len, this.coefs, this.target⟩

theorem lines_ok (vb : Value) (b : Bat) (w : World) (h : RBat w vb b) (hk : OkB b) :
    Calls Try.prog 48 #[vb] w (RetLns w (linesB b)) :=
  lines_any vb b w h (by rw [hk.shLen]; exact Nat.le_refl _) (by have := hk.ox; omega) (by have := hk.pr; omega) (by have := hk.mt; omega)
    (fun f hf m hm => by rw [(forms_ok hk f hf).len, (hk.mats m hm).len]; exact Nat.le_refl _)

end Go.Proofs.Ytpkggjfaefkiiaa
