/- What the best recipe is: the mathematics; no statement is proved here. -/
import Derived.Test.YtpkggjfaefkiiaaBest
import Derived.Test.YtpkggjfaefkiiaaRCost
import Derived.Test.YtpkggjfaefkiiaaExact
namespace Go.Proofs.Ytpkggjfaefkiiaa
open Go.RowKit Go.PlainAid
set_option linter.unusedVariables false

theorem dot_zero (a : List Int) (n : Nat) : ∀ k, dotTo a (List.replicate n 0) k = 0 := by
  intro k
  induction k with
  | zero => simp [dotTo]
  | succ k ih =>
    rw [dotTo_succ', ih, List.getD_eq_getElem?_getD, List.getD_eq_getElem?_getD, List.getElem?_replicate]
    split <;> simp
theorem wrap_i64 (n : Int) : I64 (wrap64 n) := by unfold wrap64 I64; omega
theorem wrap_two (n : Int) : wrap64 (wrap64 n) = wrap64 n := wrap_id _ (wrap_i64 n)

theorem fits_pass {b : Bat} (hok : OkB b) (r : List Int) : fitsB b (List.replicate b.mats.length 0) 1 1 r = passB b r := by
  unfold fitsB passB
  rw [Bool.eq_iff_iff]
  simp only [List.all_eq_true, Bool.not_eq_true', List.any_eq_false, brokenB, decide_eq_true_eq]
  have key : ∀ l ∈ linesB b, (wrap64 (dotB l.fs (List.replicate b.mats.length 0) + wrap64 (1 * dotB l.fs r)) ≤ wrap64 (1 * l.bound) ↔ ¬ l.bound < dotB l.fs r) := fun l hl => by
    have h1 := line_bd hok l hl
    have h2 : dotB l.fs (List.replicate b.mats.length 0) = 0 := by unfold dotB; rw [dot_zero]; simp [wrap64]
    have h3 : I64 (dotB l.fs r) := wrap_i64 _
    rw [h2, Int.one_mul, Int.one_mul, wrap_id _ h3, Int.zero_add, wrap_id _ h3, wrap_id _ (by unfold I64; omega)]
    omega
  exact ⟨fun h l hl => (key l hl).1 (h l hl), fun h l hl => (key l hl).2 (h l hl)⟩

theorem al_mem {b : Bat} (hok : OkB b) {r : List Int} (hl : r.length = b.mats.length) : alTo b r b.mats.length = true ↔ r ∈ recsM b.mats := by
  rw [recs_mem b.mats (stOk_of hok)]
  unfold alTo
  rw [List.all_eq_true]
  have key : ∀ i (h : i < b.mats.length), (match b.mats[i]? with | some m => alB m (r.getD i 0) | none => true) = true ↔ okM (b.mats[i]) (r.getD i 0) := fun i h => by
    rw [List.getElem?_eq_getElem h]
    simp only [alB, okM, Bool.and_eq_true, decide_eq_true_eq, and_assoc]
  exact ⟨fun h => ⟨hl, fun i hi => (key i hi).1 (h i (List.mem_range.2 hi))⟩, fun h i hi => (key i (List.mem_range.1 hi)).2 (h.2 i (List.mem_range.1 hi))⟩

theorem both_of {b : Bat} {r : List Int} (hc : checkB b = 0) (hl : r.length = b.mats.length) (hb : ∀ x ∈ r, 0 ≤ x ∧ x ≤ 10000) : bothB b r = 0 := by
  unfold bothB
  rw [if_neg (by simp [hc])]
  unfold recB
  rw [if_pos ?_]
  unfold allBetweenB
  simp [hl]
  intro x hx
  have := hb x hx
  unfold betweenB
  simp [this.1, this.2]

theorem both_res (b : Bat) (x : List Int) : ((passesB b x).2 ≠ 0 ∧ (passesB b x).1 = false ∧ (allowedB b x).1 = false) ∨ ((passesB b x).2 = 0 ∧ (allowedB b x).2 = 0 ∧ (costB b x).2 = 0) := by
  unfold passesB allowedB costB
  by_cases h : bothB b x = 0
  · exact .inr (by simp [h])
  · exact .inl (by simp [h])

theorem best_err {b : Bat} {o : Option (List Int × Int)} {e : Int} (h : bestB b = (o, e)) (he : e ≠ 0) : o = none := by
  unfold bestB searchB at h
  split at h
  · split at h
    · cases h; rfl
    · cases h; exact absurd rfl he
  · cases h; rfl
theorem best_ok {b : Bat} {o : Option (List Int × Int)} (h : bestB b = (o, 0)) : checkB b = 0 ∧ o = bestOf b (List.replicate b.mats.length 0) 1 1 (recsM b.mats) := by
  unfold bestB searchB at h
  split at h
  · rename_i hc
    split at h
    · cases h
    · cases h; exact ⟨hc, rfl⟩
  · rename_i hc
    have := (Prod.mk.inj h).2
    exact absurd this hc

theorem pass_and {b : Bat} {x : List Int} (h1 : passesB b x = (true, 0)) (h2 : allowedB b x = (true, 0)) : bothB b x = 0 ∧ passB b x = true ∧ alTo b x b.mats.length = true := by
  unfold passesB at h1
  unfold allowedB at h2
  by_cases h : bothB b x = 0
  · rw [if_pos h] at h1 h2
    simp only [Prod.mk.injEq, and_true] at h1 h2
    exact ⟨h, h1, h2⟩
  · rw [if_neg h] at h1
    simp at h1

theorem best_none {b : Bat} (h : bestB b = (none, 0)) (x : List Int) : ¬ (passesB b x = (true, 0) ∧ allowedB b x = (true, 0)) := by
  rintro ⟨h1, h2⟩
  obtain ⟨hc, ho⟩ := best_ok h
  have hok := ok_of hc
  obtain ⟨e1, e2, e3⟩ := pass_and h1 h2
  have hs := bestOf_spec b (List.replicate b.mats.length 0) 1 1 (recsM b.mats)
  rw [← ho] at hs
  have := hs x ((al_mem hok (rec_len e1).2.1).1 e3)
  rw [fits_pass hok, e2] at this
  cases this

/-- at the first place where they differ the best one has less. -/
theorem lex_at : ∀ (r x : List Int) (k : Nat), lexLt r x → k < r.length → k < x.length → (∀ j, j < k → r.getD j 0 = x.getD j 0) → x.getD k 0 ≠ r.getD k 0 → r.getD k 0 < x.getD k 0 := by
  intro r
  induction r with
  | nil => intro x k h hk; simp at hk
  | cons a r ih =>
    intro x k h hk hx he hn
    cases x with
    | nil => simp at hx
    | cons c x =>
      cases k with
      | zero =>
        rcases h with h | ⟨h, -⟩
        · exact h
        · exact absurd h.symm hn
      | succ k =>
        rcases h with h | ⟨-, h⟩
        · have := he 0 (by omega)
          simp at this
          omega
        · exact ih x k h (by simpa using hk) (by simpa using hx) (fun j hj => by simpa using he (j + 1) (by omega)) hn

theorem lex_two {r x : List Int} {k : Nat} (h : r = x ∨ lexLt r x) (hk : k < r.length) (hx : k < x.length) (he : ∀ j, j < k → r.getD j 0 = x.getD j 0) (hn : x[k] ≠ r[k]) : r[k] < x[k] := by
  rcases h with rfl | h
  · exact absurd rfl hn
  · have := lex_at r x k h hk hx he (by simpa [List.getD, List.getElem?_eq_getElem hk, List.getElem?_eq_getElem hx] using hn)
    simpa [List.getD, List.getElem?_eq_getElem hk, List.getElem?_eq_getElem hx] using this
theorem eq_more {r x : List Int} {k : Nat} (hk : k < r.length) (hx : k < x.length) (he : ∀ j, j < k → r.getD j 0 = x.getD j 0) (h : r[k] = x[k]) : ∀ j, j < k + 1 → r.getD j 0 = x.getD j 0 := by
  intro j hj
  rcases Nat.lt_succ_iff_lt_or_eq.1 hj with hj | rfl
  · exact he j hj
  · simpa [List.getD, List.getElem?_eq_getElem hk, List.getElem?_eq_getElem hx] using h

theorem best_some {b : Bat} {r : List Int} {c : Int} (h : bestB b = (some (r, c), 0)) :
    OkB b ∧ r.length = b.mats.length ∧ passesB b r = (true, 0) ∧ allowedB b r = (true, 0) ∧ costB b r = (c, 0) ∧
      ∀ x own, passesB b x = (true, 0) → allowedB b x = (true, 0) → costB b x = (own, 0) → x.length = b.mats.length ∧ c ≤ own ∧ (own = c → r = x ∨ lexLt r x) := by
  obtain ⟨hc, ho⟩ := best_ok h
  have hok := ok_of hc
  have hs := bestOf_spec b (List.replicate b.mats.length 0) 1 1 (recsM b.mats)
  rw [← ho] at hs
  obtain ⟨h1, h2, pre, post, h3, h4, h5⟩ := hs
  have hm : r ∈ recsM b.mats := by rw [h3]; simp
  obtain ⟨hl, hb⟩ := recs_bnd hok hm
  have hbo := both_of hc hl hb
  rw [fits_pass hok] at h2
  refine ⟨hok, hl, ?_, ?_, ?_, ?_⟩
  · unfold passesB; rw [if_pos hbo, h2]
  · unfold allowedB; rw [if_pos hbo, (al_mem hok hl).2 hm]
  · unfold costB; rw [if_pos hbo, h1]
  · intro x own g1 g2 g3
    obtain ⟨e1, e2, e3⟩ := pass_and g1 g2
    have hlx := (rec_len e1).2.1
    unfold costB at g3
    rw [if_pos e1] at g3
    simp only [Prod.mk.injEq, and_true] at g3
    have hmx := (al_mem hok hlx).1 e3
    have hfx : fitsB b (List.replicate b.mats.length 0) 1 1 x = true := by rw [fits_pass hok, e2]
    refine ⟨hlx, ?_⟩
    rw [h3] at hmx
    rcases List.mem_append.1 hmx with hx | hx
    · have := h4 x hx hfx
      omega
    · rcases List.mem_cons.1 hx with rfl | hx
      · exact ⟨by omega, fun _ => .inl rfl⟩
      · have := h5 x hx hfx
        refine ⟨by omega, fun _ => .inr ?_⟩
        obtain ⟨j, hj, rfl⟩ := List.getElem_of_mem hx
        have q1 : pre.length < (recsM b.mats).length := by rw [h3]; simp
        have q2 : pre.length + 1 + j < (recsM b.mats).length := by rw [h3]; simp; omega
        have := recs_lex b.mats (stOk_of hok) pre.length (pre.length + 1 + j) q1 q2 (by omega)
        have z1 : (recsM b.mats)[pre.length] = r := by
          have : (recsM b.mats)[pre.length]? = some r := by rw [h3]; simp
          rw [List.getElem?_eq_getElem q1] at this
          exact Option.some.inj this
        have z2 : (recsM b.mats)[pre.length + 1 + j] = post[j] := by
          have : (recsM b.mats)[pre.length + 1 + j]? = some post[j] := by
            rw [h3, List.getElem?_append_right (by omega), show pre.length + 1 + j - pre.length = j + 1 by omega, List.getElem?_cons_succ, List.getElem?_eq_getElem hj]
          rw [List.getElem?_eq_getElem q2] at this
          exact Option.some.inj this
        rw [z1, z2] at this
        exact this

end Go.Proofs.Ytpkggjfaefkiiaa
