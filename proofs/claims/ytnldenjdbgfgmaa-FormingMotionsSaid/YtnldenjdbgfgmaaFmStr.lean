/- Stretches of package forming; no statement is proved here. -/
import Derived.Test.YtnldenjdbgfgmaaFmSIt
import Derived.Test.YtnldenjdbgfgmaaSOwn
namespace Go.Proofs.Ytnldenjdbgfgmaa
open Go.RowKit Go.PlainAid
set_option linter.unusedVariables false
set_option linter.unusedSimpArgs false
attribute [local go_sem] Oper.semAt_some

theorem own_othr {w : World} {base : Nat} {e : TypeId} {size : Nat} {v : Value} {n : Nat} {xs : List Value} (h : w.ownsRow base e size v n xs) (p : Addr) (x : Value) (hp : v.ownBlock ≠ some p.block) : (w.setCell p x).ownsRow base e size v n xs := by
  obtain ⟨h1, h2⟩ := h
  refine ⟨h1, ?_⟩
  rcases h2 with h2 | ⟨g, cap, cur, hv, hg, hh, r⟩
  · exact Or.inl h2
  · refine Or.inr ⟨g, cap, cur, hv, hg, ?_, r⟩
    rw [Below.heap_setCell _ _ _ _ (fun e => by subst e; subst hv; exact hp rfl)]
    exact hh
theorem own_grown {X Y : World} {row : Option Nat} {base : Nat} {e : TypeId} {size : Nat} {v : Value} {n : Nat} {xs : List Value} (h : X.ownsRow base e size v n xs) (hg : X.grownBy Y row) (hr : ∀ r, row = some r → ∃ o : Obj, X.heap[r]? = some o ∧ o.isCells = false) : Y.ownsRow base e size v n xs := by
  obtain ⟨h1, h2⟩ := h
  refine ⟨h1, ?_⟩
  rcases h2 with h2 | ⟨g, cap, cur, hv, hg', hh, r⟩
  · exact Or.inl h2
  · refine Or.inr ⟨g, cap, cur, hv, hg', ?_, r⟩
    rw [hg.block g (Array.getElem?_eq_some_iff.1 hh).1 (fun e => by
      obtain ⟨o, ho, hc⟩ := hr g e.symm
      rw [hh] at ho; cases ho; cases hc)]
    exact hh

def stC (s : St) : List Value := [.int .i64 s.a.n, .int .i64 s.a.d, .int .i64 s.b.n, .int .i64 s.b.d]
def I64t (s : St) : Prop := I64q s.a ∧ I64q s.b
theorem own_RSts {w : World} {base : Nat} {e : TypeId} {v : Value} {l : List St} (h : w.ownsRow base e 4 v l.length (l.flatMap stC)) (hm : l.length ≤ 140737488351232) (hi : ∀ x ∈ l, I64t x) : RSts w v l :=
  own_RSl h hm fun g cap _ hc i hil => by
    have h0 := flat_cell (c := stC) (n := 4) (fun _ => rfl) hc i 0 hil (by omega) _ rfl
    have h1 := flat_cell (c := stC) (n := 4) (fun _ => rfl) hc i 1 hil (by omega) _ rfl
    have h2 := flat_cell (c := stC) (n := 4) (fun _ => rfl) hc i 2 hil (by omega) _ rfl
    have h3 := flat_cell (c := stC) (n := 4) (fun _ => rfl) hc i 3 hil (by omega) _ rfl
    exact ⟨⟨h0, h1, h2, h3⟩, hi _ (List.getElem_mem hil)⟩
theorem info_stretch : (Try.prog.info? 41).map (fun i => (i.zero, i.size, i.bytes)) = some (some (.agg #[.int .i64 0, .int .i64 0, .int .i64 0, .int .i64 0]), 4, 32) := by kernel_rfl

theorem timeF_I64 {x y : Sp} (h : LegOk x y) (hne : x.hi ≠ y.hi) {p : Int} (hp : 0 ≤ p ∧ p ≤ 1000000) : I64q (timeF x y p) := by
  obtain ⟨m1, m2⟩ := timeN_bd h hp
  have h2 := h.b; have h3 := h.c
  exact rat_bd (by unfold timeN; omega) (by omega)
theorem insF_I64 {x y s : Sp} (h : LegOk x y) {n : St} (hn : insF x y s = some n) : I64t n := by
  have h1 := h.a; have h2 := h.b; have h3 := h.c
  have hL : lowF x y s = max s.lo (min x.hi y.hi) := rfl
  have hH : highF x y s = min s.hi (max x.hi y.hi) := rfl
  unfold insF at hn
  by_cases hc : highF x y s < lowF x y s
  · rw [if_pos hc] at hn; cases hn
  rw [if_neg hc] at hn
  by_cases hu : x.hi < y.hi
  · rw [if_pos hu] at hn
    cases hn
    exact ⟨timeF_I64 h (by omega) (by omega), timeF_I64 h (by omega) (by omega)⟩
  rw [if_neg hu] at hn
  by_cases hd : y.hi < x.hi
  · rw [if_pos hd] at hn
    cases hn
    exact ⟨timeF_I64 h (by omega) (by omega), timeF_I64 h (by omega) (by omega)⟩
  rw [if_neg hd] at hn
  cases hn
  unfold I64t I64q I64
  simp only
  omega
theorem runS_I64 {c h : Int} {l : List Sp} {s : Sp} (H : chkM c h l = 0) : ∀ k, k ≤ nL l → (∀ x ∈ (runS c h l s k).1, I64t x) ∧ (∀ x, (runS c h l s k).2 = some x → I64t x) ∧ (runS c h l s k).1.length + (runS c h l s k).2.toList.length ≤ k := by
  intro k
  induction k with
  | zero => intro _; exact ⟨fun x hx => by simp [runS] at hx, fun x hx => by simp [runS] at hx, by simp [runS]⟩
  | succ k ih =>
    intro hk
    obtain ⟨h1, h2, h3⟩ := ih (by omega)
    have hok := legOk_of H (show k < nL l by omega)
    cases hn : insF (lgA h l k) (lgB c h l k) s with
    | none => rw [runS_none hn]; exact ⟨h1, h2, by omega⟩
    | some n =>
      have hi := insF_I64 hok hn
      cases hp : (runS c h l s k).2 with
      | none =>
        rw [runS_first hp hn]
        rw [hp] at h3
        exact ⟨h1, fun x hx => by cases hx; exact hi, by simp at h3 ⊢; omega⟩
      | some p =>
        have hpi := h2 p hp
        rw [hp] at h3
        by_cases he : p.b = n.a
        · rw [runS_join hp hn he]
          exact ⟨h1, fun x hx => by cases hx; exact ⟨hpi.1, hi.2⟩, by simp at h3 ⊢; omega⟩
        · rw [(runS_yield (show k < nL l by omega) hp hn he).2]
          exact ⟨fun x hx => by
            rcases List.mem_append.1 hx with hx | hx
            · exact h1 x hx
            · simp at hx; subst hx; exact hpi, fun x hx => by cases hx; exact hi, by simp at h3 ⊢; omega⟩
theorem strE_I64 {c h : Int} {l : List Sp} {s : Sp} (H : chkM c h l = 0) : (∀ x ∈ strE c h l s, I64t x) ∧ (strE c h l s).length ≤ 16 := by
  obtain ⟨h1, h2, h3⟩ := runS_I64 (s := s) H (nL l) (Nat.le_refl _)
  have h4 := (chkM_zero H).2.2.1
  unfold strE
  refine ⟨fun x hx => ?_, by rw [List.length_append]; unfold nL at *; omega⟩
  rcases List.mem_append.1 hx with hx | hx
  · exact h1 x hx
  · exact h2 x (by simpa using hx)

def SpOk (s : Sp) : Prop := (-1000000 ≤ s.lo ∧ s.lo ≤ 2000000) ∧ (-1000000 ≤ s.hi ∧ s.hi ≤ 2000000)
/-- what Stretches answers. -/
def StrA (c h : Int) (l : List Sp) (s : Sp) (w : World) (e : Ending) (w' : World) : Prop :=
  (chkM c h l ≠ 0 ∧ e = .returned (.tuple #[.slice none 0 0, .int .i64 (chkM c h l)]))
  ∨ (chkM c h l = 0 ∧ ¬ SpOk s ∧ e = .returned (.tuple #[.slice none 0 0, .int .i64 1]))
  ∨ (chkM c h l = 0 ∧ SpOk s ∧ ∃ v, e = .returned (.tuple #[v, .int .i64 0]) ∧ RSts (vis (w.heap.size ≤ ·) w') v (strE c h l s))
end Go.Proofs.Ytnldenjdbgfgmaa
