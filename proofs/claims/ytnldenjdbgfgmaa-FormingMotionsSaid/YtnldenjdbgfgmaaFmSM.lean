/- The stretches of a path: how they are joined; no statement is proved here. -/
import Derived.Test.YtnldenjdbgfgmaaFmIns
import Derived.Test.YtnldenjdbgfgmaaFmAt
import Derived.Test.YtnldenjdbgfgmaaRangeD
namespace Go.Proofs.Ytnldenjdbgfgmaa
open Go.RowKit Go.PlainAid
set_option linter.unusedVariables false
set_option linter.unusedSimpArgs false

def stepS (acc : List St × Option St) : Option St → List St × Option St
  | none => acc
  | some n => match acc.2 with
    | none => (acc.1, some n)
    | some p => if p.b = n.a then (acc.1, some ⟨p.a, n.b⟩) else (acc.1 ++ [p], some n)
def runS (c h : Int) (l : List Sp) (s : Sp) : Nat → List St × Option St
  | 0 => ([], none)
  | k + 1 => stepS (runS c h l s k) (insF (lgA h l k) (lgB c h l k) s)
/-- the stretches of a path for a span. -/
def strE (c h : Int) (l : List Sp) (s : Sp) : List St := (runS c h l s (nL l)).1 ++ (runS c h l s (nL l)).2.toList
def encS (L : List St) : List (Array Value) := L.map fun x => #[stV x]
theorem encS_len (L : List St) : (encS L).length = L.length := by simp [encS]
theorem encS_at {L : List St} {k : Nat} {x : St} (h : L[k]? = some x) : (encS L)[k]? = some #[stV x] := by simp [encS, List.getElem?_map, h]
theorem encS_ix {L : List St} {k : Nat} {x : Array Value} (h : (encS L)[k]? = some x) : ∃ y, L[k]? = some y ∧ x = #[stV y] := by
  simp only [encS, List.getElem?_map, Option.map_eq_some_iff] at h
  obtain ⟨y, h1, h2⟩ := h
  exact ⟨y, h1, h2.symm⟩

theorem stepS_pre (acc : List St × Option St) (x : Option St) : acc.1 <+: (stepS acc x).1 := by
  unfold stepS
  cases x with
  | none => exact List.prefix_refl _
  | some n =>
    simp only
    cases acc.2 with
    | none => exact List.prefix_refl _
    | some p =>
      simp only
      split
      · exact List.prefix_refl _
      · exact List.prefix_append _ _
theorem runS_pre (c h : Int) (l : List Sp) (s : Sp) (k d : Nat) : (runS c h l s k).1 <+: (runS c h l s (k + d)).1 := by
  induction d with
  | zero => exact List.prefix_refl _
  | succ d ih => exact List.IsPrefix.trans ih (stepS_pre _ _)
/-- what is handed over when a leg has no common end with the last stretch. -/
theorem runS_yield {c h : Int} {l : List Sp} {s : Sp} {k : Nat} {p n : St} (hk : k < nL l) (hp : (runS c h l s k).2 = some p) (hn : insF (lgA h l k) (lgB c h l k) s = some n) (hne : p.b ≠ n.a) :
    (strE c h l s)[(runS c h l s k).1.length]? = some p ∧ runS c h l s (k + 1) = ((runS c h l s k).1 ++ [p], some n) := by
  have h1 : runS c h l s (k + 1) = ((runS c h l s k).1 ++ [p], some n) := by
    show stepS _ _ = _
    rw [hn]
    unfold stepS
    simp only [hp, if_neg hne]
  refine ⟨?_, h1⟩
  have h2 := runS_pre c h l s (k + 1) (nL l - (k + 1))
  rw [show k + 1 + (nL l - (k + 1)) = nL l by omega, h1] at h2
  obtain ⟨t, ht⟩ := h2
  unfold strE
  rw [← ht]
  simp
theorem runS_none {c h : Int} {l : List Sp} {s : Sp} {k : Nat} (hn : insF (lgA h l k) (lgB c h l k) s = none) : runS c h l s (k + 1) = runS c h l s k := by
  show stepS _ _ = _
  rw [hn]; rfl
theorem runS_first {c h : Int} {l : List Sp} {s : Sp} {k : Nat} {n : St} (hp : (runS c h l s k).2 = none) (hn : insF (lgA h l k) (lgB c h l k) s = some n) : runS c h l s (k + 1) = ((runS c h l s k).1, some n) := by
  show stepS _ _ = _
  rw [hn]
  unfold stepS
  simp only [hp]
theorem runS_join {c h : Int} {l : List Sp} {s : Sp} {k : Nat} {p n : St} (hp : (runS c h l s k).2 = some p) (hn : insF (lgA h l k) (lgB c h l k) s = some n) (he : p.b = n.a) : runS c h l s (k + 1) = ((runS c h l s k).1, some ⟨p.a, n.b⟩) := by
  show stepS _ _ = _
  rw [hn]
  unfold stepS
  simp only [hp, if_pos he]
theorem strE_last {c h : Int} {l : List Sp} {s : Sp} {p : St} (hp : (runS c h l s (nL l)).2 = some p) : (strE c h l s)[(runS c h l s (nL l)).1.length]? = some p ∧ (strE c h l s).length = (runS c h l s (nL l)).1.length + 1 := by
  unfold strE
  rw [hp]
  simp
theorem strE_none {c h : Int} {l : List Sp} {s : Sp} (hp : (runS c h l s (nL l)).2 = none) : (strE c h l s).length = (runS c h l s (nL l)).1.length := by
  unfold strE
  rw [hp]
  simp

set_option maxRecDepth 100000 in
theorem stretchesM_any (c h : Int) (v : Value) (s : Sp) (w : World) : Calls Try.prog 31 #[ptV c h v, .agg #[.int .i64 s.lo, .int .i64 s.hi]] w fun e w' =>
    e = .returned (.func (.func 50) #[] #[.pointer (some ⟨w.heap.size, 0, none⟩), .pointer (some ⟨w.heap.size + 1, 0, none⟩)]) ∧ w' = (w.alloc (.cells #[.int .i64 c, .int .i64 h, v] 55)).alloc (.cells #[.int .i64 s.lo, .int .i64 s.hi] 26) := by
  have hmf : ∀ (fn : Fn) (first cap : Array Value) (w : World), (Instr.makeFunc fn first cap).run Try.prog w = .ok (.func fn first cap) w := fun _ _ _ _ => rfl
  unfold ptV
  go_enter Try.func31, Try.ntmps31
  go_wp2
  go_ret
  exact ⟨rfl, rfl⟩

theorem roundIn_wide {n m l lp : Nat} {P : Program} {f : FuncId} {tmps : Array Value} {assign body : Code} {w : World} {R : Ending → World → Prop} (h : RoundIn Fence.wide n P l f tmps assign body w R) : RoundIn (Fence.wide.inRound lp) m P l f tmps assign body w R := ⟨h.1, fun c cs _ => h.2 c cs (room_wide _)⟩
end Go.Proofs.Ytnldenjdbgfgmaa
