/- an iterator that hands over one row and changes it in place between two rounds: its contract, and the law of a range over it. -/
import Derived.Test.YtpkggjfaefkiiaaStep
import Derived.RangeFuncWrites
import Derived.RangeFuncNested
import Derived.RangeFuncBound
import Derived.RangeFuncCalls
import Derived.RangeFuncLeaves
import Derived.Shelf.Abstract
import Derived.Shelf.RegionOpen
import Derived.WalkKit
import Derived.OwnWalkIn
import Derived.TacticsInMore
import Derived.LoopNIn
import Derived.LoopIn
namespace Go.Proofs.Ytpkggjfaefkiiaa
open Go.RowKit Go.PlainAid
set_option linter.unusedVariables false

/-- Below block number n the world w' is as w was, but for the blocks of S. -/
structure BelowS (S : Nat → Prop) (n : Nat) (w w' : World) : Prop where
  os : w'.os = w.os
  tape : w'.tape = w.tape
  output : w'.output = w.output
  size : w.heap.size ≤ w'.heap.size
  block : ∀ k, k < n → ¬ S k → w'.heap[k]? = w.heap[k]?
theorem BelowS.refl (S : Nat → Prop) (n : Nat) (w : World) : BelowS S n w w := ⟨rfl, rfl, rfl, Nat.le_refl _, fun _ _ _ => rfl⟩
theorem BelowS.trans {S : Nat → Prop} {n : Nat} {a b c : World} (h : BelowS S n a b) (k : BelowS S n b c) : BelowS S n a c :=
  ⟨k.os.trans h.os, k.tape.trans h.tape, k.output.trans h.output, Nat.le_trans h.size k.size, fun i hi hS => (k.block i hi hS).trans (h.block i hi hS)⟩
theorem BelowS.of_below {S : Nat → Prop} {n : Nat} {a b : World} (h : Below n a b) : BelowS S n a b := ⟨h.os, h.tape, h.output, h.size, fun k hk _ => h.block k hk⟩
theorem BelowS.mono {S : Nat → Prop} {n m : Nat} {a b : World} (h : BelowS S n a b) (hm : m ≤ n) : BelowS S m a b := ⟨h.os, h.tape, h.output, h.size, fun k hk => h.block k (Nat.lt_of_lt_of_le hk hm)⟩
theorem BelowS.ext {S : Nat → Prop} {a b : World} (h : BelowS S a.heap.size a b) : Ext (vis (fun k => ¬ S k) a) b := fun p x hp => by
  obtain ⟨h1, h2⟩ := vis_cell.1 hp
  have hlt := cell_lt h2
  unfold World.cell? at h2 ⊢
  rw [h.block _ hlt h1]
  exact h2
theorem BelowS.blk {S : Nat → Prop} {a b : World} {k : Nat} {cs : Array Value} {t : TypeId} (h : BelowS S a.heap.size a b) (hB : Blk a k cs t) (hS : ¬ S k) : Blk b k cs t := by
  have hlt := hB.lt
  unfold Blk at *
  rw [h.block _ hlt hS]; exact hB

/-- The contract: s names the row's block and its capacity; the recipes come in the order xs. -/
def RowSeq (S : Nat → Prop) (F : Fence) (n : Nat) (P : Program) (gf : Nat) (lb : Array Value) (enc : Nat × Nat → Array Value) (Owns : Nat × Nat → List Int → World → Prop) (xs : List (List Int)) (w : World) : Prop :=
  ∀ (l : Nat) (J Jx : Nat × Nat → List (List Int) → World → Prop) (W : World), BelowS S w.heap.size w W →
    (∀ s pre A B, W.heap.size ≤ s.1 → J s pre A → Only s.1 A B → J s pre B) →
    (∀ s pre A B, W.heap.size ≤ s.1 → Jx s pre A → Only s.1 A B → Jx s pre B) →
    (∀ s A, W.heap.size ≤ s.1 → Below W.heap.size W A → J s [] A) →
    (∀ s pre x post A, W.heap.size ≤ s.1 → xs = pre ++ x :: post → J s pre A → Owns s x A → YieldAt F (n - 1) P l (enc s) A fun e A' =>
      (e = .returned (.bool true) ∧ J s (pre ++ [x]) A' ∧ Owns s x A' ∧ BelowS S w.heap.size A A') ∨ (e = .returned (.bool false) ∧ Jx s (pre ++ [x]) A')) →
    CallsIn F n P gf (#[.func (.yield l) #[] #[]] ++ lb) W fun e W' => (∃ v, e = .returned v) ∧ ((∃ s, W.heap.size ≤ s.1 ∧ J s xs W') ∨ (∃ s pre, W.heap.size ≤ s.1 ∧ pre <+: xs ∧ Jx s pre W'))

/-- how the body of a round may be left. -/
def rowPost (S : Nat → Prop) (B n0 : Nat) (Owns : Nat × Nat → List Int → World → Prop) (I : Nat × Nat → List (List Int) → World → Prop) (Ix : Code → Nat × Nat → List (List Int) → World → Prop) (s : Nat × Nat) (x : List Int) (pre : List (List Int)) (W : World) : Exit → Act → World → Prop
  | .normal, _, W' => KeepsFrom B W W' ∧ BelowS S n0 W W' ∧ Owns s x W' ∧ I s pre W'
  | .ret, _, W' => KeepsFrom B W W' ∧ Ix .ret s pre W'
  | .exit id, _, W' => KeepsFrom B W W' ∧ Ix (.exit id) s pre W'
  | .goto t, _, W' => KeepsFrom B W W' ∧ Ix (.goto t) s pre W'
  | .panic _, _, _ => False
  | .outgrown, _, _ => False

/-- abides the row's change, and the book-keeping of a walk. -/
structure RowFrom (B : Nat) (I : Nat × Nat → List (List Int) → World → Prop) : Prop where
  only : ∀ s pre X Y, B ≤ s.1 → I s pre X → Only s.1 X Y → I s pre Y
  put : ∀ s pre X l o o', B ≤ l → X.heap[l]? = some o → o.isCells = false → I s pre X → I s pre (X.putObj l o')

theorem wpIn_rangeFunc_row {S : Nat → Prop} {F : Fence} {n : Nat} {P : Program} {g : Operand} {ps : Array Tmp} {assign body : Code} {Q : Exit → Act → World → Prop} {a : Act} {w : World}
    (hro : F.round = none) (h1 : 1 ≤ n) {gf : Nat} {lb : Array Value} (hg : a.eval g = .func (.func gf) #[] lb) (hFg : F.fn gf) (eg : ∀ args w, (callFunc gf args).run P w = .ok (.enter gf args) w)
    {enc : Nat × Nat → Array Value} {Owns : Nat × Nat → List Int → World → Prop} {xs : List (List Int)} {w0 : World} (hseq : RowSeq S F (n - 1) P gf lb enc Owns xs w0)
    (hOw : ∀ s x (X : World) (l : Nat) (o : Obj), s.1 ≠ l → Owns s x X → Owns s x (X.putObj l o)) (hb0 : BelowS S w0.heap.size w0 w) (hps : ∀ s, (enc s).size = ps.size)
    (I : Nat × Nat → List (List Int) → World → Prop) (Ix : Code → Nat × Nat → List (List Int) → World → Prop) (hI : RowFrom w.heap.size I) (hIx : ∀ c, RowFrom w.heap.size (Ix c))
    (h0 : ∀ s A, w.heap.size ≤ s.1 → Below w.heap.size w A → I s [] A) (a₁ : Nat × Nat → Act)
    (hassign : ∀ (l : Nat) (s : Nat × Nat) (W : World) (K : Act → World → Prop), K (a₁ s) W →
      assign.wpIn (F.inRound l) (n - 1 - 1) P (Exit.then K (fun _ _ _ => False)) { tmps := (ps.zip (enc s)).foldl (fun t (p, v) => t.setIfInBounds p v) a.tmps, defers := [] } W)
    (hbody : ∀ (l : Nat) (s : Nat × Nat) (pre : List (List Int)) (x : List Int) (post : List (List Int)) (W : World), w.heap.size ≤ s.1 → xs = pre ++ x :: post → I s pre W → Owns s x W →
      body.wpIn (F.inRound l) (n - 1 - 1) P (rowPost S w.heap.size w0.heap.size Owns I Ix s x (pre ++ [x]) W) (a₁ s) W)
    (hdone : ∀ (D : Nat) (s : Nat × Nat) (W : World), w.heap.size ≤ D → w.heap.size ≤ s.1 → I s xs W → W.heap[D]? = some (.deferred (some [])) → Q .normal { a with defers := { target := .collected D, args := #[] } :: a.defers } W)
    (hstop : ∀ (D : Nat) (c : Code) (s : Nat × Nat) (pre : List (List Int)) (W : World), w.heap.size ≤ D → w.heap.size ≤ s.1 → pre <+: xs → Ix c s pre W → W.heap[D]? = some (.deferred (some [])) → c.wpIn F n P Q { a with defers := { target := .collected D, args := #[] } :: a.defers } W) :
    (Code.rangeFunc g ps assign body).wpIn F n P Q a w := by
  refine wpIn_rangeFunc ?_
  intro fn hfn
  rw [hro]
  obtain ⟨rec, hrec⟩ : ∃ rec : LoopState → Option Code → Loop, rec = fun st pe => { state := st, pending := pe, fn, tmps := a.tmps, params := ps, assign, body, defers := w.heap.size } := ⟨_, rfl⟩
  obtain ⟨W1, hW1⟩ : ∃ W1, (w.alloc (.deferred (some []))).alloc (.loop (rec .ready none)) = W1 := ⟨_, rfl⟩
  have hL1 : W1.heap[w.heap.size + 1]? = some (.loop (rec .ready none)) := by
    rw [← hW1]; have := World.alloc_heap_new (w.alloc (.deferred (some []))) (.loop (rec .ready none)); rwa [World.size_alloc] at this
  have hK1 : W1.heap[w.heap.size]? = some (.deferred (some [])) := by
    rw [← hW1]; exact (Below.heap_alloc _ _ _ (by simp)).trans (World.alloc_heap_new w _)
  have hs1 : W1.heap.size = w.heap.size + 2 := by rw [← hW1]; simp
  have hbw : Below w.heap.size w W1 := by rw [← hW1]; exact ((Below.refl _ w).alloc (Nat.le_refl _) _).alloc (by simp) _
  have hb1 : BelowS S w0.heap.size w0 W1 := hb0.trans (BelowS.of_below (hbw.mono hb0.size))
  refine ⟨w.heap.size + 1, [{ target := .collected w.heap.size, args := #[] }], W1, { target := .fn (.func gf) lb, args := #[.func (.yield (w.heap.size + 1)) #[] #[]] }, W1, gf,
    #[.func (.yield (w.heap.size + 1)) #[] #[]] ++ lb, W1, ?_, ?_, ?_, ?_, fun _ => h1, ?_⟩
  · rw [← hW1, hrec]; exact run_enterLoop_outer _ _ _ _ _
  · simp only [resolve, hg]
    simp [go_sem]
  · intro f' hf'; simp [Target.leads] at hf'; subst hf'; exact hFg
  · simp [invoke, go_sem, eg]
  · refine (hseq (w.heap.size + 1)
      (fun s pre W => I s pre W ∧ W.heap[w.heap.size + 1]? = some (.loop (rec .ready none)) ∧ W.heap[w.heap.size]? = some (.deferred (some [])))
      (fun s pre W => ∃ c, Ix c s pre W ∧ W.heap[w.heap.size + 1]? = some (.loop (rec .done (some c))) ∧ W.heap[w.heap.size]? = some (.deferred (some [])))
      W1 hb1 ?_ ?_ ?_ ?_).mono ?_
    · intro s pre A B hs hj hO
      obtain ⟨hi, hl, hk⟩ := hj
      have l1 := (Array.getElem?_eq_some_iff.1 hl).1
      exact ⟨hI.only s pre A B (by omega) hi hO, (hO.block _ l1 (by omega)).trans hl, (hO.block _ (by omega) (by omega)).trans hk⟩
    · intro s pre A B hs hj hO
      obtain ⟨c, hi, hl, hk⟩ := hj
      have l1 := (Array.getElem?_eq_some_iff.1 hl).1
      exact ⟨c, (hIx c).only s pre A B (by omega) hi hO, (hO.block _ l1 (by omega)).trans hl, (hO.block _ (by omega) (by omega)).trans hk⟩
    · intro s A hs hb
      exact ⟨h0 s A (by omega) (hbw.trans (hb.mono (by omega))), (hb.block _ (by omega)).trans hL1, (hb.block _ (by omega)).trans hK1⟩
    · -- one round
      rintro s pre x post W hs hxs ⟨hi, hl, hk⟩ hown
      have hlt : w.heap.size + 1 < W.heap.size := (Array.getElem?_eq_some_iff.1 hl).1
      have hy := run_yield (P := P) (args := enc s) hl (by rw [hrec]; exact hps s)
      rw [hrec] at hy
      refine ⟨fn, _, assign, body, hy, roundIn_of_wpIn hfn (hassign _ s W _ ⟨_, run_beginRound hl (by rw [hrec]), ?_⟩)⟩
      have hl2 : (W.putObj (w.heap.size + 1) (.loop { rec .ready none with state := .busy })).heap[w.heap.size + 1]? = some (.loop { rec .ready none with state := .busy }) := World.putObj_heap_same hlt
      have hk2 : (W.putObj (w.heap.size + 1) (.loop { rec .ready none with state := .busy })).heap[w.heap.size]? = some (.deferred (some [])) := (World.putObj_heap_other (by omega)).trans hk
      have hw2 : BelowS S w0.heap.size W (W.putObj (w.heap.size + 1) (.loop { rec .ready none with state := .busy })) := BelowS.of_below (belowK_b hb0.size _ _ _ _ (by omega) hl rfl rfl)
      refine wpIn_mono (hbody _ s pre x post _ (by omega) hxs (hI.put _ _ _ _ _ _ (by omega) hl rfl hi) (hOw _ _ _ _ _ (by omega) hown)) ?_
      have fin : ∀ (jump : Option Code) (W3 : World), KeepsFrom w.heap.size (W.putObj (w.heap.size + 1) (.loop { rec .ready none with state := .busy })) W3 →
          (Instr.endRound (w.heap.size + 1) jump).run P W3 = .ok (.bool jump.isNone) (W3.putObj (w.heap.size + 1) (.loop (rec (if jump.isNone then .ready else .done) jump))) ∧
          W3.heap[w.heap.size + 1]? = some (.loop { rec .ready none with state := .busy }) ∧
          (W3.putObj (w.heap.size + 1) (.loop (rec (if jump.isNone then .ready else .done) jump))).heap[w.heap.size + 1]? = some (.loop (rec (if jump.isNone then .ready else .done) jump)) ∧
          (W3.putObj (w.heap.size + 1) (.loop (rec (if jump.isNone then .ready else .done) jump))).heap[w.heap.size]? = some (.deferred (some [])) := fun jump W3 hk3 => by
        have hl3 := hk3.same _ _ (by omega) hl2 rfl
        have := run_endRound (P := P) jump hl3
        rw [hrec] at this ⊢
        exact ⟨this, by rw [hrec] at hl3; exact hl3, World.putObj_heap_same (Array.getElem?_eq_some_iff.1 hl3).1, (World.putObj_heap_other (by omega)).trans (hk3.same _ _ (Nat.le_refl _) hk2 rfl)⟩
      rintro e a3 W3 hp
      cases e with
      | normal =>
        obtain ⟨hk3, hkp3, ho3, hi3⟩ := hp
        obtain ⟨hr, hl3, hl4, hk4⟩ := fin none W3 hk3
        exact ⟨_, _, hr, .inl ⟨rfl, ⟨hI.put _ _ _ _ _ _ (by omega) hl3 rfl hi3, hl4, hk4⟩, hOw _ _ _ _ _ (by omega) ho3, (hw2.trans hkp3).trans (BelowS.of_below (belowK_b hb0.size _ _ _ _ (by omega) hl3 rfl rfl))⟩⟩
      | ret =>
        obtain ⟨hk3, hi3⟩ := hp
        obtain ⟨hr, hl3, hl4, hk4⟩ := fin (some .ret) W3 hk3
        exact ⟨_, _, hr, .inr ⟨rfl, .ret, (hIx _).put _ _ _ _ _ _ (by omega) hl3 rfl hi3, hl4, hk4⟩⟩
      | exit id =>
        obtain ⟨hk3, hi3⟩ := hp
        obtain ⟨hr, hl3, hl4, hk4⟩ := fin (some (.exit id)) W3 hk3
        exact ⟨_, _, hr, .inr ⟨rfl, .exit id, (hIx _).put _ _ _ _ _ _ (by omega) hl3 rfl hi3, hl4, hk4⟩⟩
      | goto t =>
        obtain ⟨hk3, hi3⟩ := hp
        obtain ⟨hr, hl3, hl4, hk4⟩ := fin (some (.goto t)) W3 hk3
        exact ⟨_, _, hr, .inr ⟨rfl, .goto t, (hIx _).put _ _ _ _ _ _ (by omega) hl3 rfl hi3, hl4, hk4⟩⟩
      | panic ch => exact hp.elim
      | outgrown => exact hp.elim
    · rintro e W2 ⟨⟨v, rfl⟩, (⟨s, hs, hi, hl, hk⟩ | ⟨s, pre, hs, hSp, c, hi, hl, hk⟩)⟩
      · exact ⟨none, _, by have := run_endLoop (P := P) hl (by rw [hrec]; simp); rw [hrec] at this; exact this, hdone _ s _ (Nat.le_refl _) (by omega) (hI.put _ _ _ _ _ _ (by omega) hl rfl hi) ((World.putObj_heap_other (by omega)).trans hk)⟩
      · exact ⟨some c, _, by have := run_endLoop (P := P) hl (by rw [hrec]; simp); rw [hrec] at this; exact this, hstop _ c s pre _ (Nat.le_refl _) (by omega) hSp ((hIx c).put _ _ _ _ _ _ (by omega) hl rfl hi) ((World.putObj_heap_other (by omega)).trans hk)⟩

end Go.Proofs.Ytpkggjfaefkiiaa

namespace Go.Proofs.Ytpkggjfaefkiiaa
open Go.RowKit Go.PlainAid Go.Shelf
set_option linter.unusedVariables false
attribute [local go_sem] Oper.semAt_some

theorem lexLt_irrefl : ∀ x : List Int, ¬ lexLt x x
  | [] => fun h => h
  | x :: xs => fun h => by
    rcases h with h | ⟨_, h⟩
    · omega
    · exact lexLt_irrefl xs h

theorem own_uniq {w : World} {base base' : Nat} {e : TypeId} {g n cap : Nat} {xs ys : List Value} (h : w.ownsRow base e 1 (.slice (some ⟨g, 0, none⟩) n cap) n xs) (k : w.ownsRow base' e 1 (.slice (some ⟨g, 0, none⟩) n cap) n ys) : xs = ys := by
  rcases h.2 with ⟨h1, _⟩ | ⟨g1, c1, u1, e1, -, d1, -, -, -, t1⟩
  · cases h1
  rcases k.2 with ⟨k1, _⟩ | ⟨g2, c2, u2, e2, -, d2, -, -, -, t2⟩
  · cases k1
  cases e1; cases e2
  rw [d1] at d2
  cases d2
  rw [← t1, ← t2]

theorem map_int_inj : ∀ {xs ys : List Int}, xs.map (Value.int .i64) = ys.map (Value.int .i64) → xs = ys
  | [], [], _ => rfl
  | x :: xs, y :: ys, h => by
    simp only [List.map_cons, List.cons.injEq] at h
    obtain ⟨h1, h2⟩ := h
    cases h1
    rw [map_int_inj h2]

/-- the row, owned, holds the recipe x. -/
def OwnR (b : Bat) (base : Nat) (s : Nat × Nat) (x : List Int) (W : World) : Prop := W.ownsRow base 3 1 (.slice (some ⟨s.1, 0, none⟩) b.mats.length s.2) b.mats.length (x.map (Value.int .i64))

open Classical in
/-- how many recipes are still to come, read off the world. -/
noncomputable def leftR (b : Bat) (base : Nat) (s : Nat × Nat) (W : World) : Nat :=
  if h : ∃ i : Nat, ∃ x, (recsM b.mats)[i]? = some x ∧ OwnR b base s x W then (recsM b.mats).length - Classical.choose h else 0

theorem left_eq {b : Bat} (hk : ∀ m ∈ b.mats, StOk m) {base : Nat} {s : Nat × Nat} {W : World} {i : Nat} {x : List Int} (hx : (recsM b.mats)[i]? = some x) (ho : OwnR b base s x W) : leftR b base s W = (recsM b.mats).length - i := by
  have hex : ∃ i : Nat, ∃ x, (recsM b.mats)[i]? = some x ∧ OwnR b base s x W := ⟨i, x, hx, ho⟩
  unfold leftR
  rw [dif_pos hex]
  obtain ⟨y, hy, hoy⟩ := Classical.choose_spec hex
  generalize Classical.choose hex = j at *
  obtain rfl : x = y := map_int_inj (own_uniq ho hoy)
  obtain ⟨hi, hxi⟩ := List.getElem?_eq_some_iff.1 hx
  obtain ⟨hj, hxj⟩ := List.getElem?_eq_some_iff.1 hy
  rcases Nat.lt_trichotomy i j with h | h | h
  · have := recs_lex b.mats hk i j hi hj h
    rw [hxi, hxj] at this
    exact absurd this (lexLt_irrefl _)
  · rw [h]
  · have := recs_lex b.mats hk j i hj hi h
    rw [hxi, hxj] at this
    exact absurd this (lexLt_irrefl _)

theorem stOk_of {b : Bat} (hk : OkB b) : ∀ m ∈ b.mats, StOk m := fun m hm => ⟨by have := (hk.mats m hm).step; omega, by have := (hk.mats m hm).most; have := (hk.mats m hm).least; omega⟩

/-- the recipes, cut in two. -/
theorem recs_cut {b : Bat} {i : Nat} {x : List Int} (hx : (recsM b.mats)[i]? = some x) : recsM b.mats = (recsM b.mats).take i ++ x :: (recsM b.mats).drop (i + 1) := by
  obtain ⟨hi, hxi⟩ := List.getElem?_eq_some_iff.1 hx
  rw [← hxi, ← List.drop_eq_getElem_cons hi, List.take_append_drop]
theorem recs_take {b : Bat} {i : Nat} {x : List Int} (hx : (recsM b.mats)[i]? = some x) : (recsM b.mats).take i ++ [x] = (recsM b.mats).take (i + 1) := by
  obtain ⟨hi, hxi⟩ := List.getElem?_eq_some_iff.1 hx
  rw [List.take_succ_eq_append_getElem hi, hxi]

theorem recs_bnd {b : Bat} (hk : OkB b) {x : List Int} (hx : x ∈ recsM b.mats) : x.length = b.mats.length ∧ ∀ y ∈ x, 0 ≤ y ∧ y ≤ 10000 := by
  obtain ⟨h1, h2⟩ := (recs_mem b.mats (stOk_of hk) x).1 hx
  refine ⟨h1, fun y hy => ?_⟩
  obtain ⟨i, hi, rfl⟩ := List.getElem_of_mem hy
  have hi' : i < b.mats.length := by omega
  have h3 := h2 i hi'
  have hm := hk.mats _ (List.getElem_mem hi')
  have ha := hm.least
  have hb := hm.most
  rw [show x.getD i 0 = x[i] by simp [List.getD, List.getElem?_eq_getElem hi]] at h3
  obtain ⟨h4, h5, -⟩ := h3
  omega

theorem batch_under {S : Nat → Prop} {w W : World} {vb : Value} {b : Bat} {g : Nat} (h : RBat (vis (fun k => ¬ S k) w) vb b) (hW : BelowS S w.heap.size w W) (hg : w.heap.size ≤ g) : RBat (vis (· < g) W) vb b :=
  h.mono fun p x hp => by
    have hl := cell_lt (vis_cell.1 hp).2
    exact vis_cell.2 ⟨Nat.lt_of_lt_of_le hl hg, hW.ext _ _ hp⟩

set_option maxHeartbeats 1000000 in
set_option maxRecDepth 100000 in
theorem recIt_any (S : Nat → Prop) (n : Nat) (hn : 1 ≤ n) (vb : Value) (b : Bat) (Bn : Nat) (w : World) (a0 a1 a2 a3 : Option Addr) (k0 k1 k2 k3 : Nat)
    (hvb : vb = .agg #[.slice a0 b.oxides.length k0, .slice a1 b.mats.length k1, .slice a2 b.shares.length k2, .slice a3 b.props.length k3, .int .i64 b.redox.lo, .int .i64 b.redox.hi, .int .i64 b.wanted]) (h : RBat (vis (fun k => ¬ S k) w) vb b) (hk : OkB b) (hSB : ¬ S Bn) (hBn : Blk w Bn #[.slice a0 b.oxides.length k0, .slice a1 b.mats.length k1, .slice a2 b.shares.length k2, .slice a3 b.props.length k3, .int .i64 b.redox.lo, .int .i64 b.redox.hi, .int .i64 b.wanted] 29) (base : Nat) (hbase : base ≤ w.heap.size) :
    RowSeq S Fence.wide n Try.prog 134 #[.pointer (some ⟨Bn, 0, none⟩)] (fun s => #[.slice (some ⟨s.1, 0, none⟩) b.mats.length s.2]) (OwnR b base) (recsM b.mats) w := by
  intro l J Jx W hW hJ hJx h0 hY
  refine callsIn_of_wp Try.func134 rfl trivial ?_ rfl
  simp only [Try.ntmps134, List.size_toArray, List.length_cons, List.length_nil, Nat.reduceAdd, Nat.reduceSub, Array.replicate_succ, Array.replicate_zero, List.push_toArray, List.append_toArray, List.nil_append, List.cons_append]
  have hWb : Blk W Bn #[.slice a0 b.oxides.length k0, .slice a1 b.mats.length k1, .slice a2 b.shares.length k2, .slice a3 b.props.length k3, .int .i64 b.redox.lo, .int .i64 b.redox.hi, .int .i64 b.wanted] 29 := hW.blk hBn hSB
  have hl0 := leastsRow_any vb b W (h.mono hW.ext) (by have := hk.mt; omega) (fun m hm => by have := (hk.mats m hm).least; unfold I64; omega)
  have f0 := hWb.cell 0 _ rfl
  have f1 := hWb.cell 1 _ rfl
  have f2 := hWb.cell 2 _ rfl
  have f3 := hWb.cell 3 _ rfl
  have f4 := hWb.cell 4 _ rfl
  have f5 := hWb.cell 5 _ rfl
  have f6 := hWb.cell 6 _ rfl
  gi_wp2
  refine ⟨trivial, callsIn_wide.2 ?_⟩
  subst hvb
  refine hl0.mono ?_
  rintro e wL ⟨v, rfl, hown, hbL⟩
  rw [List.length_map] at hown
  have hmt := hk.mt
  obtain ⟨g, cap, rfl, -⟩ : ∃ g cap, v = .slice (some ⟨g, 0, none⟩) b.mats.length cap ∧ True := by
    rcases own_cells hown with ⟨-, h2⟩ | ⟨g, cap, h1, -⟩
    · omega
    · exact ⟨g, cap, h1, trivial⟩
  have hgW : W.heap.size ≤ g := (hown.lt g rfl).1
  have hJ0 := h0 (g, cap) wL hgW hbL
  have hL := own_base hown (Nat.le_trans hbase hW.size)
  have hwL : BelowS S w.heap.size w wL := hW.trans (BelowS.of_below (hbL.mono hW.size))
  have hr0 := recs_first b.mats
  clear hl0 hown hbL f0 f1 f2 f3 f4 f5 f6
  gi_wp2
  gi_loopw [] (fun wr => ∃ (i : Nat) (x : List Int), (recsM b.mats)[i]? = some x ∧ J (g, cap) ((recsM b.mats).take i) wr ∧ OwnR b base (g, cap) x wr ∧ BelowS S w.heap.size w wr) (fun wr => leftR b base (g, cap) wr)
  case atStart => exact ⟨0, _, hr0, hJ0, hL, hwL⟩
  case round =>
    obtain ⟨i, x, hx, hJi, hO, hB⟩ := hrel
    obtain ⟨fn, tmps, assign, body, hy, hR⟩ := hY (g, cap) _ x _ wr hgW (recs_cut hx) hJi hO
    rw [recs_take hx] at hR
    dsimp only at hy
    clear hJ0 hL hwL
    gi_wp2
    refine hR.mono ?_
    rintro e W3 (⟨rfl, hJ3, hO3, hb3⟩ | ⟨rfl, hJx3⟩)
    · have hB3 : BelowS S w.heap.size w W3 := hB.trans hb3
      have hWb3 : Blk W3 Bn #[.slice a0 b.oxides.length k0, .slice a1 b.mats.length k1, .slice a2 b.shares.length k2, .slice a3 b.props.length k3, .int .i64 b.redox.lo, .int .i64 b.redox.hi, .int .i64 b.wanted] 29 := hB3.blk hBn hSB
      have f0 := hWb3.cell 0 _ rfl
      have f1 := hWb3.cell 1 _ rfl
      have f2 := hWb3.cell 2 _ rfl
      have f3 := hWb3.cell 3 _ rfl
      have f4 := hWb3.cell 4 _ rfl
      have f5 := hWb3.cell 5 _ rfl
      have f6 := hWb3.cell 6 _ rfl
      obtain ⟨hi, hxi⟩ := List.getElem?_eq_some_iff.1 hx
      have hbx := recs_bnd hk (List.mem_of_getElem? hx)
      have hst := step_any _ b x base g cap W3 (batch_under h hB3 (Nat.le_trans hW.size hgW)) hk hbx.1 hbx.2 hO3
      have hnx := next_at b.mats (stOk_of hk) i hi
      rw [hxi] at hnx
      have HNX := Lib.hid hnx
      have HX := Lib.hid hx
      have HN := Lib.hid hi
      have HO := Lib.hid hO
      clear hy hR hnx hx hJi hO hB hr0
      gi_wp2
      refine ⟨trivial, callsIn_wide.2 ?_⟩
      refine hst.mono ?_
      rintro e W4 ⟨r', rfl, hO4, hre, hO34⟩
      have hJ4 := hJ _ _ _ _ hgW hJ3 hO34
      clear hst
      have hB4 : BelowS S w.heap.size w W4 := hB3.trans ⟨hO34.os, hO34.tape, hO34.output, hO34.size, fun k hk _ => hO34.block k (Nat.lt_of_lt_of_le hk hB3.size) (by have := hW.size; omega)⟩
      cases hc : nextM b.mats x with
      | none =>
        have hend : (recsM b.mats).take (i + 1) = recsM b.mats := by
          have h1 := HNX.out
          rw [hc] at h1
          exact List.take_of_length_le (List.getElem?_eq_none_iff.1 h1.symm)
        rw [hend] at hJ4
        have HC := Lib.hid hc
        clear hc hre hend hO4 hO34 hB4
        simp only [Option.isSome_none]
        gi_wp2
        go_end0
        exact ⟨⟨_, rfl⟩, .inl ⟨(g, cap), hgW, hJ4⟩⟩
      | some ys =>
        have hr' := hre ys hc
        subst hr'
        have hx4 : (recsM b.mats)[i + 1]? = some r' := by rw [← HNX.out, hc]
        have HC := Lib.hid hc
        have HX4 := Lib.hid hx4
        clear hc hre hx4
        simp only [Option.isSome_some]
        gi_wp2
        go_roundw
        case rel => exact ⟨i + 1, _, HX4.out, hJ4, hO4, hB4⟩
        case measure => 
          have hO5 : OwnR b base (g, cap) r' W4 := hO4
          rw [left_eq (stOk_of hk) HX4.out hO5, left_eq (stOk_of hk) HX.out HO.out]
          have := HN.out
          omega
    · gi_wp2
      refine ⟨trivial, ?_⟩
      gi_wp2
      go_end0
      exact ⟨⟨_, rfl⟩, .inr ⟨(g, cap), _, hgW, List.take_prefix _ _, hJx3⟩⟩

end Go.Proofs.Ytpkggjfaefkiiaa
