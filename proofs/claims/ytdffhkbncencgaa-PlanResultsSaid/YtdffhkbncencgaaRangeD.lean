/- A range over an iterator that itself may range over one: the contract that tells how it stops, and the law; no statement is proved here. -/
import Derived.Test.YtdffhkbncencgaaRangeC
namespace Go.Proofs.Ytdffhkbncencgaa
open Go.RowKit Go.PlainAid
set_option linter.unusedVariables false

/-- An iterator's contract: it hands over what encs lists, in order, till all have come, or a round has said 'no more'; rounds keep what is no cells from the call's world on. -/
def SeqD (offs : Nat → Prop) (S : Nat → Prop) (F : Fence) (n : Nat) (P : Program) (gf : Nat) (lb : Array Value) (encs : List (Array Value)) (w : World) : Prop :=
  ∀ (l : Nat) (J : Nat → World → Prop) (Jx : World → Prop) (W : World), BelS S w.heap.size w W → OwnFrom W.heap.size J → OwnFrom W.heap.size (fun (_ : Unit) X => Jx X) → (∀ k X (p : Addr) v, J k X → W.heap.size ≤ p.block → offs (p.block - W.heap.size) → J k (X.setCell p v)) →
    (∀ (k : Nat) (x : Array Value) (W1 : World), encs[k]? = some x → (∀ j, offs j → W.heap.size + j < W1.heap.size) → J k W1 → YieldAt F (n - 1) P l x W1 fun e W' =>
      (e = .returned (.bool true) ∧ J (k + 1) W' ∧ BelS S W1.heap.size W1 W') ∨ (e = .returned (.bool false) ∧ Jx W' ∧ KeepsFrom W.heap.size W1 W')) →
    J 0 W →
    CallsIn F n P gf (#[.func (.yield l) #[] #[]] ++ lb) W fun e W' => e = .returned (.tuple #[]) ∧ (J encs.length W' ∨ Jx W')

theorem SeqC.toD {offs : Nat → Prop} {S : Nat → Prop} {F : Fence} {n : Nat} {P : Program} {gf : Nat} {lb : Array Value} {encs : List (Array Value)} {w : World} (h : SeqC offs S F n P gf lb encs w) : SeqD offs S F n P gf lb encs w := fun l J Jx W hW hJ hJx hT hY h0 =>
  (h l (fun k X => J k X ∧ w.heap.size ≤ X.heap.size) (fun e W' => e = .returned (.tuple #[]) ∧ (J encs.length W' ∨ Jx W')) W hW (fun k X Y row hs hg hr => ⟨hJ k X Y row hs.1 hg hr, Nat.le_trans hs.2 hg.size⟩) (fun k X p v hs hp ho => ⟨hT k X p v hs.1 hp ho, by simpa using hs.2⟩) (fun k x W1 hx hpv hj => by
    obtain ⟨fn, tmps, assign, body, hy, hR⟩ := hY k x W1 hx hpv hj.1
    exact ⟨fn, tmps, assign, body, hy, hR.mono fun e W' hh => by
      rcases hh with ⟨rfl, h1, h2⟩ | ⟨rfl, h1, -⟩
      · exact .inl ⟨rfl, ⟨h1, Nat.le_trans hj.2 h2.size⟩, h2.mono hj.2, CK.of_belS h2⟩
      · exact .inr (.inl ⟨rfl, rfl, .inr h1⟩)⟩) ⟨h0, hW.size⟩ (fun W' hj => ⟨rfl, .inl hj.1⟩))

theorem keeps_of {S : Nat → Prop} {B : Nat} {W W' : World} (h : BelS S W.heap.size W W') (hS : ∀ k, S k → k < B) : KeepsFrom B W W' := ⟨h.size, fun k o hB hk _ => by
  rw [h.block k (Array.getElem?_eq_some_iff.1 hk).1 (fun x => by have := hS k x; omega)]; exact hk⟩

theorem wpIn_range_d (offs : Nat → Prop) (S : Nat → Prop) {F : Fence} {n : Nat} {P : Program} {g : Operand} {ps : Array Tmp} {assign body : Code} {Q : Exit → Act → World → Prop} {a : Act} {w : World}
    (hro : F.round = none) (hS : ∀ k, S k → k < w.heap.size) (h1 : F.depth.isSome = true → 1 ≤ n) {gf : Nat} {lb : Array Value} (hg : a.eval g = .func (.func gf) #[] lb) (hFg : F.fn gf) (eg : ∀ args w, (callFunc gf args).run P w = .ok (.enter gf args) w)
    {encs : List (Array Value)} (hseq : SeqD offs S F (n - 1) P gf lb encs w)
    (hps : ∀ (k : Nat) (x : Array Value), encs[k]? = some x → x.size = ps.size)
    (I : Nat → World → Prop) (Ix : Code → World → Prop) (hI : OwnFrom w.heap.size I) (hIx : ∀ c, OwnFrom w.heap.size (fun (_ : Unit) W => Ix c W))
    (hIT : ∀ k X (p : Addr) v, I k X → w.heap.size + 2 ≤ p.block → offs (p.block - (w.heap.size + 2)) → I k (X.setCell p v)) (h0 : I 0 w) (Ax : Array Value → Act → World → Prop) (hAx : ∀ x a', OwnFrom w.heap.size (fun (_ : Unit) W => Ax x a' W))
    (hassign : ∀ (l : Nat) (k : Nat) (x : Array Value) (W : World) (K : Act → World → Prop), encs[k]? = some x → w.heap.size ≤ W.heap.size → I k W → (∀ a' W', BelS S W.heap.size W W' → I k W' → Ax x a' W' → K a' W') →
      assign.wpIn (F.inRound l) (n - 1 - 1) P (Exit.then K (fun _ _ _ => False)) { tmps := (ps.zip x).foldl (fun t (p, v) => t.setIfInBounds p v) a.tmps, defers := [] } W)
    (hbody : ∀ (l : Nat) (k : Nat) (x : Array Value) (a' : Act) (W : World), encs[k]? = some x → w.heap.size ≤ W.heap.size → (∀ j, offs j → w.heap.size + 2 + j < W.heap.size) → I k W → Ax x a' W → body.wpIn (F.inRound l) (n - 1 - 1) P
      (fun e a2 W2 => match e with
        | .normal => BelS S W.heap.size W W2 ∧ I (k + 1) W2
        | .ret => KeepsFrom w.heap.size W W2 ∧ Ix .ret W2
        | .exit id => KeepsFrom w.heap.size W W2 ∧ Ix (.exit id) W2
        | .goto t => KeepsFrom w.heap.size W W2 ∧ Ix (.goto t) W2
        | .panic _ => False
        | .outgrown => False) a' W)
    (hdone : ∀ (D : Nat) (W : World), w.heap.size ≤ D → I encs.length W → W.heap[D]? = some (.deferred (some [])) → Q .normal { a with defers := { target := .collected D, args := #[] } :: a.defers } W)
    (hstop : ∀ (D : Nat) (c : Code) (W : World), w.heap.size ≤ D → Ix c W → W.heap[D]? = some (.deferred (some [])) → c.wpIn F n P Q { a with defers := { target := .collected D, args := #[] } :: a.defers } W) :
    (Code.rangeFunc g ps assign body).wpIn F n P Q a w := by
  refine wpIn_rangeFunc ?_
  intro fn hfn
  rw [hro]
  obtain ⟨rec, hrec⟩ : ∃ rec : LoopState → Option Code → Loop, rec = fun st pe => { state := st, pending := pe, fn, tmps := a.tmps, params := ps, assign, body, defers := w.heap.size } := ⟨_, rfl⟩
  obtain ⟨W1, hW1⟩ : ∃ W1, (w.alloc (.deferred (some []))).alloc (.loop (rec .ready none)) = W1 := ⟨_, rfl⟩
  have hL1 : W1.heap[w.heap.size + 1]? = some (.loop (rec .ready none)) := by
    rw [← hW1]; have := World.alloc_heap_new (w.alloc (.deferred (some []))) (.loop (rec .ready none)); rwa [World.size_alloc] at this
  have hK1 : W1.heap[w.heap.size]? = some (.deferred (some [])) := by
    rw [← hW1]; exact (Below.heap_alloc _ _ _ (by simp)).trans (World.alloc_heap_new w _)
  have hI1 : I 0 W1 := by rw [← hW1]; exact hI.alloc _ (hI.alloc _ h0)
  have hbw : Below w.heap.size w W1 := by rw [← hW1]; exact ((Below.refl _ w).alloc (Nat.le_refl _) _).alloc (by simp) _
  have hs1 : w.heap.size ≤ W1.heap.size := hbw.size
  have hz1 : W1.heap.size = w.heap.size + 2 := by rw [← hW1]; simp
  have hb1 : BelS S w.heap.size w W1 := BelS.of_below hbw
  refine ⟨w.heap.size + 1, [{ target := .collected w.heap.size, args := #[] }], W1, { target := .fn (.func gf) lb, args := #[.func (.yield (w.heap.size + 1)) #[] #[]] }, W1, gf,
    #[.func (.yield (w.heap.size + 1)) #[] #[]] ++ lb, W1, ?_, ?_, ?_, ?_, h1, ?_⟩
  · rw [← hW1, hrec]; exact run_enterLoop_outer _ _ _ _ _
  · simp only [resolve, hg]
    simp [go_sem]
  · intro f' hf'; simp [Target.leads] at hf'; subst hf'; exact hFg
  · simp [invoke, go_sem, eg]
  · refine (hseq (w.heap.size + 1)
      (fun k W => I k W ∧ W.heap[w.heap.size + 1]? = some (.loop (rec .ready none)) ∧ W.heap[w.heap.size]? = some (.deferred (some [])))
      (fun W => ∃ c, Ix c W ∧ W.heap[w.heap.size + 1]? = some (.loop (rec .done (some c))) ∧ W.heap[w.heap.size]? = some (.deferred (some []))) W1 hb1
      (fun s A B row hs hg' hr => ⟨hI s A B row hs.1 hg' (fun r e => ⟨by have := (hr r e).1; omega, (hr r e).2⟩), (hg'.block (w.heap.size + 1) (Array.getElem?_eq_some_iff.1 hs.2.1).1 (fun e => by have := (hr _ e.symm).1; omega)).trans hs.2.1, (hg'.block w.heap.size (Array.getElem?_eq_some_iff.1 hs.2.2).1 (fun e => by have := (hr _ e.symm).1; omega)).trans hs.2.2⟩)
      (fun s A B row hs hg' hr => by
        obtain ⟨c, hi, hl, hk⟩ := hs
        exact ⟨c, hIx c () A B row hi hg' (fun r e => ⟨by have := (hr r e).1; omega, (hr r e).2⟩), (hg'.block (w.heap.size + 1) (Array.getElem?_eq_some_iff.1 hl).1 (fun e => by have := (hr _ e.symm).1; omega)).trans hl, (hg'.block w.heap.size (Array.getElem?_eq_some_iff.1 hk).1 (fun e => by have := (hr _ e.symm).1; omega)).trans hk⟩)
      (fun k X p v hs hp ho => ⟨hIT k X p v hs.1 (by omega) (by rw [hz1] at ho; exact ho), (Below.heap_setCell _ _ _ _ (by omega)).trans hs.2.1, (Below.heap_setCell _ _ _ _ (by omega)).trans hs.2.2⟩)
      ?_ ⟨hI1, hL1, hK1⟩).mono ?_
    · rintro k x W hx hpv ⟨hi, hl, hk⟩
      have hlt : w.heap.size + 1 < W.heap.size := (Array.getElem?_eq_some_iff.1 hl).1
      have hy := run_yield (P := P) (args := x) hl (by rw [hrec]; exact hps k x hx)
      rw [hrec] at hy
      refine ⟨fn, _, assign, body, hy, roundInP_of_wpIn hfn (hassign _ k x W _ hx (by omega) hi ?_)⟩
      clear hy
      intro a' Wa hkpa hia hax
      have hlb := hl
      have hkb := hk
      have hkfa := keeps_of hkpa hS
      replace hl := hkfa.same _ _ (by omega) hl rfl
      replace hk := hkfa.same _ _ (Nat.le_refl _) hk rfl
      replace hlt : w.heap.size + 1 < Wa.heap.size := (Array.getElem?_eq_some_iff.1 hl).1
      replace hi := hia
      clear hia
      revert hkpa hkfa hlb hkb hpv
      generalize W = Wb
      intro hpv hkpa hlb hkb hkfa
      obtain ⟨W, rfl⟩ : ∃ W, W = Wa := ⟨_, rfl⟩
      refine ⟨_, run_beginRound hl (by rw [hrec]), ?_⟩
      have hl2 : (W.putObj (w.heap.size + 1) (.loop { rec .ready none with state := .busy })).heap[w.heap.size + 1]? = some (.loop { rec .ready none with state := .busy }) := World.putObj_heap_same hlt
      have hk2 : (W.putObj (w.heap.size + 1) (.loop { rec .ready none with state := .busy })).heap[w.heap.size]? = some (.deferred (some [])) := (World.putObj_heap_other (by omega)).trans hk
      have hw2 : BelS S w.heap.size W (W.putObj (w.heap.size + 1) (.loop { rec .ready none with state := .busy })) := BelS.of_below (belowK_b (Nat.le_refl _) _ _ _ _ (by omega) hl rfl rfl)
      refine wpIn_mono (hbody _ k x a' _ hx (by simp; omega) (fun j hj => by have h5 := hpv j hj; have h6 := hkpa.size; rw [hz1] at h5; simp; omega) (hI.putObj _ hi (by omega) hl rfl) ((hAx x a').putObj (s := ()) _ hax (by omega) hl rfl)) ?_
      have fin : ∀ (jump : Option Code) (W3 : World), KeepsFrom w.heap.size (W.putObj (w.heap.size + 1) (.loop { rec .ready none with state := .busy })) W3 →
          (Instr.endRound (w.heap.size + 1) jump).run P W3 = .ok (.bool jump.isNone) (W3.putObj (w.heap.size + 1) (.loop (rec (if jump.isNone then .ready else .done) jump))) ∧
          W3.heap[w.heap.size + 1]? = some (.loop { rec .ready none with state := .busy }) ∧
          (W3.putObj (w.heap.size + 1) (.loop (rec (if jump.isNone then .ready else .done) jump))).heap[w.heap.size + 1]? = some (.loop (rec (if jump.isNone then .ready else .done) jump)) ∧
          (W3.putObj (w.heap.size + 1) (.loop (rec (if jump.isNone then .ready else .done) jump))).heap[w.heap.size]? = some (.deferred (some [])) := fun jump W3 hk3 => by
        have hl3 := hk3.same _ _ (by omega) hl2 rfl
        have := run_endRound (P := P) jump hl3
        rw [hrec] at this ⊢
        exact ⟨this, by rw [hrec] at hl3; exact hl3, World.putObj_heap_same (Array.getElem?_eq_some_iff.1 hl3).1, (World.putObj_heap_other (by omega)).trans (hk3.same _ _ (Nat.le_refl _) hk2 rfl)⟩
      have kp : ∀ (jump : Option Code) (W3 : World), KeepsFrom w.heap.size (W.putObj (w.heap.size + 1) (.loop { rec .ready none with state := .busy })) W3 → KeepsFrom W1.heap.size Wb (W3.putObj (w.heap.size + 1) (.loop (rec (if jump.isNone then .ready else .done) jump))) := fun jump W3 hk3 => by
        rw [hz1]
        exact ⟨by have := hkfa.size; have := hk3.size; simp at *; omega, fun k o hB hk' ho => by
          have h1 := hkfa.same k o (by omega) hk' ho
          have h2 : (W.putObj (w.heap.size + 1) (.loop { rec .ready none with state := .busy })).heap[k]? = some o := (World.putObj_heap_other (by omega)).trans h1
          have h3 := hk3.same k o (by omega) h2 ho
          exact (World.putObj_heap_other (by omega)).trans h3⟩
      rintro e a3 W3 hp
      cases e with
      | normal =>
        obtain ⟨hkp3, hi3⟩ := hp
        have hk3 := keeps_of hkp3 hS
        obtain ⟨hr, hl3, hl4, hk4⟩ := fin none W3 hk3
        refine ⟨_, _, hr, .inl ⟨rfl, ⟨hI.putObj _ hi3 (by omega) hl3 rfl, hl4, hk4⟩, ?_⟩⟩
        refine ⟨hkp3.os.trans hkpa.os, hkp3.tape.trans hkpa.tape, hkp3.output.trans hkpa.output, by have := hkpa.size; have := hkp3.size; simp at *; omega, fun k hk hs => ?_⟩
        by_cases hkl : k = w.heap.size + 1
        · subst hkl
          rw [hlb]
          exact hl4
        · rw [World.putObj_heap_other (show k ≠ w.heap.size + 1 from hkl), hkp3.block k (by have := hkpa.size; simp; omega) hs, World.putObj_heap_other (show k ≠ w.heap.size + 1 from hkl), hkpa.block k hk hs]
      | ret =>
        obtain ⟨hk3, hi3⟩ := hp
        obtain ⟨hr, hl3, hl4, hk4⟩ := fin (some .ret) W3 hk3
        exact ⟨_, _, hr, .inr ⟨rfl, ⟨.ret, (hIx _).putObj (s := ()) _ hi3 (by omega) hl3 rfl, hl4, hk4⟩, kp (some .ret) W3 hk3⟩⟩
      | exit id =>
        obtain ⟨hk3, hi3⟩ := hp
        obtain ⟨hr, hl3, hl4, hk4⟩ := fin (some (.exit id)) W3 hk3
        exact ⟨_, _, hr, .inr ⟨rfl, ⟨(.exit id), (hIx _).putObj (s := ()) _ hi3 (by omega) hl3 rfl, hl4, hk4⟩, kp (some (.exit id)) W3 hk3⟩⟩
      | goto t =>
        obtain ⟨hk3, hi3⟩ := hp
        obtain ⟨hr, hl3, hl4, hk4⟩ := fin (some (.goto t)) W3 hk3
        exact ⟨_, _, hr, .inr ⟨rfl, ⟨(.goto t), (hIx _).putObj (s := ()) _ hi3 (by omega) hl3 rfl, hl4, hk4⟩, kp (some (.goto t)) W3 hk3⟩⟩
      | panic ch => exact hp.elim
      | outgrown => exact hp.elim
    · rintro e W2 ⟨rfl, (⟨hi, hl, hk⟩ | ⟨c, hi4, hl4, hk4⟩)⟩
      · exact ⟨none, _, by have := run_endLoop (P := P) hl (by rw [hrec]; simp); rw [hrec] at this; exact this, hdone _ _ (Nat.le_refl _) (hI.putObj _ hi (by omega) hl rfl) ((World.putObj_heap_other (by omega)).trans hk)⟩
      · exact ⟨some c, _, by have := run_endLoop (P := P) hl4 (by rw [hrec]; simp); rw [hrec] at this; exact this, hstop _ c _ (Nat.le_refl _) ((hIx c).putObj (s := ()) _ hi4 (by omega) hl4 rfl) ((World.putObj_heap_other (by omega)).trans hk4)⟩

end Go.Proofs.Ytdffhkbncencgaa
