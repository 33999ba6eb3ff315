/- A range over an iterator with locals of its own: the law; no statement is proved here. -/
import Derived.Test.YtdffhkbncencgaaRange
namespace Go.Proofs.Ytdffhkbncencgaa
open Go.RowKit Go.PlainAid
set_option linter.unusedVariables false

/-- all cells outside S stay as they are, wherever they lie. -/
def CK (S : Nat → Prop) (W W' : World) : Prop := ∀ k o, ¬ S k → W.heap[k]? = some o → o.isCells = true → W'.heap[k]? = some o
theorem CK.refl (S : Nat → Prop) (W : World) : CK S W W := fun _ _ _ h _ => h
theorem CK.trans {S : Nat → Prop} {a b c : World} (h : CK S a b) (k : CK S b c) : CK S a c := fun i o hs ho hc => k i o hs (h i o hs ho hc) hc
theorem CK.mono {S T : Nat → Prop} {a b : World} (h : CK S a b) (hST : ∀ k, S k → T k) : CK T a b := fun i o hs ho hc => h i o (fun x => hs (hST i x)) ho hc
theorem CK.of_belS {S : Nat → Prop} {a b : World} (h : BelS S a.heap.size a b) : CK S a b := fun i o hs ho _ => by rw [h.block i (Array.getElem?_eq_some_iff.1 ho).1 hs]; exact ho
theorem CK.of_below {S : Nat → Prop} {a b : World} (h : Below a.heap.size a b) : CK S a b := CK.of_belS (BelS.of_below h)
theorem CK.putObj (S : Nat → Prop) {W : World} {k : Nat} {o : Obj} (ho : W.heap[k]? = some o) (hc : o.isCells = false) (o' : Obj) : CK S W (W.putObj k o') := fun i p hs hp hpc => by
  by_cases hik : i = k
  · subst hik; rw [ho] at hp; cases hp; rw [hc] at hpc; cases hpc
  · exact (World.putObj_heap_other hik).trans hp
theorem CK.blk {S : Nat → Prop} {a b : World} {k : Nat} {cs : Array Value} {t : TypeId} (h : CK S a b) (hB : Blk a k cs t) (hS : ¬ S k) : Blk b k cs t := h k _ hS hB rfl

/-- An iterator's contract: it hands over what encs lists, in order; a round that goes on keeps what lay there; it ends when all have come, when a round has said 'no more', or when a round has panicked. -/
def SeqC (offs : Nat → Prop) (S : Nat → Prop) (F : Fence) (n : Nat) (P : Program) (gf : Nat) (lb : Array Value) (encs : List (Array Value)) (w : World) : Prop :=
  ∀ (l : Nat) (J : Nat → World → Prop) (R : Ending → World → Prop) (W : World), BelS S w.heap.size w W → OwnFrom W.heap.size J → (∀ k X (p : Addr) v, J k X → W.heap.size ≤ p.block → offs (p.block - W.heap.size) → J k (X.setCell p v)) →
    (∀ (k : Nat) (x : Array Value) (W1 : World), encs[k]? = some x → (∀ j, offs j → W.heap.size + j < W1.heap.size) → J k W1 → YieldAt F (n - 1) P l x W1 fun e W' =>
      (e = .returned (.bool true) ∧ J (k + 1) W' ∧ BelS S w.heap.size W1 W' ∧ CK S W1 W') ∨ (e = .returned (.bool false) ∧ R (.returned (.tuple #[])) W') ∨ (∃ ch, e = .panicked ch ∧ R e W')) →
    J 0 W → (∀ W', J encs.length W' → R (.returned (.tuple #[])) W') →
    CallsIn F n P gf (#[.func (.yield l) #[] #[]] ++ lb) W R

theorem wpIn_range_c (offs : Nat → Prop) (S : Nat → Prop) {F : Fence} {n : Nat} {P : Program} {g : Operand} {ps : Array Tmp} {assign body : Code} {Q : Exit → Act → World → Prop} {a : Act} {w : World}
    (hro : F.round = none) (h1 : F.depth.isSome = true → 1 ≤ n) {gf : Nat} {lb : Array Value} (hg : a.eval g = .func (.func gf) #[] lb) (hFg : F.fn gf) (eg : ∀ args w, (callFunc gf args).run P w = .ok (.enter gf args) w)
    {encs : List (Array Value)} (hseq : SeqC offs S F (n - 1) P gf lb encs w)
    (hps : ∀ (k : Nat) (x : Array Value), encs[k]? = some x → x.size = ps.size)
    (I : Nat → World → Prop) (Ix : Code → World → Prop) (Ip : List PanicEntry → World → Prop) (hI : OwnFrom w.heap.size I) (hIx : ∀ c, OwnFrom w.heap.size (fun (_ : Unit) W => Ix c W))
    (hfs : ∀ f, F.fn f → ∀ ch W, Ip ch W → ∃ g, P.funcs[f]? = some g) (hIT : ∀ k X (p : Addr) v, I k X → w.heap.size + 2 ≤ p.block → offs (p.block - (w.heap.size + 2)) → I k (X.setCell p v)) (h0 : I 0 w) (Ax : Array Value → Act → World → Prop) (hAx : ∀ x a', OwnFrom w.heap.size (fun (_ : Unit) W => Ax x a' W))
    (hassign : ∀ (l : Nat) (k : Nat) (x : Array Value) (W : World) (K : Act → World → Prop), encs[k]? = some x → w.heap.size ≤ W.heap.size → I k W → (∀ a' W', KeepsFrom w.heap.size W W' → BelS S w.heap.size W W' → CK S W W' → I k W' → Ax x a' W' → K a' W') →
      assign.wpIn (F.inRound l) (n - 1 - 1) P (Exit.then K (fun _ _ _ => False)) { tmps := (ps.zip x).foldl (fun t (p, v) => t.setIfInBounds p v) a.tmps, defers := [] } W)
    (hbody : ∀ (l : Nat) (k : Nat) (x : Array Value) (a' : Act) (W : World), encs[k]? = some x → w.heap.size ≤ W.heap.size → I k W → Ax x a' W → body.wpIn (F.inRound l) (n - 1 - 1) P
      (fun e a2 W2 => match e with
        | .normal => KeepsFrom w.heap.size W W2 ∧ BelS S w.heap.size W W2 ∧ CK S W W2 ∧ I (k + 1) W2
        | .ret => KeepsFrom w.heap.size W W2 ∧ Ix .ret W2
        | .exit id => KeepsFrom w.heap.size W W2 ∧ Ix (.exit id) W2
        | .goto t => KeepsFrom w.heap.size W W2 ∧ Ix (.goto t) W2
        | .panic ch => KeepsFrom w.heap.size W W2 ∧ a2.defers = [] ∧ Ip ch W2
        | .outgrown => False) a' W)
    (hdone : ∀ (D : Nat) (W : World), w.heap.size ≤ D → I encs.length W → W.heap[D]? = some (.deferred (some [])) → Q .normal { a with defers := { target := .collected D, args := #[] } :: a.defers } W)
    (hstop : ∀ (D : Nat) (c : Code) (W : World), w.heap.size ≤ D → Ix c W → W.heap[D]? = some (.deferred (some [])) → c.wpIn F n P Q { a with defers := { target := .collected D, args := #[] } :: a.defers } W)
    (hpanic : ∀ (D : Nat) (ch : List PanicEntry) (W : World), w.heap.size ≤ D → Ip ch W → W.heap[D]? = some (.deferred (some [])) → Q (.panic ch) { a with defers := { target := .collected D, args := #[] } :: a.defers } W) :
    (Code.rangeFunc g ps assign body).wpIn F n P Q a w := by
  refine wpIn_rangeFunc ?_
  intro fn hfn
  rw [hro]
  obtain ⟨rec, hrec⟩ : ∃ rec : LoopState → Option Code → Loop, rec = fun st pe => { state := st, pending := pe, fn, tmps := a.tmps, params := ps, assign, body, defers := w.heap.size } := ⟨_, rfl⟩
  obtain ⟨W1, hW1⟩ : ∃ W1, (w.alloc (.deferred (some []))).alloc (.loop (rec .ready none)) = W1 := ⟨_, rfl⟩
  have hL1 : W1.heap[w.heap.size + 1]? = some (.loop (rec .ready none)) := by
    rw [← hW1]; have := World.alloc_heap_new (w.alloc (.deferred (some []))) (.loop (rec .ready none)); rwa [World.size_alloc] at this
  have hK1 : W1.heap[w.heap.size]? = some (.deferred (some [])) := by
    rw [← hW1]; exact (Below.heap_alloc _ _ _ (by simp)).trans (World.alloc_heap_new w _)
  have hI1 : I 0 W1 := by rw [← hW1]; exact hI.alloc _ (hI.alloc _ h0)
  have hbw : Below w.heap.size w W1 := by rw [← hW1]; exact ((Below.refl _ w).alloc (Nat.le_refl _) _).alloc (by simp) _
  have hs1 : w.heap.size ≤ W1.heap.size := hbw.size
  have hz1 : W1.heap.size = w.heap.size + 2 := by rw [← hW1]; simp
  have hb1 : BelS S w.heap.size w W1 := BelS.of_below hbw
  refine ⟨w.heap.size + 1, [{ target := .collected w.heap.size, args := #[] }], W1, { target := .fn (.func gf) lb, args := #[.func (.yield (w.heap.size + 1)) #[] #[]] }, W1, gf,
    #[.func (.yield (w.heap.size + 1)) #[] #[]] ++ lb, W1, ?_, ?_, ?_, ?_, h1, ?_⟩
  · rw [← hW1, hrec]; exact run_enterLoop_outer _ _ _ _ _
  · simp only [resolve, hg]
    simp [go_sem]
  · intro f' hf'; simp [Target.leads] at hf'; subst hf'; exact hFg
  · simp [invoke, go_sem, eg]
  · refine hseq (w.heap.size + 1)
      (fun k W => I k W ∧ W.heap[w.heap.size + 1]? = some (.loop (rec .ready none)) ∧ W.heap[w.heap.size]? = some (.deferred (some [])))
      _ W1 hb1
      (fun s A B row hs hg' hr => ⟨hI s A B row hs.1 hg' (fun r e => ⟨by have := (hr r e).1; omega, (hr r e).2⟩), (hg'.block (w.heap.size + 1) (Array.getElem?_eq_some_iff.1 hs.2.1).1 (fun e => by have := (hr _ e.symm).1; omega)).trans hs.2.1, (hg'.block w.heap.size (Array.getElem?_eq_some_iff.1 hs.2.2).1 (fun e => by have := (hr _ e.symm).1; omega)).trans hs.2.2⟩)
      (fun k X p v hs hp ho => ⟨hIT k X p v hs.1 (by omega) (by rw [hz1] at ho; exact ho), (Below.heap_setCell _ _ _ _ (by omega)).trans hs.2.1, (Below.heap_setCell _ _ _ _ (by omega)).trans hs.2.2⟩)
      ?_ ⟨hI1, hL1, hK1⟩ ?_
    · rintro k x W hx hpv ⟨hi, hl, hk⟩
      have hlt : w.heap.size + 1 < W.heap.size := (Array.getElem?_eq_some_iff.1 hl).1
      have hy := run_yield (P := P) (args := x) hl (by rw [hrec]; exact hps k x hx)
      rw [hrec] at hy
      refine ⟨fn, _, assign, body, hy, roundInP_of_wpIn hfn (hassign _ k x W _ hx (by omega) hi ?_)⟩
      clear hy
      intro a' Wa hkfa hkpa hcka hia hax
      replace hl := hkfa.same _ _ (by omega) hl rfl
      replace hk := hkfa.same _ _ (Nat.le_refl _) hk rfl
      replace hlt : w.heap.size + 1 < Wa.heap.size := (Array.getElem?_eq_some_iff.1 hl).1
      replace hi := hia
      clear hia
      revert hcka hkpa hkfa
      generalize W = Wb
      intro hkfa hkpa hcka
      obtain ⟨W, rfl⟩ : ∃ W, W = Wa := ⟨_, rfl⟩
      refine ⟨_, run_beginRound hl (by rw [hrec]), ?_⟩
      have hl2 : (W.putObj (w.heap.size + 1) (.loop { rec .ready none with state := .busy })).heap[w.heap.size + 1]? = some (.loop { rec .ready none with state := .busy }) := World.putObj_heap_same hlt
      have hk2 : (W.putObj (w.heap.size + 1) (.loop { rec .ready none with state := .busy })).heap[w.heap.size]? = some (.deferred (some [])) := (World.putObj_heap_other (by omega)).trans hk
      have hw2 : BelS S w.heap.size W (W.putObj (w.heap.size + 1) (.loop { rec .ready none with state := .busy })) := BelS.of_below (belowK_b (Nat.le_refl _) _ _ _ _ (by omega) hl rfl rfl)
      refine wpIn_mono (hbody _ k x a' _ hx (by simp; omega) (hI.putObj _ hi (by omega) hl rfl) ((hAx x a').putObj (s := ()) _ hax (by omega) hl rfl)) ?_
      have fin : ∀ (jump : Option Code) (W3 : World), KeepsFrom w.heap.size (W.putObj (w.heap.size + 1) (.loop { rec .ready none with state := .busy })) W3 →
          (Instr.endRound (w.heap.size + 1) jump).run P W3 = .ok (.bool jump.isNone) (W3.putObj (w.heap.size + 1) (.loop (rec (if jump.isNone then .ready else .done) jump))) ∧
          W3.heap[w.heap.size + 1]? = some (.loop { rec .ready none with state := .busy }) ∧
          (W3.putObj (w.heap.size + 1) (.loop (rec (if jump.isNone then .ready else .done) jump))).heap[w.heap.size + 1]? = some (.loop (rec (if jump.isNone then .ready else .done) jump)) ∧
          (W3.putObj (w.heap.size + 1) (.loop (rec (if jump.isNone then .ready else .done) jump))).heap[w.heap.size]? = some (.deferred (some [])) := fun jump W3 hk3 => by
        have hl3 := hk3.same _ _ (by omega) hl2 rfl
        have := run_endRound (P := P) jump hl3
        rw [hrec] at this ⊢
        exact ⟨this, by rw [hrec] at hl3; exact hl3, World.putObj_heap_same (Array.getElem?_eq_some_iff.1 hl3).1, (World.putObj_heap_other (by omega)).trans (hk3.same _ _ (Nat.le_refl _) hk2 rfl)⟩
      have stop : ∀ (c : Code) (W4 : World), Ix c W4 → W4.heap[w.heap.size + 1]? = some (.loop (rec .done (some c))) → W4.heap[w.heap.size]? = some (.deferred (some [])) →
          rangePost F n P (w.heap.size + 1) Q { a with defers := [{ target := .collected w.heap.size, args := #[] }] ++ a.defers } (.returned (.tuple #[])) W4 := fun c W4 hi4 hl4 hk4 =>
        ⟨some c, _, by have := run_endLoop (P := P) hl4 (by rw [hrec]; simp); rw [hrec] at this; exact this, hstop _ c _ (Nat.le_refl _) ((hIx c).putObj (s := ()) _ hi4 (by omega) hl4 rfl) ((World.putObj_heap_other (by omega)).trans hk4)⟩
      rintro e a3 W3 hp
      cases e with
      | normal =>
        obtain ⟨hk3, hkp3, hck3, hi3⟩ := hp
        obtain ⟨hr, hl3, hl4, hk4⟩ := fin none W3 hk3
        refine ⟨_, _, hr, .inl ⟨rfl, ⟨hI.putObj _ hi3 (by omega) hl3 rfl, hl4, hk4⟩, ?_, ?_⟩⟩
        · exact hkpa.trans ((hw2.trans hkp3).trans (BelS.of_below (belowK_b (Nat.le_refl _) _ _ _ _ (by omega) hl3 rfl rfl)))
        · exact hcka.trans ((CK.putObj S hl rfl _).trans (hck3.trans (CK.putObj S hl3 rfl _)))
      | ret =>
        obtain ⟨hk3, hi3⟩ := hp
        obtain ⟨hr, hl3, hl4, hk4⟩ := fin (some .ret) W3 hk3
        exact ⟨_, _, hr, .inr (.inl ⟨rfl, stop .ret _ ((hIx _).putObj (s := ()) _ hi3 (by omega) hl3 rfl) hl4 hk4⟩)⟩
      | exit id =>
        obtain ⟨hk3, hi3⟩ := hp
        obtain ⟨hr, hl3, hl4, hk4⟩ := fin (some (.exit id)) W3 hk3
        exact ⟨_, _, hr, .inr (.inl ⟨rfl, stop (.exit id) _ ((hIx _).putObj (s := ()) _ hi3 (by omega) hl3 rfl) hl4 hk4⟩)⟩
      | goto t =>
        obtain ⟨hk3, hi3⟩ := hp
        obtain ⟨hr, hl3, hl4, hk4⟩ := fin (some (.goto t)) W3 hk3
        exact ⟨_, _, hr, .inr (.inl ⟨rfl, stop (.goto t) _ ((hIx _).putObj (s := ()) _ hi3 (by omega) hl3 rfl) hl4 hk4⟩)⟩
      | panic ch =>
        obtain ⟨hk3, hd3, hi3⟩ := hp
        exact ⟨hd3, hfs fn hfn ch _ hi3, .inr (.inr ⟨ch, rfl, hpanic _ ch _ (Nat.le_refl _) hi3 (hk3.same _ _ (Nat.le_refl _) hk2 rfl)⟩)⟩
      | outgrown => exact hp.elim
    · rintro W2 ⟨hi, hl, hk⟩
      exact ⟨none, _, by have := run_endLoop (P := P) hl (by rw [hrec]; simp); rw [hrec] at this; exact this, hdone _ _ (Nat.le_refl _) (hI.putObj _ hi (by omega) hl rfl) ((World.putObj_heap_other (by omega)).trans hk)⟩

end Go.Proofs.Ytdffhkbncencgaa
