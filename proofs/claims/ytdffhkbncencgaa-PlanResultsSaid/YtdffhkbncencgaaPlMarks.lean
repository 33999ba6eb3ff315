/- Marks that a range over a function leaves behind, and worlds in which one block of ours has changed; no statement is proved here. -/
import Derived.Test.YtdffhkbncencgaaPlOv
import Derived.Test.YtdffhkbncencgaaTillIn
import Derived.Maps.OwnIn
namespace Go.Proofs.Ytdffhkbncencgaa
open Go.RowKit Go.PlainAid
set_option linter.unusedVariables false
set_option linter.unusedSimpArgs false

theorem own_cellsObj {w : World} {base : Nat} {e : TypeId} {size : Nat} {v : Value} {n : Nat} {xs : List Value} (h : w.ownsRow base e size v n xs) {q : Nat} (hq : v.ownBlock = some q) : ∃ o : Obj, w.heap[q]? = some o ∧ o.isCells = true := by
  obtain ⟨-, h2⟩ := h
  rcases h2 with ⟨h2, -⟩ | ⟨g, cap, cur, hv, hg', hh, r⟩
  · rw [h2] at hq; cases hq
  · rw [hv] at hq
    simp only [Value.ownBlock, Option.some.injEq] at hq
    subst hq
    exact ⟨_, hh, rfl⟩

/-- the marks that the ranges over functions of a loop have left. -/
theorem leave_marks {F : Fence} {n : Nat} {P : Program} {fn : Func} {tmps : Array Value} {R : Ending → World → Prop} {u : FrameMode} (hu : u ≠ .run) (G : World → Prop) : ∀ (Ds : List Nat) (w : World), Ds.Nodup → (∀ D ∈ Ds, w.heap[D]? = some (.deferred (some []))) → G w →
    (∀ X D, D ∈ Ds → G X → X.heap[D]? = some (.deferred (some [])) → G (X.putObj D (.deferred none))) → (∀ X, G X → LeavesIn F n P fn tmps R [] u X) →
    LeavesInM F n P fn tmps R (Ds.map fun D => { target := .collected D, args := #[] }) u w
  | [], w, _, _, h, _, he => he w h
  | D :: Ds, w, hn, hd, h, hp, he => by
    have hD := hd D (List.mem_cons_self ..)
    rw [List.nodup_cons] at hn
    refine ⟨hu, .inl ⟨D, _, rfl, run_takeDeferred hD, ?_⟩⟩
    refine leave_marks hu G Ds _ hn.2 (fun E hE => ?_) (hp w D (List.mem_cons_self ..) h hD) (fun X E hE => hp X E (List.mem_cons_of_mem _ hE)) he
    rw [World.putObj_heap_other (show E ≠ D from fun e => hn.1 (e ▸ hE))]
    exact hd E (List.mem_cons_of_mem _ hE)

theorem ext_putMark {X : World} {D : Nat} {ds : Option (List Deferred)} (h : X.heap[D]? = some (.deferred ds)) (o : Obj) : Ext X (X.putObj D o) := fun p x hp => by
  have hne : p.block ≠ D := by
    intro e
    unfold World.cell? at hp
    rw [e, h] at hp
    simp at hp
  rw [World.cell?_of_block (World.putObj_heap_other hne)]
  exact hp

theorem pw_grown {T : Nat → Prop} {a b : World} {row : Option Nat} (hg : a.grownBy b row) (hr : ∀ q, row = some q → T q) : BelS T a.heap.size a b := ⟨hg.os, hg.tape, hg.output, hg.size, fun k hk hT => hg.block k hk (fun e => hT (hr k e.symm))⟩
theorem pw_down {S : Nat → Prop} {n m : Nat} {a b : World} (h : BelS S n a b) (hm : m ≤ n) (hS : ∀ q, S q → m ≤ q) : Below m a b := ⟨h.os, h.tape, h.output, h.size, fun k hk => h.block k (by omega) (fun x => by have := hS k x; omega)⟩
theorem pw_imp {S T : Nat → Prop} {n : Nat} {a b : World} (h : BelS S n a b) (hST : ∀ q, q < n → S q → T q) : BelS T n a b := ⟨h.os, h.tape, h.output, h.size, fun k hk hT => h.block k hk (fun x => hT (hST k hk x))⟩
theorem blk_belS {S : Nat → Prop} {n k : Nat} {a b : World} {cs : Array Value} {t : TypeId} (h : Blk a k cs t) (hb : BelS S n a b) (hk : k < n) (hS : ¬ S k) : Blk b k cs t := (hb.block k hk hS).trans h
theorem lv_errno {w : World} {b : Nat} {i : Int} {t : TypeId} (h : Blk w b #[.int .i64 i] t) : (loadVar 36 ⟨b, 0, none⟩).run Try.prog w = .ok (.int .i64 i) w := by
  have h1 := h.cell 0 _ rfl
  simp [loadVar, isAgg, go_sem, h1, Try.underlying36]
theorem blk_putMark {X : World} {k D : Nat} {cs : Array Value} {t : TypeId} {ds : Option (List Deferred)} (h : Blk X k cs t) (hD : X.heap[D]? = some (.deferred ds)) (o : Obj) : Blk (X.putObj D o) k cs t := (World.putObj_heap_other (show k ≠ D from fun e => by
  subst e
  unfold Blk at h
  rw [h] at hD
  cases hD)).trans h
end Go.Proofs.Ytdffhkbncencgaa
