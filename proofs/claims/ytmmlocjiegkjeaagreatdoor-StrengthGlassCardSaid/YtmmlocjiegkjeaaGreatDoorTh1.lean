/- How thick the rings of a bottle are: the closure of Thickness; no statement is proved here. -/
import Derived.Test.YtmmlocjiegkjeaaGreatDoorThick
import Derived.Test.YtmmlocjiegkjeaaGreatDoorTillIn
import Derived.Test.YtmmlocjiegkjeaaGreatDoorNeedB
import Derived.Test.YtmmlocjiegkjeaaGreatDoorTold
import Derived.Test.YtmmlocjiegkjeaaGreatDoorSOwn
import Derived.Deep.OwnRows
namespace Go.Proofs.YtmmlocjiegkjeaaGreatDoor
open Go.RowKit Go.PlainAid
set_option linter.unusedVariables false
attribute [local go_sem] Oper.semAt_some
/-- make([]api.Span, n). -/
theorem run_make_sp (n : Nat) (hn : n ≤ 1000000) (w : World) : Sem.run Tryz.prog (Instr.makeSlice 27 (.int .i64 (n : Int)) (.int .i64 (n : Int))) w =
    .ok (.slice (some ⟨w.heap.size, 0, none⟩) n n) (w.alloc (.cells (madeCells #[.int .i64 0, .int .i64 0] (n * 2)) 30)) := by
  obtain ⟨i, hi, hzz⟩ := Option.map_eq_some_iff.1 info_span
  simp only [Prod.mk.injEq] at hzz
  obtain ⟨hz, hs, hb⟩ := hzz
  have hr := run_make (P := Tryz.prog) w 27 30 i _ Tryz.underlying27 hi hz .i64 .i64 n n (by omega) (Int.le_refl _) (by rw [hb]; omega) (by omega)
  simp only [Int.toNat_natCast, hs] at hr
  exact hr

theorem rowIs_made2 (w : World) (n : Nat) : ∃ f, (w.alloc (.cells (madeCells #[.int .i64 0, .int .i64 0] (n * 2)) 30)).rowIs w.heap.size 30 (n * 2) f :=
  ⟨_, by
    have := World.rowIs_alloc w (madeCells #[.int .i64 0, .int .i64 0] (n * 2)) 30 (fun i => (madeCells #[Value.int .i64 0, .int .i64 0] (n * 2)).getD i undef) (fun i hi => by
      rw [Array.getElem?_eq_getElem hi]
      simp [Array.getD, hi])
    rwa [size_madeCells] at this⟩

theorem rowIs_own {β : Type} (b : Nat) (t : TypeId) (n : Nat) (f : β → Nat → Value) : Own (fun s W => World.rowIs W b t n (f s)) := fun s X Y row hs hg hrow => by
  have hs' : X.rowIs b t n (f s) := hs
  obtain ⟨c, h1, h2, h3⟩ := hs'
  have h4 := hg.block b (Array.getElem?_eq_some_iff.1 h1).1 (fun e => by
    obtain ⟨o, ho, hc⟩ := hrow b e.symm
    rw [h1] at ho; cases ho; cases hc)
  exact ⟨c, h4.trans h1, h2, h3⟩

/-- the row of spans, right up to number k. -/
def SpUpto (W : World) (g n : Nat) (l : List Sp) (k : Nat) : Prop := ∃ f, W.rowIs g 30 (n * 2) f ∧ ∀ i (h : i < l.length), i < k → f (i * 2) = .int .i64 l[i].lo ∧ f (i * 2 + 1) = .int .i64 l[i].hi
theorem SpUpto.own {β : Type} (g n : Nat) (l : List Sp) (k : β → Nat) : Own (fun s W => SpUpto W g n l (k s)) := fun s X Y row hs hg hrow => by
  obtain ⟨f, h1, h2⟩ := hs
  exact ⟨f, rowIs_own (β := Unit) g _ _ (fun _ => f) () X Y row h1 hg hrow, h2⟩
theorem SpUpto.of_block {W W' : World} {g n : Nat} {l : List Sp} {k : Nat} (h : SpUpto W g n l k) (hb : W'.heap[g]? = W.heap[g]?) : SpUpto W' g n l k := by
  obtain ⟨f, h1, h2⟩ := h
  exact ⟨f, h1.of_block hb, h2⟩
theorem SpUpto.step {W : World} {g n : Nat} {l : List Sp} {k : Nat} (h : SpUpto W g n l k) (hk : k < l.length) :
    SpUpto ((W.setCell ⟨g, k * 2, none⟩ (.int .i64 l[k].lo)).setCell ⟨g, k * 2 + 1, none⟩ (.int .i64 l[k].hi)) g n l (k + 1) := by
  obtain ⟨f, h1, h2⟩ := h
  refine ⟨_, (h1.set _ _).set _ _, fun i hi hik => ?_⟩
  by_cases e : i = k
  · subst e
    exact ⟨by simp, by simp⟩
  · obtain ⟨h3, h4⟩ := h2 i hi (by omega)
    refine ⟨?_, ?_⟩
    · rw [if_neg (by omega), if_neg (by omega)]; exact h3
    · rw [if_neg (by omega), if_neg (by omega)]; exact h4
theorem SpUpto.reads {W : World} {S : Nat → Prop} {g n : Nat} {l : List Sp} (h : SpUpto W g n l l.length) (hn : l.length = n) (hS : S g) (hm : n ≤ 140737488351232) (hi : ∀ x ∈ l, I64s x) : RSps (vis S W) (.slice (some ⟨g, 0, none⟩) n n) l := by
  obtain ⟨f, h1, h2⟩ := h
  refine ⟨_, n, by rw [hn], by omega, ⟨by omega, by omega⟩, fun i hi' => ⟨g, 0, rfl, ?_⟩⟩
  obtain ⟨h3, h4⟩ := h2 i hi' hi'
  have c0 := h1.cell (i := i * 2) (by omega)
  have c1 := h1.cell (i := i * 2 + 1) (by omega)
  rw [h3] at c0
  rw [h4] at c1
  refine ⟨vis_cell.2 ⟨hS, ?_⟩, vis_cell.2 ⟨hS, ?_⟩, hi _ (List.getElem_mem hi')⟩
  · simpa using c0
  · simpa using c1

end Go.Proofs.YtmmlocjiegkjeaaGreatDoor
