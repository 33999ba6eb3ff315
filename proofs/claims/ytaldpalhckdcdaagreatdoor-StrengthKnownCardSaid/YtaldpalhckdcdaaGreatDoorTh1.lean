/- Slices of the call's own, as they read; no statement is proved here. -/
import Derived.Test.YtaldpalhckdcdaaGreatDoorData
import Derived.PlainAid
import Derived.Deep.RegionHeld3
import Derived.Deep.DeepCutAuto
import Derived.Deep.AppendLies
import Derived.Test.YtaldpalhckdcdaaGreatDoorThick
import Derived.Test.YtaldpalhckdcdaaGreatDoorRingIt
import Derived.Test.YtaldpalhckdcdaaGreatDoorNeedB
import Derived.Test.YtaldpalhckdcdaaGreatDoorTold
import Derived.Deep.OwnRows
namespace Go.Proofs.YtaldpalhckdcdaaGreatDoor
open Go.RowKit Go.PlainAid
set_option linter.unusedVariables false
theorem own_below {w w1 : World} {B base : Nat} {e : TypeId} {size : Nat} {v : Value} {n : Nat} {xs : List Value} (h : w.ownsRow base e size v n xs) (hb : Below B w w1) (hB : ∀ g, v.ownBlock = some g → g < B) : w1.ownsRow base e size v n xs := by
  obtain ⟨h1, h2⟩ := h
  refine ⟨h1, ?_⟩
  rcases h2 with h2 | ⟨g, cap, cur, hv, hg, hh, r⟩
  · exact Or.inl h2
  · refine Or.inr ⟨g, cap, cur, hv, hg, ?_, r⟩
    rw [hb.block g (hB g (by rw [hv]; rfl))]
    exact hh

/-- a slice of the call's own is seen where its block is. -/
theorem own_vis {S : Nat → Prop} {w : World} {base : Nat} {e : TypeId} {size : Nat} {v : Value} {n : Nat} {xs : List Value} (h : w.ownsRow base e size v n xs) (hS : ∀ g, v.ownBlock = some g → S g) : (vis S w).ownsRow base e size v n xs := by
  obtain ⟨h1, h2⟩ := h
  refine ⟨h1, ?_⟩
  rcases h2 with h2 | ⟨g, cap, cur, hv, hg, hh, r⟩
  · exact Or.inl h2
  · exact Or.inr ⟨g, cap, cur, hv, hg, by rw [vis_block (hS g (by rw [hv]; rfl))]; exact hh, r⟩

theorem own_lt {w : World} {base : Nat} {e : TypeId} {size : Nat} {v : Value} {n : Nat} {xs : List Value} (h : w.ownsRow base e size v n xs) : ∀ g, v.ownBlock = some g → g < w.heap.size := fun g hg => (h.lt g hg).2

theorem own_cells {w : World} {base : Nat} {e : TypeId} {size : Nat} {v : Value} {n : Nat} {xs : List Value} (h : w.ownsRow base e size v n xs) :
    (v = .slice none 0 0 ∧ n = 0) ∨ ∃ g cap, v = .slice (some ⟨g, 0, none⟩) n cap ∧ n ≤ cap ∧ cap ≤ 9223372036854775807 ∧ ∀ j (hj : j < xs.length), w.cell? ⟨g, j, none⟩ = some (xs[j]'hj) := by
  rcases h.2 with h2 | ⟨g, cap, cur, hv, hg, hh, h1, h2, h3, h4⟩
  · exact .inl h2
  · refine .inr ⟨g, cap, hv, h1, by simpa [maxLen] using h2, fun j hj => ?_⟩
    subst hv
    rw [h.cellAt j (by rw [← h.1]; exact hj), List.getElem?_eq_getElem hj]

/-- what a slice of the call's own reads as. -/
theorem own_RSl {α : Type} {R : World → Addr → α → Prop} {w : World} {base : Nat} {e : TypeId} {size : Nat} {v : Value} {xs : List Value} {l : List α} (h : w.ownsRow base e size v l.length xs) (hm : l.length ≤ 140737488351232)
    (hR : ∀ g cap, v = .slice (some ⟨g, 0, none⟩) l.length cap → (∀ j (hj : j < xs.length), w.cell? ⟨g, j, none⟩ = some (xs[j]'hj)) → ∀ i (hi : i < l.length), R w ⟨g, i * size, none⟩ (l[i]'hi)) : RSl size R w v l := by
  rcases own_cells h with ⟨h1, h2⟩ | ⟨g, cap, h1, h2, h3, h4⟩
  · exact ⟨none, 0, by rw [h1, h2], by omega, ⟨by omega, hm⟩, fun i hi => by omega⟩
  · refine ⟨some ⟨g, 0, none⟩, cap, h1, h2, ⟨h3, hm⟩, fun i hi => ⟨g, 0, rfl, ?_⟩⟩
    rw [Nat.zero_add]
    exact hR g cap h1 h4 i hi

theorem own_RInts {w : World} {base : Nat} {e : TypeId} {v : Value} {l : List Int} (h : w.ownsRow base e 1 v l.length (l.map (Value.int .i64))) (hm : l.length ≤ 140737488351232) (hi : ∀ x ∈ l, I64 x) : RInts w v l :=
  own_RSl h hm fun g cap _ hc i hil => by
    have := hc i (by simpa using hil)
    rw [List.getElem_map] at this
    exact ⟨by rw [Nat.mul_one]; exact this, hi _ (List.getElem_mem hil)⟩

/-- cells of structs, one behind the other. -/
theorem flat_at {α : Type} (c : α → List Value) (n : Nat) (hn : ∀ x, (c x).length = n) : ∀ (l : List α) (i j : Nat) (hi : i < l.length) (hj : j < n), (l.flatMap c)[i * n + j]? = (c (l[i]'hi))[j]? := by
  intro l
  induction l with
  | nil => intro i j hi; simp at hi
  | cons a l ih =>
    intro i j hi hj
    rw [List.flatMap_cons]
    cases i with
    | zero =>
      rw [Nat.zero_mul, Nat.zero_add, List.getElem?_append_left (by rw [hn]; exact hj)]
      rfl
    | succ i =>
      rw [List.getElem?_append_right (by rw [hn, Nat.succ_mul]; omega), hn, show (i + 1) * n + j - n = i * n + j from by rw [Nat.succ_mul]; omega, ih i j (by simpa using hi) hj]
      rfl

theorem flat_len {α : Type} (c : α → List Value) (n : Nat) (hn : ∀ x, (c x).length = n) : ∀ (l : List α), (l.flatMap c).length = l.length * n := by
  intro l
  induction l with
  | nil => simp
  | cons a l ih => rw [List.flatMap_cons, List.length_append, hn, ih, List.length_cons, Nat.succ_mul, Nat.add_comm]

theorem flat_cell {α : Type} {c : α → List Value} {n : Nat} (hn : ∀ x, (c x).length = n) {l : List α} {w : World} {g : Nat} (hc : ∀ j (hj : j < (l.flatMap c).length), w.cell? ⟨g, j, none⟩ = some ((l.flatMap c)[j]'hj)) (i j : Nat) (hi : i < l.length) (hj : j < n) (u : Value) (hu : (c (l[i]'hi))[j]? = some u) : w.cell? ⟨g, i * n + j, none⟩ = some u := by
  have hlt : i * n + j < (l.flatMap c).length := by
    rw [flat_len c n hn]
    have := Nat.mul_le_mul_right n (show i + 1 ≤ l.length from hi)
    rw [Nat.succ_mul] at this
    omega
  have h1 := flat_at c n hn l i j hi hj
  rw [hu, List.getElem?_eq_getElem hlt] at h1
  rw [hc _ hlt, h1]

def spCells (s : Sp) : List Value := [.int .i64 s.lo, .int .i64 s.hi]
theorem own_RSps {w : World} {base : Nat} {e : TypeId} {v : Value} {l : List Sp} (h : w.ownsRow base e 2 v l.length (l.flatMap spCells)) (hm : l.length ≤ 140737488351232) (hi : ∀ x ∈ l, I64 x.lo ∧ I64 x.hi) : RSps w v l :=
  own_RSl h hm fun g cap _ hc i hil => by
    have h0 := flat_cell (c := spCells) (n := 2) (fun _ => rfl) hc i 0 hil (by omega) _ rfl
    have h1 := flat_cell (c := spCells) (n := 2) (fun _ => rfl) hc i 1 hil (by omega) _ rfl
    exact ⟨h0, h1, (hi _ (List.getElem_mem hil)).1, (hi _ (List.getElem_mem hil)).2⟩

theorem info_span : (Tryz.prog.info? 27).map (fun i => (i.zero, i.size, i.bytes)) = some (some (.agg #[.int .i64 0, .int .i64 0]), 2, 16) := by kernel_rfl

theorem below_grown {B : Nat} {a w w' : World} {row : Option Nat} (h : Below B a w) (hg : w.grownBy w' row) (hB : B ≤ w.heap.size) (hr : ∀ k, row = some k → B ≤ k) : Below B a w' := h.grown hg hB hr

theorem own_drew {w : World} {base : Nat} {e : TypeId} {size : Nat} {v : Value} {n : Nat} {xs : List Value} (h : w.ownsRow base e size v n xs) : w.drew.ownsRow base e size v n xs := h

theorem Blk.grown {w w' : World} {k : Nat} {cs : Array Value} {t : TypeId} {row : Option Nat} (h : Blk w k cs t) (hg : w.grownBy w' row) (hr : row ≠ some k) : Blk w' k cs t := by
  have hl := h.lt
  unfold Blk at *
  rw [hg.block k hl (fun e => hr e.symm)]
  exact h

end Go.Proofs.YtaldpalhckdcdaaGreatDoor

namespace Go.Proofs.YtaldpalhckdcdaaGreatDoor
open Go.RowKit Go.PlainAid
set_option linter.unusedVariables false
attribute [local go_sem] Oper.semAt_some
/-- make([]api.Span, n). -/
theorem run_make_sp (n : Nat) (hn : n ≤ 1000000) (w : World) : Sem.run Tryz.prog (Instr.makeSlice 28 (.int .i64 (n : Int)) (.int .i64 (n : Int))) w =
    .ok (.slice (some ⟨w.heap.size, 0, none⟩) n n) (w.alloc (.cells (madeCells #[.int .i64 0, .int .i64 0] (n * 2)) 27)) := by
  obtain ⟨i, hi, hzz⟩ := Option.map_eq_some_iff.1 info_span
  simp only [Prod.mk.injEq] at hzz
  obtain ⟨hz, hs, hb⟩ := hzz
  have hr := run_make (P := Tryz.prog) w 28 27 i _ Tryz.underlying28 hi hz .i64 .i64 n n (by omega) (Int.le_refl _) (by rw [hb]; omega) (by omega)
  simp only [Int.toNat_natCast, hs] at hr
  exact hr

theorem rowIs_made2 (w : World) (n : Nat) : ∃ f, (w.alloc (.cells (madeCells #[.int .i64 0, .int .i64 0] (n * 2)) 27)).rowIs w.heap.size 27 (n * 2) f :=
  ⟨_, by
    have := World.rowIs_alloc w (madeCells #[.int .i64 0, .int .i64 0] (n * 2)) 27 (fun i => (madeCells #[Value.int .i64 0, .int .i64 0] (n * 2)).getD i undef) (fun i hi => by
      rw [Array.getElem?_eq_getElem hi]
      simp [Array.getD, hi])
    rwa [size_madeCells] at this⟩

theorem rowIs_own {β : Type} (b : Nat) (t : TypeId) (n : Nat) (f : β → Nat → Value) : Own (fun s W => World.rowIs W b t n (f s)) := fun s X Y row hs hg hrow => by
  have hs' : X.rowIs b t n (f s) := hs
  obtain ⟨c, h1, h2, h3⟩ := hs'
  have h4 := hg.block b (Array.getElem?_eq_some_iff.1 h1).1 (fun e => by
    obtain ⟨o, ho, hc⟩ := hrow b e.symm
    rw [h1] at ho; cases ho; cases hc)
  exact ⟨c, h4.trans h1, h2, h3⟩

/-- the row of spans, right up to number k. -/
def SpUpto (W : World) (g n : Nat) (l : List Sp) (k : Nat) : Prop := ∃ f, W.rowIs g 27 (n * 2) f ∧ ∀ i (h : i < l.length), i < k → f (i * 2) = .int .i64 l[i].lo ∧ f (i * 2 + 1) = .int .i64 l[i].hi
theorem SpUpto.own {β : Type} (g n : Nat) (l : List Sp) (k : β → Nat) : Own (fun s W => SpUpto W g n l (k s)) := fun s X Y row hs hg hrow => by
  obtain ⟨f, h1, h2⟩ := hs
  exact ⟨f, rowIs_own (β := Unit) g _ _ (fun _ => f) () X Y row h1 hg hrow, h2⟩
theorem SpUpto.of_block {W W' : World} {g n : Nat} {l : List Sp} {k : Nat} (h : SpUpto W g n l k) (hb : W'.heap[g]? = W.heap[g]?) : SpUpto W' g n l k := by
  obtain ⟨f, h1, h2⟩ := h
  exact ⟨f, h1.of_block hb, h2⟩
theorem SpUpto.step {W : World} {g n : Nat} {l : List Sp} {k : Nat} (h : SpUpto W g n l k) (hk : k < l.length) :
    SpUpto ((W.setCell ⟨g, k * 2, none⟩ (.int .i64 l[k].lo)).setCell ⟨g, k * 2 + 1, none⟩ (.int .i64 l[k].hi)) g n l (k + 1) := by
  obtain ⟨f, h1, h2⟩ := h
  refine ⟨_, (h1.set _ _).set _ _, fun i hi hik => ?_⟩
  by_cases e : i = k
  · subst e
    exact ⟨by simp, by simp⟩
  · obtain ⟨h3, h4⟩ := h2 i hi (by omega)
    refine ⟨?_, ?_⟩
    · rw [if_neg (by omega), if_neg (by omega)]; exact h3
    · rw [if_neg (by omega), if_neg (by omega)]; exact h4
theorem SpUpto.reads {W : World} {S : Nat → Prop} {g n : Nat} {l : List Sp} (h : SpUpto W g n l l.length) (hn : l.length = n) (hS : S g) (hm : n ≤ 140737488351232) (hi : ∀ x ∈ l, I64s x) : RSps (vis S W) (.slice (some ⟨g, 0, none⟩) n n) l := by
  obtain ⟨f, h1, h2⟩ := h
  refine ⟨_, n, by rw [hn], by omega, ⟨by omega, by omega⟩, fun i hi' => ⟨g, 0, rfl, ?_⟩⟩
  obtain ⟨h3, h4⟩ := h2 i hi' hi'
  have c0 := h1.cell (i := i * 2) (by omega)
  have c1 := h1.cell (i := i * 2 + 1) (by omega)
  rw [h3] at c0
  rw [h4] at c1
  refine ⟨vis_cell.2 ⟨hS, ?_⟩, vis_cell.2 ⟨hS, ?_⟩, hi _ (List.getElem_mem hi')⟩
  · simpa using c0
  · simpa using c1

end Go.Proofs.YtaldpalhckdcdaaGreatDoor
