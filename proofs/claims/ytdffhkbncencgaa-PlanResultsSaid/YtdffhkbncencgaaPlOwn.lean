/- (layer 8) Slices of the call's own, as they read; no statement is proved here. -/
import Derived.Test.YtdffhkbncencgaaRange
import Derived.PlainAid
import Derived.Deep.RegionHeld3
import Derived.Deep.DeepCutAuto
import Derived.Deep.AppendLies
namespace Go.Proofs.Ytdffhkbncencgaa
open Go.RowKit Go.PlainAid
set_option linter.unusedVariables false

theorem own_below {w w1 : World} {B base : Nat} {e : TypeId} {size : Nat} {v : Value} {n : Nat} {xs : List Value} (h : w.ownsRow base e size v n xs) (hb : Below B w w1) (hB : ∀ g, v.ownBlock = some g → g < B) : w1.ownsRow base e size v n xs := by
  obtain ⟨h1, h2⟩ := h
  refine ⟨h1, ?_⟩
  rcases h2 with h2 | ⟨g, cap, cur, hv, hg, hh, r⟩
  · exact Or.inl h2
  · refine Or.inr ⟨g, cap, cur, hv, hg, ?_, r⟩
    rw [hb.block g (hB g (by rw [hv]; rfl))]
    exact hh

/-- a slice of the call's own is seen where its block is. -/
theorem own_vis {S : Nat → Prop} {w : World} {base : Nat} {e : TypeId} {size : Nat} {v : Value} {n : Nat} {xs : List Value} (h : w.ownsRow base e size v n xs) (hS : ∀ g, v.ownBlock = some g → S g) : (vis S w).ownsRow base e size v n xs := by
  obtain ⟨h1, h2⟩ := h
  refine ⟨h1, ?_⟩
  rcases h2 with h2 | ⟨g, cap, cur, hv, hg, hh, r⟩
  · exact Or.inl h2
  · exact Or.inr ⟨g, cap, cur, hv, hg, by rw [vis_block (hS g (by rw [hv]; rfl))]; exact hh, r⟩

theorem own_lt {w : World} {base : Nat} {e : TypeId} {size : Nat} {v : Value} {n : Nat} {xs : List Value} (h : w.ownsRow base e size v n xs) : ∀ g, v.ownBlock = some g → g < w.heap.size := fun g hg => (h.lt g hg).2

theorem own_cells {w : World} {base : Nat} {e : TypeId} {size : Nat} {v : Value} {n : Nat} {xs : List Value} (h : w.ownsRow base e size v n xs) :
    (v = .slice none 0 0 ∧ n = 0) ∨ ∃ g cap, v = .slice (some ⟨g, 0, none⟩) n cap ∧ n ≤ cap ∧ cap ≤ 9223372036854775807 ∧ ∀ j (hj : j < xs.length), w.cell? ⟨g, j, none⟩ = some (xs[j]'hj) := by
  rcases h.2 with h2 | ⟨g, cap, cur, hv, hg, hh, h1, h2, h3, h4⟩
  · exact .inl h2
  · refine .inr ⟨g, cap, hv, h1, by simpa [maxLen] using h2, fun j hj => ?_⟩
    subst hv
    rw [h.cellAt j (by rw [← h.1]; exact hj), List.getElem?_eq_getElem hj]

/-- what a slice of the call's own reads as. -/
theorem own_RSl {α : Type} {R : World → Addr → α → Prop} {w : World} {base : Nat} {e : TypeId} {size : Nat} {v : Value} {xs : List Value} {l : List α} (h : w.ownsRow base e size v l.length xs) (hm : l.length ≤ 140737488351232)
    (hR : ∀ g cap, v = .slice (some ⟨g, 0, none⟩) l.length cap → (∀ j (hj : j < xs.length), w.cell? ⟨g, j, none⟩ = some (xs[j]'hj)) → ∀ i (hi : i < l.length), R w ⟨g, i * size, none⟩ (l[i]'hi)) : RSl size R w v l := by
  rcases own_cells h with ⟨h1, h2⟩ | ⟨g, cap, h1, h2, h3, h4⟩
  · exact ⟨none, 0, by rw [h1, h2], by omega, ⟨by omega, hm⟩, fun i hi => by omega⟩
  · refine ⟨some ⟨g, 0, none⟩, cap, h1, h2, ⟨h3, hm⟩, fun i hi => ⟨g, 0, rfl, ?_⟩⟩
    rw [Nat.zero_add]
    exact hR g cap h1 h4 i hi

theorem own_RInts {w : World} {base : Nat} {e : TypeId} {v : Value} {l : List Int} (h : w.ownsRow base e 1 v l.length (l.map (Value.int .i64))) (hm : l.length ≤ 140737488351232) (hi : ∀ x ∈ l, I64 x) : RInts w v l :=
  own_RSl h hm fun g cap _ hc i hil => by
    have := hc i (by simpa using hil)
    rw [List.getElem_map] at this
    exact ⟨by rw [Nat.mul_one]; exact this, hi _ (List.getElem_mem hil)⟩

/-- cells of structs, one behind the other. -/
theorem flat_at {α : Type} (c : α → List Value) (n : Nat) (hn : ∀ x, (c x).length = n) : ∀ (l : List α) (i j : Nat) (hi : i < l.length) (hj : j < n), (l.flatMap c)[i * n + j]? = (c (l[i]'hi))[j]? := by
  intro l
  induction l with
  | nil => intro i j hi; simp at hi
  | cons a l ih =>
    intro i j hi hj
    rw [List.flatMap_cons]
    cases i with
    | zero =>
      rw [Nat.zero_mul, Nat.zero_add, List.getElem?_append_left (by rw [hn]; exact hj)]
      rfl
    | succ i =>
      rw [List.getElem?_append_right (by rw [hn, Nat.succ_mul]; omega), hn, show (i + 1) * n + j - n = i * n + j from by rw [Nat.succ_mul]; omega, ih i j (by simpa using hi) hj]
      rfl

theorem flat_len {α : Type} (c : α → List Value) (n : Nat) (hn : ∀ x, (c x).length = n) : ∀ (l : List α), (l.flatMap c).length = l.length * n := by
  intro l
  induction l with
  | nil => simp
  | cons a l ih => rw [List.flatMap_cons, List.length_append, hn, ih, List.length_cons, Nat.succ_mul, Nat.add_comm]

theorem flat_cell {α : Type} {c : α → List Value} {n : Nat} (hn : ∀ x, (c x).length = n) {l : List α} {w : World} {g : Nat} (hc : ∀ j (hj : j < (l.flatMap c).length), w.cell? ⟨g, j, none⟩ = some ((l.flatMap c)[j]'hj)) (i j : Nat) (hi : i < l.length) (hj : j < n) (u : Value) (hu : (c (l[i]'hi))[j]? = some u) : w.cell? ⟨g, i * n + j, none⟩ = some u := by
  have hlt : i * n + j < (l.flatMap c).length := by
    rw [flat_len c n hn]
    have := Nat.mul_le_mul_right n (show i + 1 ≤ l.length from hi)
    rw [Nat.succ_mul] at this
    omega
  have h1 := flat_at c n hn l i j hi hj
  rw [hu, List.getElem?_eq_getElem hlt] at h1
  rw [hc _ hlt, h1]

def spCells (s : Sp) : List Value := [.int .i64 s.lo, .int .i64 s.hi]
theorem own_RSps {w : World} {base : Nat} {e : TypeId} {v : Value} {l : List Sp} (h : w.ownsRow base e 2 v l.length (l.flatMap spCells)) (hm : l.length ≤ 140737488351232) (hi : ∀ x ∈ l, I64 x.lo ∧ I64 x.hi) : RSps w v l :=
  own_RSl h hm fun g cap _ hc i hil => by
    have h0 := flat_cell (c := spCells) (n := 2) (fun _ => rfl) hc i 0 hil (by omega) _ rfl
    have h1 := flat_cell (c := spCells) (n := 2) (fun _ => rfl) hc i 1 hil (by omega) _ rfl
    exact ⟨h0, h1, (hi _ (List.getElem_mem hil)).1, (hi _ (List.getElem_mem hil)).2⟩


theorem below_grown {B : Nat} {a w w' : World} {row : Option Nat} (h : Below B a w) (hg : w.grownBy w' row) (hB : B ≤ w.heap.size) (hr : ∀ k, row = some k → B ≤ k) : Below B a w' := h.grown hg hB hr

theorem own_drew {w : World} {base : Nat} {e : TypeId} {size : Nat} {v : Value} {n : Nat} {xs : List Value} (h : w.ownsRow base e size v n xs) : w.drew.ownsRow base e size v n xs := h

theorem Blk.grown {w w' : World} {k : Nat} {cs : Array Value} {t : TypeId} {row : Option Nat} (h : Blk w k cs t) (hg : w.grownBy w' row) (hr : row ≠ some k) : Blk w' k cs t := by
  have hl := h.lt
  unfold Blk at *
  rw [hg.block k hl (fun e => hr e.symm)]
  exact h

theorem own_othr {w : World} {base : Nat} {e : TypeId} {size : Nat} {v : Value} {n : Nat} {xs : List Value} (h : w.ownsRow base e size v n xs) (p : Addr) (x : Value) (hp : v.ownBlock ≠ some p.block) : (w.setCell p x).ownsRow base e size v n xs := by
  obtain ⟨h1, h2⟩ := h
  refine ⟨h1, ?_⟩
  rcases h2 with h2 | ⟨g, cap, cur, hv, hg, hh, r⟩
  · exact Or.inl h2
  · refine Or.inr ⟨g, cap, cur, hv, hg, ?_, r⟩
    rw [Below.heap_setCell _ _ _ _ (fun e => by subst e; subst hv; exact hp rfl)]
    exact hh
theorem own_grown {X Y : World} {row : Option Nat} {base : Nat} {e : TypeId} {size : Nat} {v : Value} {n : Nat} {xs : List Value} (h : X.ownsRow base e size v n xs) (hg : X.grownBy Y row) (hr : ∀ r, row = some r → ∃ o : Obj, X.heap[r]? = some o ∧ o.isCells = false) : Y.ownsRow base e size v n xs := by
  obtain ⟨h1, h2⟩ := h
  refine ⟨h1, ?_⟩
  rcases h2 with h2 | ⟨g, cap, cur, hv, hg', hh, r⟩
  · exact Or.inl h2
  · refine Or.inr ⟨g, cap, cur, hv, hg', ?_, r⟩
    rw [hg.block g (Array.getElem?_eq_some_iff.1 hh).1 (fun e => by
      obtain ⟨o, ho, hc⟩ := hr g e.symm
      rw [hh] at ho; cases ho; cases hc)]
    exact hh

theorem own_slice {w : World} {base : Nat} {e : TypeId} {size : Nat} {v : Value} {n : Nat} {xs : List Value} (h : w.ownsRow base e size v n xs) (hn : 0 < n) : ∃ g c, v = .slice (some ⟨g, 0, none⟩) n c := by
  rcases own_cells h with ⟨-, h2⟩ | ⟨g, cap, h1, -⟩
  · omega
  · exact ⟨g, cap, h1⟩

end Go.Proofs.Ytdffhkbncencgaa
