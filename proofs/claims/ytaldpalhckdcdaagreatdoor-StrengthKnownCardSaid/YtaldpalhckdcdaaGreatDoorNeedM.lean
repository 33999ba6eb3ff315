/- The least thickness of a ring with which it holds, in plain numbers; the rows of numbers that a call makes; no statement is proved here. -/
import Derived.Test.YtaldpalhckdcdaaGreatDoorInM
import Derived.Test.YtaldpalhckdcdaaGreatDoorTh1
namespace Go.Proofs.YtaldpalhckdcdaaGreatDoor
open Go.RowKit Go.PlainAid
set_option linter.unusedVariables false
/-- the least number from 1 to hi for which p is true, from which on it is; 0 if there is none. -/
structure IsFO (p : Int → Bool) (hi n : Int) : Prop where
  ge : 0 ≤ n
  le : n ≤ hi
  iff : ∀ x, 1 ≤ x → x ≤ hi → (p x = true ↔ 1 ≤ n ∧ n ≤ x)
theorem IsFO.unique {p : Int → Bool} {hi m n : Int} (h : IsFO p hi m) (k : IsFO p hi n) : m = n := by
  have h1 := h.ge
  have h2 := h.le
  have k1 := k.ge
  have k2 := k.le
  by_cases hm : 1 ≤ m
  · have a1 := (k.iff m hm h2).1 ((h.iff m hm h2).2 ⟨hm, Int.le_refl _⟩)
    have a2 := (h.iff n a1.1 k2).1 ((k.iff n a1.1 k2).2 ⟨a1.1, Int.le_refl _⟩)
    omega
  · by_cases hn : 1 ≤ n
    · have a2 := (h.iff n hn k2).1 ((k.iff n hn k2).2 ⟨hn, Int.le_refl _⟩)
      omega
    · omega
theorem fo_ex (p : Int → Bool) : ∀ (N : Nat), (∀ x y, 1 ≤ x → x ≤ y → y ≤ (N : Int) → p x = true → p y = true) → ∃ n, IsFO p N n
  | 0, _ => ⟨0, by omega, by omega, fun x h1 h2 => by omega⟩
  | N + 1, hm => by
    obtain ⟨n, h1, h2, h3⟩ := fo_ex p N (fun x y a b c d => hm x y a b (by push_cast; omega) d)
    push_cast at *
    by_cases hn : 1 ≤ n
    · refine ⟨n, h1, by omega, fun x a b => ?_⟩
      by_cases hx : x ≤ (N : Int)
      · exact h3 x a hx
      · obtain rfl : x = (N : Int) + 1 := by omega
        exact ⟨fun _ => ⟨hn, by omega⟩, fun _ => hm n _ hn (by omega) (by omega) ((h3 n hn h2).2 ⟨hn, Int.le_refl _⟩)⟩
    · by_cases hp : p ((N : Int) + 1) = true
      · refine ⟨(N : Int) + 1, by omega, by omega, fun x a b => ?_⟩
        by_cases hx : x ≤ (N : Int)
        · exact ⟨fun h => absurd ((h3 x a hx).1 h).1 hn, fun h => by omega⟩
        · obtain rfl : x = (N : Int) + 1 := by omega
          exact ⟨fun _ => ⟨by omega, by omega⟩, fun _ => hp⟩
      · refine ⟨0, by omega, by omega, fun x a b => ?_⟩
        by_cases hx : x ≤ (N : Int)
        · exact ⟨fun h => absurd ((h3 x a hx).1 h).1 hn, fun h => by omega⟩
        · obtain rfl : x = (N : Int) + 1 := by omega
          exact ⟨fun h => absurd h hp, fun h => by omega⟩
theorem fo_of_first {p : Int → Bool} {hi n : Int} (hh : 0 ≤ hi) (h : IsFirst p 1 hi n) : IsFO p hi (if hi < n then 0 else n) := by
  have h1 := h.ge
  have h2 := h.le
  split
  · refine ⟨by omega, hh, fun x a b => ⟨fun hp => ?_, fun hx => by omega⟩⟩
    rw [h.no x a (by omega)] at hp
    cases hp
  · refine ⟨by omega, by omega, fun x a b => ⟨fun hp => ?_, fun hx => h.yes x hx.2 b⟩⟩
    by_cases hx : n ≤ x
    · exact ⟨h1, hx⟩
    · rw [h.no x a (by omega)] at hp
      cases hp

open Classical in
noncomputable def rootF (q : Int) : Int := if h : ∃ m, IsRoot q m then h.choose else 0
theorem rootF_is {q : Int} (h : 0 ≤ q) : IsRoot q (rootF q) := by
  unfold rootF
  rw [dif_pos (root_ex q h)]
  exact (root_ex q h).choose_spec
theorem rootF_eq {q m : Int} (h : IsRoot q m) : rootF q = m := by
  unfold rootF
  have : ∃ m, IsRoot q m := ⟨m, h⟩
  rw [dif_pos this]
  exact this.choose_spec.unique h

def needP (r : Rg) (l : Ld) (m t : Int) : Bool := decide ((strR r ⟨t, t⟩ l).hi ≤ m)
theorem needP_mono {r : Rg} {l : Ld} {m x y : Int} (hr : OkR r) (hl : OkL l) (h1 : 1 ≤ x) (h2 : x ≤ y) (h3 : y ≤ 2000) (h : needP r l m x = true) : needP r l m y = true := by
  unfold needP at *
  rw [decide_eq_true_iff] at *
  have := strR_mono (t := ⟨x, x⟩) (t' := ⟨y, y⟩) hr ⟨h1, Int.le_refl _, by simp only; omega⟩ h2 hl.less
  omega
open Classical in
noncomputable def foF (p : Int → Bool) (hi : Int) : Int := if h : ∃ n, IsFO p hi n then h.choose else 0
theorem foF_eq {p : Int → Bool} {hi n : Int} (h : IsFO p hi n) : foF p hi = n := by
  unfold foF
  have : ∃ n, IsFO p hi n := ⟨n, h⟩
  rw [dif_pos this]
  exact this.choose_spec.unique h
noncomputable def needF (r : Rg) (l : Ld) (m : Int) : Int := foF (needP r l m) 2000
theorem needF_is {r : Rg} {l : Ld} {m : Int} (hr : OkR r) (hl : OkL l) : IsFO (needP r l m) 2000 (needF r l m) := by
  obtain ⟨n, hn⟩ := fo_ex (needP r l m) 2000 (fun x y a b c d => needP_mono hr hl a b c d)
  have hn' : IsFO (needP r l m) 2000 n := hn
  unfold needF
  rw [foF_eq hn']
  exact hn'
noncomputable def needS (b : Bot) (l : Ld) : List Int := b.rings.map fun r => needF r l (rootF (b.tough / b.flaw))
theorem needS_len (b : Bot) (l : Ld) : (needS b l).length = b.rings.length := by simp [needS]
theorem needS_at {b : Bot} {l : Ld} {k : Nat} (h : k < (needS b l).length) (h' : k < b.rings.length) : (needS b l)[k] = needF b.rings[k] l (rootF (b.tough / b.flaw)) := by simp [needS]
theorem needS_is {b : Bot} {l : Ld} (hb : OkS b) (hl : OkL l) {k : Nat} (h : k < (needS b l).length) (h' : k < b.rings.length) : IsFO (needP b.rings[k] l (rootF (b.tough / b.flaw))) 2000 (needS b l)[k] := by
  rw [needS_at h h']
  exact needF_is (hb.rings k h') hl
theorem needS_bd {b : Bot} {l : Ld} (hb : OkS b) (hl : OkL l) : ∀ x ∈ needS b l, 0 ≤ x ∧ x ≤ 2000 := fun x hx => by
  obtain ⟨k, hk, rfl⟩ := List.getElem_of_mem hx
  have := needS_is hb hl hk (by rw [← needS_len b l]; exact hk)
  exact ⟨this.ge, this.le⟩
theorem OkS.q {b : Bot} (h : OkS b) : 0 ≤ b.tough / b.flaw := Int.ediv_nonneg h.tough.1 (by have := h.flaw; omega)
theorem OkS.root {b : Bot} (h : OkS b) : IsRoot (b.tough / b.flaw) (rootF (b.tough / b.flaw)) := rootF_is h.q

/-- the first error of a bottle and a load. -/
def bothS (b : Bot) (l : Ld) : Int := if checkS b = 0 then loadS l else checkS b
theorem both_ok {b : Bot} {l : Ld} (h : bothS b l = 0) : OkS b ∧ OkL l := by
  unfold bothS at h
  split at h
  · rename_i h1; exact ⟨okS_of h1, okL_of h⟩
  · rename_i h1; exact absurd h h1

/-- make([]int, n). -/
theorem info_int : (Tryz.prog.info? 3).map (fun i => (i.zero, i.size, i.bytes)) = some (some (.int .i64 0), 1, 8) := by kernel_rfl
theorem run_make_int (n : Nat) (hn : n ≤ 1000000) (w : World) : Sem.run Tryz.prog (Instr.makeSlice 36 (.int .i64 (n : Int)) (.int .i64 (n : Int))) w =
    .ok (.slice (some ⟨w.heap.size, 0, none⟩) n n) (w.alloc (.cells (madeCells #[.int .i64 0] n) 3)) := by
  obtain ⟨i, hi, hzz⟩ := Option.map_eq_some_iff.1 info_int
  simp only [Prod.mk.injEq] at hzz
  obtain ⟨hz, hs, hb⟩ := hzz
  have hr := run_make (P := Tryz.prog) w 36 3 i _ Tryz.underlying36 hi hz .i64 .i64 n n (by omega) (Int.le_refl _) (by rw [hb]; omega) (by omega)
  simp only [Int.toNat_natCast, hs, Nat.mul_one] at hr
  exact hr
theorem rowIs_made1 (w : World) (n : Nat) : ∃ f, (w.alloc (.cells (madeCells #[.int .i64 0] n) 3)).rowIs w.heap.size 3 n f :=
  ⟨_, by
    have := World.rowIs_alloc w (madeCells #[.int .i64 0] n) 3 (fun i => (madeCells #[Value.int .i64 0] n).getD i undef) (fun i hi => by
      rw [Array.getElem?_eq_getElem hi]
      simp [Array.getD, hi])
    rwa [size_madeCells] at this⟩
/-- the row of numbers, right up to number k. -/
def IntUpto (W : World) (g n : Nat) (l : List Int) (k : Nat) : Prop := ∃ f, W.rowIs g 3 n f ∧ ∀ i (h : i < l.length), i < k → f i = .int .i64 l[i]
theorem IntUpto.own {β : Type} (g n : Nat) (l : List Int) (k : β → Nat) : Own (fun s W => IntUpto W g n l (k s)) := fun s X Y row hs hg hrow => by
  obtain ⟨f, h1, h2⟩ := hs
  exact ⟨f, rowIs_own (β := Unit) g _ _ (fun _ => f) () X Y row h1 hg hrow, h2⟩
theorem IntUpto.of_block {W W' : World} {g n : Nat} {l : List Int} {k : Nat} (h : IntUpto W g n l k) (hb : W'.heap[g]? = W.heap[g]?) : IntUpto W' g n l k := by
  obtain ⟨f, h1, h2⟩ := h
  exact ⟨f, h1.of_block hb, h2⟩
theorem IntUpto.step {W : World} {g n : Nat} {l : List Int} {k : Nat} (h : IntUpto W g n l k) (hk : k < l.length) :
    IntUpto (W.setCell ⟨g, k, none⟩ (.int .i64 l[k])) g n l (k + 1) := by
  obtain ⟨f, h1, h2⟩ := h
  refine ⟨_, h1.set _ _, fun i hi hik => ?_⟩
  by_cases e : i = k
  · subst e
    simp
  · have h3 := h2 i hi (by omega)
    rw [if_neg (by omega)]; exact h3
theorem IntUpto.reads {W : World} {S : Nat → Prop} {g n : Nat} {l : List Int} (h : IntUpto W g n l l.length) (hn : l.length = n) (hS : S g) (hm : n ≤ 140737488351232) (hi : ∀ x ∈ l, I64 x) : RInts (vis S W) (.slice (some ⟨g, 0, none⟩) n n) l := by
  obtain ⟨f, h1, h2⟩ := h
  refine ⟨_, n, by rw [hn], by omega, ⟨by omega, by omega⟩, fun i hi' => ⟨g, 0, rfl, ?_⟩⟩
  have h3 := h2 i hi' hi'
  have c0 := h1.cell (i := i) (by omega)
  rw [h3] at c0
  refine ⟨vis_cell.2 ⟨hS, ?_⟩, hi _ (List.getElem_mem hi')⟩
  simpa using c0

end Go.Proofs.YtaldpalhckdcdaaGreatDoor
