/- recipes, by its contract; what cheapest searches, as a fold; no statement is proved here. -/
import Derived.Test.YtpkggjfaefkiiaaRecIt
namespace Go.Proofs.Ytpkggjfaefkiiaa
open Go.RowKit Go.PlainAid Go.Shelf
set_option linter.unusedVariables false

set_option maxRecDepth 100000 in
theorem recipes_any (b : Bat) (w : World) (a0 a1 a2 a3 : Option Addr) (k0 k1 k2 k3 : Nat) :
    Calls Try.prog 120 #[.agg #[.slice a0 b.oxides.length k0, .slice a1 b.mats.length k1, .slice a2 b.shares.length k2, .slice a3 b.props.length k3, .int .i64 b.redox.lo, .int .i64 b.redox.hi, .int .i64 b.wanted]] w fun e w' => e = .returned (.func (.func 134) #[] #[.pointer (some ⟨w.heap.size, 0, none⟩)]) ∧ w' = w.alloc (.cells #[.slice a0 b.oxides.length k0, .slice a1 b.mats.length k1, .slice a2 b.shares.length k2, .slice a3 b.props.length k3, .int .i64 b.redox.lo, .int .i64 b.redox.hi, .int .i64 b.wanted] 29) := by
  go_enter Try.func120, Try.ntmps120
  go_wp2
  go_ret
  exact ⟨rfl, rfl⟩

theorem snoc_ind {α : Type} {p : List α → Prop} (h0 : p []) (hs : ∀ l x, p l → p (l ++ [x])) (l : List α) : p l := by
  suffices h : ∀ k : List α, p k.reverse by
    have := h l.reverse
    rwa [List.reverse_reverse] at this
  intro k
  induction k with
  | nil => exact h0
  | cons x k ih => rw [List.reverse_cons]; exact hs _ _ ih

/-- whether lots of r beside what is there keep all lines, times as wide. -/
def fitsB (b : Bat) (there : List Int) (lots times : Int) (r : List Int) : Bool :=
  (linesB b).all fun l => decide (wrap64 (dotB l.fs there + wrap64 (lots * dotB l.fs r)) ≤ wrap64 (times * l.bound))

/-- what one recipe makes of what has been found. -/
def bestStep (b : Bat) (there : List Int) (lots times : Int) (o : Option (List Int × Int)) (r : List Int) : Option (List Int × Int) :=
  let c := dotB (b.mats.map Mat.price) r
  match o with
  | some (r0, c0) => if c0 ≤ c then some (r0, c0) else if fitsB b there lots times r then some (r, c) else some (r0, c0)
  | none => if fitsB b there lots times r then some (r, c) else none

def bestOf (b : Bat) (there : List Int) (lots times : Int) (l : List (List Int)) : Option (List Int × Int) := l.foldl (bestStep b there lots times) none

theorem bestOf_snoc (b : Bat) (there : List Int) (lots times : Int) (l : List (List Int)) (r : List Int) : bestOf b there lots times (l ++ [r]) = bestStep b there lots times (bestOf b there lots times l) r := by
  unfold bestOf
  rw [List.foldl_append]
  rfl

/-- what is found is one of the recipes, keeps all lines, and no earlier one is as cheap, no later one cheaper. -/
theorem bestOf_spec (b : Bat) (there : List Int) (lots times : Int) : ∀ l : List (List Int),
    match bestOf b there lots times l with
    | some (r, c) => c = dotB (b.mats.map Mat.price) r ∧ fitsB b there lots times r = true ∧ ∃ pre post, l = pre ++ r :: post ∧ (∀ x ∈ pre, fitsB b there lots times x = true → c < dotB (b.mats.map Mat.price) x) ∧ ∀ x ∈ post, fitsB b there lots times x = true → c ≤ dotB (b.mats.map Mat.price) x
    | none => ∀ x ∈ l, fitsB b there lots times x = false := by
  intro l
  refine snoc_ind (p := fun l => match bestOf b there lots times l with
    | some (r, c) => c = dotB (b.mats.map Mat.price) r ∧ fitsB b there lots times r = true ∧ ∃ pre post, l = pre ++ r :: post ∧ (∀ x ∈ pre, fitsB b there lots times x = true → c < dotB (b.mats.map Mat.price) x) ∧ ∀ x ∈ post, fitsB b there lots times x = true → c ≤ dotB (b.mats.map Mat.price) x
    | none => ∀ x ∈ l, fitsB b there lots times x = false) ?_ ?_ l
  · intro x hx; cases hx
  · intro l r ih
    rw [bestOf_snoc]
    unfold bestStep
    cases ho : bestOf b there lots times l with
    | none =>
      rw [ho] at ih
      dsimp only at ih ⊢
      by_cases hf : fitsB b there lots times r = true
      · rw [if_pos hf]
        refine ⟨rfl, hf, l, [], rfl, fun x hx hfx => ?_, fun x hx => by cases hx⟩
        rw [ih x hx] at hfx; cases hfx
      · rw [if_neg hf]
        intro x hx
        rcases List.mem_append.1 hx with hx | hx
        · exact ih x hx
        · obtain rfl : x = r := by simpa using hx
          simpa using hf
    | some p =>
      obtain ⟨r0, c0⟩ := p
      rw [ho] at ih
      dsimp only at ih ⊢
      obtain ⟨hc0, hf0, pre, post, rfl, h1, h2⟩ := ih
      by_cases hc : c0 ≤ dotB (b.mats.map Mat.price) r
      · rw [if_pos hc]
        refine ⟨hc0, hf0, pre, post ++ [r], by simp, h1, fun x hx hfx => ?_⟩
        rcases List.mem_append.1 hx with hx | hx
        · exact h2 x hx hfx
        · obtain rfl : x = r := by simpa using hx
          exact hc
      · rw [if_neg hc]
        by_cases hf : fitsB b there lots times r = true
        · rw [if_pos hf]
          refine ⟨rfl, hf, pre ++ r0 :: post, [], rfl, fun x hx hfx => ?_, fun x hx => by cases hx⟩
          rcases List.mem_append.1 hx with hx | hx
          · have := h1 x hx hfx; omega
          · rcases List.mem_cons.1 hx with rfl | hx
            · omega
            · have := h2 x hx hfx; omega
        · rw [if_neg hf]
          refine ⟨hc0, hf0, pre, post ++ [r], by simp, h1, fun x hx hfx => ?_⟩
          rcases List.mem_append.1 hx with hx | hx
          · exact h2 x hx hfx
          · obtain rfl : x = r := by simpa using hx
            exact absurd hfx hf

/-- nothing behind a recipe as cheap as can be is cheaper: the search may be left there. -/
theorem bestOf_stop (b : Bat) (there : List Int) (lots times : Int) (least : Int) (l post : List (List Int)) (r0 : List Int) (h : bestOf b there lots times l = some (r0, least)) (hp : ∀ x ∈ post, least ≤ dotB (b.mats.map Mat.price) x) : bestOf b there lots times (l ++ post) = some (r0, least) := by
  revert hp
  refine snoc_ind (p := fun post => (∀ x ∈ post, least ≤ dotB (b.mats.map Mat.price) x) → bestOf b there lots times (l ++ post) = some (r0, least)) ?_ ?_ post
  · intro _; rw [List.append_nil]; exact h
  · intro p x ih hp
    rw [← List.append_assoc, bestOf_snoc, ih (fun y hy => hp y (List.mem_append.2 (.inl hy)))]
    unfold bestStep
    dsimp only
    rw [if_pos (hp x (by simp))]

/-- what has been found lies in three boxes, and reads in blocks of T. -/
def ResAt (p4 p5 p6 : Nat) (T : Nat → Prop) (o : Option (List Int × Int)) (W : World) : Prop :=
  match o with
  | none => Blk W p4 #[.slice none 0 0] 37 ∧ Blk W p5 #[.int .i64 0] 3 ∧ Blk W p6 #[.bool false] 4
  | some (r, c) => ∃ v, Blk W p4 #[v] 37 ∧ Blk W p5 #[.int .i64 c] 3 ∧ Blk W p6 #[.bool true] 4 ∧ RInts (vis T W) v r
/-- what a result says of what has been found. -/
def ResIs (T : Nat → Prop) (W : World) (v : Value) (c : Int) (f : Bool) : Option (List Int × Int) → Prop
  | some (r, c0) => f = true ∧ c = c0 ∧ RInts (vis T W) v r
  | none => f = false ∧ c = 0 ∧ v = .slice none 0 0
theorem res_open {p4 p5 p6 : Nat} {T : Nat → Prop} {o : Option (List Int × Int)} {W : World} (h : ResAt p4 p5 p6 T o W) :
    ∃ (a : Option Addr) (n cap : Nat) (c : Int) (f : Bool), Blk W p4 #[.slice a n cap] 37 ∧ Blk W p5 #[.int .i64 c] 3 ∧ Blk W p6 #[.bool f] 4 ∧ ResIs T W (.slice a n cap) c f o := by
  cases o with
  | none =>
    obtain ⟨a, b, c⟩ := h
    exact ⟨none, 0, 0, 0, false, a, b, c, rfl, rfl, rfl⟩
  | some p =>
    obtain ⟨r, c0⟩ := p
    obtain ⟨v, a, b, c, d⟩ := h
    obtain ⟨a', cap, rfl, -⟩ := id d
    exact ⟨a', r.length, cap, c0, true, a, b, c, rfl, rfl, d⟩
def three (p4 p5 p6 : Nat) (k : Nat) : Prop := k = p4 ∨ k = p5 ∨ k = p6
theorem res_mono {p4 p5 p6 : Nat} {T T' : Nat → Prop} {o : Option (List Int × Int)} {X Y : World} (h : ResAt p4 p5 p6 T o X) (h4 : Y.heap[p4]? = X.heap[p4]?) (h5 : Y.heap[p5]? = X.heap[p5]?) (h6 : Y.heap[p6]? = X.heap[p6]?) (hT : Ext (vis T X) (vis T' Y)) : ResAt p4 p5 p6 T' o Y := by
  cases o with
  | none =>
    obtain ⟨a, b, c⟩ := h
    exact ⟨h4.trans a, h5.trans b, h6.trans c⟩
  | some p =>
    obtain ⟨r, c0⟩ := p
    obtain ⟨v, a, b, c, d⟩ := h
    exact ⟨v, h4.trans a, h5.trans b, h6.trans c, d.mono hT⟩

theorem blk_same {W : World} {k : Nat} {v : Value} {t : TypeId} (h : Blk W k #[v] t) (j : Nat) : (W.setCell ⟨k, 0, none⟩ v).heap[j]? = W.heap[j]? := by
  by_cases e : j = k
  · subst e
    have h1 : Blk (W.setCell ⟨j, 0, none⟩ v) j (#[v].set! 0 v) t := by simpa using h.set 0 v
    unfold Blk at h h1
    rw [h1, h]
    rfl
  · exact Below.heap_setCell _ _ _ _ e
/-- what is stored is what lay there; the book of the deferred calls is shut. -/
theorem fin_world {W3 : World} {D p4 p5 p6 : Nat} {v : Value} {c : Int} {f : Bool} {t4 t5 t6 : TypeId} (C4 : Blk W3 p4 #[v] t4) (C5 : Blk W3 p5 #[.int .i64 c] t5) (C6 : Blk W3 p6 #[.bool f] t6) (j : Nat) (hj : j ≠ D) :
    ((((W3.setCell ⟨p4, 0, none⟩ v).setCell ⟨p5, 0, none⟩ (.int .i64 c)).setCell ⟨p6, 0, none⟩ (.bool f)).drew.putObj D (.deferred none)).heap[j]? = W3.heap[j]? := by
  have D5 : Blk (W3.setCell ⟨p4, 0, none⟩ v) p5 #[.int .i64 c] t5 := (blk_same C4 p5).trans C5
  have D6 : Blk ((W3.setCell ⟨p4, 0, none⟩ v).setCell ⟨p5, 0, none⟩ (.int .i64 c)) p6 #[.bool f] t6 := ((blk_same D5 p6).trans (blk_same C4 p6)).trans C6
  rw [World.putObj_heap_other (by omega)]
  exact (blk_same D6 j).trans ((blk_same D5 j).trans (blk_same C4 j))

/-- between two rounds of the search. -/
def CheapI (b : Bat) (there : List Int) (lots times : Int) (p4 p5 p6 : Nat) (W2 : World) (s : Nat × Nat) (pre : List (List Int)) (W : World) : Prop :=
  BelowS (three p4 p5 p6) W2.heap.size W2 W ∧ ResAt p4 p5 p6 (fun k => W2.heap.size ≤ k ∧ k ≠ s.1) (bestOf b there lots times pre) W

theorem cheapI_row (b : Bat) (there : List Int) (lots times : Int) {p4 p5 p6 : Nat} {W2 : World} (h4 : p4 < W2.heap.size) (h5 : p5 < W2.heap.size) (h6 : p6 < W2.heap.size) : RowFrom W2.heap.size (CheapI b there lots times p4 p5 p6 W2) := by
  constructor
  · rintro s pre X Y hs ⟨hb, hr⟩ hO
    have hsz := hb.size
    refine ⟨⟨hO.os.trans hb.os, hO.tape.trans hb.tape, hO.output.trans hb.output, Nat.le_trans hb.size hO.size, fun k hk hS => (hO.block k (by omega) (by omega)).trans (hb.block k hk hS)⟩, ?_⟩
    refine res_mono hr (hO.block _ (by omega) (by omega)) (hO.block _ (by omega) (by omega)) (hO.block _ (by omega) (by omega)) ?_
    refine ext_vis fun p x hp hx => ⟨hp, ?_⟩
    have hlt := cell_lt hx
    unfold World.cell? at hx ⊢
    rw [hO.block _ hlt hp.2]
    exact hx
  · rintro s pre X l o o' hl ho hc ⟨hb, hr⟩
    have e : ∀ k, k ≠ l → (X.putObj l o').heap[k]? = X.heap[k]? := fun k hk => World.putObj_heap_other (by omega)
    refine ⟨⟨hb.os, hb.tape, hb.output, by simpa using hb.size, fun k hk hS => (e k (by omega)).trans (hb.block k hk hS)⟩, ?_⟩
    refine res_mono hr (e _ (by omega)) (e _ (by omega)) (e _ (by omega)) ?_
    refine ext_vis fun p x hp hx => ⟨hp, ?_⟩
    have hne : p.block ≠ l := by
      intro he
      unfold World.cell? at hx
      rw [he, ho] at hx
      cases o <;> simp_all [Obj.isCells]
    unfold World.cell? at hx ⊢
    rw [e _ hne]
    exact hx

theorem dot_le {a x y : List Int} (ha : ∀ i, 0 ≤ a.getD i 0) (h : ∀ i, x.getD i 0 ≤ y.getD i 0) : ∀ k, dotTo a x k ≤ dotTo a y k := by
  intro k
  induction k with
  | zero => simp [dotTo]
  | succ k ih =>
    rw [dotTo_succ', dotTo_succ']
    have := Int.mul_le_mul_of_nonneg_left (h k) (ha k)
    omega

/-- no allowed recipe costs less than that of all Leasts. -/
theorem cost_least {b : Bat} (hk : OkB b) {x : List Int} (hx : x ∈ recsM b.mats) : dotB (b.mats.map Mat.price) (b.mats.map Mat.least) ≤ dotB (b.mats.map Mat.price) x := by
  obtain ⟨h1, h2⟩ := (recs_mem b.mats (stOk_of hk) x).1 hx
  have h3 := (recs_bnd hk hx).2
  have hp : ∀ y ∈ b.mats.map Mat.price, -2000000000 ≤ y ∧ y ≤ 2000000000 := fun y hy => by
    obtain ⟨m, hm, rfl⟩ := List.mem_map.1 hy
    have := (hk.mats m hm).price; omega
  have hl : ∀ y ∈ b.mats.map Mat.least, 0 ≤ y ∧ y ≤ 10000 := fun y hy => by
    obtain ⟨m, hm, rfl⟩ := List.mem_map.1 hy
    have := (hk.mats m hm).least; have := (hk.mats m hm).most; omega
  have hmt := hk.mt
  rw [dot_exact hp hl (by simp) (by simpa using hmt.2), dot_exact hp h3 (by simpa using h1.symm) (by simpa using hmt.2)]
  refine dot_le (fun i => ?_) (fun i => ?_) _
  · rw [List.getD_eq_getElem?_getD, List.getElem?_map]
    cases e : b.mats[i]? with
    | none => simp
    | some m => have := (hk.mats m (List.mem_of_getElem? e)).price; simpa using this.1
  · by_cases hi : i < b.mats.length
    · have := (h2 i hi).1
      rw [List.getD_eq_getElem?_getD (l := b.mats.map Mat.least), List.getElem?_map, List.getElem?_eq_getElem hi]
      simpa using this
    · rw [List.getD_eq_getElem?_getD, List.getElem?_eq_none (by simpa using hi), List.getD_eq_getElem?_getD, List.getElem?_eq_none (by omega)]
      exact Int.le_refl _

def CheapIs (b : Bat) (there : List Int) (lots times : Int) (w : World) (e : Ending) (w' : World) : Prop :=
  ∃ v c f, e = .returned (.tuple #[v, .int .i64 c, .bool f]) ∧ Below w.heap.size w w' ∧ ResIs (w.heap.size ≤ ·) w' v c f (bestOf b there lots times (recsM b.mats))

theorem cheap_post {b : Bat} {there : List Int} {lots times : Int} {w W2 W3 W4 : World} {D p4 p5 p6 : Nat} (hA : Below w.heap.size w W2) (hD : W2.heap.size ≤ D) (h4 : w.heap.size ≤ p4) (h5 : w.heap.size ≤ p5) (h6 : w.heap.size ≤ p6)
    (hb3 : BelowS (three p4 p5 p6) W2.heap.size W2 W3) (hK : W3.heap[D]? = some (.deferred (some []))) (hos : W4.os = W3.os) (htp : W4.tape = W3.tape) (hou : W4.output = W3.output) (hsz : W4.heap.size = W3.heap.size) (hbl : ∀ j, j ≠ D → W4.heap[j]? = W3.heap[j]?)
    {T : Nat → Prop} (hT : ∀ k, T k → w.heap.size ≤ k) {v : Value} {c : Int} {f : Bool} {o : Option (List Int × Int)} (ho : o = bestOf b there lots times (recsM b.mats)) (hres : ResIs T W3 v c f o) : CheapIs b there lots times w (.returned (.tuple #[v, .int .i64 c, .bool f])) W4 := by
  have hs2 := hA.size
  have hs3 := hb3.size
  refine ⟨v, c, f, rfl, ⟨hos.trans (hb3.os.trans hA.os), htp.trans (hb3.tape.trans hA.tape), hou.trans (hb3.output.trans hA.output), by omega, fun k hk => ?_⟩, ?_⟩
  · rw [hbl k (by omega), hb3.block k (by omega) (fun h => by rcases h with h | h | h <;> omega), hA.block k hk]
  · rw [← ho]
    cases o with
    | none => exact hres
    | some p =>
      obtain ⟨r, c0⟩ := p
      obtain ⟨e1, e2, e3⟩ := hres
      refine ⟨e1, e2, e3.mono (ext_vis fun p x hp hx => ⟨hT _ hp, ?_⟩)⟩
      have hne : p.block ≠ D := by
        intro he
        unfold World.cell? at hx
        rw [he, hK] at hx
        cases hx
      unfold World.cell? at hx ⊢
      rw [hbl _ hne]
      exact hx

/-- whether lots of r beside what is there keep a line, times as wide. -/
def okLine (there : List Int) (lots times : Int) (r : List Int) (l : Ln) : Bool := decide (wrap64 (dotB l.fs there + wrap64 (lots * dotB l.fs r)) ≤ wrap64 (times * l.bound))
theorem fits_ok (b : Bat) (there : List Int) (lots times : Int) (r : List Int) : fitsB b there lots times r = (linesB b).all (okLine there lots times r) := rfl

theorem step_skip {b : Bat} (there : List Int) (lots times : Int) {T : Nat → Prop} {W : World} {v : Value} {c : Int} {o : Option (List Int × Int)} {x : List Int} (h : ResIs T W v c true o) (hc : c ≤ dotB (b.mats.map Mat.price) x) : bestStep b there lots times o x = o := by
  cases o with
  | none => exact absurd h.1 (by simp)
  | some p =>
    obtain ⟨r, c0⟩ := p
    obtain ⟨-, rfl, -⟩ := h
    unfold bestStep
    dsimp only
    rw [if_pos hc]
theorem step_try {b : Bat} (there : List Int) (lots times : Int) {T : Nat → Prop} {W : World} {v : Value} {c : Int} {f : Bool} {o : Option (List Int × Int)} {x : List Int} (h : ResIs T W v c f o) (hc : ¬ (f = true ∧ c ≤ dotB (b.mats.map Mat.price) x)) : bestStep b there lots times o x = if fitsB b there lots times x then some (x, dotB (b.mats.map Mat.price) x) else o := by
  cases o with
  | none => rfl
  | some p =>
    obtain ⟨r, c0⟩ := p
    obtain ⟨rfl, rfl, -⟩ := h
    unfold bestStep
    dsimp only
    rw [if_neg (fun h => hc ⟨rfl, h⟩)]

theorem KeepsFrom.of_below {B : Nat} {W W' : World} (_hB : B ≤ W.heap.size) (h : Below W.heap.size W W') : KeepsFrom B W W' := ⟨h.size, fun k o _ hk _ => (h.block k (Array.getElem?_eq_some_iff.1 hk).1).trans hk⟩

section
variable {b : Bat} {p4 p5 p6 base : Nat} {W2 W3 W' : World} {s : Nat × Nat} {x : List Int} {o : Option (List Int × Int)}
/-- new blocks only: nothing is lost. -/
theorem cheap_keep (h4 : p4 < W2.heap.size) (h5 : p5 < W2.heap.size) (h6 : p6 < W2.heap.size) (hb3 : BelowS (three p4 p5 p6) W2.heap.size W2 W3) (hr3 : ResAt p4 p5 p6 (fun k => W2.heap.size ≤ k ∧ k ≠ s.1) o W3) (hown : OwnR b base s x W3) (hb : Below W3.heap.size W3 W') :
    BelowS (three p4 p5 p6) W2.heap.size W3 W' ∧ OwnR b base s x W' ∧ BelowS (three p4 p5 p6) W2.heap.size W2 W' ∧ ResAt p4 p5 p6 (fun k => W2.heap.size ≤ k ∧ k ≠ s.1) o W' := by
  have hsz := hb3.size
  have e1 : BelowS (three p4 p5 p6) W2.heap.size W3 W' := BelowS.of_below (hb.mono hsz)
  exact ⟨e1, own_below hown hb (own_lt hown), hb3.trans e1, res_mono hr3 (hb.block _ (by omega)) (hb.block _ (by omega)) (hb.block _ (by omega)) (ext_vis_of (ext_of_below hb) (fun _ _ h => h))⟩

/-- a recipe has been found: its copy lies in a new block. -/
theorem cheap_found {v : Value} {c : Int} {u4 u5 u6 : Value} {wc : World} (h4 : p4 < W2.heap.size) (h5 : p5 < W2.heap.size) (h6 : p6 < W2.heap.size) (h45 : p4 ≠ p5) (h46 : p4 ≠ p6) (h56 : p5 ≠ p6) (hs : W2.heap.size ≤ s.1) (hb3 : BelowS (three p4 p5 p6) W2.heap.size W2 W3)
    (C4 : Blk W3 p4 #[u4] 37) (C5 : Blk W3 p5 #[u5] 3) (C6 : Blk W3 p6 #[u6] 4) (hown : OwnR b base s x W3) (hb : Below W3.heap.size W3 wc) (hv : RInts (vis (W3.heap.size ≤ ·) wc) v x) :
    let W' := ((wc.setCell ⟨p4, 0, none⟩ v).setCell ⟨p5, 0, none⟩ (.int .i64 c)).setCell ⟨p6, 0, none⟩ (.bool true)
    KeepsFrom W2.heap.size wc W' ∧ BelowS (three p4 p5 p6) W2.heap.size W3 W' ∧ OwnR b base s x W' ∧ BelowS (three p4 p5 p6) W2.heap.size W2 W' ∧ ResAt p4 p5 p6 (fun k => W2.heap.size ≤ k ∧ k ≠ s.1) (some (x, c)) W' := by
  intro W'
  have hsz := hb3.size
  have hlt : s.1 < W3.heap.size := own_lt hown _ rfl
  have hbl : ∀ j, ¬ three p4 p5 p6 j → W'.heap[j]? = wc.heap[j]? := fun j hj => by
    have n4 : j ≠ p4 := fun h => hj (.inl h)
    have n5 : j ≠ p5 := fun h => hj (.inr (.inl h))
    have n6 : j ≠ p6 := fun h => hj (.inr (.inr h))
    exact (Below.heap_setCell _ _ _ _ n6).trans ((Below.heap_setCell _ _ _ _ n5).trans (Below.heap_setCell _ _ _ _ n4))
  have hsW : W'.heap.size = wc.heap.size := by simp [W']
  have e1 : BelowS (three p4 p5 p6) W2.heap.size W3 W' := ⟨hb.os, hb.tape, hb.output, by rw [hsW]; exact hb.size, fun k hk hS => (hbl k hS).trans (hb.block k (by omega))⟩
  have K4 := (C4.below hb C4.lt).set 0 v
  have K5 := (C5.below hb C5.lt).set 0 (.int .i64 c)
  have K6 := (C6.below hb C6.lt).set 0 (.bool true)
  have hnS : ∀ k, W2.heap.size ≤ k → ¬ three p4 p5 p6 k := fun k hk h => by rcases h with h | h | h <;> omega
  refine ⟨⟨by rw [hsW]; exact Nat.le_refl _, fun k ob hk ho _ => (hbl k (hnS k hk)).trans ho⟩, e1, ?_, hb3.trans e1, v, ?_, ?_, ?_, ?_⟩
  · have ho := own_below hown hb (own_lt hown)
    refine ⟨ho.1, ho.2.imp id ?_⟩
    rintro ⟨g, cap, cur, q1, q2, q3, q4⟩
    cases q1
    exact ⟨_, _, cur, rfl, q2, (hbl _ (hnS _ hs)).trans q3, q4⟩
  · unfold Blk at *
    exact (Below.heap_setCell _ _ _ _ h46).trans ((Below.heap_setCell _ _ _ _ h45).trans (by simpa using K4))
  · have e5 : (wc.setCell ⟨p4, 0, none⟩ v).heap[p5]? = wc.heap[p5]? := Below.heap_setCell _ _ _ _ (Ne.symm h45)
    have C5' : Blk (wc.setCell ⟨p4, 0, none⟩ v) p5 #[u5] 3 := e5.trans (C5.below hb C5.lt)
    have := C5'.set 0 (.int .i64 c)
    unfold Blk at *
    exact (Below.heap_setCell _ _ _ _ h56).trans (by simpa using this)
  · have e6 : ((wc.setCell ⟨p4, 0, none⟩ v).setCell ⟨p5, 0, none⟩ (.int .i64 c)).heap[p6]? = wc.heap[p6]? := (Below.heap_setCell _ _ _ _ (Ne.symm h56)).trans (Below.heap_setCell _ _ _ _ (Ne.symm h46))
    have C6' : Blk ((wc.setCell ⟨p4, 0, none⟩ v).setCell ⟨p5, 0, none⟩ (.int .i64 c)) p6 #[u6] 4 := e6.trans (C6.below hb C6.lt)
    have := C6'.set 0 (.bool true)
    unfold Blk at *
    simpa using this
  · refine hv.mono (ext_vis fun p y hp hy => ⟨⟨by omega, by omega⟩, ?_⟩)
    unfold World.cell? at hy ⊢
    rw [hbl _ (hnS _ (by omega))]
    exact hy
end

end Go.Proofs.Ytpkggjfaefkiiaa
