/- What Go's slices and structs of layer 1 read as, in whatever memory; no statement is proved here. -/
import Derived.Test.YtdffhkbncencgaaRows
import Derived.Handy
import Derived.WalkSmall
import Derived.Lib.Hide
namespace Go.Proofs.Ytdffhkbncencgaa
open Go.RowKit
set_option linter.unusedVariables false

/-- every cell that is there stays as it is. -/
def Ext (w w' : World) : Prop := ∀ p x, w.cell? p = some x → w'.cell? p = some x

theorem Ext.refl (w : World) : Ext w w := fun _ _ h => h
theorem Ext.trans {a b c : World} (h : Ext a b) (k : Ext b c) : Ext a c := fun p x hp => k p x (h p x hp)

theorem cell_lt {w : World} {p : Addr} {x : Value} (h : w.cell? p = some x) : p.block < w.heap.size := by
  unfold World.cell? at h
  split at h
  · rename_i hb
    exact (Array.getElem?_eq_some_iff.1 hb).1
  · exact absurd h (by simp)

theorem ext_of_below {w w' : World} (h : Below w.heap.size w w') : Ext w w' := fun p x hp => by
  rw [h.cell (cell_lt hp)]; exact hp

/-- the two rules by which a walk reads old cells in a later world. -/
theorem bcell {W w1 : World} {B : Nat} (hb : Below B W w1) : (∀ b o, b < B → w1.cell? ⟨b, o, none⟩ = W.cell? ⟨b, o, none⟩) ∧ (∀ b o, b < B → w1.frozen? ⟨b, o, none⟩ = W.frozen? ⟨b, o, none⟩) :=
  ⟨fun b o h => hb.cell (p := ⟨b, o, none⟩) h, fun b o h => hb.frozen (p := ⟨b, o, none⟩) h⟩

open Classical in
/-- the world in which the blocks outside S can't be read: what reads in it owes nothing to them. -/
noncomputable def vis (S : Nat → Prop) (w : World) : World := { w with heap := w.heap.mapIdx fun i o => if S i then o else .map #[] 0 }

theorem vis_block {S : Nat → Prop} {w : World} {k : Nat} (h : S k) : (vis S w).heap[k]? = w.heap[k]? := by
  unfold vis
  simp only [Array.getElem?_mapIdx]
  cases w.heap[k]? <;> simp [h]

theorem vis_cell {S : Nat → Prop} {w : World} {p : Addr} {x : Value} : (vis S w).cell? p = some x ↔ S p.block ∧ w.cell? p = some x := by
  by_cases h : S p.block
  · have h1 := vis_block (w := w) h
    simp only [World.cell?, h1, h, true_and]
  · simp only [h, false_and, iff_false]
    unfold World.cell? vis
    simp only [Array.getElem?_mapIdx]
    cases w.heap[p.block]? <;> simp [h]

theorem vis_ext (S : Nat → Prop) (w : World) : Ext (vis S w) w := fun _ _ h => (vis_cell.1 h).2
theorem ext_vis {S T : Nat → Prop} {w w' : World} (h : ∀ p x, S p.block → w.cell? p = some x → T p.block ∧ w'.cell? p = some x) : Ext (vis S w) (vis T w') := fun p x hp => by
  obtain ⟨h1, h2⟩ := vis_cell.1 hp
  exact vis_cell.2 (h p x h1 h2)
/-- what was read stays, and what was seen is seen. -/
theorem ext_vis_of {S T : Nat → Prop} {w w' : World} (e : Ext w w') (h : ∀ b, b < w.heap.size → S b → T b) : Ext (vis S w) (vis T w') := ext_vis fun p x h1 h2 => ⟨h _ (cell_lt h2) h1, e _ _ h2⟩
/-- all that is there is seen. -/
theorem ext_vis_all {T : Nat → Prop} {w w' : World} (e : Ext w w') (h : ∀ b, b < w.heap.size → T b) : Ext w (vis T w') := fun p x hp => vis_cell.2 ⟨h _ (cell_lt hp), e _ _ hp⟩

def I64 (n : Int) : Prop := -9223372036854775808 ≤ n ∧ n ≤ 9223372036854775807

/-- a slice whose elements, sz cells each, satisfy R. -/
def RSl {α : Type} (sz : Nat) (R : World → Addr → α → Prop) (w : World) (v : Value) (l : List α) : Prop :=
  ∃ a cap, v = .slice a l.length cap ∧ l.length ≤ cap ∧ (cap ≤ 9223372036854775807 ∧ l.length ≤ 140737488351232) ∧ ∀ i (h : i < l.length), ∃ b off, a = some ⟨b, off, none⟩ ∧ R w ⟨b, off + i * sz, none⟩ (l[i]'h)

theorem RSl.mono {α : Type} {sz : Nat} {R R' : World → Addr → α → Prop} {w w' : World} {v : Value} {l : List α} (h : RSl sz R w v l) (hr : ∀ p x, x ∈ l → R w p x → R' w' p x) : RSl sz R' w' v l := by
  obtain ⟨a, cap, h1, h2, h3, h4⟩ := h
  refine ⟨a, cap, h1, h2, h3, fun i hi => ?_⟩
  obtain ⟨b, off, h5, h6⟩ := h4 i hi
  exact ⟨b, off, h5, hr _ _ (List.getElem_mem hi) h6⟩

theorem RSl.take {α : Type} {sz : Nat} {R : World → Addr → α → Prop} {w : World} {a : Option Addr} {n cap : Nat} {l : List α} (h : RSl sz R w (.slice a n cap) l) (k : Nat) (hk : k ≤ l.length) : RSl sz R w (.slice a k cap) (l.take k) := by
  obtain ⟨a', cap', h1, h2, ⟨h3, h3'⟩, h4⟩ := h
  simp only [Value.slice.injEq] at h1
  obtain ⟨rfl, rfl, rfl⟩ := h1
  have hlen : (l.take k).length = k := by simp; omega
  refine ⟨a, cap, by rw [hlen], by omega, ⟨h3, by omega⟩, fun i hi => ?_⟩
  obtain ⟨b, off, h5, h6⟩ := h4 i (by omega)
  exact ⟨b, off, h5, by rw [List.getElem_take]; exact h6⟩

def RInt (w : World) (p : Addr) (x : Int) : Prop := w.cell? p = some (.int .i64 x) ∧ I64 x
def RInts := RSl 1 RInt
def RStr (w : World) (p : Addr) (x : ByteArray) : Prop := w.cell? p = some (.string x) ∧ x.size ≤ 140737488351232
def RStrs := RSl 1 RStr

structure Sp where
  lo : Int
  hi : Int
deriving DecidableEq

def RSp (w : World) (p : Addr) (s : Sp) : Prop := w.cell? p = some (.int .i64 s.lo) ∧ w.cell? ⟨p.block, p.off + 1, none⟩ = some (.int .i64 s.hi) ∧ I64 s.lo ∧ I64 s.hi
def RSps := RSl 2 RSp

structure Mat where
  name : ByteArray
  price : Int
  redox : Int
  least : Int
  most : Int
  step : Int
  content : List Sp

def RMat (w : World) (p : Addr) (m : Mat) : Prop :=
  ∃ v, (w.cell? p = some (.string m.name) ∧ w.cell? ⟨p.block, p.off + 1, none⟩ = some (.int .i64 m.price) ∧ w.cell? ⟨p.block, p.off + 2, none⟩ = some (.int .i64 m.redox)
    ∧ w.cell? ⟨p.block, p.off + 3, none⟩ = some (.int .i64 m.least) ∧ w.cell? ⟨p.block, p.off + 4, none⟩ = some (.int .i64 m.most) ∧ w.cell? ⟨p.block, p.off + 5, none⟩ = some (.int .i64 m.step)
    ∧ w.cell? ⟨p.block, p.off + 6, none⟩ = some v) ∧ RSps w v m.content ∧ m.name.size ≤ 140737488351232 ∧ I64 m.price ∧ I64 m.redox ∧ I64 m.least ∧ I64 m.most ∧ I64 m.step
def RMats := RSl 7 RMat

structure Prp where
  name : ByteArray
  coefs : List Int
  target : Sp

def RPrp (w : World) (p : Addr) (m : Prp) : Prop :=
  ∃ v, (w.cell? p = some (.string m.name) ∧ w.cell? ⟨p.block, p.off + 1, none⟩ = some v ∧ w.cell? ⟨p.block, p.off + 2, none⟩ = some (.int .i64 m.target.lo)
    ∧ w.cell? ⟨p.block, p.off + 3, none⟩ = some (.int .i64 m.target.hi)) ∧ RInts w v m.coefs ∧ m.name.size ≤ 140737488351232 ∧ I64 m.target.lo ∧ I64 m.target.hi
def RPrps := RSl 4 RPrp

structure Bat where
  oxides : List ByteArray
  mats : List Mat
  shares : List Sp
  props : List Prp
  redox : Sp
  wanted : Int

def RBat (w : World) (v : Value) (b : Bat) : Prop :=
  ∃ v0 v1 v2 v3, v = .agg #[v0, v1, v2, v3, .int .i64 b.redox.lo, .int .i64 b.redox.hi, .int .i64 b.wanted]
    ∧ RStrs w v0 b.oxides ∧ RMats w v1 b.mats ∧ RSps w v2 b.shares ∧ RPrps w v3 b.props ∧ I64 b.redox.lo ∧ I64 b.redox.hi ∧ I64 b.wanted

theorem RInt.mono {w w' : World} (e : Ext w w') {p : Addr} {x : Int} (h : RInt w p x) : RInt w' p x := ⟨e _ _ h.1, h.2⟩
theorem RStr.mono {w w' : World} (e : Ext w w') {p : Addr} {x : ByteArray} (h : RStr w p x) : RStr w' p x := ⟨e _ _ h.1, h.2⟩
theorem RSp.mono {w w' : World} (e : Ext w w') {p : Addr} {x : Sp} (h : RSp w p x) : RSp w' p x := ⟨e _ _ h.1, e _ _ h.2.1, h.2.2⟩
theorem RInts.mono {w w' : World} (e : Ext w w') {v : Value} {x : List Int} (h : RInts w v x) : RInts w' v x := RSl.mono h fun _ _ _ => RInt.mono e
theorem RStrs.mono {w w' : World} (e : Ext w w') {v : Value} {x : List ByteArray} (h : RStrs w v x) : RStrs w' v x := RSl.mono h fun _ _ _ => RStr.mono e
theorem RSps.mono {w w' : World} (e : Ext w w') {v : Value} {x : List Sp} (h : RSps w v x) : RSps w' v x := RSl.mono h fun _ _ _ => RSp.mono e
theorem RMat.mono {w w' : World} (e : Ext w w') {p : Addr} {x : Mat} (h : RMat w p x) : RMat w' p x := by
  obtain ⟨v, ⟨h0, h1, h2, h3, h4, h5, h6⟩, h7, h8⟩ := h
  exact ⟨v, ⟨e _ _ h0, e _ _ h1, e _ _ h2, e _ _ h3, e _ _ h4, e _ _ h5, e _ _ h6⟩, h7.mono e, h8⟩
theorem RMats.mono {w w' : World} (e : Ext w w') {v : Value} {x : List Mat} (h : RMats w v x) : RMats w' v x := RSl.mono h fun _ _ _ => RMat.mono e
theorem RPrp.mono {w w' : World} (e : Ext w w') {p : Addr} {x : Prp} (h : RPrp w p x) : RPrp w' p x := by
  obtain ⟨v, ⟨h0, h1, h2, h3⟩, h7, h8⟩ := h
  exact ⟨v, ⟨e _ _ h0, e _ _ h1, e _ _ h2, e _ _ h3⟩, h7.mono e, h8⟩
theorem RPrps.mono {w w' : World} (e : Ext w w') {v : Value} {x : List Prp} (h : RPrps w v x) : RPrps w' v x := RSl.mono h fun _ _ _ => RPrp.mono e
theorem RBat.mono {w w' : World} (e : Ext w w') {v : Value} {x : Bat} (h : RBat w v x) : RBat w' v x := by
  obtain ⟨v0, v1, v2, v3, h1, h2, h3, h4, h5, h6⟩ := h
  exact ⟨v0, v1, v2, v3, h1, h2.mono e, h3.mono e, h4.mono e, h5.mono e, h6⟩

theorem wrap_add (a b : Int) : wrap64 (wrap64 a + b) = wrap64 (a + b) := by unfold wrap64; omega
theorem wrap_add' (a b : Int) : wrap64 (a + wrap64 b) = wrap64 (a + b) := by unfold wrap64; omega
theorem wrap_id (a : Int) (h : I64 a) : wrap64 a = a := by unfold wrap64; unfold I64 at h; omega
theorem wrap_I64 (a : Int) : I64 (wrap64 a) := by unfold wrap64 I64; omega
theorem fdiv_neg (a b : Int) (hb : 0 < b) (h : a.tmod b < 0) : a.tdiv b - 1 = a / b := by
  have h1 := Int.mul_tdiv_add_tmod a b
  have h2 : -b < a.tmod b := by have := Int.lt_tmod_of_pos a hb; omega
  exact ((Int.ediv_emod_unique (a := a) (b := b) (q := a.tdiv b - 1) (r := a.tmod b + b) hb).2 ⟨by rw [Int.mul_sub]; omega, by omega, by omega⟩).1.symm
theorem fdiv_pos (a b : Int) (hb : 0 < b) (h : 0 ≤ a.tmod b) : a.tdiv b = a / b := by
  have h1 := Int.mul_tdiv_add_tmod a b
  have h2 : a.tmod b < b := Int.tmod_lt_of_pos a hb
  exact ((Int.ediv_emod_unique (a := a) (b := b) (q := a.tdiv b) (r := a.tmod b) hb).2 ⟨by omega, by omega, by omega⟩).1.symm

theorem ret_int {k : IntKind} {a b : Int} (h : a = b) : Ending.returned (.int k a) = .returned (.int k b) := by rw [h]
theorem ret_bool {a b : Bool} (h : a = b) : Ending.returned (.bool a) = .returned (.bool b) := by rw [h]

/-- a block of the call's own, known whole. -/
def Blk (w : World) (k : Nat) (cs : Array Value) (t : TypeId) : Prop := w.heap[k]? = some (.cells cs t (0, 0))
theorem Blk.lt {w : World} {k : Nat} {cs : Array Value} {t : TypeId} (h : Blk w k cs t) : k < w.heap.size := (Array.getElem?_eq_some_iff.1 h).1
theorem Blk.cell {w : World} {k : Nat} {cs : Array Value} {t : TypeId} (h : Blk w k cs t) (i : Nat) (v : Value) (hi : cs[i]? = some v) : w.cell? ⟨k, i, none⟩ = some v := by
  unfold Blk at h; simp [World.cell?, h, hi]
theorem Blk.frozen {w : World} {k : Nat} {cs : Array Value} {t : TypeId} (h : Blk w k cs t) (i : Nat) : w.frozen? ⟨k, i, none⟩ = false := by
  unfold Blk at h; simp [World.frozen?, h]
theorem Blk.below {B : Nat} {w w1 : World} {k : Nat} {cs : Array Value} {t : TypeId} (h : Blk w k cs t) (hb : Below B w w1) (hk : k < B) : Blk w1 k cs t := by
  unfold Blk at *; rw [hb.block k hk]; exact h
theorem Blk.new (w : World) (cs : Array Value) (t : TypeId) : Blk (w.alloc (.cells cs t)) w.heap.size cs t := by
  unfold Blk; show (w.heap.push _)[_]? = _; simp
theorem Blk.alloc {w : World} {k : Nat} {cs : Array Value} {t : TypeId} (h : Blk w k cs t) (o : Obj) : Blk (w.alloc o) k cs t := by
  have := h.lt
  unfold Blk at *; rw [Below.heap_alloc _ _ _ this]; exact h
theorem Blk.set {w : World} {k : Nat} {cs : Array Value} {t : TypeId} (h : Blk w k cs t) (i : Nat) (v : Value) : Blk (w.setCell ⟨k, i, none⟩ v) k (cs.setIfInBounds i v) t := by
  unfold Blk at *; simp [World.setCell, Array.getElem?_modify, h]
theorem Blk.other {w : World} {k : Nat} {cs : Array Value} {t : TypeId} (h : Blk w k cs t) (p : Addr) (v : Value) (hp : p.block ≠ k) : Blk (w.setCell p v) k cs t := by
  unfold Blk at *; rw [Below.heap_setCell _ _ _ _ (fun e => hp e.symm)]; exact h

/-- a function with a body: a call of it enters it. -/
def IsFn (f : Nat) : Prop := ∀ xs w, Sem.run Try.prog (callFunc f xs) w = .ok (.enter f xs) w

end Go.Proofs.Ytdffhkbncencgaa
