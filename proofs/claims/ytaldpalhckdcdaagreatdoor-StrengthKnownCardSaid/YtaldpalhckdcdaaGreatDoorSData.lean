/- What Go's bottles, loads, lehrs and what is asked of them read as (layer 5); no statement is proved here. -/
import Derived.Test.YtaldpalhckdcdaaGreatDoorData
import Derived.Deep.Slices
import Derived.SizedLaws
import Derived.ProofKit
import Derived.PlainAid
namespace Go.Proofs.YtaldpalhckdcdaaGreatDoor
open Go.RowKit Go.PlainAid Go.ChangeShapes Go.WideShapes Go.ChangeAt
set_option linter.unusedVariables false
structure Rg where
  radius : Sp
  height : Sp
  share : Sp
  factor : Sp
  hit : Sp
deriving DecidableEq
def rgCells (r : Rg) : List Value := [.int .i64 r.radius.lo, .int .i64 r.radius.hi, .int .i64 r.height.lo, .int .i64 r.height.hi, .int .i64 r.share.lo, .int .i64 r.share.hi, .int .i64 r.factor.lo, .int .i64 r.factor.hi, .int .i64 r.hit.lo, .int .i64 r.hit.hi]
def I64s (s : Sp) : Prop := I64 s.lo ∧ I64 s.hi
def I64r (r : Rg) : Prop := I64s r.radius ∧ I64s r.height ∧ I64s r.share ∧ I64s r.factor ∧ I64s r.hit
def RRg (w : World) (p : Addr) (r : Rg) : Prop := (∀ j x, (rgCells r)[j]? = some x → w.cell? ⟨p.block, p.off + j, none⟩ = some x) ∧ I64r r
def RRgs := RSl 10 RRg
theorem RRg.mono {w w' : World} (e : Ext w w') {p : Addr} {x : Rg} (h : RRg w p x) : RRg w' p x := ⟨fun j x hj => e _ _ (h.1 j x hj), h.2⟩
theorem RRgs.mono {w w' : World} (e : Ext w w') {v : Value} {x : List Rg} (h : RRgs w v x) : RRgs w' v x := RSl.mono h fun _ _ _ => RRg.mono e

structure Bot where
  rings : List Rg
  flaw : Int
  tough : Int

def RBot (w : World) (v : Value) (b : Bot) : Prop := ∃ v0, v = .agg #[v0, .int .i64 b.flaw, .int .i64 b.tough] ∧ RRgs w v0 b.rings ∧ I64 b.flaw ∧ I64 b.tough
theorem RBot.mono {w w' : World} (e : Ext w w') {v : Value} {b : Bot} (h : RBot w v b) : RBot w' v b := by
  obtain ⟨v0, h1, h2, h3⟩ := h
  exact ⟨v0, h1, h2.mono e, h3⟩

structure Ld where
  press : Int
  force : Int
  speed : Int
  other : Int
deriving DecidableEq
/-- what is asked of a bottle or a lehr; the set of cells is not read. -/
structure Ask5 where
  thick : List Sp
  load : Ld
  weights : Sp
  temps : Sp
  measured : List Int
  acc : Int
  temp : Int
  wall : Int
  degrees : Int
  property : Int
  below : Int
  soak : Int
  limit : Int
  most : Int
  recipe : List Int
  cells : Nat

/-- the cells of what is asked; vt, vm, vr: its slices of spans, measures, kilograms; a, k: where its set lies. -/
def askCells (x : Ask5) (vt vm vr : Value) (a : Option Addr) (k : Nat) : Array Value := #[vt, .int .i64 x.load.press, .int .i64 x.load.force, .int .i64 x.load.speed, .int .i64 x.load.other, .int .i64 x.weights.lo, .int .i64 x.weights.hi, .int .i64 x.temps.lo, .int .i64 x.temps.hi, vm,
  .int .i64 x.acc, .int .i64 x.temp, .int .i64 x.wall, .int .i64 x.degrees, .int .i64 x.property, .int .i64 x.below, .int .i64 x.soak, .int .i64 x.limit, .int .i64 x.most, vr, .slice a x.cells k]
def I64a (x : Ask5) : Prop := (I64 x.load.press ∧ I64 x.load.force ∧ I64 x.load.speed ∧ I64 x.load.other) ∧ I64s x.weights ∧ I64s x.temps ∧ (I64 x.acc ∧ I64 x.temp ∧ I64 x.wall) ∧ (I64 x.degrees ∧ I64 x.property) ∧ I64 x.below ∧ I64 x.soak ∧ I64 x.limit ∧ I64 x.most
def RAsk5 (w : World) (v : Value) (x : Ask5) : Prop := ∃ vt vm vr a k, v = .agg (askCells x vt vm vr a k) ∧ RSps w vt x.thick ∧ RInts w vm x.measured ∧ RInts w vr x.recipe ∧ x.cells ≤ 140737488351232 ∧ I64a x
theorem RAsk5.mono {w w' : World} (e : Ext w w') {v : Value} {x : Ask5} (h : RAsk5 w v x) : RAsk5 w' v x := by
  obtain ⟨vt, vm, vr, a, k, h1, h2, h3, h4, h5⟩ := h
  exact ⟨vt, vm, vr, a, k, h1, h2.mono e, h3.mono e, h4.mono e, h5⟩

section
variable {H : Type} {enc : TypeId × Value → H} {w : World} {base : Nat} {spare : Nat → Bool} {held : Bool}
def Light (t : TypeId) (d : DataW H) : Prop := ∀ n ∈ d.weights Tryz.prog t, n ≤ 140737488351232

/-- cells that read at a type are those of something. -/
def Rd {α : Type} (enc : TypeId × Value → H) (w : World) (base : Nat) (spare : Nat → Bool) (held : Bool) (t : TypeId) (V : List Value → α → Prop) : Prop :=
  ∀ fuel cs x, DataW.trod enc Tryz.prog w base spare held fuel t cs = some x → Light t x.1 → ∃ a, V cs a

theorem wf_I64 {n : Int} (h : (Lit.int .i64 n).wf = true) : I64 n := by
  simp only [Lit.wf, Bool.and_eq_true, decide_eq_true_eq, IntKind.min, IntKind.max, IntKind.signed, IntKind.bits] at h
  unfold I64
  simp at h
  omega

def CInt (cs : List Value) (n : Int) : Prop := cs = [.int .i64 n] ∧ I64 n
theorem rd_int : Rd enc w base spare held 3 CInt := fun fuel cs x h _ => by
  obtain ⟨n, rfl, _, hw⟩ := DataW.trod_int Tryz.underlying3 h
  exact ⟨n, rfl, wf_I64 hw⟩

theorem plain_add (b off k : Nat) : (⟨b, off, none⟩ : Addr).add k = ⟨b, off + k, none⟩ := by
  unfold Addr.add
  split
  · rename_i h; subst h; rfl
  · rfl

theorem weights_elem {e : TypeId} : ∀ {l : List (DataW H)} {d : DataW H}, d ∈ l → ∀ n ∈ d.weights Tryz.prog e, n ∈ DataW.weightsAll Tryz.prog e l
  | a :: l, d, h, n, hn => by
    simp only [DataW.weightsAll, List.mem_append]
    rcases List.mem_cons.1 h with rfl | h
    · exact .inl hn
    · exact .inr (weights_elem h n hn)

theorem rd_slice {α : Type} {t e : TypeId} {sz : Nat} {V : List Value → α → Prop} {R : World → Addr → α → Prop} (ht : Tryz.prog.underlying t = some (.slice e)) (hC : Tryz.prog.cellsOf e = sz) (h0 : 0 < sz) (hb : 0 < Tryz.prog.bytesOf e)
    (he : Rd enc w base spare held e V) (hlink : ∀ b o cs a, V cs a → cs.length = sz → (∀ j (h : j < cs.length), w.cell? ⟨b, o + j, none⟩ = some (cs[j]'h)) → R w ⟨b, o, none⟩ a) :
    Rd enc w base spare held t fun cs l => ∃ v, cs = [v] ∧ RSl sz R w v l := by
  intro fuel cs x h hl
  rcases DataW.trod_slice ht h with ⟨rfl, rfl⟩ | ⟨a, len, cap, elems, rest, n, rfl, rfl, rfl, _, hlc, hcm, hlen, hel, _, _⟩
  · exact ⟨[], _, rfl, none, 0, rfl, Nat.le_refl _, ⟨by omega, by simp⟩, fun i hi => by simp at hi⟩
  · have hw : len ≤ 140737488351232 := by
      have := hl ((elems.length + rest.length) * Tryz.prog.bytesOf e) (by simp [DataW.weights, ht])
      have h1 : len * 1 ≤ (elems.length + rest.length) * Tryz.prog.bytesOf e := Nat.mul_le_mul (by omega) hb
      omega
    have key : ∀ i, i < len → ∃ x : α, (∃ cs', V cs' x ∧ cs'.length = sz ∧ ∀ j, j < sz → w.cell? (a.add (i * sz + j)) = cs'[j]?) := by
      intro i hi
      have h1 := hel i hi
      rw [List.getElem?_eq_getElem (by omega)] at h1
      obtain ⟨cs', hc, ht'⟩ := Option.bind_eq_some_iff.1 h1
      rw [hC] at hc
      obtain ⟨_, hcl, hat⟩ := World.cells?_some hc
      obtain ⟨x, hx⟩ := he _ _ _ ht' fun m hm => hl m (by
        simp only [DataW.weights, ht, List.mem_cons, List.mem_append]
        exact .inr (.inl (weights_elem (List.mem_map_of_mem (List.getElem_mem (by omega))) m hm)))
      refine ⟨x, cs', hx, hcl, fun j hj => ?_⟩
      rw [← Go.Deep.add_add]
      exact hat j hj
    refine ⟨(List.range len).attach.map fun i => (key i.1 (List.mem_range.1 i.2)).choose, _, rfl, some a, cap, by simp, by simpa using hlc, ⟨by simpa [maxLen] using hcm, by simpa using hw⟩, fun i hi => ?_⟩
    have hi' : i < len := by simpa using hi
    obtain ⟨cs', hV, hcl, hat⟩ := (key i hi').choose_spec
    obtain ⟨b, off, spot⟩ := a
    have hspot : spot = none := by
      by_cases hi0 : i = 0
      · subst hi0
        have := hat 0 h0
        rw [List.getElem?_eq_getElem (by omega)] at this
        simp only [Nat.zero_mul, Nat.add_zero, Addr.add, if_true] at this
        exact World.cell?_spot this
      · have hl0 : 0 < len := by omega
        obtain ⟨cs0, _, hcl0, hat0⟩ := (key 0 hl0).choose_spec
        have := hat0 0 h0
        rw [List.getElem?_eq_getElem (by omega)] at this
        simp only [Nat.zero_mul, Nat.add_zero, Addr.add, if_true] at this
        exact World.cell?_spot this
    subst hspot
    refine ⟨b, off, rfl, ?_⟩
    have hget : ((List.range len).attach.map fun i => (key i.1 (List.mem_range.1 i.2)).choose)[i]'hi = (key i hi').choose := by simp only [List.getElem_map, List.getElem_attach, List.getElem_range]
    rw [hget]
    refine hlink _ _ cs' _ hV hcl fun j hj => ?_
    have h2 := hat j (by omega)
    rw [List.getElem?_eq_getElem hj] at h2
    rw [plain_add] at h2
    rw [Nat.add_assoc]
    exact h2

theorem rd_ints : Rd enc w base spare held 36 fun cs l => ∃ v, cs = [v] ∧ RInts w v l :=
  rd_slice Tryz.underlying36 (by kernel_rfl) (by decide) (by rw [show Tryz.prog.bytesOf 3 = 8 from by kernel_rfl]; decide) rd_int fun b o cs a ⟨h1, h2⟩ _ hc => by
    subst h1
    exact ⟨by simpa using hc 0 (by simp), h2⟩

theorem len2 {α : Type} : ∀ {cs : List α}, cs.length = 2 → ∃ c0 c1, cs = [c0, c1]
  | [c0, c1], _ => ⟨_, _, rfl⟩
theorem len3 {α : Type} : ∀ {cs : List α}, cs.length = 3 → ∃ c0 c1 c2, cs = [c0, c1, c2]
  | [c0, c1, c2], _ => ⟨_, _, _, rfl⟩
theorem len4 {α : Type} : ∀ {cs : List α}, cs.length = 4 → ∃ c0 c1 c2 c3, cs = [c0, c1, c2, c3]
  | [c0, c1, c2, c3], _ => ⟨_, _, _, _, rfl⟩
theorem len10 {α : Type} : ∀ {cs : List α}, cs.length = 10 → ∃ c0 c1 c2 c3 c4 c5 c6 c7 c8 c9, cs = [c0, c1, c2, c3, c4, c5, c6, c7, c8, c9]
  | [c0, c1, c2, c3, c4, c5, c6, c7, c8, c9], _ => ⟨_, _, _, _, _, _, _, _, _, _, rfl⟩
theorem len21 {α : Type} : ∀ {cs : List α}, cs.length = 21 → ∃ c0 c1 c2 c3 c4 c5 c6 c7 c8 c9 c10 c11 c12 c13 c14 c15 c16 c17 c18 c19 c20, cs = [c0, c1, c2, c3, c4, c5, c6, c7, c8, c9, c10, c11, c12, c13, c14, c15, c16, c17, c18, c19, c20]
  | [c0, c1, c2, c3, c4, c5, c6, c7, c8, c9, c10, c11, c12, c13, c14, c15, c16, c17, c18, c19, c20], _ => ⟨_, _, _, _, _, _, _, _, _, _, _, _, _, _, _, _, _, _, _, _, _, rfl⟩

theorem struct_field {t : TypeId} {fs : Array Field} {fuel : Nat} {cs : List Value} {x : DataW H × List MemPlace} (ht : Tryz.prog.underlying t = some (.struct fs)) (h : DataW.trod enc Tryz.prog w base spare held fuel t cs = some x) (hl : Light t x.1) :
    cs.length = Tryz.prog.cellsOf t ∧ ∀ (i : Nat) (ft : TypeId) (o : Nat), fs[i]?.map (fun f => (f.type, f.offset)) = some (ft, o) → ∃ n y, DataW.trod enc Tryz.prog w base spare held n ft ((cs.drop o).take (Tryz.prog.cellsOf ft)) = some y ∧ Light ft y.1 := by
  obtain ⟨xs, n, rfl, rfl, hcl, hxl, hf⟩ := DataW.trod_struct ht h
  refine ⟨hcl, fun i ft o hio => ?_⟩
  obtain ⟨f, hi, hfo⟩ := Option.map_eq_some_iff.1 hio
  obtain ⟨rfl, rfl⟩ := Prod.mk.inj hfo
  have hlt : i < fs.size := (Array.getElem?_eq_some_iff.1 hi).1
  have h1 := hf i f hi
  rw [List.getElem?_eq_getElem (by omega)] at h1
  refine ⟨n, _, h1, fun m hm => hl m ?_⟩
  simp only [DataW.weights, ht]
  refine DataW.weights_mem_each (j := i) (t := f.type) (d := (xs[i]'(by omega)).1) ?_ ?_ m hm
  · rw [List.getElem?_map]
    have : fs.toList[i]? = some f := by simpa using hi
    rw [this]; rfl
  · rw [List.getElem?_map, List.getElem?_eq_getElem (by omega)]; rfl

theorem cells_int : Tryz.prog.cellsOf 3 = 1 := by kernel_rfl
theorem cells_span : Tryz.prog.cellsOf 27 = 2 := by kernel_rfl
theorem cells_ring : Tryz.prog.cellsOf 63 = 10 := by kernel_rfl
theorem cells_bot : Tryz.prog.cellsOf 24 = 3 := by kernel_rfl
theorem cells_load : Tryz.prog.cellsOf 33 = 4 := by kernel_rfl
theorem cells_ints : Tryz.prog.cellsOf 36 = 1 := by kernel_rfl
theorem cells_sps : Tryz.prog.cellsOf 28 = 1 := by kernel_rfl
theorem cells_rings : Tryz.prog.cellsOf 22 = 1 := by kernel_rfl
def CSp (cs : List Value) (s : Sp) : Prop := cs = [.int .i64 s.lo, .int .i64 s.hi] ∧ I64 s.lo ∧ I64 s.hi
theorem rd_span : Rd enc w base spare held 27 CSp := fun fuel cs x h hl => by
  obtain ⟨hc, hf⟩ := struct_field Tryz.underlying27 h hl
  rw [cells_span] at hc
  obtain ⟨c0, c1, rfl⟩ := len2 hc
  obtain ⟨n0, y0, h0, l0⟩ := hf 0 3 0 rfl
  obtain ⟨n1, y1, h1, l1⟩ := hf 1 3 1 rfl
  simp only [cells_int, List.drop_zero, List.drop_succ_cons, List.take_succ_cons, List.take_zero] at h0 h1
  obtain ⟨a, e0, i0⟩ := rd_int _ _ _ h0 l0
  obtain ⟨b, e1, i1⟩ := rd_int _ _ _ h1 l1
  simp only [List.cons.injEq, and_true] at e0 e1
  subst e0 e1
  exact ⟨⟨a, b⟩, rfl, i0, i1⟩

theorem rd_sps : Rd enc w base spare held 28 fun cs l => ∃ v, cs = [v] ∧ RSps w v l :=
  rd_slice Tryz.underlying28 cells_span (by decide) (by rw [show Tryz.prog.bytesOf 27 = 16 from by kernel_rfl]; decide) rd_span fun b o cs a ⟨h1, h2, h3⟩ _ hc => by
    subst h1
    exact ⟨by simpa using hc 0 (by simp), by simpa using hc 1 (by simp), h2, h3⟩


def CRg (cs : List Value) (r : Rg) : Prop := cs = rgCells r ∧ I64r r
theorem rd_ring : Rd enc w base spare held 63 CRg := fun fuel cs x h hl => by
  obtain ⟨hc, hf⟩ := struct_field Tryz.underlying63 h hl
  rw [cells_ring] at hc
  obtain ⟨c0, c1, c2, c3, c4, c5, c6, c7, c8, c9, rfl⟩ := len10 hc
  obtain ⟨n0, y0, h0, l0⟩ := hf 0 27 0 rfl
  obtain ⟨n1, y1, h1, l1⟩ := hf 1 27 2 rfl
  obtain ⟨n2, y2, h2, l2⟩ := hf 2 27 4 rfl
  obtain ⟨n3, y3, h3, l3⟩ := hf 3 27 6 rfl
  obtain ⟨n4, y4, h4, l4⟩ := hf 4 27 8 rfl
  simp only [cells_span, List.drop_zero, List.drop_succ_cons, List.take_succ_cons, List.take_zero] at h0 h1 h2 h3 h4
  obtain ⟨a0, e0, i0, j0⟩ := rd_span _ _ _ h0 l0
  obtain ⟨a1, e1, i1, j1⟩ := rd_span _ _ _ h1 l1
  obtain ⟨a2, e2, i2, j2⟩ := rd_span _ _ _ h2 l2
  obtain ⟨a3, e3, i3, j3⟩ := rd_span _ _ _ h3 l3
  obtain ⟨a4, e4, i4, j4⟩ := rd_span _ _ _ h4 l4
  simp only [List.cons.injEq, and_true] at e0 e1 e2 e3 e4
  obtain ⟨rfl, rfl⟩ := e0
  obtain ⟨rfl, rfl⟩ := e1
  obtain ⟨rfl, rfl⟩ := e2
  obtain ⟨rfl, rfl⟩ := e3
  obtain ⟨rfl, rfl⟩ := e4
  exact ⟨⟨a0, a1, a2, a3, a4⟩, rfl, ⟨i0, j0⟩, ⟨i1, j1⟩, ⟨i2, j2⟩, ⟨i3, j3⟩, ⟨i4, j4⟩⟩

theorem rd_rings : Rd enc w base spare held 22 fun cs l => ∃ v, cs = [v] ∧ RRgs w v l :=
  rd_slice Tryz.underlying22 cells_ring (by decide) (by rw [show Tryz.prog.bytesOf 63 = 80 from by kernel_rfl]; decide) rd_ring fun b o cs a ⟨h1, h2⟩ _ hc => by
    subst h1
    refine ⟨fun j x hj => ?_, h2⟩
    obtain ⟨hlt, rfl⟩ := List.getElem?_eq_some_iff.1 hj
    exact hc j hlt

theorem rd_bot : Rd enc w base spare held 24 fun cs b => RBot w (.agg cs.toArray) b := fun fuel cs x h hl => by
  obtain ⟨hc, hf⟩ := struct_field Tryz.underlying24 h hl
  rw [cells_bot] at hc
  obtain ⟨c0, c1, c2, rfl⟩ := len3 hc
  obtain ⟨n0, y0, h0, l0⟩ := hf 0 22 0 rfl
  obtain ⟨n1, y1, h1, l1⟩ := hf 1 3 1 rfl
  obtain ⟨n2, y2, h2, l2⟩ := hf 2 3 2 rfl
  simp only [cells_int, cells_rings, List.drop_zero, List.drop_succ_cons, List.take_succ_cons, List.take_zero] at h0 h1 h2
  obtain ⟨a0, v0, e0, i0⟩ := rd_rings _ _ _ h0 l0
  obtain ⟨a1, e1, i1⟩ := rd_int _ _ _ h1 l1
  obtain ⟨a2, e2, i2⟩ := rd_int _ _ _ h2 l2
  simp only [List.cons.injEq, and_true] at e0 e1 e2
  subst e0 e1 e2
  exact ⟨⟨a0, a1, a2⟩, _, rfl, i0, i1, i2⟩

def CLd (cs : List Value) (l : Ld) : Prop := cs = [.int .i64 l.press, .int .i64 l.force, .int .i64 l.speed, .int .i64 l.other] ∧ I64 l.press ∧ I64 l.force ∧ I64 l.speed ∧ I64 l.other
theorem rd_load : Rd enc w base spare held 33 CLd := fun fuel cs x h hl => by
  obtain ⟨hc, hf⟩ := struct_field Tryz.underlying33 h hl
  rw [cells_load] at hc
  obtain ⟨c0, c1, c2, c3, rfl⟩ := len4 hc
  obtain ⟨n0, y0, h0, l0⟩ := hf 0 3 0 rfl
  obtain ⟨n1, y1, h1, l1⟩ := hf 1 3 1 rfl
  obtain ⟨n2, y2, h2, l2⟩ := hf 2 3 2 rfl
  obtain ⟨n3, y3, h3, l3⟩ := hf 3 3 3 rfl
  simp only [cells_int, List.drop_zero, List.drop_succ_cons, List.take_succ_cons, List.take_zero] at h0 h1 h2 h3
  obtain ⟨a0, e0, i0⟩ := rd_int _ _ _ h0 l0
  obtain ⟨a1, e1, i1⟩ := rd_int _ _ _ h1 l1
  obtain ⟨a2, e2, i2⟩ := rd_int _ _ _ h2 l2
  obtain ⟨a3, e3, i3⟩ := rd_int _ _ _ h3 l3
  simp only [List.cons.injEq, and_true] at e0 e1 e2 e3
  subst e0 e1 e2 e3
  exact ⟨⟨a0, a1, a2, a3⟩, rfl, i0, i1, i2, i3⟩

/-- a slice of which only the length is read. -/
theorem rd_len {t e : TypeId} (ht : Tryz.prog.underlying t = some (.slice e)) (hb : 0 < Tryz.prog.bytesOf e) : Rd enc w base spare held t fun cs (n : Nat) => ∃ a k, cs = [.slice a n k] ∧ n ≤ 140737488351232 := by
  intro fuel cs x h hl
  rcases DataW.trod_slice ht h with ⟨rfl, rfl⟩ | ⟨a, len, cap, elems, rest, n, rfl, rfl, rfl, _, hlc, hcm, hlen, hel, _, _⟩
  · exact ⟨0, none, 0, rfl, by simp⟩
  · refine ⟨len, _, _, rfl, ?_⟩
    have := hl ((elems.length + rest.length) * Tryz.prog.bytesOf e) (by simp [DataW.weights, ht])
    have h1 : len * 1 ≤ (elems.length + rest.length) * Tryz.prog.bytesOf e := Nat.mul_le_mul (by omega) hb
    omega

end
end Go.Proofs.YtaldpalhckdcdaaGreatDoor
