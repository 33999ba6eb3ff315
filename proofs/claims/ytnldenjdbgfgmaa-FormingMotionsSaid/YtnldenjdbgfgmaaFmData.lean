/- What Go's knots, quotients, stretches of layer 4 read as; no statement is proved here. -/
import Derived.Test.YtnldenjdbgfgmaaData
import Derived.Deep.Slices
import Derived.SizedLaws
import Derived.ProofKit
import Derived.PlainAid
namespace Go.Proofs.Ytnldenjdbgfgmaa
open Go.RowKit Go.PlainAid Go.ChangeShapes Go.WideShapes Go.ChangeAt
set_option linter.unusedVariables false

/-- a quotient; a stretch. (A knot reads as Sp: its tick, its place.) -/
structure Rt where
  n : Int
  d : Int
deriving DecidableEq
structure St where
  a : Rt
  b : Rt
deriving DecidableEq

def rtV (r : Rt) : Value := .agg #[.int .i64 r.n, .int .i64 r.d]
def stV (s : St) : Value := .agg #[.int .i64 s.a.n, .int .i64 s.a.d, .int .i64 s.b.n, .int .i64 s.b.d]
def I64q (r : Rt) : Prop := I64 r.n ∧ I64 r.d
def RSt (w : World) (p : Addr) (s : St) : Prop := (w.cell? p = some (.int .i64 s.a.n) ∧ w.cell? ⟨p.block, p.off + 1, none⟩ = some (.int .i64 s.a.d) ∧ w.cell? ⟨p.block, p.off + 2, none⟩ = some (.int .i64 s.b.n) ∧ w.cell? ⟨p.block, p.off + 3, none⟩ = some (.int .i64 s.b.d)) ∧ I64q s.a ∧ I64q s.b
def RSts := RSl 4 RSt
theorem RSt.mono {w w' : World} (e : Ext w w') {p : Addr} {x : St} (h : RSt w p x) : RSt w' p x := by
  obtain ⟨⟨h0, h1, h2, h3⟩, h4⟩ := h
  exact ⟨⟨e _ _ h0, e _ _ h1, e _ _ h2, e _ _ h3⟩, h4⟩
theorem RSts.mono {w w' : World} (e : Ext w w') {v : Value} {x : List St} (h : RSts w v x) : RSts w' v x := RSl.mono h fun _ _ _ => RSt.mono e

section
variable {H : Type} {enc : TypeId × Value → H} {w : World} {base : Nat} {spare : Nat → Bool} {held : Bool}

def Light (t : TypeId) (d : DataW H) : Prop := ∀ n ∈ d.weights Try.prog t, n ≤ 140737488351232

/-- cells that read at a type are those of something. -/
def Rd {α : Type} (enc : TypeId × Value → H) (w : World) (base : Nat) (spare : Nat → Bool) (held : Bool) (t : TypeId) (V : List Value → α → Prop) : Prop :=
  ∀ fuel cs x, DataW.trod enc Try.prog w base spare held fuel t cs = some x → Light t x.1 → ∃ a, V cs a

theorem wf_I64 {n : Int} (h : (Lit.int .i64 n).wf = true) : I64 n := by
  simp only [Lit.wf, Bool.and_eq_true, decide_eq_true_eq, IntKind.min, IntKind.max, IntKind.signed, IntKind.bits] at h
  unfold I64
  simp at h
  omega

def CInt (cs : List Value) (n : Int) : Prop := cs = [.int .i64 n] ∧ I64 n
theorem rd_int : Rd enc w base spare held 3 CInt := fun fuel cs x h _ => by
  obtain ⟨n, rfl, _, hw⟩ := DataW.trod_int Try.underlying3 h
  exact ⟨n, rfl, wf_I64 hw⟩

theorem plain_add (b off k : Nat) : (⟨b, off, none⟩ : Addr).add k = ⟨b, off + k, none⟩ := by
  unfold Addr.add
  split
  · rename_i h; subst h; rfl
  · rfl

theorem weights_elem {e : TypeId} : ∀ {l : List (DataW H)} {d : DataW H}, d ∈ l → ∀ n ∈ d.weights Try.prog e, n ∈ DataW.weightsAll Try.prog e l
  | a :: l, d, h, n, hn => by
    simp only [DataW.weightsAll, List.mem_append]
    rcases List.mem_cons.1 h with rfl | h
    · exact .inl hn
    · exact .inr (weights_elem h n hn)

theorem rd_slice {α : Type} {t e : TypeId} {sz : Nat} {V : List Value → α → Prop} {R : World → Addr → α → Prop} (ht : Try.prog.underlying t = some (.slice e)) (hC : Try.prog.cellsOf e = sz) (h0 : 0 < sz) (hb : 0 < Try.prog.bytesOf e)
    (he : Rd enc w base spare held e V) (hlink : ∀ b o cs a, V cs a → cs.length = sz → (∀ j (h : j < cs.length), w.cell? ⟨b, o + j, none⟩ = some (cs[j]'h)) → R w ⟨b, o, none⟩ a) :
    Rd enc w base spare held t fun cs l => ∃ v, cs = [v] ∧ RSl sz R w v l := by
  intro fuel cs x h hl
  rcases DataW.trod_slice ht h with ⟨rfl, rfl⟩ | ⟨a, len, cap, elems, rest, n, rfl, rfl, rfl, _, hlc, hcm, hlen, hel, _, _⟩
  · exact ⟨[], _, rfl, none, 0, rfl, Nat.le_refl _, ⟨by omega, by simp⟩, fun i hi => by simp at hi⟩
  · have hw : len ≤ 140737488351232 := by
      have := hl ((elems.length + rest.length) * Try.prog.bytesOf e) (by simp [DataW.weights, ht])
      have h1 : len * 1 ≤ (elems.length + rest.length) * Try.prog.bytesOf e := Nat.mul_le_mul (by omega) hb
      omega
    have key : ∀ i, i < len → ∃ x : α, (∃ cs', V cs' x ∧ cs'.length = sz ∧ ∀ j, j < sz → w.cell? (a.add (i * sz + j)) = cs'[j]?) := by
      intro i hi
      have h1 := hel i hi
      rw [List.getElem?_eq_getElem (by omega)] at h1
      obtain ⟨cs', hc, ht'⟩ := Option.bind_eq_some_iff.1 h1
      rw [hC] at hc
      obtain ⟨_, hcl, hat⟩ := World.cells?_some hc
      obtain ⟨x, hx⟩ := he _ _ _ ht' fun m hm => hl m (by
        simp only [DataW.weights, ht, List.mem_cons, List.mem_append]
        exact .inr (.inl (weights_elem (List.mem_map_of_mem (List.getElem_mem (by omega))) m hm)))
      refine ⟨x, cs', hx, hcl, fun j hj => ?_⟩
      rw [← Go.Deep.add_add]
      exact hat j hj
    refine ⟨(List.range len).attach.map fun i => (key i.1 (List.mem_range.1 i.2)).choose, _, rfl, some a, cap, by simp, by simpa using hlc, ⟨by simpa [maxLen] using hcm, by simpa using hw⟩, fun i hi => ?_⟩
    have hi' : i < len := by simpa using hi
    obtain ⟨cs', hV, hcl, hat⟩ := (key i hi').choose_spec
    obtain ⟨b, off, spot⟩ := a
    have hspot : spot = none := by
      by_cases hi0 : i = 0
      · subst hi0
        have := hat 0 h0
        rw [List.getElem?_eq_getElem (by omega)] at this
        simp only [Nat.zero_mul, Nat.add_zero, Addr.add, if_true] at this
        exact World.cell?_spot this
      · have hl0 : 0 < len := by omega
        obtain ⟨cs0, _, hcl0, hat0⟩ := (key 0 hl0).choose_spec
        have := hat0 0 h0
        rw [List.getElem?_eq_getElem (by omega)] at this
        simp only [Nat.zero_mul, Nat.add_zero, Addr.add, if_true] at this
        exact World.cell?_spot this
    subst hspot
    refine ⟨b, off, rfl, ?_⟩
    have hget : ((List.range len).attach.map fun i => (key i.1 (List.mem_range.1 i.2)).choose)[i]'hi = (key i hi').choose := by simp only [List.getElem_map, List.getElem_attach, List.getElem_range]
    rw [hget]
    refine hlink _ _ cs' _ hV hcl fun j hj => ?_
    have h2 := hat j (by omega)
    rw [List.getElem?_eq_getElem hj] at h2
    rw [plain_add] at h2
    rw [Nat.add_assoc]
    exact h2

theorem len2 {α : Type} : ∀ {cs : List α}, cs.length = 2 → ∃ c0 c1, cs = [c0, c1]
  | [c0, c1], _ => ⟨_, _, rfl⟩
theorem len3 {α : Type} : ∀ {cs : List α}, cs.length = 3 → ∃ c0 c1 c2, cs = [c0, c1, c2]
  | [c0, c1, c2], _ => ⟨_, _, _, rfl⟩
theorem len4 {α : Type} : ∀ {cs : List α}, cs.length = 4 → ∃ c0 c1 c2 c3, cs = [c0, c1, c2, c3]
  | [c0, c1, c2, c3], _ => ⟨_, _, _, _, rfl⟩
theorem struct_field {t : TypeId} {fs : Array Field} {fuel : Nat} {cs : List Value} {x : DataW H × List MemPlace} (ht : Try.prog.underlying t = some (.struct fs)) (h : DataW.trod enc Try.prog w base spare held fuel t cs = some x) (hl : Light t x.1) :
    cs.length = Try.prog.cellsOf t ∧ ∀ (i : Nat) (ft : TypeId) (o : Nat), fs[i]?.map (fun f => (f.type, f.offset)) = some (ft, o) → ∃ n y, DataW.trod enc Try.prog w base spare held n ft ((cs.drop o).take (Try.prog.cellsOf ft)) = some y ∧ Light ft y.1 := by
  obtain ⟨xs, n, rfl, rfl, hcl, hxl, hf⟩ := DataW.trod_struct ht h
  refine ⟨hcl, fun i ft o hio => ?_⟩
  obtain ⟨f, hi, hfo⟩ := Option.map_eq_some_iff.1 hio
  obtain ⟨rfl, rfl⟩ := Prod.mk.inj hfo
  have hlt : i < fs.size := (Array.getElem?_eq_some_iff.1 hi).1
  have h1 := hf i f hi
  rw [List.getElem?_eq_getElem (by omega)] at h1
  refine ⟨n, _, h1, fun m hm => hl m ?_⟩
  simp only [DataW.weights, ht]
  refine DataW.weights_mem_each (j := i) (t := f.type) (d := (xs[i]'(by omega)).1) ?_ ?_ m hm
  · rw [List.getElem?_map]
    have : fs.toList[i]? = some f := by simpa using hi
    rw [this]; rfl
  · rw [List.getElem?_map, List.getElem?_eq_getElem (by omega)]; rfl

theorem cells_int : Try.prog.cellsOf 3 = 1 := by kernel_rfl
theorem cells_span : Try.prog.cellsOf 26 = 2 := by kernel_rfl
theorem cells_knot : Try.prog.cellsOf 47 = 2 := by kernel_rfl
theorem cells_ratio : Try.prog.cellsOf 24 = 2 := by kernel_rfl
theorem cells_stretch : Try.prog.cellsOf 41 = 4 := by kernel_rfl

def CSp (cs : List Value) (s : Sp) : Prop := cs = [.int .i64 s.lo, .int .i64 s.hi] ∧ I64 s.lo ∧ I64 s.hi
theorem rd_span : Rd enc w base spare held 26 CSp := fun fuel cs x h hl => by
  obtain ⟨hc, hf⟩ := struct_field Try.underlying26 h hl
  rw [cells_span] at hc
  obtain ⟨c0, c1, rfl⟩ := len2 hc
  obtain ⟨n0, y0, h0, l0⟩ := hf 0 3 0 rfl
  obtain ⟨n1, y1, h1, l1⟩ := hf 1 3 1 rfl
  simp only [cells_int, List.drop_zero, List.drop_succ_cons, List.take_succ_cons, List.take_zero] at h0 h1
  obtain ⟨a, e0, i0⟩ := rd_int _ _ _ h0 l0
  obtain ⟨b, e1, i1⟩ := rd_int _ _ _ h1 l1
  simp only [List.cons.injEq, and_true] at e0 e1
  subst e0 e1
  exact ⟨⟨a, b⟩, rfl, i0, i1⟩

theorem rd_knot : Rd enc w base spare held 47 CSp := fun fuel cs x h hl => by
  obtain ⟨hc, hf⟩ := struct_field Try.underlying47 h hl
  rw [cells_knot] at hc
  obtain ⟨c0, c1, rfl⟩ := len2 hc
  obtain ⟨n0, y0, h0, l0⟩ := hf 0 3 0 rfl
  obtain ⟨n1, y1, h1, l1⟩ := hf 1 3 1 rfl
  simp only [cells_int, List.drop_zero, List.drop_succ_cons, List.take_succ_cons, List.take_zero] at h0 h1
  obtain ⟨a, e0, i0⟩ := rd_int _ _ _ h0 l0
  obtain ⟨b, e1, i1⟩ := rd_int _ _ _ h1 l1
  simp only [List.cons.injEq, and_true] at e0 e1
  subst e0 e1
  exact ⟨⟨a, b⟩, rfl, i0, i1⟩

def CRt (cs : List Value) (s : Rt) : Prop := cs = [.int .i64 s.n, .int .i64 s.d] ∧ I64 s.n ∧ I64 s.d
theorem rd_ratio : Rd enc w base spare held 24 CRt := fun fuel cs x h hl => by
  obtain ⟨hc, hf⟩ := struct_field Try.underlying24 h hl
  rw [cells_ratio] at hc
  obtain ⟨c0, c1, rfl⟩ := len2 hc
  obtain ⟨n0, y0, h0, l0⟩ := hf 0 3 0 rfl
  obtain ⟨n1, y1, h1, l1⟩ := hf 1 3 1 rfl
  simp only [cells_int, List.drop_zero, List.drop_succ_cons, List.take_succ_cons, List.take_zero] at h0 h1
  obtain ⟨a, e0, i0⟩ := rd_int _ _ _ h0 l0
  obtain ⟨b, e1, i1⟩ := rd_int _ _ _ h1 l1
  simp only [List.cons.injEq, and_true] at e0 e1
  subst e0 e1
  exact ⟨⟨a, b⟩, rfl, i0, i1⟩

def CSt (cs : List Value) (s : St) : Prop := cs = [.int .i64 s.a.n, .int .i64 s.a.d, .int .i64 s.b.n, .int .i64 s.b.d] ∧ I64q s.a ∧ I64q s.b
theorem rd_stretch : Rd enc w base spare held 41 CSt := fun fuel cs x h hl => by
  obtain ⟨hc, hf⟩ := struct_field Try.underlying41 h hl
  rw [cells_stretch] at hc
  obtain ⟨c0, c1, c2, c3, rfl⟩ := len4 hc
  obtain ⟨n0, y0, h0, l0⟩ := hf 0 24 0 rfl
  obtain ⟨n1, y1, h1, l1⟩ := hf 1 24 2 rfl
  simp only [cells_ratio, List.drop_zero, List.drop_succ_cons, List.take_succ_cons, List.take_zero] at h0 h1
  obtain ⟨a, e0, i0, j0⟩ := rd_ratio _ _ _ h0 l0
  obtain ⟨b, e1, i1, j1⟩ := rd_ratio _ _ _ h1 l1
  simp only [List.cons.injEq, and_true] at e0 e1
  obtain ⟨rfl, rfl⟩ := e0
  obtain ⟨rfl, rfl⟩ := e1
  exact ⟨⟨a, b⟩, rfl, ⟨i0, j0⟩, ⟨i1, j1⟩⟩

theorem rd_knots : Rd enc w base spare held 22 fun cs l => ∃ v, cs = [v] ∧ RSps w v l :=
  rd_slice Try.underlying22 cells_knot (by decide) (by rw [show Try.prog.bytesOf 47 = 16 from by kernel_rfl]; decide) rd_knot fun b o cs a ⟨h1, h2, h3⟩ _ hc => by
    subst h1
    exact ⟨by simpa using hc 0 (by simp), by simpa using hc 1 (by simp), h2, h3⟩

theorem rd_sts : Rd enc w base spare held 31 fun cs l => ∃ v, cs = [v] ∧ RSts w v l :=
  rd_slice Try.underlying31 cells_stretch (by decide) (by rw [show Try.prog.bytesOf 41 = 32 from by kernel_rfl]; decide) rd_stretch fun b o cs a ⟨h1, h2, h3⟩ _ hc => by
    subst h1
    exact ⟨⟨by simpa using hc 0 (by simp), by simpa using hc 1 (by simp), by simpa using hc 2 (by simp), by simpa using hc 3 (by simp)⟩, h2, h3⟩

end
end Go.Proofs.Ytnldenjdbgfgmaa
