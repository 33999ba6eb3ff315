/- What the arguments of the statements read as; no statement is proved here. -/
import Derived.Test.YtpkggjfaefkiiaaExact
import Derived.Deep.Slices
import Derived.SizedLaws
import Derived.ProofKit
namespace Go.Proofs.Ytpkggjfaefkiiaa
open Go.RowKit Go.PlainAid Go.ChangeShapes Go.WideShapes Go.ChangeAt
set_option linter.unusedVariables false

section
variable {H : Type} {enc : TypeId × Value → H} {w : World} {base : Nat} {spare : Nat → Bool} {held : Bool}

def Light (t : TypeId) (d : DataW H) : Prop := ∀ n ∈ d.weights Try.prog t, n ≤ 140737488351232

/-- cells that read at a type are those of something. -/
def Rd {α : Type} (enc : TypeId × Value → H) (w : World) (base : Nat) (spare : Nat → Bool) (held : Bool) (t : TypeId) (V : List Value → α → Prop) : Prop :=
  ∀ fuel cs x, DataW.trod enc Try.prog w base spare held fuel t cs = some x → Light t x.1 → ∃ a, V cs a

theorem wf_I64 {n : Int} (h : (Lit.int .i64 n).wf = true) : I64 n := by
  simp only [Lit.wf, Bool.and_eq_true, decide_eq_true_eq, IntKind.min, IntKind.max, IntKind.signed, IntKind.bits] at h
  unfold I64
  simp at h
  omega

def CInt (cs : List Value) (n : Int) : Prop := cs = [.int .i64 n] ∧ I64 n
theorem rd_int : Rd enc w base spare held 3 CInt := fun fuel cs x h _ => by
  obtain ⟨n, rfl, _, hw⟩ := DataW.trod_int Try.underlying3 h
  exact ⟨n, rfl, wf_I64 hw⟩

def CStr (cs : List Value) (s : ByteArray) : Prop := cs = [.string s] ∧ s.size ≤ 140737488351232
theorem rd_str : Rd enc w base spare held 9 CStr := fun fuel cs x h hl => by
  obtain ⟨s, rfl, rfl, hw⟩ := DataW.trod_string Try.underlying9 h
  refine ⟨s, rfl, ?_⟩
  have := hl s.data.toList.length (by simp [DataW.weights])
  simpa using this

theorem plain_add (b off k : Nat) : (⟨b, off, none⟩ : Addr).add k = ⟨b, off + k, none⟩ := by
  unfold Addr.add
  split
  · rename_i h; subst h; rfl
  · rfl

theorem weights_elem {e : TypeId} : ∀ {l : List (DataW H)} {d : DataW H}, d ∈ l → ∀ n ∈ d.weights Try.prog e, n ∈ DataW.weightsAll Try.prog e l
  | a :: l, d, h, n, hn => by
    simp only [DataW.weightsAll, List.mem_append]
    rcases List.mem_cons.1 h with rfl | h
    · exact .inl hn
    · exact .inr (weights_elem h n hn)

theorem rd_slice {α : Type} {t e : TypeId} {sz : Nat} {V : List Value → α → Prop} {R : World → Addr → α → Prop} (ht : Try.prog.underlying t = some (.slice e)) (hC : Try.prog.cellsOf e = sz) (h0 : 0 < sz) (hb : 0 < Try.prog.bytesOf e)
    (he : Rd enc w base spare held e V) (hlink : ∀ b o cs a, V cs a → cs.length = sz → (∀ j (h : j < cs.length), w.cell? ⟨b, o + j, none⟩ = some (cs[j]'h)) → R w ⟨b, o, none⟩ a) :
    Rd enc w base spare held t fun cs l => ∃ v, cs = [v] ∧ RSl sz R w v l := by
  intro fuel cs x h hl
  rcases DataW.trod_slice ht h with ⟨rfl, rfl⟩ | ⟨a, len, cap, elems, rest, n, rfl, rfl, rfl, _, hlc, hcm, hlen, hel, _, _⟩
  · exact ⟨[], _, rfl, none, 0, rfl, Nat.le_refl _, ⟨by omega, by simp⟩, fun i hi => by simp at hi⟩
  · have hw : len ≤ 140737488351232 := by
      have := hl ((elems.length + rest.length) * Try.prog.bytesOf e) (by simp [DataW.weights, ht])
      have h1 : len * 1 ≤ (elems.length + rest.length) * Try.prog.bytesOf e := Nat.mul_le_mul (by omega) hb
      omega
    have key : ∀ i, i < len → ∃ x : α, (∃ cs', V cs' x ∧ cs'.length = sz ∧ ∀ j, j < sz → w.cell? (a.add (i * sz + j)) = cs'[j]?) := by
      intro i hi
      have h1 := hel i hi
      rw [List.getElem?_eq_getElem (by omega)] at h1
      obtain ⟨cs', hc, ht'⟩ := Option.bind_eq_some_iff.1 h1
      rw [hC] at hc
      obtain ⟨_, hcl, hat⟩ := World.cells?_some hc
      obtain ⟨x, hx⟩ := he _ _ _ ht' fun m hm => hl m (by
        simp only [DataW.weights, ht, List.mem_cons, List.mem_append]
        exact .inr (.inl (weights_elem (List.mem_map_of_mem (List.getElem_mem (by omega))) m hm)))
      refine ⟨x, cs', hx, hcl, fun j hj => ?_⟩
      rw [← Go.Deep.add_add]
      exact hat j hj
    refine ⟨(List.range len).attach.map fun i => (key i.1 (List.mem_range.1 i.2)).choose, _, rfl, some a, cap, by simp, by simpa using hlc, ⟨by simpa [maxLen] using hcm, by simpa using hw⟩, fun i hi => ?_⟩
    have hi' : i < len := by simpa using hi
    obtain ⟨cs', hV, hcl, hat⟩ := (key i hi').choose_spec
    obtain ⟨b, off, spot⟩ := a
    have hspot : spot = none := by
      by_cases hi0 : i = 0
      · subst hi0
        have := hat 0 h0
        rw [List.getElem?_eq_getElem (by omega)] at this
        simp only [Nat.zero_mul, Nat.add_zero, Addr.add, if_true] at this
        exact World.cell?_spot this
      · have hl0 : 0 < len := by omega
        obtain ⟨cs0, _, hcl0, hat0⟩ := (key 0 hl0).choose_spec
        have := hat0 0 h0
        rw [List.getElem?_eq_getElem (by omega)] at this
        simp only [Nat.zero_mul, Nat.add_zero, Addr.add, if_true] at this
        exact World.cell?_spot this
    subst hspot
    refine ⟨b, off, rfl, ?_⟩
    have hget : ((List.range len).attach.map fun i => (key i.1 (List.mem_range.1 i.2)).choose)[i]'hi = (key i hi').choose := by simp only [List.getElem_map, List.getElem_attach, List.getElem_range]
    rw [hget]
    refine hlink _ _ cs' _ hV hcl fun j hj => ?_
    have h2 := hat j (by omega)
    rw [List.getElem?_eq_getElem hj] at h2
    rw [plain_add] at h2
    rw [Nat.add_assoc]
    exact h2

theorem rd_ints : Rd enc w base spare held 37 fun cs l => ∃ v, cs = [v] ∧ RInts w v l :=
  rd_slice Try.underlying37 (by kernel_rfl) (by decide) (by rw [show Try.prog.bytesOf 3 = 8 from by kernel_rfl]; decide) rd_int fun b o cs a ⟨h1, h2⟩ _ hc => by
    subst h1
    exact ⟨by simpa using hc 0 (by simp), h2⟩

theorem rd_strs : Rd enc w base spare held 22 fun cs l => ∃ v, cs = [v] ∧ RStrs w v l :=
  rd_slice Try.underlying22 (by kernel_rfl) (by decide) (by rw [show Try.prog.bytesOf 9 = 16 from by kernel_rfl]; decide) rd_str fun b o cs a ⟨h1, h2⟩ _ hc => by
    subst h1
    exact ⟨by simpa using hc 0 (by simp), h2⟩

end
end Go.Proofs.Ytpkggjfaefkiiaa

namespace Go.Proofs.Ytpkggjfaefkiiaa
open Go.RowKit Go.PlainAid Go.ChangeShapes Go.WideShapes Go.ChangeAt
set_option linter.unusedVariables false

theorem len2 {α : Type} : ∀ {cs : List α}, cs.length = 2 → ∃ c0 c1, cs = [c0, c1]
  | [c0, c1], _ => ⟨_, _, rfl⟩
theorem len4 {α : Type} : ∀ {cs : List α}, cs.length = 4 → ∃ c0 c1 c2 c3, cs = [c0, c1, c2, c3]
  | [c0, c1, c2, c3], _ => ⟨_, _, _, _, rfl⟩
theorem len6 {α : Type} : ∀ {cs : List α}, cs.length = 6 → ∃ c0 c1 c2 c3 c4 c5, cs = [c0, c1, c2, c3, c4, c5]
  | [c0, c1, c2, c3, c4, c5], _ => ⟨_, _, _, _, _, _, rfl⟩
theorem len7 {α : Type} : ∀ {cs : List α}, cs.length = 7 → ∃ c0 c1 c2 c3 c4 c5 c6, cs = [c0, c1, c2, c3, c4, c5, c6]
  | [c0, c1, c2, c3, c4, c5, c6], _ => ⟨_, _, _, _, _, _, _, rfl⟩

section
variable {H : Type} {enc : TypeId × Value → H} {w : World} {base : Nat} {spare : Nat → Bool} {held : Bool}

theorem struct_field {t : TypeId} {fs : Array Field} {fuel : Nat} {cs : List Value} {x : DataW H × List MemPlace} (ht : Try.prog.underlying t = some (.struct fs)) (h : DataW.trod enc Try.prog w base spare held fuel t cs = some x) (hl : Light t x.1) :
    cs.length = Try.prog.cellsOf t ∧ ∀ (i : Nat) (ft : TypeId) (o : Nat), fs[i]?.map (fun f => (f.type, f.offset)) = some (ft, o) → ∃ n y, DataW.trod enc Try.prog w base spare held n ft ((cs.drop o).take (Try.prog.cellsOf ft)) = some y ∧ Light ft y.1 := by
  obtain ⟨xs, n, rfl, rfl, hcl, hxl, hf⟩ := DataW.trod_struct ht h
  refine ⟨hcl, fun i ft o hio => ?_⟩
  obtain ⟨f, hi, hfo⟩ := Option.map_eq_some_iff.1 hio
  obtain ⟨rfl, rfl⟩ := Prod.mk.inj hfo
  have hlt : i < fs.size := (Array.getElem?_eq_some_iff.1 hi).1
  have h1 := hf i f hi
  rw [List.getElem?_eq_getElem (by omega)] at h1
  refine ⟨n, _, h1, fun m hm => hl m ?_⟩
  simp only [DataW.weights, ht]
  refine DataW.weights_mem_each (j := i) (t := f.type) (d := (xs[i]'(by omega)).1) ?_ ?_ m hm
  · rw [List.getElem?_map]
    have : fs.toList[i]? = some f := by simpa using hi
    rw [this]; rfl
  · rw [List.getElem?_map, List.getElem?_eq_getElem (by omega)]; rfl

theorem cells_int : Try.prog.cellsOf 3 = 1 := by kernel_rfl
theorem cells_string : Try.prog.cellsOf 9 = 1 := by kernel_rfl
theorem cells_span : Try.prog.cellsOf 27 = 2 := by kernel_rfl
theorem cells_mat : Try.prog.cellsOf 68 = 7 := by kernel_rfl
theorem cells_prp : Try.prog.cellsOf 70 = 4 := by kernel_rfl
theorem cells_bat : Try.prog.cellsOf 29 = 7 := by kernel_rfl
theorem cells_ask : Try.prog.cellsOf 44 = 6 := by kernel_rfl
theorem cells_proof : Try.prog.cellsOf 42 = 2 := by kernel_rfl
theorem cells_ints : Try.prog.cellsOf 37 = 1 := by kernel_rfl
theorem cells_strs : Try.prog.cellsOf 22 = 1 := by kernel_rfl
theorem cells_sps : Try.prog.cellsOf 24 = 1 := by kernel_rfl
theorem cells_mats : Try.prog.cellsOf 23 = 1 := by kernel_rfl
theorem cells_prps : Try.prog.cellsOf 25 = 1 := by kernel_rfl

def CSp (cs : List Value) (s : Sp) : Prop := cs = [.int .i64 s.lo, .int .i64 s.hi] ∧ I64 s.lo ∧ I64 s.hi
theorem rd_span : Rd enc w base spare held 27 CSp := fun fuel cs x h hl => by
  obtain ⟨hc, hf⟩ := struct_field Try.underlying27 h hl
  rw [cells_span] at hc
  obtain ⟨c0, c1, rfl⟩ := len2 hc
  obtain ⟨n0, y0, h0, l0⟩ := hf 0 3 0 rfl
  obtain ⟨n1, y1, h1, l1⟩ := hf 1 3 1 rfl
  simp only [cells_int, List.drop_zero, List.drop_succ_cons, List.take_succ_cons, List.take_zero] at h0 h1
  obtain ⟨a, e0, i0⟩ := rd_int _ _ _ h0 l0
  obtain ⟨b, e1, i1⟩ := rd_int _ _ _ h1 l1
  simp only [List.cons.injEq, and_true] at e0 e1
  subst e0 e1
  exact ⟨⟨a, b⟩, rfl, i0, i1⟩

theorem rd_sps : Rd enc w base spare held 24 fun cs l => ∃ v, cs = [v] ∧ RSps w v l :=
  rd_slice Try.underlying24 cells_span (by decide) (by rw [show Try.prog.bytesOf 27 = 16 from by kernel_rfl]; decide) rd_span fun b o cs a ⟨h1, h2, h3⟩ _ hc => by
    subst h1
    exact ⟨by simpa using hc 0 (by simp), by simpa using hc 1 (by simp), h2, h3⟩

def CMat (w : World) (cs : List Value) (m : Mat) : Prop :=
  ∃ c, cs = [.string m.name, .int .i64 m.price, .int .i64 m.redox, .int .i64 m.least, .int .i64 m.most, .int .i64 m.step, c] ∧ RSps w c m.content ∧ m.name.size ≤ 140737488351232 ∧ I64 m.price ∧ I64 m.redox ∧ I64 m.least ∧ I64 m.most ∧ I64 m.step
theorem rd_mat : Rd enc w base spare held 68 (CMat w) := fun fuel cs x h hl => by
  obtain ⟨hc, hf⟩ := struct_field Try.underlying68 h hl
  rw [cells_mat] at hc
  obtain ⟨c0, c1, c2, c3, c4, c5, c6, rfl⟩ := len7 hc
  obtain ⟨n0, y0, h0, l0⟩ := hf 0 9 0 rfl
  obtain ⟨n1, y1, h1, l1⟩ := hf 1 3 1 rfl
  obtain ⟨n2, y2, h2, l2⟩ := hf 2 3 2 rfl
  obtain ⟨n3, y3, h3, l3⟩ := hf 3 3 3 rfl
  obtain ⟨n4, y4, h4, l4⟩ := hf 4 3 4 rfl
  obtain ⟨n5, y5, h5, l5⟩ := hf 5 3 5 rfl
  obtain ⟨n6, y6, h6, l6⟩ := hf 6 24 6 rfl
  simp only [cells_int, cells_string, cells_sps, List.drop_zero, List.drop_succ_cons, List.take_succ_cons, List.take_zero] at h0 h1 h2 h3 h4 h5 h6
  obtain ⟨a0, e0, i0⟩ := rd_str _ _ _ h0 l0
  obtain ⟨a1, e1, i1⟩ := rd_int _ _ _ h1 l1
  obtain ⟨a2, e2, i2⟩ := rd_int _ _ _ h2 l2
  obtain ⟨a3, e3, i3⟩ := rd_int _ _ _ h3 l3
  obtain ⟨a4, e4, i4⟩ := rd_int _ _ _ h4 l4
  obtain ⟨a5, e5, i5⟩ := rd_int _ _ _ h5 l5
  obtain ⟨a6, v6, e6, i6⟩ := rd_sps _ _ _ h6 l6
  simp only [List.cons.injEq, and_true] at e0 e1 e2 e3 e4 e5 e6
  subst e0 e1 e2 e3 e4 e5 e6
  exact ⟨⟨a0, a1, a2, a3, a4, a5, a6⟩, _, rfl, i6, i0, i1, i2, i3, i4, i5⟩

theorem rd_mats : Rd enc w base spare held 23 fun cs l => ∃ v, cs = [v] ∧ RMats w v l :=
  rd_slice Try.underlying23 cells_mat (by decide) (by rw [show Try.prog.bytesOf 68 = 80 from by kernel_rfl]; decide) rd_mat fun b o cs a ⟨c, h1, h2⟩ _ hc => by
    subst h1
    exact ⟨c, ⟨by simpa using hc 0 (by simp), by simpa using hc 1 (by simp), by simpa using hc 2 (by simp), by simpa using hc 3 (by simp), by simpa using hc 4 (by simp), by simpa using hc 5 (by simp), by simpa using hc 6 (by simp)⟩, h2⟩

def CPrp (w : World) (cs : List Value) (m : Prp) : Prop :=
  ∃ c, cs = [.string m.name, c, .int .i64 m.target.lo, .int .i64 m.target.hi] ∧ RInts w c m.coefs ∧ m.name.size ≤ 140737488351232 ∧ I64 m.target.lo ∧ I64 m.target.hi
theorem rd_prp : Rd enc w base spare held 70 (CPrp w) := fun fuel cs x h hl => by
  obtain ⟨hc, hf⟩ := struct_field Try.underlying70 h hl
  rw [cells_prp] at hc
  obtain ⟨c0, c1, c2, c3, rfl⟩ := len4 hc
  obtain ⟨n0, y0, h0, l0⟩ := hf 0 9 0 rfl
  obtain ⟨n1, y1, h1, l1⟩ := hf 1 37 1 rfl
  obtain ⟨n2, y2, h2, l2⟩ := hf 2 27 2 rfl
  simp only [cells_string, cells_ints, cells_span, List.drop_zero, List.drop_succ_cons, List.take_succ_cons, List.take_zero] at h0 h1 h2
  obtain ⟨a0, e0, i0⟩ := rd_str _ _ _ h0 l0
  obtain ⟨a1, v1, e1, i1⟩ := rd_ints _ _ _ h1 l1
  obtain ⟨a2, e2, i2, i3⟩ := rd_span _ _ _ h2 l2
  simp only [List.cons.injEq, and_true] at e0 e1 e2
  obtain ⟨rfl, rfl⟩ := e2
  subst e0 e1
  exact ⟨⟨a0, a1, a2⟩, _, rfl, i1, i0, i2, i3⟩

theorem rd_prps : Rd enc w base spare held 25 fun cs l => ∃ v, cs = [v] ∧ RPrps w v l :=
  rd_slice Try.underlying25 cells_prp (by decide) (by rw [show Try.prog.bytesOf 70 = 56 from by kernel_rfl]; decide) rd_prp fun b o cs a ⟨c, h1, h2⟩ _ hc => by
    subst h1
    exact ⟨c, ⟨by simpa using hc 0 (by simp), by simpa using hc 1 (by simp), by simpa using hc 2 (by simp), by simpa using hc 3 (by simp)⟩, h2⟩

theorem rd_bat : Rd enc w base spare held 29 fun cs b => RBat w (.agg cs.toArray) b := fun fuel cs x h hl => by
  obtain ⟨hc, hf⟩ := struct_field Try.underlying29 h hl
  rw [cells_bat] at hc
  obtain ⟨c0, c1, c2, c3, c4, c5, c6, rfl⟩ := len7 hc
  obtain ⟨n0, y0, h0, l0⟩ := hf 0 22 0 rfl
  obtain ⟨n1, y1, h1, l1⟩ := hf 1 23 1 rfl
  obtain ⟨n2, y2, h2, l2⟩ := hf 2 24 2 rfl
  obtain ⟨n3, y3, h3, l3⟩ := hf 3 25 3 rfl
  obtain ⟨n4, y4, h4, l4⟩ := hf 4 27 4 rfl
  obtain ⟨n5, y5, h5, l5⟩ := hf 5 3 6 rfl
  simp only [cells_int, cells_strs, cells_mats, cells_sps, cells_prps, cells_span, List.drop_zero, List.drop_succ_cons, List.take_succ_cons, List.take_zero] at h0 h1 h2 h3 h4 h5
  obtain ⟨a0, v0, e0, i0⟩ := rd_strs _ _ _ h0 l0
  obtain ⟨a1, v1, e1, i1⟩ := rd_mats _ _ _ h1 l1
  obtain ⟨a2, v2, e2, i2⟩ := rd_sps _ _ _ h2 l2
  obtain ⟨a3, v3, e3, i3⟩ := rd_prps _ _ _ h3 l3
  obtain ⟨a4, e4, i4, i4'⟩ := rd_span _ _ _ h4 l4
  obtain ⟨a5, e5, i5⟩ := rd_int _ _ _ h5 l5
  simp only [List.cons.injEq, and_true] at e0 e1 e2 e3 e4 e5
  obtain ⟨rfl, rfl⟩ := e4
  subst e0 e1 e2 e3 e5
  exact ⟨⟨a0, a1, a2, a3, a4, a5⟩, _, _, _, _, rfl, i0, i1, i2, i3, i4, i4', i5⟩

theorem rd_ask : Rd enc w base spare held 44 fun cs x => RAsk w (.agg cs.toArray) x := fun fuel cs x h hl => by
  obtain ⟨hc, hf⟩ := struct_field Try.underlying44 h hl
  rw [cells_ask] at hc
  obtain ⟨c0, c1, c2, c3, c4, c5, rfl⟩ := len6 hc
  obtain ⟨n0, y0, h0, l0⟩ := hf 0 37 0 rfl
  obtain ⟨n1, y1, h1, l1⟩ := hf 1 37 1 rfl
  obtain ⟨n2, y2, h2, l2⟩ := hf 2 3 2 rfl
  obtain ⟨n3, y3, h3, l3⟩ := hf 3 3 3 rfl
  obtain ⟨n4, y4, h4, l4⟩ := hf 4 42 4 rfl
  simp only [cells_int, cells_ints, cells_proof, List.drop_zero, List.drop_succ_cons, List.take_succ_cons, List.take_zero] at h0 h1 h2 h3 h4
  obtain ⟨hc', hf'⟩ := struct_field Try.underlying42 h4 l4
  obtain ⟨n5, y5, h5, l5⟩ := hf' 0 3 0 rfl
  obtain ⟨n6, y6, h6, l6⟩ := hf' 1 37 1 rfl
  simp only [cells_int, cells_ints, List.drop_zero, List.drop_succ_cons, List.take_succ_cons, List.take_zero] at h5 h6
  obtain ⟨a0, v0, e0, i0⟩ := rd_ints _ _ _ h0 l0
  obtain ⟨a1, v1, e1, i1⟩ := rd_ints _ _ _ h1 l1
  obtain ⟨a2, e2, i2⟩ := rd_int _ _ _ h2 l2
  obtain ⟨a3, e3, i3⟩ := rd_int _ _ _ h3 l3
  obtain ⟨a5, e5, i5⟩ := rd_int _ _ _ h5 l5
  obtain ⟨a6, v6, e6, i6⟩ := rd_ints _ _ _ h6 l6
  simp only [List.cons.injEq, and_true] at e0 e1 e2 e3 e5 e6
  subst e0 e1 e2 e3 e5 e6
  exact ⟨⟨a0, a1, a2, a3, a5, a6⟩, _, _, _, rfl, i0, i1, i6, i2, i3, i5⟩

end
end Go.Proofs.Ytpkggjfaefkiiaa
