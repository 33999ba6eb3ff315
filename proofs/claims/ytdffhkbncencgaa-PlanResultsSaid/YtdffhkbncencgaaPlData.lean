/- What Go's seasons, and what is asked of them, read as (layer 8); no statement is proved here. -/
import Derived.Test.YtdffhkbncencgaaData
import Derived.Deep.Slices
import Derived.SizedLaws
import Derived.ProofKit
import Derived.PlainAid
namespace Go.Proofs.Ytdffhkbncencgaa
open Go.RowKit Go.PlainAid Go.ChangeShapes Go.WideShapes Go.ChangeAt
set_option linter.unusedVariables false
set_option linter.unusedSimpArgs false

structure Art where
  name : ByteArray
  col : Int
  wt : Int
def RArt (w : World) (p : Addr) (x : Art) : Prop := (w.cell? p = some (.string x.name) ∧ w.cell? ⟨p.block, p.off + 1, none⟩ = some (.int .i64 x.col) ∧ w.cell? ⟨p.block, p.off + 2, none⟩ = some (.int .i64 x.wt)) ∧ (x.name.size ≤ 140737488351232 ∧ I64 x.col ∧ I64 x.wt)
def RArts := RSl 3 RArt
theorem RArt.mono {w w' : World} (e : Ext w w') {p : Addr} {x : Art} (h : RArt w p x) : RArt w' p x := by
  obtain ⟨⟨h0, h1, h2⟩, ⟨i0, i1, i2⟩⟩ := h
  exact ⟨⟨e _ _ h0, e _ _ h1, e _ _ h2⟩, ⟨i0, i1, i2⟩⟩
theorem RArts.mono {w w' : World} (e : Ext w w') {v : Value} {x : List Art} (h : RArts w v x) : RArts w' v x := RSl.mono h fun _ _ _ => RArt.mono e
structure Mk where
  oven : Int
  rates : List Int
  idle : Int
  start : Int
def RMk (w : World) (p : Addr) (x : Mk) : Prop := ∃ v1, (w.cell? p = some (.int .i64 x.oven) ∧ w.cell? ⟨p.block, p.off + 1, none⟩ = some (v1) ∧ w.cell? ⟨p.block, p.off + 2, none⟩ = some (.int .i64 x.idle) ∧ w.cell? ⟨p.block, p.off + 3, none⟩ = some (.int .i64 x.start)) ∧ (I64 x.oven ∧ RInts w v1 x.rates ∧ I64 x.idle ∧ I64 x.start)
def RMks := RSl 4 RMk
theorem RMk.mono {w w' : World} (e : Ext w w') {p : Addr} {x : Mk} (h : RMk w p x) : RMk w' p x := by
  obtain ⟨v1, ⟨h0, h1, h2, h3⟩, ⟨i0, i1, i2, i3⟩⟩ := h
  exact ⟨v1, ⟨e _ _ h0, e _ _ h1, e _ _ h2, e _ _ h3⟩, ⟨i0, i1.mono e, i2, i3⟩⟩
theorem RMks.mono {w w' : World} (e : Ext w w') {v : Value} {x : List Mk} (h : RMks w v x) : RMks w' v x := RSl.mono h fun _ _ _ => RMk.mono e
structure Od where
  art : Int
  qty : Int
  due : Int
  pen : Int
def ROd (w : World) (p : Addr) (x : Od) : Prop := (w.cell? p = some (.int .i64 x.art) ∧ w.cell? ⟨p.block, p.off + 1, none⟩ = some (.int .i64 x.qty) ∧ w.cell? ⟨p.block, p.off + 2, none⟩ = some (.int .i64 x.due) ∧ w.cell? ⟨p.block, p.off + 3, none⟩ = some (.int .i64 x.pen)) ∧ (I64 x.art ∧ I64 x.qty ∧ I64 x.due ∧ I64 x.pen)
def ROds := RSl 4 ROd
theorem ROd.mono {w w' : World} (e : Ext w w') {p : Addr} {x : Od} (h : ROd w p x) : ROd w' p x := by
  obtain ⟨⟨h0, h1, h2, h3⟩, ⟨i0, i1, i2, i3⟩⟩ := h
  exact ⟨⟨e _ _ h0, e _ _ h1, e _ _ h2, e _ _ h3⟩, ⟨i0, i1, i2, i3⟩⟩
theorem ROds.mono {w w' : World} (e : Ext w w') {v : Value} {x : List Od} (h : ROds w v x) : ROds w' v x := RSl.mono h fun _ _ _ => ROd.mono e
/-- rows of numbers; rows of spans. -/
def RRow (w : World) (p : Addr) (l : List Int) : Prop := ∃ v, w.cell? p = some v ∧ RInts w v l
def RRows := RSl 1 RRow
def RTrn (w : World) (p : Addr) (l : List Sp) : Prop := ∃ v, w.cell? p = some v ∧ RSps w v l
def RTrns := RSl 1 RTrn
theorem RRow.mono {w w' : World} (e : Ext w w') {p : Addr} {x : List Int} (h : RRow w p x) : RRow w' p x := by
  obtain ⟨v, h0, h1⟩ := h
  exact ⟨v, e _ _ h0, h1.mono e⟩
theorem RRows.mono {w w' : World} (e : Ext w w') {v : Value} {x : List (List Int)} (h : RRows w v x) : RRows w' v x := RSl.mono h fun _ _ _ => RRow.mono e
theorem RTrn.mono {w w' : World} (e : Ext w w') {p : Addr} {x : List Sp} (h : RTrn w p x) : RTrn w' p x := by
  obtain ⟨v, h0, h1⟩ := h
  exact ⟨v, e _ _ h0, h1.mono e⟩
theorem RTrns.mono {w w' : World} (e : Ext w w') {v : Value} {x : List (List Sp)} (h : RTrns w v x) : RTrns w' v x := RSl.mono h fun _ _ _ => RTrn.mono e
structure Sn where
  days : Int
  arts : List Art
  ovens : List Sp
  mks : List Mk
  jobs : List (List Sp)
  cols : List (List Sp)
  ods : List Od
/-- a season's seven cells are those of s. -/
structure SnC (w : World) (s : Sn) (v1 v2 v3 v4 v5 v6 : Value) : Prop where
  arts : RArts w v1 s.arts
  ovens : RSps w v2 s.ovens
  mks : RMks w v3 s.mks
  jobs : RTrns w v4 s.jobs
  cols : RTrns w v5 s.cols
  ods : ROds w v6 s.ods
  days : I64 s.days
theorem SnC.mono {w w' : World} (e : Ext w w') {s : Sn} {v1 v2 v3 v4 v5 v6 : Value} (h : SnC w s v1 v2 v3 v4 v5 v6) : SnC w' s v1 v2 v3 v4 v5 v6 := ⟨h.arts.mono e, h.ovens.mono e, h.mks.mono e, h.jobs.mono e, h.cols.mono e, h.ods.mono e, h.days⟩
structure Ask8 where
  plan : List (List Int)
  other : List (List Int)
  oven : Int
  prices : List Int
structure AskC (w : World) (x : Ask8) (v0 v1 v3 : Value) : Prop where
  plan : RRows w v0 x.plan
  other : RRows w v1 x.other
  prices : RInts w v3 x.prices
  oven : I64 x.oven
theorem AskC.mono {w w' : World} (e : Ext w w') {x : Ask8} {v0 v1 v3 : Value} (h : AskC w x v0 v1 v3) : AskC w' x v0 v1 v3 := ⟨h.plan.mono e, h.other.mono e, h.prices.mono e, h.oven⟩

section
variable {H : Type} {enc : TypeId × Value → H} {w : World} {base : Nat} {spare : Nat → Bool} {held : Bool}

def Light (t : TypeId) (d : DataW H) : Prop := ∀ n ∈ d.weights Try.prog t, n ≤ 140737488351232

/-- cells that read at a type are those of something. -/
def Rd {α : Type} (enc : TypeId × Value → H) (w : World) (base : Nat) (spare : Nat → Bool) (held : Bool) (t : TypeId) (V : List Value → α → Prop) : Prop :=
  ∀ fuel cs x, DataW.trod enc Try.prog w base spare held fuel t cs = some x → Light t x.1 → ∃ a, V cs a

theorem wf_I64 {n : Int} (h : (Lit.int .i64 n).wf = true) : I64 n := by
  simp only [Lit.wf, Bool.and_eq_true, decide_eq_true_eq, IntKind.min, IntKind.max, IntKind.signed, IntKind.bits] at h
  unfold I64
  simp at h
  omega

def CInt (cs : List Value) (n : Int) : Prop := cs = [.int .i64 n] ∧ I64 n
theorem rd_int : Rd enc w base spare held 3 CInt := fun fuel cs x h _ => by
  obtain ⟨n, rfl, _, hw⟩ := DataW.trod_int Try.underlying3 h
  exact ⟨n, rfl, wf_I64 hw⟩

theorem plain_add (b off k : Nat) : (⟨b, off, none⟩ : Addr).add k = ⟨b, off + k, none⟩ := by
  unfold Addr.add
  split
  · rename_i h; subst h; rfl
  · rfl

theorem weights_elem {e : TypeId} : ∀ {l : List (DataW H)} {d : DataW H}, d ∈ l → ∀ n ∈ d.weights Try.prog e, n ∈ DataW.weightsAll Try.prog e l
  | a :: l, d, h, n, hn => by
    simp only [DataW.weightsAll, List.mem_append]
    rcases List.mem_cons.1 h with rfl | h
    · exact .inl hn
    · exact .inr (weights_elem h n hn)

theorem rd_slice {α : Type} {t e : TypeId} {sz : Nat} {V : List Value → α → Prop} {R : World → Addr → α → Prop} (ht : Try.prog.underlying t = some (.slice e)) (hC : Try.prog.cellsOf e = sz) (h0 : 0 < sz) (hb : 0 < Try.prog.bytesOf e)
    (he : Rd enc w base spare held e V) (hlink : ∀ b o cs a, V cs a → cs.length = sz → (∀ j (h : j < cs.length), w.cell? ⟨b, o + j, none⟩ = some (cs[j]'h)) → R w ⟨b, o, none⟩ a) :
    Rd enc w base spare held t fun cs l => ∃ v, cs = [v] ∧ RSl sz R w v l := by
  intro fuel cs x h hl
  rcases DataW.trod_slice ht h with ⟨rfl, rfl⟩ | ⟨a, len, cap, elems, rest, n, rfl, rfl, rfl, _, hlc, hcm, hlen, hel, _, _⟩
  · exact ⟨[], _, rfl, none, 0, rfl, Nat.le_refl _, ⟨by omega, by simp⟩, fun i hi => by simp at hi⟩
  · have hw : len ≤ 140737488351232 := by
      have := hl ((elems.length + rest.length) * Try.prog.bytesOf e) (by simp [DataW.weights, ht])
      have h1 : len * 1 ≤ (elems.length + rest.length) * Try.prog.bytesOf e := Nat.mul_le_mul (by omega) hb
      omega
    have key : ∀ i, i < len → ∃ x : α, (∃ cs', V cs' x ∧ cs'.length = sz ∧ ∀ j, j < sz → w.cell? (a.add (i * sz + j)) = cs'[j]?) := by
      intro i hi
      have h1 := hel i hi
      rw [List.getElem?_eq_getElem (by omega)] at h1
      obtain ⟨cs', hc, ht'⟩ := Option.bind_eq_some_iff.1 h1
      rw [hC] at hc
      obtain ⟨_, hcl, hat⟩ := World.cells?_some hc
      obtain ⟨x, hx⟩ := he _ _ _ ht' fun m hm => hl m (by
        simp only [DataW.weights, ht, List.mem_cons, List.mem_append]
        exact .inr (.inl (weights_elem (List.mem_map_of_mem (List.getElem_mem (by omega))) m hm)))
      refine ⟨x, cs', hx, hcl, fun j hj => ?_⟩
      rw [← Go.Deep.add_add]
      exact hat j hj
    refine ⟨(List.range len).attach.map fun i => (key i.1 (List.mem_range.1 i.2)).choose, _, rfl, some a, cap, by simp, by simpa using hlc, ⟨by simpa [maxLen] using hcm, by simpa using hw⟩, fun i hi => ?_⟩
    have hi' : i < len := by simpa using hi
    obtain ⟨cs', hV, hcl, hat⟩ := (key i hi').choose_spec
    obtain ⟨b, off, spot⟩ := a
    have hspot : spot = none := by
      by_cases hi0 : i = 0
      · subst hi0
        have := hat 0 h0
        rw [List.getElem?_eq_getElem (by omega)] at this
        simp only [Nat.zero_mul, Nat.add_zero, Addr.add, if_true] at this
        exact World.cell?_spot this
      · have hl0 : 0 < len := by omega
        obtain ⟨cs0, _, hcl0, hat0⟩ := (key 0 hl0).choose_spec
        have := hat0 0 h0
        rw [List.getElem?_eq_getElem (by omega)] at this
        simp only [Nat.zero_mul, Nat.add_zero, Addr.add, if_true] at this
        exact World.cell?_spot this
    subst hspot
    refine ⟨b, off, rfl, ?_⟩
    have hget : ((List.range len).attach.map fun i => (key i.1 (List.mem_range.1 i.2)).choose)[i]'hi = (key i hi').choose := by simp only [List.getElem_map, List.getElem_attach, List.getElem_range]
    rw [hget]
    refine hlink _ _ cs' _ hV hcl fun j hj => ?_
    have h2 := hat j (by omega)
    rw [List.getElem?_eq_getElem hj] at h2
    rw [plain_add] at h2
    rw [Nat.add_assoc]
    exact h2

theorem len2 {α : Type} : ∀ {cs : List α}, cs.length = 2 → ∃ c0 c1, cs = [c0, c1]
  | [c0, c1], _ => ⟨_, _, rfl⟩
theorem len3 {α : Type} : ∀ {cs : List α}, cs.length = 3 → ∃ c0 c1 c2, cs = [c0, c1, c2]
  | [c0, c1, c2], _ => ⟨_, _, _, rfl⟩
theorem len4 {α : Type} : ∀ {cs : List α}, cs.length = 4 → ∃ c0 c1 c2 c3, cs = [c0, c1, c2, c3]
  | [c0, c1, c2, c3], _ => ⟨_, _, _, _, rfl⟩
theorem struct_field {t : TypeId} {fs : Array Field} {fuel : Nat} {cs : List Value} {x : DataW H × List MemPlace} (ht : Try.prog.underlying t = some (.struct fs)) (h : DataW.trod enc Try.prog w base spare held fuel t cs = some x) (hl : Light t x.1) :
    cs.length = Try.prog.cellsOf t ∧ ∀ (i : Nat) (ft : TypeId) (o : Nat), fs[i]?.map (fun f => (f.type, f.offset)) = some (ft, o) → ∃ n y, DataW.trod enc Try.prog w base spare held n ft ((cs.drop o).take (Try.prog.cellsOf ft)) = some y ∧ Light ft y.1 := by
  obtain ⟨xs, n, rfl, rfl, hcl, hxl, hf⟩ := DataW.trod_struct ht h
  refine ⟨hcl, fun i ft o hio => ?_⟩
  obtain ⟨f, hi, hfo⟩ := Option.map_eq_some_iff.1 hio
  obtain ⟨rfl, rfl⟩ := Prod.mk.inj hfo
  have hlt : i < fs.size := (Array.getElem?_eq_some_iff.1 hi).1
  have h1 := hf i f hi
  rw [List.getElem?_eq_getElem (by omega)] at h1
  refine ⟨n, _, h1, fun m hm => hl m ?_⟩
  simp only [DataW.weights, ht]
  refine DataW.weights_mem_each (j := i) (t := f.type) (d := (xs[i]'(by omega)).1) ?_ ?_ m hm
  · rw [List.getElem?_map]
    have : fs.toList[i]? = some f := by simpa using hi
    rw [this]; rfl
  · rw [List.getElem?_map, List.getElem?_eq_getElem (by omega)]; rfl


theorem cells_int : Try.prog.cellsOf 3 = 1 := by kernel_rfl
theorem cells_str : Try.prog.cellsOf 9 = 1 := by kernel_rfl
theorem cells_ints : Try.prog.cellsOf 30 = 1 := by kernel_rfl
theorem cells_ov : Try.prog.cellsOf 51 = 2 := by kernel_rfl
theorem cells_tn : Try.prog.cellsOf 100 = 2 := by kernel_rfl
theorem cells_art : Try.prog.cellsOf 57 = 3 := by kernel_rfl
theorem cells_mk : Try.prog.cellsOf 53 = 4 := by kernel_rfl
theorem cells_od : Try.prog.cellsOf 55 = 4 := by kernel_rfl
theorem cells_tns : Try.prog.cellsOf 58 = 1 := by kernel_rfl
theorem cells_arts : Try.prog.cellsOf 22 = 1 := by kernel_rfl
theorem cells_ovs : Try.prog.cellsOf 23 = 1 := by kernel_rfl
theorem cells_mks : Try.prog.cellsOf 24 = 1 := by kernel_rfl
theorem cells_trns : Try.prog.cellsOf 25 = 1 := by kernel_rfl
theorem cells_ods : Try.prog.cellsOf 26 = 1 := by kernel_rfl
theorem cells_rows : Try.prog.cellsOf 29 = 1 := by kernel_rfl
def CStr (cs : List Value) (s : ByteArray) : Prop := cs = [.string s] ∧ s.size ≤ 140737488351232
theorem rd_str : Rd enc w base spare held 9 CStr := fun fuel cs x h hl => by
  obtain ⟨s, rfl, rfl, hw⟩ := DataW.trod_string Try.underlying9 h
  refine ⟨s, rfl, ?_⟩
  have := hl s.data.toList.length (by simp [DataW.weights])
  simpa using this
theorem rd_ints : Rd enc w base spare held 30 fun cs l => ∃ v, cs = [v] ∧ RInts w v l :=
  rd_slice Try.underlying30 cells_int (by decide) (by rw [show Try.prog.bytesOf 3 = 8 from by kernel_rfl]; decide) rd_int fun b o cs a ⟨h1, h2⟩ _ hc => by
    subst h1
    exact ⟨by simpa using hc 0 (by simp), h2⟩
def CSp (cs : List Value) (s : Sp) : Prop := cs = [.int .i64 s.lo, .int .i64 s.hi] ∧ I64 s.lo ∧ I64 s.hi
theorem rd_ov : Rd enc w base spare held 51 CSp := fun fuel cs x h hl => by
  obtain ⟨hc, hf⟩ := struct_field Try.underlying51 h hl
  rw [cells_ov] at hc
  obtain ⟨c0, c1, rfl⟩ := len2 hc
  obtain ⟨n0, y0, h0, l0⟩ := hf 0 3 0 rfl
  obtain ⟨n1, y1, h1, l1⟩ := hf 1 3 1 rfl
  simp only [cells_int, List.drop_zero, List.drop_succ_cons, List.take_succ_cons, List.take_zero] at h0 h1
  obtain ⟨a, e0, i0⟩ := rd_int _ _ _ h0 l0
  obtain ⟨b, e1, i1⟩ := rd_int _ _ _ h1 l1
  simp only [List.cons.injEq, and_true] at e0 e1
  subst e0 e1
  exact ⟨⟨a, b⟩, rfl, i0, i1⟩
theorem rd_ovs : Rd enc w base spare held 23 fun cs l => ∃ v, cs = [v] ∧ RSps w v l :=
  rd_slice Try.underlying23 cells_ov (by decide) (by rw [show Try.prog.bytesOf 51 = 16 from by kernel_rfl]; decide) rd_ov fun b o cs a ⟨h1, h2, h3⟩ _ hc => by
    subst h1
    exact ⟨by simpa using hc 0 (by simp), by simpa using hc 1 (by simp), h2, h3⟩
theorem rd_tn : Rd enc w base spare held 100 CSp := fun fuel cs x h hl => by
  obtain ⟨hc, hf⟩ := struct_field Try.underlying100 h hl
  rw [cells_tn] at hc
  obtain ⟨c0, c1, rfl⟩ := len2 hc
  obtain ⟨n0, y0, h0, l0⟩ := hf 0 3 0 rfl
  obtain ⟨n1, y1, h1, l1⟩ := hf 1 3 1 rfl
  simp only [cells_int, List.drop_zero, List.drop_succ_cons, List.take_succ_cons, List.take_zero] at h0 h1
  obtain ⟨a, e0, i0⟩ := rd_int _ _ _ h0 l0
  obtain ⟨b, e1, i1⟩ := rd_int _ _ _ h1 l1
  simp only [List.cons.injEq, and_true] at e0 e1
  subst e0 e1
  exact ⟨⟨a, b⟩, rfl, i0, i1⟩
theorem rd_tns : Rd enc w base spare held 58 fun cs l => ∃ v, cs = [v] ∧ RSps w v l :=
  rd_slice Try.underlying58 cells_tn (by decide) (by rw [show Try.prog.bytesOf 100 = 16 from by kernel_rfl]; decide) rd_tn fun b o cs a ⟨h1, h2, h3⟩ _ hc => by
    subst h1
    exact ⟨by simpa using hc 0 (by simp), by simpa using hc 1 (by simp), h2, h3⟩
def CArt (w : World) (cs : List Value) (x : Art) : Prop := cs = [.string x.name, .int .i64 x.col, .int .i64 x.wt] ∧ (x.name.size ≤ 140737488351232 ∧ I64 x.col ∧ I64 x.wt)
theorem rd_art : Rd enc w base spare held 57 (CArt w) := fun fuel cs x h hl => by
  obtain ⟨hc, hf⟩ := struct_field Try.underlying57 h hl
  rw [cells_art] at hc
  obtain ⟨c0, c1, c2, rfl⟩ := len3 hc
  obtain ⟨n0, y0, h0, l0⟩ := hf 0 9 0 rfl
  obtain ⟨n1, y1, h1, l1⟩ := hf 1 3 1 rfl
  obtain ⟨n2, y2, h2, l2⟩ := hf 2 3 2 rfl
  simp only [cells_int, cells_str, cells_ints, List.drop_zero, List.drop_succ_cons, List.take_succ_cons, List.take_zero] at h0 h1 h2
  obtain ⟨a0, e0, i0⟩ := rd_str _ _ _ h0 l0
  obtain ⟨a1, e1, i1⟩ := rd_int _ _ _ h1 l1
  obtain ⟨a2, e2, i2⟩ := rd_int _ _ _ h2 l2
  simp only [List.cons.injEq, and_true] at e0 e1 e2
  subst e0 e1 e2
  exact ⟨⟨a0, a1, a2⟩, rfl, ⟨i0, i1, i2⟩⟩
theorem rd_arts : Rd enc w base spare held 22 fun cs l => ∃ v, cs = [v] ∧ RArts w v l :=
  rd_slice Try.underlying22 cells_art (by decide) (by rw [show Try.prog.bytesOf 57 = 32 from by kernel_rfl]; decide) rd_art fun b o cs a ⟨h1, h2⟩ _ hc => by
    subst h1
    exact ⟨⟨by simpa using hc 0 (by simp), by simpa using hc 1 (by simp), by simpa using hc 2 (by simp)⟩, h2⟩
def CMk (w : World) (cs : List Value) (x : Mk) : Prop := ∃ v1, cs = [.int .i64 x.oven, v1, .int .i64 x.idle, .int .i64 x.start] ∧ (I64 x.oven ∧ RInts w v1 x.rates ∧ I64 x.idle ∧ I64 x.start)
theorem rd_mk : Rd enc w base spare held 53 (CMk w) := fun fuel cs x h hl => by
  obtain ⟨hc, hf⟩ := struct_field Try.underlying53 h hl
  rw [cells_mk] at hc
  obtain ⟨c0, c1, c2, c3, rfl⟩ := len4 hc
  obtain ⟨n0, y0, h0, l0⟩ := hf 0 3 0 rfl
  obtain ⟨n1, y1, h1, l1⟩ := hf 1 30 1 rfl
  obtain ⟨n2, y2, h2, l2⟩ := hf 2 3 2 rfl
  obtain ⟨n3, y3, h3, l3⟩ := hf 3 3 3 rfl
  simp only [cells_int, cells_str, cells_ints, List.drop_zero, List.drop_succ_cons, List.take_succ_cons, List.take_zero] at h0 h1 h2 h3
  obtain ⟨a0, e0, i0⟩ := rd_int _ _ _ h0 l0
  obtain ⟨a1, v1, e1, i1⟩ := rd_ints _ _ _ h1 l1
  obtain ⟨a2, e2, i2⟩ := rd_int _ _ _ h2 l2
  obtain ⟨a3, e3, i3⟩ := rd_int _ _ _ h3 l3
  simp only [List.cons.injEq, and_true] at e0 e1 e2 e3
  subst e0 e1 e2 e3
  exact ⟨⟨a0, a1, a2, a3⟩, _, rfl, ⟨i0, i1, i2, i3⟩⟩
theorem rd_mks : Rd enc w base spare held 24 fun cs l => ∃ v, cs = [v] ∧ RMks w v l :=
  rd_slice Try.underlying24 cells_mk (by decide) (by rw [show Try.prog.bytesOf 53 = 48 from by kernel_rfl]; decide) rd_mk fun b o cs a ⟨v1, h1, h2⟩ _ hc => by
    subst h1
    exact ⟨v1, ⟨by simpa using hc 0 (by simp), by simpa using hc 1 (by simp), by simpa using hc 2 (by simp), by simpa using hc 3 (by simp)⟩, h2⟩
def COd (w : World) (cs : List Value) (x : Od) : Prop := cs = [.int .i64 x.art, .int .i64 x.qty, .int .i64 x.due, .int .i64 x.pen] ∧ (I64 x.art ∧ I64 x.qty ∧ I64 x.due ∧ I64 x.pen)
theorem rd_od : Rd enc w base spare held 55 (COd w) := fun fuel cs x h hl => by
  obtain ⟨hc, hf⟩ := struct_field Try.underlying55 h hl
  rw [cells_od] at hc
  obtain ⟨c0, c1, c2, c3, rfl⟩ := len4 hc
  obtain ⟨n0, y0, h0, l0⟩ := hf 0 3 0 rfl
  obtain ⟨n1, y1, h1, l1⟩ := hf 1 3 1 rfl
  obtain ⟨n2, y2, h2, l2⟩ := hf 2 3 2 rfl
  obtain ⟨n3, y3, h3, l3⟩ := hf 3 3 3 rfl
  simp only [cells_int, cells_str, cells_ints, List.drop_zero, List.drop_succ_cons, List.take_succ_cons, List.take_zero] at h0 h1 h2 h3
  obtain ⟨a0, e0, i0⟩ := rd_int _ _ _ h0 l0
  obtain ⟨a1, e1, i1⟩ := rd_int _ _ _ h1 l1
  obtain ⟨a2, e2, i2⟩ := rd_int _ _ _ h2 l2
  obtain ⟨a3, e3, i3⟩ := rd_int _ _ _ h3 l3
  simp only [List.cons.injEq, and_true] at e0 e1 e2 e3
  subst e0 e1 e2 e3
  exact ⟨⟨a0, a1, a2, a3⟩, rfl, ⟨i0, i1, i2, i3⟩⟩
theorem rd_ods : Rd enc w base spare held 26 fun cs l => ∃ v, cs = [v] ∧ ROds w v l :=
  rd_slice Try.underlying26 cells_od (by decide) (by rw [show Try.prog.bytesOf 55 = 32 from by kernel_rfl]; decide) rd_od fun b o cs a ⟨h1, h2⟩ _ hc => by
    subst h1
    exact ⟨⟨by simpa using hc 0 (by simp), by simpa using hc 1 (by simp), by simpa using hc 2 (by simp), by simpa using hc 3 (by simp)⟩, h2⟩
theorem rd_trns : Rd enc w base spare held 25 fun cs l => ∃ v, cs = [v] ∧ RTrns w v l :=
  rd_slice Try.underlying25 cells_tns (by decide) (by rw [show Try.prog.bytesOf 58 = 24 from by kernel_rfl]; decide) rd_tns fun b o cs a ⟨v, h1, h2⟩ _ hc => by
    subst h1
    exact ⟨v, by simpa using hc 0 (by simp), h2⟩
theorem rd_rows : Rd enc w base spare held 29 fun cs l => ∃ v, cs = [v] ∧ RRows w v l :=
  rd_slice Try.underlying29 cells_ints (by decide) (by rw [show Try.prog.bytesOf 30 = 24 from by kernel_rfl]; decide) rd_ints fun b o cs a ⟨v, h1, h2⟩ _ hc => by
    subst h1
    exact ⟨v, by simpa using hc 0 (by simp), h2⟩
theorem len7 {α : Type} : ∀ {cs : List α}, cs.length = 7 → ∃ c0 c1 c2 c3 c4 c5 c6, cs = [c0, c1, c2, c3, c4, c5, c6]
  | [c0, c1, c2, c3, c4, c5, c6], _ => ⟨_, _, _, _, _, _, _, rfl⟩
theorem cells_season : Try.prog.cellsOf 28 = 7 := by kernel_rfl
theorem cells_ask8 : Try.prog.cellsOf 32 = 4 := by kernel_rfl
theorem rd_season : Rd enc w base spare held 28 fun cs s => ∃ v1 v2 v3 v4 v5 v6, cs = [.int .i64 s.days, v1, v2, v3, v4, v5, v6] ∧ SnC w s v1 v2 v3 v4 v5 v6 := fun fuel cs x h hl => by
  obtain ⟨hc, hf⟩ := struct_field Try.underlying28 h hl
  rw [cells_season] at hc
  obtain ⟨c0, c1, c2, c3, c4, c5, c6, rfl⟩ := len7 hc
  obtain ⟨n0, y0, h0, l0⟩ := hf 0 3 0 rfl
  obtain ⟨n1, y1, h1, l1⟩ := hf 1 22 1 rfl
  obtain ⟨n2, y2, h2, l2⟩ := hf 2 23 2 rfl
  obtain ⟨n3, y3, h3, l3⟩ := hf 3 24 3 rfl
  obtain ⟨n4, y4, h4, l4⟩ := hf 4 25 4 rfl
  obtain ⟨n5, y5, h5, l5⟩ := hf 5 25 5 rfl
  obtain ⟨n6, y6, h6, l6⟩ := hf 6 26 6 rfl
  simp only [cells_int, cells_arts, cells_ovs, cells_mks, cells_trns, cells_ods, List.drop_zero, List.drop_succ_cons, List.take_succ_cons, List.take_zero] at h0 h1 h2 h3 h4 h5 h6
  obtain ⟨a0, e0, i0⟩ := rd_int _ _ _ h0 l0
  obtain ⟨a1, v1, e1, i1⟩ := rd_arts _ _ _ h1 l1
  obtain ⟨a2, v2, e2, i2⟩ := rd_ovs _ _ _ h2 l2
  obtain ⟨a3, v3, e3, i3⟩ := rd_mks _ _ _ h3 l3
  obtain ⟨a4, v4, e4, i4⟩ := rd_trns _ _ _ h4 l4
  obtain ⟨a5, v5, e5, i5⟩ := rd_trns _ _ _ h5 l5
  obtain ⟨a6, v6, e6, i6⟩ := rd_ods _ _ _ h6 l6
  simp only [List.cons.injEq, and_true] at e0 e1 e2 e3 e4 e5 e6
  subst e0 e1 e2 e3 e4 e5 e6
  exact ⟨⟨a0, a1, a2, a3, a4, a5, a6⟩, _, _, _, _, _, _, rfl, i1, i2, i3, i4, i5, i6, i0⟩
theorem rd_ask8 : Rd enc w base spare held 32 fun cs x => ∃ v0 v1 v3, cs = [v0, v1, .int .i64 x.oven, v3] ∧ AskC w x v0 v1 v3 := fun fuel cs x h hl => by
  obtain ⟨hc, hf⟩ := struct_field Try.underlying32 h hl
  rw [cells_ask8] at hc
  obtain ⟨c0, c1, c2, c3, rfl⟩ := len4 hc
  obtain ⟨n0, y0, h0, l0⟩ := hf 0 29 0 rfl
  obtain ⟨n1, y1, h1, l1⟩ := hf 1 29 1 rfl
  obtain ⟨n2, y2, h2, l2⟩ := hf 2 3 2 rfl
  obtain ⟨n3, y3, h3, l3⟩ := hf 3 30 3 rfl
  simp only [cells_int, cells_rows, cells_ints, List.drop_zero, List.drop_succ_cons, List.take_succ_cons, List.take_zero] at h0 h1 h2 h3
  obtain ⟨a0, v0, e0, i0⟩ := rd_rows _ _ _ h0 l0
  obtain ⟨a1, v1, e1, i1⟩ := rd_rows _ _ _ h1 l1
  obtain ⟨a2, e2, i2⟩ := rd_int _ _ _ h2 l2
  obtain ⟨a3, v3, e3, i3⟩ := rd_ints _ _ _ h3 l3
  simp only [List.cons.injEq, and_true] at e0 e1 e2 e3
  subst e0 e1 e2 e3
  exact ⟨⟨a0, a1, a2, a3⟩, _, _, _, rfl, i0, i1, i3, i2⟩
end
end Go.Proofs.Ytdffhkbncencgaa
