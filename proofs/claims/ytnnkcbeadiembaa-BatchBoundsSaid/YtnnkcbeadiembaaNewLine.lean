/- A line of factors; no statement is proved here. -/
import Derived.Test.YtnnkcbeadiembaaOwn
namespace Go.Proofs.Ytnnkcbeadiembaa
open Go.RowKit Go.PlainAid
set_option linter.unusedVariables false

/-- what a call of a closure gives of the elements of a list that reads in w. -/
def Gives {α : Type} (f : Nat) (first cap : Array Value) (V : World → Value → α → Prop) (w : World) (l : List α) (g : α → Int) : Prop :=
  ∀ x v w1, x ∈ l → V w v x → Below w.heap.size w w1 → Calls Try.prog f (first ++ #[v] ++ cap) w1 fun e w2 => e = .returned (.int .i64 (g x)) ∧ Below w1.heap.size w1 w2

def RetLine (w : World) (l : List Int) (n : Int) (e : Ending) (w' : World) : Prop := ∃ c, e = .returned (.agg #[c, .int .i64 n]) ∧ RInts (vis (w.heap.size ≤ ·) w') c l ∧ Below w.heap.size w w'

theorem set_upto (l : List Mat) (g : Mat → Int) (ys : List Int) (k : Nat) (hk : k < l.length) (hl : ys.length = l.length) (h : ∀ j, j < k → ys.getD j 0 = (l.map g).getD j 0) (x : Int) (hx : x = g l[k]) :
    (ys.set k x).length = l.length ∧ ∀ j, j < k + 1 → (ys.set k x).getD j 0 = (l.map g).getD j 0 := by
  refine ⟨by simpa using hl, fun j hj => ?_⟩
  by_cases hjk : j = k
  · subst hjk
    simp [List.getD, hl, hk, hx]
  · have h1 := h j (by omega)
    simp only [List.getD] at h1 ⊢
    rw [List.getElem?_set_ne (by omega)]
    exact h1

theorem ext_upto (l : List Int) (ys : List Int) (hl : ys.length = l.length) (h : ∀ j, j < l.length → ys.getD j 0 = l.getD j 0) : ys = l := by
  apply List.ext_getElem hl
  intro j h1 h2
  have := h j h2
  simp [List.getD, List.getElem?_eq_getElem h1, List.getElem?_eq_getElem h2] at this
  exact this

set_option maxRecDepth 100000 in
theorem newLine_any (vb : Value) (b : Bat) (f : Nat) (first cap : Array Value) (g : Mat → Int) (bound : Int) (w : World) (h : RBat w vb b) (hF : IsFn f) (hf : Gives f first cap VMat w b.mats g) (hg : ∀ m ∈ b.mats, I64 (g m)) (hn : b.mats.length ≤ 1000000) :
    Calls Try.prog 91 #[vb, .func (.func f) first cap, .int .i64 bound] w (RetLine w (b.mats.map g) bound) := by
  obtain ⟨v0, v1, v2, v3, rfl, h0, h1, h2, h3, i1, i2, i3⟩ := h
  obtain ⟨a0, k0, rfl, -, ⟨-, l0⟩, -⟩ := h0
  obtain ⟨a1, k1, rfl, l1c, ⟨l1c', l1⟩, hl⟩ := id h1
  obtain ⟨a2, k2, rfl, -, ⟨-, l2⟩, -⟩ := h2
  obtain ⟨a3, k3, rfl, -, ⟨-, l3⟩, -⟩ := h3
  obtain ⟨i0, hi, hz0, hz1, hz2⟩ := info_parts info_int
  have hA0 : Below w.heap.size w ((w.alloc (.cells #[.slice a0 b.oxides.length k0, .slice a1 b.mats.length k1, .slice a2 b.shares.length k2, .slice a3 b.props.length k3, .int .i64 b.redox.lo, .int .i64 b.redox.hi, .int .i64 b.wanted] 29)).alloc (.cells #[.slice none 0 0, .int .i64 0] 88)) := by go_grown
  obtain ⟨hB1, hB2⟩ : Blk ((w.alloc (.cells #[.slice a0 b.oxides.length k0, .slice a1 b.mats.length k1, .slice a2 b.shares.length k2, .slice a3 b.props.length k3, .int .i64 b.redox.lo, .int .i64 b.redox.hi, .int .i64 b.wanted] 29)).alloc (.cells #[.slice none 0 0, .int .i64 0] 88)) w.heap.size #[.slice a0 b.oxides.length k0, .slice a1 b.mats.length k1, .slice a2 b.shares.length k2, .slice a3 b.props.length k3, .int .i64 b.redox.lo, .int .i64 b.redox.hi, .int .i64 b.wanted] 29 ∧
      Blk ((w.alloc (.cells #[.slice a0 b.oxides.length k0, .slice a1 b.mats.length k1, .slice a2 b.shares.length k2, .slice a3 b.props.length k3, .int .i64 b.redox.lo, .int .i64 b.redox.hi, .int .i64 b.wanted] 29)).alloc (.cells #[.slice none 0 0, .int .i64 0] 88)) (w.heap.size + 1) #[.slice none 0 0, .int .i64 0] 88 := by
    refine ⟨(Blk.new w _ _).alloc _, ?_⟩
    have := Blk.new (w.alloc (.cells #[.slice a0 b.oxides.length k0, .slice a1 b.mats.length k1, .slice a2 b.shares.length k2, .slice a3 b.props.length k3, .int .i64 b.redox.lo, .int .i64 b.redox.hi, .int .i64 b.wanted] 29)) #[.slice none 0 0, .int .i64 0] 88
    simpa using this
  go_enter Try.func91, Try.ntmps91
  go_wp2_with (at_make; refine wpList_make_full _ rfl _ _ _ rfl (w.heap.size + 2) 3 i0 (.int .i64 0) 1 Try.underlying30 hi hz0 hz1 .i64 .i64 _ _ b.mats.length rfl rfl rfl rfl ?_ ?_ ?_ ?_)
  · rw [hz2]; omega
  · unfold maxLen; omega
  · simp
  intro W1 hown hgrow
  have hA1 := hA0.grown hgrow (by simp; omega) (by intro k hk; cases hk)
  have hC1 : Below (w.heap.size + 1 + 1) _ W1 := Below.grown (Below.refl _ _) hgrow (by simp) (by intro k hk; cases hk)
  have hB1' := hB1.below hC1 (by omega)
  have hB2' := hB2.below hC1 (by omega)
  have hlt1 : w.heap.size + 1 + 1 < W1.heap.size := own_lt hown _ rfl
  rw [toList_madeCells_one, show List.replicate b.mats.length (Value.int .i64 0) = (List.replicate b.mats.length (0 : Int)).map (Value.int .i64) from by simp] at hown
  have hsz0 : w.heap.size ≤ W1.heap.size := by omega
  have m1 : W1.cell? ⟨w.heap.size, 1, none⟩ = some (.slice a1 b.mats.length k1) := hB1'.cell 1 _ rfl
  clear hA0 hgrow hC1 hB1 hB2
  go_wp2
  go_loopw [17] (fun i wr => ∃ (k : Nat) (ys : List Int), k ≤ b.mats.length ∧ i = .int .i64 k ∧ Hid (ys.length = b.mats.length ∧ ∀ j, j < k → ys.getD j 0 = (b.mats.map g).getD j 0) ∧ wr.ownsRow (w.heap.size + 2) 3 1 (.slice (some ⟨w.heap.size + 1 + 1, 0, none⟩) b.mats.length b.mats.length) b.mats.length (ys.map (Value.int .i64)) ∧ Below (w.heap.size + 2) W1 wr) (fun i _ => b.mats.length - (intOf i).toNat)
  case atStart => exact ⟨0, List.replicate b.mats.length 0, Nat.zero_le _, rfl, ⟨by simp, by intro j hj; omega⟩, hown, Below.refl _ _⟩
  case round =>
    obtain ⟨k, ys, hk, rfl, hx, hown, hb⟩ := hrel
    have hfinB := hA1.trans (hb.mono (by omega))
    by_cases hlt : k < b.mats.length
    · obtain ⟨b1, o1, rfl, c, ⟨g0, g1, g2, g3, g4, g5, g6⟩, hc, hs⟩ := hl k hlt
      obtain ⟨ac, kc, rfl, -, -, -⟩ := id hc
      have hbl := cell_lt g0
      simp only at g0 g1 g2 g3 g4 g5 g6 hbl
      have hV : VMat w (.agg #[.string b.mats[k].name, .int .i64 b.mats[k].price, .int .i64 b.mats[k].redox, .int .i64 b.mats[k].least, .int .i64 b.mats[k].most, .int .i64 b.mats[k].step, .slice ac b.mats[k].content.length kc]) b.mats[k] := ⟨_, rfl, hc, hs⟩
      have hf' := fun w1 => hf b.mats[k] _ w1 (List.getElem_mem hlt) hV
      have hgk := hg b.mats[k] (List.getElem_mem hlt)
      have hst := Lib.hid (fun x hx' => set_upto b.mats g ys k hlt hx.out.1 hx.out.2 x hx')
      obtain ⟨hcc, hzz⟩ := bcell hfinB
      have hlr : w.heap.size + 1 + 1 < wr.heap.size := own_lt hown _ rfl
      clear hl hf hg hV hc hs
      generalize b.mats[k] = s at *
      unfold IsFn at hF
      go_wp2_with fail
      have hAm := below_box wr (.cells #[.string s.name, .int .i64 s.price, .int .i64 s.redox, .int .i64 s.least, .int .i64 s.most, .int .i64 s.step, .slice ac s.content.length kc] 58)
      refine (hf' _ (hfinB.trans (hAm.mono hfinB.size))).mono ?_
      rintro e w1 ⟨rfl, hb1⟩
      have hW1 := hAm.trans (hb1.mono (by simp))
      have hown1 := own_below hown hW1 (fun g hg => own_lt hown g hg)
      have hfin1 := hb.trans (hW1.mono (by omega))
      have e1 := hown1.cellAt k (by omega)
      rw [List.getElem?_map, List.getElem?_eq_getElem (by rw [hx.out.1]; exact hlt), Option.map_some] at e1
      have e2 := hown1.frozenAt k
      have hown2 := (hown1.stored k (.int .i64 (g s))).1
      rw [← List.map_set] at hown2
      have hfin2 := hfin1.setCell (p := ⟨w.heap.size + 1 + 1, k, none⟩) (by simp) (.int .i64 (g s))
      clear hcc hzz hb1 hAm hW1 hfin1 hown hown1 hfinB hb hf'
      go_wp2
      go_roundw
      case rel => exact ⟨k + 1, ys.set k (g s), by omega, by go_num, hst.out _ rfl, hown2, hfin2⟩
      case measure => simp [intOf]; omega
    · have hfin := ext_upto (b.mats.map g) ys (by rw [hx.out.1]; simp) (fun j hj => hx.out.2 j (by simp at hj; omega))
      subst hfin
      have hownF := ownsRow_setCell_below (ownsRow_setCell_below hown (a := ⟨w.heap.size + 1, 0, none⟩) (by simp) (.slice (some ⟨w.heap.size + 1 + 1, 0, none⟩) b.mats.length b.mats.length)) (a := ⟨w.heap.size + 1, 1, none⟩) (by simp) (.int .i64 bound)
      have hRI := own_RInts (l := b.mats.map g) (by rw [List.length_map]; exact own_vis (S := (w.heap.size ≤ ·)) hownF (by intro g hg; simp [Value.ownBlock] at hg; omega)) (by rw [List.length_map]; exact l1) (by intro x hx; obtain ⟨m, hm, rfl⟩ := List.mem_map.1 hx; exact hg m hm)
      have B2 := hB2'.below hb (by omega)
      have c0 : wr.cell? ⟨w.heap.size + 1, 0, none⟩ = some (.slice none 0 0) := B2.cell 0 _ rfl
      have c1 : wr.cell? ⟨w.heap.size + 1, 1, none⟩ = some (.int .i64 0) := B2.cell 1 _ rfl
      have f0 := B2.frozen 0
      have f1 := B2.frozen 1
      have HX := Lib.hid hx
      clear hx hl hf hg hown hownF hb hA1
      go_wp2
      have B3 := (B2.set 0 (.slice (some ⟨w.heap.size + 1 + 1, 0, none⟩) b.mats.length b.mats.length)).set 1 (.int .i64 bound)
      have d0 := B3.cell 0 (.slice (some ⟨w.heap.size + 1 + 1, 0, none⟩) b.mats.length b.mats.length) rfl
      have d1 := B3.cell 1 (.int .i64 bound) rfl
      refine bodyPost_ret (v := .agg #[.slice (some ⟨w.heap.size + 1 + 1, 0, none⟩) b.mats.length b.mats.length, .int .i64 bound]) (by simp only [results, Try.results91]; simp [go_sem, d0, d1]) rfl ⟨_, rfl, hRI, (hfinB.setCell (p := ⟨w.heap.size + 1, 0, none⟩) (by simp) _).setCell (p := ⟨w.heap.size + 1, 1, none⟩) (by simp) _⟩

end Go.Proofs.Ytnnkcbeadiembaa
