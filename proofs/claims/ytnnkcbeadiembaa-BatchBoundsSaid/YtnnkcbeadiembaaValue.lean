/- The span of a form over all glasses; no statement is proved here. -/
import Derived.Test.YtnnkcbeadiembaaMean2
namespace Go.Proofs.Ytnnkcbeadiembaa
open Go.RowKit Go.PlainAid
set_option linter.unusedVariables false

def negB (c : List Int) : List Int := c.map fun x => -x
def valueB (c : List Int) (g : List Sp) : Sp := ⟨-(gmB (negB c) g), gmB c g⟩

theorem neg_ok {c : List Int} {g : List Sp} (h : MeanOk c g) : MeanOk (negB c) g := by
  refine ⟨by simp [negB, h.len], by simpa [negB] using h.n, ?_, h.hg, h.pos⟩
  intro x hx
  obtain ⟨y, hy, rfl⟩ := List.mem_map.1 hx
  have := h.hc y hy
  omega

theorem foldl_max_bd (lo hi : Int) : ∀ (l : List Int) (a : Int), lo ≤ a ∧ a ≤ hi → (∀ x ∈ l, lo ≤ x ∧ x ≤ hi) → lo ≤ l.foldl max a ∧ l.foldl max a ≤ hi := by
  intro l
  induction l with
  | nil => intro a h _; exact h
  | cons x l ih =>
    intro a h hl
    have := hl x List.mem_cons_self
    exact ih _ (by omega) fun y hy => hl y (List.mem_cons_of_mem _ hy)

theorem gm_bd {c : List Int} {g : List Sp} (h : MeanOk c g) : -200000000000000 ≤ gmB c g ∧ gmB c g ≤ 200000000000000 := by
  have hm : ∀ x ∈ meansB c g, -200000000000000 ≤ x ∧ x ≤ 200000000000000 := by
    intro x hx
    obtain ⟨t, _, rfl⟩ := List.mem_map.1 hx
    exact mean_I64 h t
  unfold gmB maxB
  refine foldl_max_bd _ _ _ _ ?_ hm
  have hl : 0 < (meansB c g).length := by have := h.n; simp [meansB]; omega
  rw [show (meansB c g).getD 0 0 = (meansB c g)[0] from by simp [List.getD, List.getElem?_eq_getElem hl]]
  exact hm _ (List.getElem_mem hl)

def RetSp (w : World) (s : Sp) (e : Ending) (w' : World) : Prop := e = .returned (.agg #[.int .i64 s.lo, .int .i64 s.hi]) ∧ Below w.heap.size w w'

set_option maxRecDepth 100000 in
theorem value_any (vc vg : Value) (c : List Int) (g : List Sp) (w : World) (hc : RInts w vc c) (hg : RSps w vg g) (hk : MeanOk c g) :
    Calls Try.prog 49 #[vc, vg] w (RetSp w (valueB c g)) := by
  obtain ⟨ac, kc, rfl, -, ⟨-, lc⟩, hcl⟩ := id hc
  obtain ⟨i0, hi, hz0, hz1, hz2⟩ := info_parts info_int
  have hn := hk.n
  have hA0 := below_box w (.cells #[.int .i64 0, .int .i64 0] 27)
  have hB0 := Blk.new w #[.int .i64 0, .int .i64 0] 27
  go_enter Try.func49, Try.ntmps49
  go_wp2_with (at_make; refine wpList_make_full _ rfl _ _ _ rfl (w.heap.size + 1) 3 i0 (.int .i64 0) 1 Try.underlying30 hi hz0 hz1 .i64 .i64 _ _ c.length rfl rfl rfl rfl ?_ ?_ ?_ ?_)
  · rw [hz2]; omega
  · unfold maxLen; omega
  · simp
  intro W1 hown hgrow
  have hA1 := hA0.grown hgrow (by simp) (by intro k hk; cases hk)
  have hC1 : Below (w.heap.size + 1) _ W1 := Below.grown (Below.refl _ _) hgrow (by simp) (by intro k hk; cases hk)
  have hB1 := hB0.below hC1 (by omega)
  have hlt1 : w.heap.size + 1 < W1.heap.size := own_lt hown _ rfl
  rw [toList_madeCells_one, show List.replicate c.length (Value.int .i64 0) = (List.replicate c.length (0 : Int)).map (Value.int .i64) from by simp] at hown
  clear hA0 hgrow hC1 hB0
  go_wp2
  go_loopw [13] (fun i wr => ∃ (k : Nat) (ys : List Int), k ≤ c.length ∧ i = .int .i64 k ∧ Hid (ys.length = c.length ∧ ∀ j, j < k → ys.getD j 0 = (negB c).getD j 0) ∧ wr.ownsRow (w.heap.size + 1) 3 1 (.slice (some ⟨w.heap.size + 1, 0, none⟩) c.length c.length) c.length (ys.map (Value.int .i64)) ∧ Below (w.heap.size + 1) W1 wr) (fun i _ => c.length - (intOf i).toNat)
  case atStart => exact ⟨0, List.replicate c.length 0, Nat.zero_le _, rfl, ⟨by simp, by intro j hj; omega⟩, hown, Below.refl _ _⟩
  case round =>
    clear hown
    obtain ⟨k, ys, hkk, rfl, hx, hown, hb⟩ := hrel
    have hfinB := hA1.trans (hb.mono (by omega))
    by_cases hlt : k < c.length
    · obtain ⟨b1, o1, rfl, q1, -⟩ := hcl k hlt
      simp only [Nat.mul_one] at q1
      have hxk := hk.hc _ (List.getElem_mem hlt)
      have hng : (negB c).getD k 0 = -(c[k]'hlt) := by simp [negB, List.getD, List.getElem?_eq_getElem hlt]
      have hst : ∀ x, x = -(c[k]'hlt) → (ys.set k x).length = c.length ∧ ∀ j, j < k + 1 → (ys.set k x).getD j 0 = (negB c).getD j 0 := by
        intro x hxx
        refine ⟨by simpa using hx.out.1, fun j hj => ?_⟩
        by_cases hjk : j = k
        · subst hjk
          rw [hng, ← hxx]
          simp [List.getD, hx.out.1, hlt]
        · have h1 := hx.out.2 j (by omega)
          rw [← h1]
          simp only [List.getD]
          rw [List.getElem?_set_ne (by omega)]
      have HST := Lib.hid hst
      have e1 := hown.cellAt k (by omega)
      rw [List.getElem?_map, List.getElem?_eq_getElem (by rw [hx.out.1]; exact hlt), Option.map_some] at e1
      have e2 := hown.frozenAt k
      have hbl := cell_lt q1
      simp only at hbl
      obtain ⟨hcc, hzz⟩ := bcell hfinB
      clear hst hng hcl hc
      generalize c[k] = x at *
      have hown2 := (hown.stored k (.int .i64 (-x))).1
      rw [← List.map_set] at hown2
      have hb2 := hb.setCell (p := ⟨w.heap.size + 1, k, none⟩) (by simp) (.int .i64 (-x))
      clear hown hfinB hb
      go_wp2
      go_roundw
      case rel => exact ⟨k + 1, _, by omega, by go_num, HST.out _ rfl, hown2, hb2⟩
      case measure => simp [intOf]; omega
    · have hfin := ext_upto (negB c) ys (by rw [hx.out.1]; simp [negB]) (fun j hj => hx.out.2 j (by simp [negB] at hj; omega))
      subst hfin
      have hRI := own_RInts (l := negB c) (by unfold negB; rw [List.length_map]; exact hown) (by unfold negB; rw [List.length_map]; exact lc) (by intro x hx; obtain ⟨m, hm, rfl⟩ := List.mem_map.1 hx; have := hk.hc m hm; unfold I64; omega)
      have hg1 := greatestMean_any _ vg (negB c) g wr hRI (hg.mono (ext_of_below hfinB)) (neg_ok hk)
      have hBr := hB1.below hb (by omega)
      have hgb1 := gm_bd (neg_ok hk)
      clear hx hown hRI hcl hb hA1 hB1
      go_wp2_with fail
      refine hg1.mono ?_
      rintro e w2 ⟨rfl, hb2⟩
      have hA2 := hfinB.trans (hb2.mono hfinB.size)
      have hB2 := hBr.below hb2 hBr.lt
      have hg2 := greatestMean_any _ vg c g w2 (hc.mono (ext_of_below hA2)) (hg.mono (ext_of_below hA2)) hk
      clear hg1 hb2 hfinB hBr
      go_wp2_with fail
      refine hg2.mono ?_
      rintro e w3 ⟨rfl, hb3⟩
      have hA3 := hA2.trans (hb3.mono hA2.size)
      have hB3 := hB2.below hb3 hB2.lt
      have z0 : w3.cell? ⟨w.heap.size, 0, none⟩ = some (.int .i64 0) := hB3.cell 0 _ rfl
      have z1 : w3.cell? ⟨w.heap.size, 1, none⟩ = some (.int .i64 0) := hB3.cell 1 _ rfl
      have f0 := hB3.frozen 0
      have f1 := hB3.frozen 1
      clear hg2 hb3 hA2 hB2 hc hg
      go_wp2
      have B3 := (hB3.set 0 (.int .i64 (-(gmB (negB c) g)))).set 1 (.int .i64 (gmB c g))
      have d0 := B3.cell 0 (.int .i64 (-(gmB (negB c) g))) rfl
      have d1 := B3.cell 1 (.int .i64 (gmB c g)) rfl
      exact bodyPost_ret (v := .agg #[.int .i64 (-(gmB (negB c) g)), .int .i64 (gmB c g)]) (by simp only [results, Try.results49]; simp [go_sem, d0, d1]) rfl ⟨rfl, (hA3.setCell (p := ⟨w.heap.size, 0, none⟩) (by simp) _).setCell (p := ⟨w.heap.size, 1, none⟩) (by simp) _⟩

end Go.Proofs.Ytnnkcbeadiembaa
