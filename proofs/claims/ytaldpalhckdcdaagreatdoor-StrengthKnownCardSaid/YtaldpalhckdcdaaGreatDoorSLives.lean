/- The example of layer 5's statements; no statement is proved here. -/
import Derived.Test.YtaldpalhckdcdaaGreatDoorSSame
namespace Go.Proofs.YtaldpalhckdcdaaGreatDoor
open Go.RowKit Go.PlainAid
set_option linter.unusedVariables false
set_option maxRecDepth 100000 in
theorem exact_any (n : Int) (w : World) : Calls Tryz.prog 20 #[.int .i64 n] w fun e w' => e = .returned (.agg #[.int .i64 n, .int .i64 n]) ∧ Below w.heap.size w w' := by
  have HA := Lib.hid (below_boxS w (.cells #[.int .i64 n, .int .i64 n] 27))
  have hB := Blk.new w #[.int .i64 n, .int .i64 n] 27
  have c0 := Lib.hid (hB.cell 0 _ rfl)
  have c1 := Lib.hid (hB.cell 1 _ rfl)
  clear hB
  go_enter Tryz.func20, Tryz.ntmps20
  go_wp2
  have r0 := c0.out
  have r1 := c1.out
  simp only [List.getElem_toArray, List.getElem_cons_zero, List.getElem_cons_succ] at r0 r1
  refine ⟨rfl, .agg #[.int .i64 n, .int .i64 n], ?_, rfl, HA.out⟩
  simp [results, Tryz.results20, go_sem]

theorem i64d (n : Int) (h : decide (-9223372036854775808 ≤ n ∧ n ≤ 9223372036854775807) = true) : I64 n := by
  have := of_decide_eq_true h
  exact this
def exR : Rg := ⟨⟨300, 300⟩, ⟨1000, 1000⟩, ⟨1000, 1000⟩, ⟨1000, 1000⟩, ⟨500, 500⟩⟩
def exB5 : Bot := ⟨[exR], 10, 40000000000⟩
theorem ex_thick : thickS exB5 ⟨1000, 1000⟩ = ([⟨212, 213⟩], 0) := by decide +kernel

set_option maxHeartbeats 1000000 in
set_option maxRecDepth 100000 in
theorem example5_any (w : World) : Calls Tryz.prog 4 #[] w fun e w' => ∃ v, e = .returned v ∧ RBot w' v exB5 ∧ Below w.heap.size w w' := by
  go_enter Tryz.func4, Tryz.ntmps4
  have hB := Blk.new w #[.slice none 0 0, .int .i64 0, .int .i64 0] 24
  have hA := below_boxS w (.cells #[.slice none 0 0, .int .i64 0, .int .i64 0] 24)
  go_wp2_with fail
  generalize w.alloc (.cells #[.slice none 0 0, .int .i64 0, .int .i64 0] 24) = W0 at *
  refine (exact_any 300 _).mono ?_
  rintro e w1 ⟨rfl, hb1⟩
  have hA1 := hA.trans (hb1.mono hA.size)
  have hB1 := hB.below hb1 hB.lt
  clear hA hB hb1
  go_wp2_with fail
  refine (exact_any 1000 _).mono ?_
  rintro e w2 ⟨rfl, hb2⟩
  have hA2 := hA1.trans (hb2.mono hA1.size)
  have hB2 := hB1.below hb2 hB1.lt
  clear hA1 hB1 hb2
  go_wp2_with fail
  refine (exact_any 1000 _).mono ?_
  rintro e w3 ⟨rfl, hb3⟩
  have hA3 := hA2.trans (hb3.mono hA2.size)
  have hB3 := hB2.below hb3 hB2.lt
  clear hA2 hB2 hb3
  go_wp2_with fail
  refine (exact_any 1000 _).mono ?_
  rintro e w4 ⟨rfl, hb4⟩
  have hA4 := hA3.trans (hb4.mono hA3.size)
  have hB4 := hB3.below hb4 hB3.lt
  clear hA3 hB3 hb4
  go_wp2_with fail
  refine (exact_any 500 _).mono ?_
  rintro e w5 ⟨rfl, hb5⟩
  have hA5 := hA4.trans (hb5.mono hA4.size)
  have hB5 := hB4.below hb5 hB4.lt
  clear hA4 hB4 hb5
  have c0 := hB5.cell 0 _ rfl
  have c1 := hB5.cell 1 _ rfl
  have c2 := hB5.cell 2 _ rfl
  have f0 := hB5.frozen 0
  have f1 := hB5.frozen 1
  have f2 := hB5.frozen 2
  have l5 := hB5.lt
  have HB := Lib.hid hB5
  have HA := Lib.hid hA5
  clear hB5 hA5
  go_wp2
  have hB6 : Blk (((w5.setCell ⟨w.heap.size, 0, none⟩ (.slice (some ⟨w5.heap.size, 0, none⟩) 1 1)).setCell ⟨w.heap.size, 1, none⟩ (.int .i64 10)).setCell ⟨w.heap.size, 2, none⟩ (.int .i64 40000000000)) w.heap.size #[.slice (some ⟨w5.heap.size, 0, none⟩) 1 1, .int .i64 10, .int .i64 40000000000] 24 := by
    have := ((HB.out.set 0 (.slice (some ⟨w5.heap.size, 0, none⟩) 1 1)).set 1 (.int .i64 10)).set 2 (.int .i64 40000000000)
    simpa using this
  have hA6 : Below w.heap.size w (((w5.setCell ⟨w.heap.size, 0, none⟩ (.slice (some ⟨w5.heap.size, 0, none⟩) 1 1)).setCell ⟨w.heap.size, 1, none⟩ (.int .i64 10)).setCell ⟨w.heap.size, 2, none⟩ (.int .i64 40000000000)) := ((HA.out.setCell (p := ⟨w.heap.size, 0, none⟩) (Nat.le_refl _) _).setCell (p := ⟨w.heap.size, 1, none⟩) (Nat.le_refl _) _).setCell (p := ⟨w.heap.size, 2, none⟩) (Nat.le_refl _) _
  have hz6 : (((w5.setCell ⟨w.heap.size, 0, none⟩ (.slice (some ⟨w5.heap.size, 0, none⟩) 1 1)).setCell ⟨w.heap.size, 1, none⟩ (.int .i64 10)).setCell ⟨w.heap.size, 2, none⟩ (.int .i64 40000000000)).heap.size = w5.heap.size := by simp
  generalize ((w5.setCell ⟨w.heap.size, 0, none⟩ (.slice (some ⟨w5.heap.size, 0, none⟩) 1 1)).setCell ⟨w.heap.size, 1, none⟩ (.int .i64 10)).setCell ⟨w.heap.size, 2, none⟩ (.int .i64 40000000000) = W6 at *
  have hG := Blk.new W6 (rgCells exR).toArray 63
  rw [hz6] at hG
  have hBF := hB6.alloc (.cells (rgCells exR).toArray 63)
  have hAF := hA6.alloc hA6.size (.cells (rgCells exR).toArray 63)
  have hRB : RBot (W6.alloc (.cells (rgCells exR).toArray 63)) (.agg #[.slice (some ⟨w5.heap.size, 0, none⟩) 1 1, .int .i64 10, .int .i64 40000000000]) exB5 :=
    ⟨_, rfl, ⟨_, 1, rfl, Nat.le_refl _, ⟨by omega, by simp [exB5]⟩, fun i hi => ⟨w5.heap.size, 0, rfl, fun j x hj => by
      have hi0 : i = 0 := by have : i < 1 := hi; omega
      subst hi0
      have hj' : (rgCells exR)[j]? = some x := hj
      have := hG.cell j x (by simpa using hj')
      simpa using this, by
      have hi0 : i = 0 := by have : i < 1 := hi; omega
      subst hi0
      show I64r exR
      exact ⟨⟨i64d _ (by decide), i64d _ (by decide)⟩, ⟨i64d _ (by decide), i64d _ (by decide)⟩, ⟨i64d _ (by decide), i64d _ (by decide)⟩, ⟨i64d _ (by decide), i64d _ (by decide)⟩, ⟨i64d _ (by decide), i64d _ (by decide)⟩⟩⟩⟩, i64d _ (by decide), i64d _ (by decide)⟩
  have r0 := hBF.cell 0 _ rfl
  have r1 := hBF.cell 1 _ rfl
  have r2 := hBF.cell 2 _ rfl
  simp only [List.getElem_toArray, List.getElem_cons_zero, List.getElem_cons_succ] at r0 r1 r2
  refine ⟨rfl, .agg #[.slice (some ⟨w5.heap.size, 0, none⟩) 1 1, .int .i64 10, .int .i64 40000000000], ?_, _, rfl, hRB, hAF⟩
  simp only [rgCells, exR] at r0 r1 r2
  simp [results, Tryz.results4, go_sem, r0, r1, r2]

set_option maxRecDepth 100000 in
theorem lives5_any (w : World) (hC : Circ w) : Calls Tryz.prog 19 #[] w fun e w' => e = .returned (.bool true) ∧ Below w.heap.size w w' := by
  go_enter Tryz.func19, Tryz.ntmps19
  go_wp2_with fail
  refine (example5_any _).mono ?_
  rintro e w1 ⟨v, rfl, hv, hb1⟩
  have hth := thicknessP_any v exB5 ⟨1000, 1000⟩ w1 hv (hC.mono (ext_of_below hb1))
  rw [ex_thick] at hth
  clear hv
  go_wp2_with fail
  refine hth.mono ?_
  rintro e w2 ⟨vs, rfl, hvs, hb2⟩
  have hA2 := hb1.trans (hb2.mono hb1.size)
  have hB := Blk.new w2 #[.int .i64 212, .int .i64 213] 27
  have hR2 : RSps (w2.alloc (.cells #[.int .i64 212, .int .i64 213] 27)) (.slice (some ⟨w2.heap.size, 0, none⟩) 1 1) [⟨212, 213⟩] :=
    ⟨_, 1, rfl, Nat.le_refl _, ⟨by omega, by simp⟩, fun i hi => ⟨w2.heap.size, 0, rfl, by
      have hi0 : i = 0 := by have : i < 1 := hi; omega
      subst hi0
      exact ⟨by simp, by simp, i64d 212 (by decide), i64d 213 (by decide)⟩⟩⟩
  have hvs2 := (hvs.mono (vis_ext _ _)).mono (ext_of_below (below_boxS w2 (.cells #[.int .i64 212, .int .i64 213] 27)))
  have hss := sameSpans_any _ _ _ _ _ hvs2 hR2
  rw [decide_eq_true rfl] at hss
  have hA3 := hA2.alloc hA2.size (.cells #[.int .i64 212, .int .i64 213] 27)
  clear hth hvs hvs2 hR2 hB hb2 hA2
  go_wp2_with fail
  refine hss.mono ?_
  rintro e w3 ⟨rfl, hb3⟩
  have hA4 := hA3.trans (hb3.mono hA3.size)
  clear hss hA3 hb3
  go_wp2
  go_ret
  exact ⟨rfl, hA4⟩

end Go.Proofs.YtaldpalhckdcdaaGreatDoor
