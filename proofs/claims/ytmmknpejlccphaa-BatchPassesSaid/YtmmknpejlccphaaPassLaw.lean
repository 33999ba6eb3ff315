/- BatchPasses, the law's own call; no statement is proved here. -/
import Derived.Test.YtmmknpejlccphaaForm
import Derived.Test.YtmmknpejlccphaaRCost
namespace Go.Proofs.Ytmmknpejlccphaa
open Go.RowKit Go.PlainAid
set_option linter.unusedVariables false

set_option maxHeartbeats 2000000 in
set_option maxRecDepth 100000 in
theorem passLaw_any (vb vx : Value) (b : Bat) (x : Ask) (w : World) (h : RBat w vb b) (hx : RAsk w vx x) :
    Calls Try.prog 5 #[vb, vx] w (TrueB w) := by
  obtain ⟨a0, k0, a1, k1, a2, k2, a3, k3, rfl⟩ := h.agg
  obtain ⟨b0, j0, b1, j1, b5, j5, rfl⟩ := hx.agg
  obtain ⟨hr1, hr2, -⟩ := asks hx
  have hA := below_two w (.cells #[.slice a0 b.oxides.length k0, .slice a1 b.mats.length k1, .slice a2 b.shares.length k2, .slice a3 b.props.length k3, .int .i64 b.redox.lo, .int .i64 b.redox.hi, .int .i64 b.wanted] 29) (.cells #[.slice b0 x.recipe.length j0, .slice b1 x.other.length j1, .int .i64 x.property, .int .i64 x.lots, .int .i64 x.scale, .slice b5 x.weights.length j5] 44)
  have hB := (Blk.new w #[.slice a0 b.oxides.length k0, .slice a1 b.mats.length k1, .slice a2 b.shares.length k2, .slice a3 b.props.length k3, .int .i64 b.redox.lo, .int .i64 b.redox.hi, .int .i64 b.wanted] 29).alloc (.cells #[.slice b0 x.recipe.length j0, .slice b1 x.other.length j1, .int .i64 x.property, .int .i64 x.lots, .int .i64 x.scale, .slice b5 x.weights.length j5] 44)
  have hC : Blk ((w.alloc (.cells #[.slice a0 b.oxides.length k0, .slice a1 b.mats.length k1, .slice a2 b.shares.length k2, .slice a3 b.props.length k3, .int .i64 b.redox.lo, .int .i64 b.redox.hi, .int .i64 b.wanted] 29)).alloc (.cells #[.slice b0 x.recipe.length j0, .slice b1 x.other.length j1, .int .i64 x.property, .int .i64 x.lots, .int .i64 x.scale, .slice b5 x.weights.length j5] 44)) (w.heap.size + 1) #[.slice b0 x.recipe.length j0, .slice b1 x.other.length j1, .int .i64 x.property, .int .i64 x.lots, .int .i64 x.scale, .slice b5 x.weights.length j5] 44 := by
    have := Blk.new (w.alloc (.cells #[.slice a0 b.oxides.length k0, .slice a1 b.mats.length k1, .slice a2 b.shares.length k2, .slice a3 b.props.length k3, .int .i64 b.redox.lo, .int .i64 b.redox.hi, .int .i64 b.wanted] 29)) #[.slice b0 x.recipe.length j0, .slice b1 x.other.length j1, .int .i64 x.property, .int .i64 x.lots, .int .i64 x.scale, .slice b5 x.weights.length j5] 44
    simpa using this
  go_enter Try.func5, Try.ntmps5
  go_wp2_with fail
  generalize (w.alloc (.cells #[.slice a0 b.oxides.length k0, .slice a1 b.mats.length k1, .slice a2 b.shares.length k2, .slice a3 b.props.length k3, .int .i64 b.redox.lo, .int .i64 b.redox.hi, .int .i64 b.wanted] 29)).alloc (.cells #[.slice b0 x.recipe.length j0, .slice b1 x.other.length j1, .int .i64 x.property, .int .i64 x.lots, .int .i64 x.scale, .slice b5 x.weights.length j5] 44) = W at *
  refine (great_any _ b _ (h.mono (ext_of_below hA))).mono ?_
  rintro e w1 ⟨t1, rfl, hb1⟩
  have hA1 := hA.trans (hb1.mono hA.size)
  have hB1 := hB.below hb1 hB.lt
  have hC1 := hC.below hb1 hC.lt
  clear hA hB hC hb1
  cases t1
  case true =>
    go_wp2_with fail
    refine (lives_any _).mono ?_
    rintro e w2 ⟨rfl, hb2⟩
    have hA2 := hA1.trans (hb2.mono hA1.size)
    clear hb2 hB1 hC1
    go_wp2
    go_ret
    exact ⟨rfl, hA2⟩
  have c0 := hC1.cell 0 (.slice b0 x.recipe.length j0) rfl
  have c1 := hC1.cell 1 (.slice b1 x.other.length j1) rfl
  have c2 := hC1.cell 2 (.int .i64 x.property) rfl
  have c3 := hC1.cell 3 (.int .i64 x.lots) rfl
  have c4 := hC1.cell 4 (.int .i64 x.scale) rfl
  have c5 := hC1.cell 5 (.slice b5 x.weights.length j5) rfl
  go_wp2_with fail
  refine (wide_any _ x _ ?_).mono ?_
  · exact hx.mono (ext_of_below hA1)
  rintro e w2 ⟨t2, rfl, hb2⟩
  have hA2 := hA1.trans (hb2.mono hA1.size)
  have hB2 := hB1.below hb2 hB1.lt
  have hC2 := hC1.below hb2 hC1.lt
  clear hA1 hB1 hC1 hb2 c0 c1 c2 c3 c4 c5
  cases t2
  case true =>
    go_wp2_with fail
    refine (lives_any _).mono ?_
    rintro e wl ⟨rfl, hbl⟩
    have hAl := hA2.trans (hbl.mono hA2.size)
    clear hbl hB2 hC2
    go_wp2
    go_ret
    exact ⟨rfl, hAl⟩
  generalize hps : passesB b x.recipe = ps
  obtain ⟨ps, pn⟩ := ps
  generalize hqs : allowedB b x.recipe = qs
  obtain ⟨qs, qn⟩ := qs
  generalize hcs : costB b x.recipe = cs
  obtain ⟨cs, cn⟩ := cs
  have HPS := Lib.hid hps
  have HQS := Lib.hid hqs
  have HCS := Lib.hid hcs
  clear hps hqs hcs
  have f0 := hB2.cell 0 (.slice a0 b.oxides.length k0) rfl
  have f1 := hB2.cell 1 (.slice a1 b.mats.length k1) rfl
  have f2 := hB2.cell 2 (.slice a2 b.shares.length k2) rfl
  have f3 := hB2.cell 3 (.slice a3 b.props.length k3) rfl
  have f4 := hB2.cell 4 (.int .i64 b.redox.lo) rfl
  have f5 := hB2.cell 5 (.int .i64 b.redox.hi) rfl
  have f6 := hB2.cell 6 (.int .i64 b.wanted) rfl
  have c0 := hC2.cell 0 (.slice b0 x.recipe.length j0) rfl
  go_wp2_with fail
  refine (passes_any _ _ b x.recipe _ (h.mono (ext_of_below hA2)) (hr1.mono (ext_of_below hA2))).mono ?_
  rw [HPS.out]
  rintro e w3 ⟨rfl, hb3⟩
  have hA3 := hA2.trans (hb3.mono hA2.size)
  have hB3 := hB2.below hb3 hB2.lt
  have hC3 := hC2.below hb3 hC2.lt
  clear hA2 hB2 hC2 hb3 f0 f1 f2 f3 f4 f5 f6 c0
  have f0 := hB3.cell 0 (.slice a0 b.oxides.length k0) rfl
  have f1 := hB3.cell 1 (.slice a1 b.mats.length k1) rfl
  have f2 := hB3.cell 2 (.slice a2 b.shares.length k2) rfl
  have f3 := hB3.cell 3 (.slice a3 b.props.length k3) rfl
  have f4 := hB3.cell 4 (.int .i64 b.redox.lo) rfl
  have f5 := hB3.cell 5 (.int .i64 b.redox.hi) rfl
  have f6 := hB3.cell 6 (.int .i64 b.wanted) rfl
  have c0 := hC3.cell 0 (.slice b0 x.recipe.length j0) rfl
  go_wp2_with fail
  refine (rpasses_any _ _ b x.recipe _ (h.mono (ext_of_below hA3)) (hr1.mono (ext_of_below hA3))).mono ?_
  rw [HPS.out]
  rintro e w4 ⟨rfl, hb4⟩
  have hA4 := hA3.trans (hb4.mono hA3.size)
  have hB4 := hB3.below hb4 hB3.lt
  have hC4 := hC3.below hb4 hC3.lt
  clear hA3 hB3 hC3 hb4 f0 f1 f2 f3 f4 f5 f6 c0
  have f0 := hB4.cell 0 (.slice a0 b.oxides.length k0) rfl
  have f1 := hB4.cell 1 (.slice a1 b.mats.length k1) rfl
  have f2 := hB4.cell 2 (.slice a2 b.shares.length k2) rfl
  have f3 := hB4.cell 3 (.slice a3 b.props.length k3) rfl
  have f4 := hB4.cell 4 (.int .i64 b.redox.lo) rfl
  have f5 := hB4.cell 5 (.int .i64 b.redox.hi) rfl
  have f6 := hB4.cell 6 (.int .i64 b.wanted) rfl
  have c0 := hC4.cell 0 (.slice b0 x.recipe.length j0) rfl
  go_wp2_with fail
  refine (ballowed_any _ _ b x.recipe _ (h.mono (ext_of_below hA4)) (hr1.mono (ext_of_below hA4))).mono ?_
  rw [HQS.out]
  rintro e w5 ⟨rfl, hb5⟩
  have hA5 := hA4.trans (hb5.mono hA4.size)
  have hB5 := hB4.below hb5 hB4.lt
  have hC5 := hC4.below hb5 hC4.lt
  clear hA4 hB4 hC4 hb5 f0 f1 f2 f3 f4 f5 f6 c0
  have f0 := hB5.cell 0 (.slice a0 b.oxides.length k0) rfl
  have f1 := hB5.cell 1 (.slice a1 b.mats.length k1) rfl
  have f2 := hB5.cell 2 (.slice a2 b.shares.length k2) rfl
  have f3 := hB5.cell 3 (.slice a3 b.props.length k3) rfl
  have f4 := hB5.cell 4 (.int .i64 b.redox.lo) rfl
  have f5 := hB5.cell 5 (.int .i64 b.redox.hi) rfl
  have f6 := hB5.cell 6 (.int .i64 b.wanted) rfl
  have c0 := hC5.cell 0 (.slice b0 x.recipe.length j0) rfl
  go_wp2_with fail
  refine (rallowed_any _ _ b x.recipe _ (h.mono (ext_of_below hA5)) (hr1.mono (ext_of_below hA5))).mono ?_
  rw [HQS.out]
  rintro e w6 ⟨rfl, hb6⟩
  have hA6 := hA5.trans (hb6.mono hA5.size)
  have hB6 := hB5.below hb6 hB5.lt
  have hC6 := hC5.below hb6 hC5.lt
  clear hA5 hB5 hC5 hb6 f0 f1 f2 f3 f4 f5 f6 c0
  have f0 := hB6.cell 0 (.slice a0 b.oxides.length k0) rfl
  have f1 := hB6.cell 1 (.slice a1 b.mats.length k1) rfl
  have f2 := hB6.cell 2 (.slice a2 b.shares.length k2) rfl
  have f3 := hB6.cell 3 (.slice a3 b.props.length k3) rfl
  have f4 := hB6.cell 4 (.int .i64 b.redox.lo) rfl
  have f5 := hB6.cell 5 (.int .i64 b.redox.hi) rfl
  have f6 := hB6.cell 6 (.int .i64 b.wanted) rfl
  have c0 := hC6.cell 0 (.slice b0 x.recipe.length j0) rfl
  go_wp2_with fail
  refine (bcost_any _ _ b x.recipe _ (h.mono (ext_of_below hA6)) (hr1.mono (ext_of_below hA6))).mono ?_
  rw [HCS.out]
  rintro e w7 ⟨rfl, hb7⟩
  have hA7 := hA6.trans (hb7.mono hA6.size)
  have hB7 := hB6.below hb7 hB6.lt
  have hC7 := hC6.below hb7 hC6.lt
  clear hA6 hB6 hC6 hb7 f0 f1 f2 f3 f4 f5 f6 c0
  have f0 := hB7.cell 0 (.slice a0 b.oxides.length k0) rfl
  have f1 := hB7.cell 1 (.slice a1 b.mats.length k1) rfl
  have f2 := hB7.cell 2 (.slice a2 b.shares.length k2) rfl
  have f3 := hB7.cell 3 (.slice a3 b.props.length k3) rfl
  have f4 := hB7.cell 4 (.int .i64 b.redox.lo) rfl
  have f5 := hB7.cell 5 (.int .i64 b.redox.hi) rfl
  have f6 := hB7.cell 6 (.int .i64 b.wanted) rfl
  have c0 := hC7.cell 0 (.slice b0 x.recipe.length j0) rfl
  go_wp2_with fail
  refine (rcost_any _ _ b x.recipe _ (h.mono (ext_of_below hA7)) (hr1.mono (ext_of_below hA7))).mono ?_
  rw [HCS.out]
  rintro e w8 ⟨rfl, hb8⟩
  have hA8 := hA7.trans (hb8.mono hA7.size)
  have hB8 := hB7.below hb8 hB7.lt
  have hC8 := hC7.below hb8 hC7.lt
  clear hA7 hB7 hC7 hb8 f0 f1 f2 f3 f4 f5 f6 c0
  clear hB8 hC8
  go_wp2_with fail
  refine (lives_any _).mono ?_
  rintro e wl ⟨rfl, hbl⟩
  have hAl := hA8.trans (hbl.mono hA8.size)
  clear hbl
  go_wp2
  go_ret
  exact ⟨rfl, hAl⟩

end Go.Proofs.Ytmmknpejlccphaa
