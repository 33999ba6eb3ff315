/- BatchGlasses, the law's own call; no statement is proved here. -/
import Derived.Test.YtmmknpejlccphaaForm
import Derived.Test.YtmmknpejlccphaaRRedox
import Derived.Test.YtmmknpejlccphaaRGlass
namespace Go.Proofs.Ytmmknpejlccphaa
open Go.RowKit Go.PlainAid
set_option linter.unusedVariables false

theorem eql_span (x1 x2 y1 y2 : Int) (w : World) : Sem.run Try.prog (Go.binOp .eql 27 (.agg #[.int .i64 x1, .int .i64 x2]) (.agg #[.int .i64 y1, .int .i64 y2])) w = .ok (.bool (x1 == y1 && x2 == y2)) w := by
  rw [run_eql_struct]
  simp [go_sem]
  by_cases h1 : x1 = y1 <;> by_cases h2 : x2 = y2 <;> simp [h1, h2]

set_option maxHeartbeats 4000000 in
set_option maxRecDepth 100000 in
theorem glassLaw_any (vb vx : Value) (b : Bat) (x : Ask) (w : World) (h : RBat w vb b) (hx : RAsk w vx x) :
    Calls Try.prog 4 #[vb, vx] w (TrueB w) := by
  obtain ⟨a0, k0, a1, k1, a2, k2, a3, k3, rfl⟩ := h.agg
  obtain ⟨b0, j0, b1, j1, b5, j5, rfl⟩ := hx.agg
  obtain ⟨hr1, hr2, -⟩ := asks hx
  have hA := below_two w (.cells #[.slice a0 b.oxides.length k0, .slice a1 b.mats.length k1, .slice a2 b.shares.length k2, .slice a3 b.props.length k3, .int .i64 b.redox.lo, .int .i64 b.redox.hi, .int .i64 b.wanted] 29) (.cells #[.slice b0 x.recipe.length j0, .slice b1 x.other.length j1, .int .i64 x.property, .int .i64 x.lots, .int .i64 x.scale, .slice b5 x.weights.length j5] 44)
  have hB := (Blk.new w #[.slice a0 b.oxides.length k0, .slice a1 b.mats.length k1, .slice a2 b.shares.length k2, .slice a3 b.props.length k3, .int .i64 b.redox.lo, .int .i64 b.redox.hi, .int .i64 b.wanted] 29).alloc (.cells #[.slice b0 x.recipe.length j0, .slice b1 x.other.length j1, .int .i64 x.property, .int .i64 x.lots, .int .i64 x.scale, .slice b5 x.weights.length j5] 44)
  have hC : Blk ((w.alloc (.cells #[.slice a0 b.oxides.length k0, .slice a1 b.mats.length k1, .slice a2 b.shares.length k2, .slice a3 b.props.length k3, .int .i64 b.redox.lo, .int .i64 b.redox.hi, .int .i64 b.wanted] 29)).alloc (.cells #[.slice b0 x.recipe.length j0, .slice b1 x.other.length j1, .int .i64 x.property, .int .i64 x.lots, .int .i64 x.scale, .slice b5 x.weights.length j5] 44)) (w.heap.size + 1) #[.slice b0 x.recipe.length j0, .slice b1 x.other.length j1, .int .i64 x.property, .int .i64 x.lots, .int .i64 x.scale, .slice b5 x.weights.length j5] 44 := by
    have := Blk.new (w.alloc (.cells #[.slice a0 b.oxides.length k0, .slice a1 b.mats.length k1, .slice a2 b.shares.length k2, .slice a3 b.props.length k3, .int .i64 b.redox.lo, .int .i64 b.redox.hi, .int .i64 b.wanted] 29)) #[.slice b0 x.recipe.length j0, .slice b1 x.other.length j1, .int .i64 x.property, .int .i64 x.lots, .int .i64 x.scale, .slice b5 x.weights.length j5] 44
    simpa using this
  go_enter Try.func4, Try.ntmps4
  go_wp2_with fail
  generalize (w.alloc (.cells #[.slice a0 b.oxides.length k0, .slice a1 b.mats.length k1, .slice a2 b.shares.length k2, .slice a3 b.props.length k3, .int .i64 b.redox.lo, .int .i64 b.redox.hi, .int .i64 b.wanted] 29)).alloc (.cells #[.slice b0 x.recipe.length j0, .slice b1 x.other.length j1, .int .i64 x.property, .int .i64 x.lots, .int .i64 x.scale, .slice b5 x.weights.length j5] 44) = W at *
  refine (great_any _ b _ (h.mono (ext_of_below hA))).mono ?_
  rintro e w1 ⟨t1, rfl, hb1⟩
  have hA1 := hA.trans (hb1.mono hA.size)
  have hB1 := hB.below hb1 hB.lt
  have hC1 := hC.below hb1 hC.lt
  clear hA hB hC hb1
  cases t1
  case true =>
    go_wp2_with fail
    refine (lives_any _).mono ?_
    rintro e w2 ⟨rfl, hb2⟩
    have hA2 := hA1.trans (hb2.mono hA1.size)
    clear hb2 hB1 hC1
    go_wp2
    go_ret
    exact ⟨rfl, hA2⟩
  have c0 := hC1.cell 0 (.slice b0 x.recipe.length j0) rfl
  have c1 := hC1.cell 1 (.slice b1 x.other.length j1) rfl
  have c2 := hC1.cell 2 (.int .i64 x.property) rfl
  have c3 := hC1.cell 3 (.int .i64 x.lots) rfl
  have c4 := hC1.cell 4 (.int .i64 x.scale) rfl
  have c5 := hC1.cell 5 (.slice b5 x.weights.length j5) rfl
  go_wp2_with fail
  refine (wide_any _ x _ ?_).mono ?_
  · exact hx.mono (ext_of_below hA1)
  rintro e w2 ⟨t2, rfl, hb2⟩
  have hA2 := hA1.trans (hb2.mono hA1.size)
  have hB2 := hB1.below hb2 hB1.lt
  have hC2 := hC1.below hb2 hC1.lt
  clear hA1 hB1 hC1 hb2 c0 c1 c2 c3 c4 c5
  cases t2
  case true =>
    go_wp2_with fail
    refine (lives_any _).mono ?_
    rintro e wl ⟨rfl, hbl⟩
    have hAl := hA2.trans (hbl.mono hA2.size)
    clear hbl hB2 hC2
    go_wp2
    go_ret
    exact ⟨rfl, hAl⟩
  generalize hvs : valI b x.recipe x.property = vs
  obtain ⟨⟨vl, vh⟩, ve⟩ := vs
  generalize hrs : redoxB b x.recipe = rs
  obtain ⟨⟨rl, rh⟩, re⟩ := rs
  have HVS := Lib.hid hvs
  have HRS := Lib.hid hrs
  have nv := fun w => neq_span vl vh vl vh w
  have ev := fun w => eql_span rl rh rl rh w
  simp only [beq_self_eq_true, Bool.and_self, Bool.not_true] at nv ev
  clear hvs hrs
  have f0 := hB2.cell 0 (.slice a0 b.oxides.length k0) rfl
  have f1 := hB2.cell 1 (.slice a1 b.mats.length k1) rfl
  have f2 := hB2.cell 2 (.slice a2 b.shares.length k2) rfl
  have f3 := hB2.cell 3 (.slice a3 b.props.length k3) rfl
  have f4 := hB2.cell 4 (.int .i64 b.redox.lo) rfl
  have f5 := hB2.cell 5 (.int .i64 b.redox.hi) rfl
  have f6 := hB2.cell 6 (.int .i64 b.wanted) rfl
  have c0 := hC2.cell 0 (.slice b0 x.recipe.length j0) rfl
  have c2 := hC2.cell 2 (.int .i64 x.property) rfl
  go_wp2_with fail
  refine (bgrams_any _ _ b x.recipe _ (h.mono (ext_of_below hA2)) (hr1.mono (ext_of_below hA2))).mono ?_
  rintro e w3 ⟨vs, rfl, hvs, hb3⟩
  have hA3 := hA2.trans (hb3.mono hA2.size)
  have hB3 := hB2.below hb3 hB2.lt
  have hC3 := hC2.below hb3 hC2.lt
  have hv1 := hvs.mono (vis_ext _ _)
  clear hA2 hB2 hC2 hb3 f0 f1 f2 f3 f4 f5 f6 c0 c2 hvs
  have f0 := hB3.cell 0 (.slice a0 b.oxides.length k0) rfl
  have f1 := hB3.cell 1 (.slice a1 b.mats.length k1) rfl
  have f2 := hB3.cell 2 (.slice a2 b.shares.length k2) rfl
  have f3 := hB3.cell 3 (.slice a3 b.props.length k3) rfl
  have f4 := hB3.cell 4 (.int .i64 b.redox.lo) rfl
  have f5 := hB3.cell 5 (.int .i64 b.redox.hi) rfl
  have f6 := hB3.cell 6 (.int .i64 b.wanted) rfl
  have c0 := hC3.cell 0 (.slice b0 x.recipe.length j0) rfl
  have c2 := hC3.cell 2 (.int .i64 x.property) rfl
  go_wp2_with fail
  refine (rgrams_any _ _ b x.recipe _ (h.mono (ext_of_below hA3)) (hr1.mono (ext_of_below hA3))).mono ?_
  rintro e w4 ⟨vt, rfl, hvt, hb4⟩
  have hA4 := hA3.trans (hb4.mono hA3.size)
  have hB4 := hB3.below hb4 hB3.lt
  have hC4 := hC3.below hb4 hC3.lt
  have hv2 := hv1.mono (ext_of_below hb4)
  have hv3 := hvt.mono (vis_ext _ _)
  clear hA3 hB3 hC3 hb4 f0 f1 f2 f3 f4 f5 f6 c0 c2 hvt hv1
  have hss := sameSpans_any _ _ _ _ _ hv2 hv3
  rw [decide_eq_true rfl] at hss
  go_wp2_with fail
  refine hss.mono ?_
  rintro e w5 ⟨rfl, hb5⟩
  have hA5 := hA4.trans (hb5.mono hA4.size)
  have hB5 := hB4.below hb5 hB4.lt
  have hC5 := hC4.below hb5 hC4.lt
  clear hA4 hB4 hC4 hb5 hss hv2 hv3
  have f0 := hB5.cell 0 (.slice a0 b.oxides.length k0) rfl
  have f1 := hB5.cell 1 (.slice a1 b.mats.length k1) rfl
  have f2 := hB5.cell 2 (.slice a2 b.shares.length k2) rfl
  have f3 := hB5.cell 3 (.slice a3 b.props.length k3) rfl
  have f4 := hB5.cell 4 (.int .i64 b.redox.lo) rfl
  have f5 := hB5.cell 5 (.int .i64 b.redox.hi) rfl
  have f6 := hB5.cell 6 (.int .i64 b.wanted) rfl
  have c0 := hC5.cell 0 (.slice b0 x.recipe.length j0) rfl
  have c2 := hC5.cell 2 (.int .i64 x.property) rfl
  go_wp2_with fail
  refine (glass_any _ _ b x.recipe _ (h.mono (ext_of_below hA5)) (hr1.mono (ext_of_below hA5))).mono ?_
  rintro e w6 ⟨vs, rfl, hvs, hb6⟩
  have hA6 := hA5.trans (hb6.mono hA5.size)
  have hB6 := hB5.below hb6 hB5.lt
  have hC6 := hC5.below hb6 hC5.lt
  have hv1 := hvs.mono (vis_ext _ _)
  clear hA5 hB5 hC5 hb6 f0 f1 f2 f3 f4 f5 f6 c0 c2 hvs
  have f0 := hB6.cell 0 (.slice a0 b.oxides.length k0) rfl
  have f1 := hB6.cell 1 (.slice a1 b.mats.length k1) rfl
  have f2 := hB6.cell 2 (.slice a2 b.shares.length k2) rfl
  have f3 := hB6.cell 3 (.slice a3 b.props.length k3) rfl
  have f4 := hB6.cell 4 (.int .i64 b.redox.lo) rfl
  have f5 := hB6.cell 5 (.int .i64 b.redox.hi) rfl
  have f6 := hB6.cell 6 (.int .i64 b.wanted) rfl
  have c0 := hC6.cell 0 (.slice b0 x.recipe.length j0) rfl
  have c2 := hC6.cell 2 (.int .i64 x.property) rfl
  go_wp2_with fail
  refine (rglass_any _ _ b x.recipe _ (h.mono (ext_of_below hA6)) (hr1.mono (ext_of_below hA6))).mono ?_
  rintro e w7 ⟨vt, rfl, hvt, hb7⟩
  have hA7 := hA6.trans (hb7.mono hA6.size)
  have hB7 := hB6.below hb7 hB6.lt
  have hC7 := hC6.below hb7 hC6.lt
  have hv2 := hv1.mono (ext_of_below hb7)
  have hv3 := hvt.mono (vis_ext _ _)
  clear hA6 hB6 hC6 hb7 f0 f1 f2 f3 f4 f5 f6 c0 c2 hvt hv1
  have hss := sameSpans_any _ _ _ _ _ hv2 hv3
  rw [decide_eq_true rfl] at hss
  go_wp2_with fail
  refine hss.mono ?_
  rintro e w8 ⟨rfl, hb8⟩
  have hA8 := hA7.trans (hb8.mono hA7.size)
  have hB8 := hB7.below hb8 hB7.lt
  have hC8 := hC7.below hb8 hC7.lt
  clear hA7 hB7 hC7 hb8 hss hv2 hv3
  have f0 := hB8.cell 0 (.slice a0 b.oxides.length k0) rfl
  have f1 := hB8.cell 1 (.slice a1 b.mats.length k1) rfl
  have f2 := hB8.cell 2 (.slice a2 b.shares.length k2) rfl
  have f3 := hB8.cell 3 (.slice a3 b.props.length k3) rfl
  have f4 := hB8.cell 4 (.int .i64 b.redox.lo) rfl
  have f5 := hB8.cell 5 (.int .i64 b.redox.hi) rfl
  have f6 := hB8.cell 6 (.int .i64 b.wanted) rfl
  have c0 := hC8.cell 0 (.slice b0 x.recipe.length j0) rfl
  have c2 := hC8.cell 2 (.int .i64 x.property) rfl
  go_wp2_with fail
  refine (valI_any _ _ b x.recipe x.property _ (h.mono (ext_of_below hA8)) (hr1.mono (ext_of_below hA8))).mono ?_
  rw [HVS.out]
  rintro e w9 ⟨rfl, hb9⟩
  have hA9 := hA8.trans (hb9.mono hA8.size)
  have hB9 := hB8.below hb9 hB8.lt
  have hC9 := hC8.below hb9 hC8.lt
  clear hA8 hB8 hC8 hb9 f0 f1 f2 f3 f4 f5 f6 c0 c2
  have hD10 := Blk.new w9 #[.int .i64 vl, .int .i64 vh] 27
  have hA10 := hA9.alloc hA9.size (.cells #[.int .i64 vl, .int .i64 vh] 27)
  have hB10 := hB9.alloc (.cells #[.int .i64 vl, .int .i64 vh] 27)
  have hC10 := hC9.alloc (.cells #[.int .i64 vl, .int .i64 vh] 27)
  have hdlD : w.heap.size + 1 < w9.heap.size := hC9.lt


  clear hA9 hB9 hC9 
  have f0 := hB10.cell 0 (.slice a0 b.oxides.length k0) rfl
  have f1 := hB10.cell 1 (.slice a1 b.mats.length k1) rfl
  have f2 := hB10.cell 2 (.slice a2 b.shares.length k2) rfl
  have f3 := hB10.cell 3 (.slice a3 b.props.length k3) rfl
  have f4 := hB10.cell 4 (.int .i64 b.redox.lo) rfl
  have f5 := hB10.cell 5 (.int .i64 b.redox.hi) rfl
  have f6 := hB10.cell 6 (.int .i64 b.wanted) rfl
  have c0 := hC10.cell 0 (.slice b0 x.recipe.length j0) rfl
  have c2 := hC10.cell 2 (.int .i64 x.property) rfl
  go_wp2_with fail
  generalize w9.alloc (.cells #[.int .i64 vl, .int .i64 vh] 27) = w10 at *
  generalize w9.heap.size = d1 at *
  refine (rval_any _ _ b x.recipe x.property _ (h.mono (ext_of_below hA10)) (hr1.mono (ext_of_below hA10))).mono ?_
  rw [HVS.out]
  rintro e w11 ⟨rfl, hb11⟩
  have hA11 := hA10.trans (hb11.mono hA10.size)
  have hB11 := hB10.below hb11 hB10.lt
  have hC11 := hC10.below hb11 hC10.lt
  have hD11 := hD10.below hb11 hD10.lt
  clear hA10 hB10 hC10 hb11 f0 f1 f2 f3 f4 f5 f6 c0 c2 hD10
  have hE12 := Blk.new w11 #[.int .i64 vl, .int .i64 vh] 27
  have hA12 := hA11.alloc hA11.size (.cells #[.int .i64 vl, .int .i64 vh] 27)
  have hB12 := hB11.alloc (.cells #[.int .i64 vl, .int .i64 vh] 27)
  have hC12 := hC11.alloc (.cells #[.int .i64 vl, .int .i64 vh] 27)
  have hdlE : w.heap.size + 1 < w11.heap.size := hC11.lt
  have hD12 := hD11.alloc (.cells #[.int .i64 vl, .int .i64 vh] 27)
  have hlD12 := hD11.lt
  clear hA11 hB11 hC11 hD11
  have f0 := hB12.cell 0 (.slice a0 b.oxides.length k0) rfl
  have f1 := hB12.cell 1 (.slice a1 b.mats.length k1) rfl
  have f2 := hB12.cell 2 (.slice a2 b.shares.length k2) rfl
  have f3 := hB12.cell 3 (.slice a3 b.props.length k3) rfl
  have f4 := hB12.cell 4 (.int .i64 b.redox.lo) rfl
  have f5 := hB12.cell 5 (.int .i64 b.redox.hi) rfl
  have f6 := hB12.cell 6 (.int .i64 b.wanted) rfl
  have c0 := hC12.cell 0 (.slice b0 x.recipe.length j0) rfl
  have c2 := hC12.cell 2 (.int .i64 x.property) rfl
  have p0 := hD12.cell 0 (.int .i64 vl) rfl
  have p1 := hD12.cell 1 (.int .i64 vh) rfl
  have q0 := hE12.cell 0 (.int .i64 vl) rfl
  have q1 := hE12.cell 1 (.int .i64 vh) rfl
  go_wp2_with fail
  generalize w11.alloc (.cells #[.int .i64 vl, .int .i64 vh] 27) = w12 at *
  generalize w11.heap.size = d2 at *
  clear p0 p1 q0 q1
  refine (redox_any _ _ b x.recipe _ (h.mono (ext_of_below hA12)) (hr1.mono (ext_of_below hA12))).mono ?_
  rw [HRS.out]
  rintro e w13 ⟨rfl, hb13⟩
  have hA13 := hA12.trans (hb13.mono hA12.size)
  have hB13 := hB12.below hb13 hB12.lt
  have hC13 := hC12.below hb13 hC12.lt
  have hD13 := hD12.below hb13 hD12.lt
  have hE13 := hE12.below hb13 hE12.lt
  clear hA12 hB12 hC12 hb13 f0 f1 f2 f3 f4 f5 f6 c0 c2 hD12 hE12
  have p0 := hD13.cell 0 (.int .i64 vl) rfl
  have p1 := hD13.cell 1 (.int .i64 vh) rfl
  have y0 := hD13.frozen 0
  have y1 := hD13.frozen 1
  have hn1 : d1 ≠ w.heap.size := by omega
  have hn2 : d1 ≠ w.heap.size + 1 := by omega
  have hn3 : d1 ≠ d2 := by omega
  have hB13s := (hB13.other ⟨d1, 0, none⟩ (.int .i64 rl) hn1).other ⟨d1, 1, none⟩ (.int .i64 rh) hn1
  have hC13s := (hC13.other ⟨d1, 0, none⟩ (.int .i64 rl) hn2).other ⟨d1, 1, none⟩ (.int .i64 rh) hn2
  have hE13s := (hE13.other ⟨d1, 0, none⟩ (.int .i64 rl) hn3).other ⟨d1, 1, none⟩ (.int .i64 rh) hn3
  have hD13s := (hD13.set 0 (.int .i64 rl)).set 1 (.int .i64 rh)
  have hA13s := (hA13.setCell (p := ⟨d1, 0, none⟩) (by simp only; omega) (.int .i64 rl)).setCell (p := ⟨d1, 1, none⟩) (by simp only; omega) (.int .i64 rh)
  clear hA13 hB13 hC13 hD13 hE13
  have f0 := hB13s.cell 0 (.slice a0 b.oxides.length k0) rfl
  have f1 := hB13s.cell 1 (.slice a1 b.mats.length k1) rfl
  have f2 := hB13s.cell 2 (.slice a2 b.shares.length k2) rfl
  have f3 := hB13s.cell 3 (.slice a3 b.props.length k3) rfl
  have f4 := hB13s.cell 4 (.int .i64 b.redox.lo) rfl
  have f5 := hB13s.cell 5 (.int .i64 b.redox.hi) rfl
  have f6 := hB13s.cell 6 (.int .i64 b.wanted) rfl
  have c0 := hC13s.cell 0 (.slice b0 x.recipe.length j0) rfl
  have c2 := hC13s.cell 2 (.int .i64 x.property) rfl
  go_wp2_with fail
  clear p0 p1 y0 y1 hn1 hn2 hn3
  generalize (w13.setCell ⟨d1, 0, none⟩ (.int .i64 rl)).setCell ⟨d1, 1, none⟩ (.int .i64 rh) = w13s at *
  refine (rredox_any _ _ b x.recipe _ (h.mono (ext_of_below hA13s)) (hr1.mono (ext_of_below hA13s))).mono ?_
  rw [HRS.out]
  rintro e w99 ⟨rfl, hb99⟩
  have hA99 := hA13s.trans (hb99.mono hA13s.size)
  have hB99 := hB13s.below hb99 hB13s.lt
  have hC99 := hC13s.below hb99 hC13s.lt
  have hD99 := hD13s.below hb99 hD13s.lt
  have hE99 := hE13s.below hb99 hE13s.lt
  clear hA13s hB13s hC13s hb99 f0 f1 f2 f3 f4 f5 f6 c0 c2 hD13s hE13s
  have p0 := hE99.cell 0 (.int .i64 vl) rfl
  have p1 := hE99.cell 1 (.int .i64 vh) rfl
  have y0 := hE99.frozen 0
  have y1 := hE99.frozen 1
  have hn1 : d2 ≠ w.heap.size := by omega
  have hn2 : d2 ≠ w.heap.size + 1 := by omega
  have hn3 : d2 ≠ d1 := by omega
  have hB99s := (hB99.other ⟨d2, 0, none⟩ (.int .i64 rl) hn1).other ⟨d2, 1, none⟩ (.int .i64 rh) hn1
  have hC99s := (hC99.other ⟨d2, 0, none⟩ (.int .i64 rl) hn2).other ⟨d2, 1, none⟩ (.int .i64 rh) hn2
  have hD99s := (hD99.other ⟨d2, 0, none⟩ (.int .i64 rl) hn3).other ⟨d2, 1, none⟩ (.int .i64 rh) hn3
  have hE99s := (hE99.set 0 (.int .i64 rl)).set 1 (.int .i64 rh)
  have hA99s := (hA99.setCell (p := ⟨d2, 0, none⟩) (by simp only; omega) (.int .i64 rl)).setCell (p := ⟨d2, 1, none⟩) (by simp only; omega) (.int .i64 rh)
  clear hA99 hB99 hC99 hD99 hE99
  have f0 := hB99s.cell 0 (.slice a0 b.oxides.length k0) rfl
  have f1 := hB99s.cell 1 (.slice a1 b.mats.length k1) rfl
  have f2 := hB99s.cell 2 (.slice a2 b.shares.length k2) rfl
  have f3 := hB99s.cell 3 (.slice a3 b.props.length k3) rfl
  have f4 := hB99s.cell 4 (.int .i64 b.redox.lo) rfl
  have f5 := hB99s.cell 5 (.int .i64 b.redox.hi) rfl
  have f6 := hB99s.cell 6 (.int .i64 b.wanted) rfl
  have c0 := hC99s.cell 0 (.slice b0 x.recipe.length j0) rfl
  have c2 := hC99s.cell 2 (.int .i64 x.property) rfl
  have s0 := hD99s.cell 0 (.int .i64 rl) rfl
  have s1 := hD99s.cell 1 (.int .i64 rh) rfl
  have t0 := hE99s.cell 0 (.int .i64 rl) rfl
  have t1 := hE99s.cell 1 (.int .i64 rh) rfl
  clear hD99s hE99s hB99s hC99s
  go_wp2_with fail
  clear p0 p1 y0 y1 hn1 hn2 hn3 s0 s1 t0 t1 f0 f1 f2 f3 f4 f5 f6 c0 c2
  generalize (w99.setCell ⟨d2, 0, none⟩ (.int .i64 rl)).setCell ⟨d2, 1, none⟩ (.int .i64 rh) = w99s at *
  refine (lives_any _).mono ?_
  rintro e wl ⟨rfl, hbl⟩
  have hAl := hA99s.trans (hbl.mono hA99s.size)
  clear hbl
  go_wp2
  go_ret
  exact ⟨rfl, hAl⟩

end Go.Proofs.Ytmmknpejlccphaa
