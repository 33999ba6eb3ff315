/- BatchInside, the law's own call; no statement is proved here. -/
import Derived.Test.YtnnkcbeadiembaaInFacts
import Derived.Test.YtnnkcbeadiembaaForm
import Derived.Deep.QuietTactic
import Derived.BigQuiet
namespace Go.Proofs.Ytnnkcbeadiembaa
open Go.RowKit Go.PlainAid
set_option linter.unusedVariables false

theorem below_drewI {B n : Nat} {a w : World} (h : Below B a w) : Below B a (w.drewN n) := ⟨h.os, h.tape, h.output, h.size, h.block⟩

set_option maxHeartbeats 8000000 in
set_option maxRecDepth 100000 in
theorem inLaw_any (vb vx vy : Value) (b : Bat) (x : Ask) (P : List (List Int)) (w : World) (h : RBat w vb b) (hx : RAsk w vx x) (hy : RReal w vy P) :
    Calls Try.prog 5 #[vb, vx, vy] w (TrueB w) := by
  obtain ⟨a0, k0, a1, k1, a2, k2, a3, k3, rfl⟩ := h.agg
  obtain ⟨b0, j0, b1, j1, b5, j5, rfl⟩ := hx.agg
  obtain ⟨vp, rfl, hyp⟩ := id hy
  obtain ⟨ap, kp, rfl, -, ⟨-, lp⟩, -⟩ := hyp
  obtain ⟨hr1, hr2, -⟩ := asks hx
  have hA : Below w.heap.size w (((w.alloc (.cells #[.slice a0 b.oxides.length k0, .slice a1 b.mats.length k1, .slice a2 b.shares.length k2, .slice a3 b.props.length k3, .int .i64 b.redox.lo, .int .i64 b.redox.hi, .int .i64 b.wanted] 29)).alloc (.cells #[.slice b0 x.recipe.length j0, .slice b1 x.other.length j1, .int .i64 x.property, .int .i64 x.lots, .int .i64 x.scale, .slice b5 x.weights.length j5] 34)).alloc (.cells #[.slice ap P.length kp] 48)) := by go_grown
  have hB := ((Blk.new w #[.slice a0 b.oxides.length k0, .slice a1 b.mats.length k1, .slice a2 b.shares.length k2, .slice a3 b.props.length k3, .int .i64 b.redox.lo, .int .i64 b.redox.hi, .int .i64 b.wanted] 29).alloc (.cells #[.slice b0 x.recipe.length j0, .slice b1 x.other.length j1, .int .i64 x.property, .int .i64 x.lots, .int .i64 x.scale, .slice b5 x.weights.length j5] 34)).alloc (.cells #[.slice ap P.length kp] 48)
  have hC : Blk (((w.alloc (.cells #[.slice a0 b.oxides.length k0, .slice a1 b.mats.length k1, .slice a2 b.shares.length k2, .slice a3 b.props.length k3, .int .i64 b.redox.lo, .int .i64 b.redox.hi, .int .i64 b.wanted] 29)).alloc (.cells #[.slice b0 x.recipe.length j0, .slice b1 x.other.length j1, .int .i64 x.property, .int .i64 x.lots, .int .i64 x.scale, .slice b5 x.weights.length j5] 34)).alloc (.cells #[.slice ap P.length kp] 48)) (w.heap.size + 1) #[.slice b0 x.recipe.length j0, .slice b1 x.other.length j1, .int .i64 x.property, .int .i64 x.lots, .int .i64 x.scale, .slice b5 x.weights.length j5] 34 := by
    have := (Blk.new (w.alloc (.cells #[.slice a0 b.oxides.length k0, .slice a1 b.mats.length k1, .slice a2 b.shares.length k2, .slice a3 b.props.length k3, .int .i64 b.redox.lo, .int .i64 b.redox.hi, .int .i64 b.wanted] 29)) #[.slice b0 x.recipe.length j0, .slice b1 x.other.length j1, .int .i64 x.property, .int .i64 x.lots, .int .i64 x.scale, .slice b5 x.weights.length j5] 34).alloc (.cells #[.slice ap P.length kp] 48)
    simpa using this
  have hY : Blk (((w.alloc (.cells #[.slice a0 b.oxides.length k0, .slice a1 b.mats.length k1, .slice a2 b.shares.length k2, .slice a3 b.props.length k3, .int .i64 b.redox.lo, .int .i64 b.redox.hi, .int .i64 b.wanted] 29)).alloc (.cells #[.slice b0 x.recipe.length j0, .slice b1 x.other.length j1, .int .i64 x.property, .int .i64 x.lots, .int .i64 x.scale, .slice b5 x.weights.length j5] 34)).alloc (.cells #[.slice ap P.length kp] 48)) (w.heap.size + 1 + 1) #[.slice ap P.length kp] 48 := by
    have := Blk.new ((w.alloc (.cells #[.slice a0 b.oxides.length k0, .slice a1 b.mats.length k1, .slice a2 b.shares.length k2, .slice a3 b.props.length k3, .int .i64 b.redox.lo, .int .i64 b.redox.hi, .int .i64 b.wanted] 29)).alloc (.cells #[.slice b0 x.recipe.length j0, .slice b1 x.other.length j1, .int .i64 x.property, .int .i64 x.lots, .int .i64 x.scale, .slice b5 x.weights.length j5] 34)) #[.slice ap P.length kp] 48
    simpa using this
  go_enter Try.func5, Try.ntmps5
  go_wp2_with fail
  generalize (((w.alloc (.cells #[.slice a0 b.oxides.length k0, .slice a1 b.mats.length k1, .slice a2 b.shares.length k2, .slice a3 b.props.length k3, .int .i64 b.redox.lo, .int .i64 b.redox.hi, .int .i64 b.wanted] 29)).alloc (.cells #[.slice b0 x.recipe.length j0, .slice b1 x.other.length j1, .int .i64 x.property, .int .i64 x.lots, .int .i64 x.scale, .slice b5 x.weights.length j5] 34)).alloc (.cells #[.slice ap P.length kp] 48)) = W at *
  refine (great_any _ b _ (h.mono (ext_of_below hA))).mono ?_
  rintro e w1 ⟨t1, rfl, hb1⟩
  have hA1 := hA.trans (hb1.mono hA.size)
  have hB1 := hB.below hb1 hB.lt
  have hC1 := hC.below hb1 hC.lt
  have hY1 := hY.below hb1 hY.lt
  clear hA hB hC hY hb1
  cases t1
  case true =>
    go_wp2_with fail
    refine (lives_any _).mono ?_
    rintro e wl ⟨rfl, hbl⟩
    have hAl := hA1.trans (hbl.mono hA1.size)
    clear hbl hB1 hC1 hY1 
    go_wp2
    go_ret
    exact ⟨rfl, hAl⟩
  have c0 := hC1.cell 0 (.slice b0 x.recipe.length j0) rfl
  have c1 := hC1.cell 1 (.slice b1 x.other.length j1) rfl
  have c2 := hC1.cell 2 (.int .i64 x.property) rfl
  have c3 := hC1.cell 3 (.int .i64 x.lots) rfl
  have c4 := hC1.cell 4 (.int .i64 x.scale) rfl
  have c5 := hC1.cell 5 (.slice b5 x.weights.length j5) rfl
  go_wp2_with fail
  refine (wide_any _ x _ ?_).mono ?_
  · exact hx.mono (ext_of_below hA1)
  rintro e w2 ⟨t2, rfl, hb2⟩
  have hA2 := hA1.trans (hb2.mono hA1.size)
  have hB2 := hB1.below hb2 hB1.lt
  have hC2 := hC1.below hb2 hC1.lt
  have hY2 := hY1.below hb2 hY1.lt
  clear hA1 hB1 hC1 hY1 hb2 c0 c1 c2 c3 c4 c5
  cases t2
  case true =>
    go_wp2_with fail
    refine (lives_any _).mono ?_
    rintro e wl ⟨rfl, hbl⟩
    have hAl := hA2.trans (hbl.mono hA2.size)
    clear hbl hB2 hC2 hY2 
    go_wp2
    go_ret
    exact ⟨rfl, hAl⟩
  have y0 := hY2.cell 0 (.slice ap P.length kp) rfl
  by_cases h20 : 20 < P.length
  case pos =>
    go_wp2_with fail
    refine (lives_any _).mono ?_
    rintro e wl ⟨rfl, hbl⟩
    have hAl := hA2.trans (hbl.mono hA2.size)
    clear hbl hB2 hC2 hY2 y0
    go_wp2
    go_ret
    exact ⟨rfl, hAl⟩
  have d20 : decide ((20 : Int) < (P.length : Int)) = false := decide_eq_false (by omega)
  have hgp := glass_parts b x.recipe
  have f0 := hB2.cell 0 (.slice a0 b.oxides.length k0) rfl
  have f1 := hB2.cell 1 (.slice a1 b.mats.length k1) rfl
  have f2 := hB2.cell 2 (.slice a2 b.shares.length k2) rfl
  have f3 := hB2.cell 3 (.slice a3 b.props.length k3) rfl
  have f4 := hB2.cell 4 (.int .i64 b.redox.lo) rfl
  have f5 := hB2.cell 5 (.int .i64 b.redox.hi) rfl
  have f6 := hB2.cell 6 (.int .i64 b.wanted) rfl
  have c0 := hC2.cell 0 (.slice b0 x.recipe.length j0) rfl
  go_wp2_with fail
  refine (glass_any _ _ b x.recipe _ (h.mono (ext_of_below hA2)) (hr1.mono (ext_of_below hA2))).mono ?_
  rintro e w3 ⟨vs, rfl, hvs, hb3⟩
  clear y0 d20 h20
  have hA3 := hA2.trans (hb3.mono hA2.size)
  have hB3 := hB2.below hb3 hB2.lt
  have hC3 := hC2.below hb3 hC2.lt
  have hY3 := hY2.below hb3 hY2.lt
  clear hA2 hB2 hC2 hY2 hb3 f0 f1 f2 f3 f4 f5 f6 c0
  replace hvs := hvs.mono (vis_ext _ _)
  rcases hgp with ⟨n, hn, hgp⟩ | ⟨hbo, hz, hgp⟩
  · rw [hgp] at hvs ⊢
    obtain ⟨aS, kS, rfl, -, -, -⟩ := hvs
    clear hgp
    simp only [List.length_nil]
    go_wp2_with fail
    refine (lives_any _).mono ?_
    rintro e wl ⟨rfl, hbl⟩
    have hAl := hA3.trans (hbl.mono hA3.size)
    clear hbl hB3 hC3 hY3 
    go_wp2
    go_ret
    exact ⟨rfl, hAl⟩
  rw [hgp] at hvs ⊢
  obtain ⟨g1, g2, g3⟩ := rec_len hbo
  have hok := ok_of g1
  have hpas : passesB b x.recipe = (passB b x.recipe, 0) := by simp [passesB, hbo]
  have hrdx : redoxB b x.recipe = (rdxB b x.recipe, 0) := by simp [redoxB, hbo, hz]
  have hpin : passB b x.recipe = true → insideP b x.recipe := (lines_inside hok g3 g2 hz).1
  have hvalB : ∀ n (hn : n < b.props.length), valB b x.recipe n = (valueB (b.props[n]).coefs (gramsB b x.recipe), 0) := fun n hn => by simp [valB, hbo, hz, hn]
  have hsl : (glassTo b x.recipe b.oxides.length).length = b.oxides.length := glassTo_len _ _ _
  have hsv : ∀ i (hi : i < (glassTo b x.recipe b.oxides.length).length), (glassTo b x.recipe b.oxides.length)[i] = valueB (shareB b.oxides.length i) (gramsB b x.recipe) := fun i hi => by simp [glassTo]
  have hox := hok.ox
  have hmt := hok.mt
  have hrl1 : x.recipe.length ≤ b.mats.length := by omega
  have hrl2 : b.mats.length ≤ x.recipe.length := by omega
  have hsl1 : (glassTo b x.recipe b.oxides.length).length ≤ b.oxides.length := by omega
  have hsl2 : b.oxides.length ≤ (glassTo b x.recipe b.oxides.length).length := by omega
  generalize glassTo b x.recipe b.oxides.length = ss at *
  generalize hps : passB b x.recipe = ps at *
  have G1 := Lib.hid hok
  have G2 := Lib.hid g2
  have G3 := Lib.hid g3
  have HZ := Lib.hid hz
  have HP := Lib.hid hpas
  have HR := Lib.hid hrdx
  have HIN := Lib.hid hpin
  have HVB := Lib.hid hvalB
  have HSV := Lib.hid hsv
  clear hok g1 g2 g3 hz hpas hrdx hpin hvalB hsv hgp hbo hsl hps
  obtain ⟨aS, kS, rfl, -, ⟨-, lS⟩, hss⟩ := hvs
  have f0 := hB3.cell 0 (.slice a0 b.oxides.length k0) rfl
  have f1 := hB3.cell 1 (.slice a1 b.mats.length k1) rfl
  have f2 := hB3.cell 2 (.slice a2 b.shares.length k2) rfl
  have f3 := hB3.cell 3 (.slice a3 b.props.length k3) rfl
  have f4 := hB3.cell 4 (.int .i64 b.redox.lo) rfl
  have f5 := hB3.cell 5 (.int .i64 b.redox.hi) rfl
  have f6 := hB3.cell 6 (.int .i64 b.wanted) rfl
  have c0 := hC3.cell 0 (.slice b0 x.recipe.length j0) rfl
  have hpc := passes_any _ _ b x.recipe _ (h.mono (ext_of_below hA3)) (hr1.mono (ext_of_below hA3))
  rw [HP.out] at hpc
  go_wp2_with fail
  refine hpc.mono ?_
  rintro e w4 ⟨rfl, hb4⟩
  have es4 := ext_of_below hb4
  have hA4 := hA3.trans (hb4.mono hA3.size)
  have hB4 := hB3.below hb4 hB3.lt
  have hC4 := hC3.below hb4 hC3.lt
  have hY4 := hY3.below hb4 hY3.lt
  clear hA3 hB3 hC3 hY3 hb4 hpc f0 f1 f2 f3 f4 f5 f6 c0
  have f0 := hB4.cell 0 (.slice a0 b.oxides.length k0) rfl
  have f1 := hB4.cell 1 (.slice a1 b.mats.length k1) rfl
  have f2 := hB4.cell 2 (.slice a2 b.shares.length k2) rfl
  have f3 := hB4.cell 3 (.slice a3 b.props.length k3) rfl
  have f4 := hB4.cell 4 (.int .i64 b.redox.lo) rfl
  have f5 := hB4.cell 5 (.int .i64 b.redox.hi) rfl
  have f6 := hB4.cell 6 (.int .i64 b.wanted) rfl
  have c0 := hC4.cell 0 (.slice b0 x.recipe.length j0) rfl
  have hpc := redox_any _ _ b x.recipe _ (h.mono (ext_of_below hA4)) (hr1.mono (ext_of_below hA4))
  rw [HR.out] at hpc
  have hrs := rdx_small G1.out G3.out G2.out HZ.out
  generalize hrd : rdxB b x.recipe = rd at *
  have HRD := Lib.hid hrd
  clear hrd
  go_wp2_with fail
  refine hpc.mono ?_
  rintro e w5 ⟨rfl, hb5⟩
  have es5 := es4.trans (ext_of_below hb5)
  clear es4
  have hA5 := hA4.trans (hb5.mono hA4.size)
  have hB5 := hB4.below hb5 hB4.lt
  have hC5 := hC4.below hb5 hC4.lt
  have hY5 := hY4.below hb5 hY4.lt
  clear hA4 hB4 hC4 hY4 hb5 hpc f0 f1 f2 f3 f4 f5 f6 c0
  have hD6 := Blk.new w5 #[.int .i64 rd.lo, .int .i64 rd.hi] 27
  have hA6 := hA5.alloc hA5.size (.cells #[.int .i64 rd.lo, .int .i64 rd.hi] 27)
  have hB6 := hB5.alloc (.cells #[.int .i64 rd.lo, .int .i64 rd.hi] 27)
  have hC6 := hC5.alloc (.cells #[.int .i64 rd.lo, .int .i64 rd.hi] 27)
  have hY6 := hY5.alloc (.cells #[.int .i64 rd.lo, .int .i64 rd.hi] 27)
  have es6 := es5.trans (ext_of_below (below_box w5 (.cells #[.int .i64 rd.lo, .int .i64 rd.hi] 27)))
  have hdl : w.heap.size + 1 + 1 < w5.heap.size := hY5.lt
  clear es5 hA5 hB5 hC5 hY5
  have f0 := hB6.cell 0 (.slice a0 b.oxides.length k0) rfl
  have f1 := hB6.cell 1 (.slice a1 b.mats.length k1) rfl
  have f2 := hB6.cell 2 (.slice a2 b.shares.length k2) rfl
  have f3 := hB6.cell 3 (.slice a3 b.props.length k3) rfl
  have f4 := hB6.cell 4 (.int .i64 b.redox.lo) rfl
  have f5 := hB6.cell 5 (.int .i64 b.redox.hi) rfl
  have f6 := hB6.cell 6 (.int .i64 b.wanted) rfl
  have c0 := hC6.cell 0 (.slice b0 x.recipe.length j0) rfl
  have y0 := hY6.cell 0 (.slice ap P.length kp) rfl
  go_wp2_with fail
  generalize w5.alloc (.cells #[.int .i64 rd.lo, .int .i64 rd.hi] 27) = w6 at *
  generalize w5.heap.size = dd at *
  refine (lgrams_any _ _ _ b x.recipe P _ (h.mono (ext_of_below hA6)) (hr1.mono (ext_of_below hA6)) (hy.mono (ext_of_below hA6)) G1.out G3.out G2.out).mono ?_
  rintro e w7 ⟨hb7, hres⟩
  have es7 := es6.trans (ext_of_below hb7)
  have hD7 := hD6.below hb7 hD6.lt
  clear es6 hD6
  have hA7 := hA6.trans (hb7.mono hA6.size)
  have hB7 := hB6.below hb7 hB6.lt
  have hC7 := hC6.below hb7 hC6.lt
  have hY7 := hY6.below hb7 hY6.lt
  clear hA6 hB6 hC6 hY6 hb7 f0 f1 f2 f3 f4 f5 f6 c0 y0
  rcases hres with rfl | ⟨vg, rfl, hvg⟩
  · clear hD7 es7 hss
    go_wp2_with fail
    refine (lives_any _).mono ?_
    rintro e wl ⟨rfl, hbl⟩
    have hAl := hA7.trans (hbl.mono hA7.size)
    clear hbl hB7 hC7 hY7 
    go_wp2
    go_ret
    exact ⟨rfl, hAl⟩
  replace hvg := hvg.mono (vis_ext _ _)
  have hbt := real_betw G1.out G3.out G2.out (partP_bd P)
  have hgl : (realB b x.recipe (partP P)).length = b.oxides.length := rTo_len _ _ _ _ _
  generalize realB b x.recipe (partP P) = g at *
  have hgl1 : g.length ≤ b.oxides.length := by omega
  have hgl2 : b.oxides.length ≤ g.length := by omega
  have HBT := Lib.hid hbt
  have HGL := Lib.hid hgl
  clear hbt hgl
  obtain ⟨aG, kG, rfl, -, ⟨-, lG⟩, hgg⟩ := hvg
  have hdn : ((ss.length : Int) != (g.length : Int)) = false := by simp; omega
  go_wp2
  go_loopw [14, 16] (fun v i wr => ∃ (k : Nat), k ≤ g.length ∧ i = .int .i64 k ∧ v = .int .i64 (wTot g k) ∧ Below w7.heap.size w7 wr) (fun _ i _ => g.length - (intOf i).toNat)
  case atStart => exact ⟨0, Nat.zero_le _, rfl, by simp [wTot], Below.refl _ _⟩
  case round =>
    obtain ⟨k, hk, rfl, rfl, hb⟩ := hrel
    by_cases hlt : k < g.length
    · obtain ⟨b6, o6, rfl, q1, -⟩ := hgg k hlt
      simp only [Nat.mul_one] at q1
      replace q1 := ext_of_below hb _ _ q1
      have m1 := wTo_ok G1.out G3.out G2.out HBT.out k hk
      have m2 := g_ok G1.out G3.out G2.out HBT.out hlt
      have hst := wTot_succ g k
      rw [show g.getD k 0 = g[k] from by simp [List.getD, List.getElem?_eq_getElem hlt]] at hst
      have HS := Lib.hid hst
      obtain ⟨m3, m4⟩ := m1
      obtain ⟨m5, m6⟩ := m2
      have m7 : wTot g k ≤ 1000000000000 := by omega
      clear m4 hst hgg hss
      generalize g[k] = gk at *
      go_wp2
      go_roundw
      case rel => exact ⟨k + 1, by omega, by go_num, by rw [HS.out], hb⟩
      case measure => simp [intOf]; omega
    have hkk : k = b.oxides.length := by omega
    have HW := Lib.hid (wt_ok G1.out G3.out G2.out HBT.out)
    rw [hkk]
    have dn1 : decide (b.oxides.length < g.length) = false := decide_eq_false (by omega)
    clear hkk hk hlt k
    have es8 := es7.trans (ext_of_below hb)
    have hD8 := hD7.below hb hD7.lt
    replace hgg := fun i (hi : i < g.length) => (hgg i hi).imp fun _ h => h.imp fun _ h => And.intro h.1 (RInt.mono (ext_of_below hb) h.2)
    clear es7 hD7
    have hA8 := hA7.trans (hb.mono hA7.size)
    have hB8 := hB7.below hb hB7.lt
    have hC8 := hC7.below hb hC7.lt
    have hY8 := hY7.below hb hY7.lt
    clear hA7 hB7 hC7 hY7 hb
    generalize hwt : wTot g b.oxides.length = wt at *
    have HWT := Lib.hid hwt
    clear hwt
    obtain ⟨w1a, w1b, w1c⟩ := HW.out
    have w1d : 1 ≤ wt := by have := tot_bd G1.out G3.out G2.out; have := HZ.out; omega
    clear w1a
    obtain ⟨v0, v1, v2, v3, ev, z0, z1, z2, z3, -, -, -⟩ := id h
    simp only [Value.agg.injEq, Array.mk.injEq, List.cons.injEq, and_true] at ev
    obtain ⟨rfl, rfl, rfl, rfl, -⟩ := ev
    obtain ⟨a1', k1', e1, -, ⟨-, l1⟩, hl1⟩ := z1
    simp only [Value.slice.injEq, true_and] at e1
    obtain ⟨rfl, rfl⟩ := e1
    obtain ⟨a2', k2', e2, -, ⟨-, l2⟩, hl2⟩ := z2
    simp only [Value.slice.injEq, true_and] at e2
    obtain ⟨rfl, rfl⟩ := e2
    obtain ⟨a3', k3', e3, -, ⟨-, l3⟩, hl3⟩ := z3
    simp only [Value.slice.injEq, true_and] at e3
    obtain ⟨rfl, rfl⟩ := e3
    clear z0
    obtain ⟨ar, kr, er, -, ⟨-, lr⟩, hrl⟩ := id hr1
    simp only [Value.slice.injEq, true_and] at er
    obtain ⟨rfl, rfl⟩ := er
    go_wp2
    obtain ⟨w8, hw8⟩ : ∃ w8 : World, w8 = wr := ⟨_, rfl⟩
    subst hw8
    go_loopw [15, 17] (fun v i wr => ∃ (k : Nat), k ≤ b.mats.length ∧ i = .int .i64 k ∧ v = .int .i64 (sdL b x.recipe k) ∧ Below w8.heap.size w8 wr) (fun _ i _ => b.mats.length - (intOf i).toNat)
    case atStart => exact ⟨0, Nat.zero_le _, rfl, by simp [sdL], Below.refl _ _⟩
    case round =>
      obtain ⟨k, hk, rfl, rfl, hb⟩ := hrel
      have hB9 := hB8.below hb hB8.lt
      have hC9 := hC8.below hb hC8.lt
      by_cases hlt : k < b.mats.length
      · obtain ⟨b6, o6, rfl, q1, -⟩ := hrl k (by omega)
        obtain ⟨b7, o7, rfl, vc, ⟨-, -, q2, -, -, -, -⟩, -, -⟩ := hl1 k hlt
        have hrk : k < x.recipe.length := by omega
        simp only [Nat.mul_one] at q1
        simp only at q2
        replace q1 := ext_of_below hb _ _ (ext_of_below hA8 _ _ q1)
        replace q2 := ext_of_below hb _ _ (ext_of_below hA8 _ _ q2)
        have f1 := hB9.cell 1 (.slice (some ⟨b7, o7, none⟩) b.mats.length k1) rfl
        have c0 := hC9.cell 0 (.slice (some ⟨b6, o6, none⟩) x.recipe.length j0) rfl
        have m1 := sdL_bd G1.out G3.out G2.out k hk
        have m2 := sd_prod (G3.out _ (List.getElem_mem hrk)) (G1.out.mats _ (List.getElem_mem hlt)).redox
        have hst := sdL_succ b x.recipe k
        rw [show x.recipe.getD k 0 = x.recipe[k] from by simp [List.getD, List.getElem?_eq_getElem hrk], rdx_at hlt] at hst
        have HS := Lib.hid hst
        obtain ⟨m3, m4⟩ := m1
        obtain ⟨m5, m6⟩ := m2
        have n1 : (0 : Int) ≤ (k : Int) := Int.natCast_nonneg _
        have n2 : (k : Int) < (b.mats.length : Int) := by omega
        have n3 : (k : Int) < (x.recipe.length : Int) := by omega
        have hmt2 := G1.out.mt
        have m7 : -1000000000 ≤ sdL b x.recipe k := by omega
        have m8 : sdL b x.recipe k ≤ 1000000000 := by omega
        clear m3 m4 hst hl1 hl2 hl3 hrl hgg hss h hr1 hx hy hB8 hC8 hA8 hY8
        generalize x.recipe[k]'hrk = p at *
        generalize b.mats[k]'hlt = m at *
        have i1 : IntKind.i64.wrap (p * m.redox) = p * m.redox := IntWalk.i64_in _ (by omega)
        have i2 : IntKind.i64.wrap (sdL b x.recipe k + p * m.redox) = sdL b x.recipe k + p * m.redox := IntWalk.i64_in _ (by omega)
        go_wp2_with fail
        go_quiet (fail)
        clear i1 i2
        go_wp2
        go_roundw
        case rel => exact ⟨k + 1, by omega, by go_num, by rw [HS.out], by first | exact hb | exact hb.drew | exact below_drewI hb⟩
        case measure => simp [intOf]; omega
      have hkk : k = b.mats.length := by omega
      rw [hkk]
      have dn2 : decide (b.mats.length < x.recipe.length) = false := decide_eq_false (by omega)
      clear hkk hk hlt k hB9 hC9 hl1 hrl
      have es9 := es8.trans (ext_of_below hb)
      have hD9 := hD8.below hb hD8.lt
      replace hgg := fun i (hi : i < g.length) => (hgg i hi).imp fun _ h => h.imp fun _ h => And.intro h.1 (RInt.mono (ext_of_below hb) h.2)
      clear es8 hD8
      have hA9 := hA8.trans (hb.mono hA8.size)
      have hB9 := hB8.below hb hB8.lt
      have hC9 := hC8.below hb hC8.lt
      have hY9 := hY8.below hb hY8.lt
      clear hA8 hB8 hC8 hY8 hb
      have hsb := sdL_bd G1.out G3.out G2.out b.mats.length (Nat.le_refl _)
      have hmt2 := G1.out.mt
      have s1 : -1000000000 ≤ sdL b x.recipe b.mats.length := by omega
      have s2 : sdL b x.recipe b.mats.length ≤ 1000000000 := by omega
      clear hsb
      have HLS := Lib.hid (less_redox G1.out G3.out G2.out HZ.out HBT.out (t := rd) (by rw [HRD.out]; omega) (by rw [HRD.out]; omega) hrs)
      rw [HWT.out] at HLS
      generalize hsm : sdL b x.recipe b.mats.length = sm at *
      have HSM := Lib.hid hsm
      clear hsm
      obtain ⟨hwl, hwh⟩ := G1.out.wanted
      have f6 := hB9.cell 6 (.int .i64 b.wanted) rfl
      have c0 := hC9.cell 0 (.slice b0 x.recipe.length j0) rfl
      have hss9 : ∀ i (hi : i < ss.length), ∃ bb oo, aS = some ⟨bb, oo, none⟩ ∧ RSp wr ⟨bb, oo + i * 2, none⟩ ss[i] := fun i hi => (hss i hi).imp fun _ h => h.imp fun _ h => And.intro h.1 (RSp.mono es9 h.2)
      clear es9 hss
      obtain ⟨w9, hw9⟩ : ∃ w9 : World, w9 = wr := ⟨_, rfl⟩
      subst hw9
      have hd1 : decide (wt < 1) = false := decide_eq_false (by omega)
      cases ps
      case false =>
        clear HIN
        go_wp2
        clear hd1 c0
        go_loopw [18] (fun i wr => ∃ (k : Nat), k ≤ g.length ∧ i = .int .i64 k ∧ Below w9.heap.size w9 wr) (fun i _ => g.length - (intOf i).toNat)
        case atStart => exact ⟨0, Nat.zero_le _, rfl, Below.refl _ _⟩
        case round =>
          obtain ⟨k, hk, rfl, hb⟩ := hrel
          by_cases hlt : k < g.length
          · obtain ⟨b6, o6, rfl, q1, -⟩ := hgg k hlt
            have hls : k < ss.length := by omega
            have hlm : k < b.shares.length := by have := G1.out.shLen; omega
            obtain ⟨b7, o7, rfl, p1, p2, -, -⟩ := hss9 k hls
            obtain ⟨b8, o8, rfl, t1, t2, -, -⟩ := hl2 k hlm
            simp only [Nat.mul_one] at q1
            try simp only at p1 p2 t1 t2
            replace q1 := ext_of_below hb _ _ q1
            replace p1 := ext_of_below hb _ _ p1
            replace p2 := ext_of_below hb _ _ p2
            replace t1 := ext_of_below hb _ _ (ext_of_below hA9 _ _ t1)
            replace t2 := ext_of_below hb _ _ (ext_of_below hA9 _ _ t2)
            have f2 := (hB9.below hb hB9.lt).cell 2 (.slice (some ⟨b8, o8, none⟩) b.shares.length k2) rfl
            have hr9 := sh_rng G1.out G3.out G2.out HZ.out HBT.out hlt
            rw [HWT.out, ← HSV.out k hls] at hr9
            have m2 := g_ok G1.out G3.out G2.out HBT.out hlt
            obtain ⟨m5, m6⟩ := m2
            have n1 : (0 : Int) ≤ (k : Int) := Int.natCast_nonneg _
            have n2 : (k : Int) < (g.length : Int) := by omega
            have n3 : (k : Int) < (ss.length : Int) := by omega
            have n4 : (k : Int) < (b.shares.length : Int) := by omega
            have hbs := hb
            clear hgg hss9 hl2 hl3 h hr1 hx hy hA9 hB9 hC9 hY9 hD9 hb
            generalize g[k]'hlt = gk at *
            generalize ss[k]'hls = s at *
            generalize b.shares[k]'hlm = m at *
            obtain ⟨r1, r2, r3, r4, r5, r6⟩ := hr9
            have e1 : decide (1000 * gk < s.lo * wt) = false := decide_eq_false (by omega)
            have e2 : decide (s.hi * wt < 1000 * gk) = false := decide_eq_false (by omega)
            have i1 : IntKind.i64.wrap (1000 * gk) = 1000 * gk := IntWalk.i64_in _ (by omega)
            have i2 : IntKind.i64.wrap (s.lo * wt) = s.lo * wt := IntWalk.i64_in _ (by omega)
            have i3 : IntKind.i64.wrap (s.hi * wt) = s.hi * wt := IntWalk.i64_in _ (by omega)
            go_wp2_with fail
            go_quiet (fail)
            go_wp2_with fail
            go_quiet (fail)
            clear i1 i2 i3
            go_wp2
            go_roundw
            case rel => exact ⟨k + 1, by omega, by go_num, by first | exact hbs | exact below_drewI hbs | exact below_drewI (below_drewI hbs)⟩
            case measure => simp [intOf]; omega
          clear hss9 hl2
          have hD10 := hD9.below hb hD9.lt
          replace hgg := fun i (hi : i < g.length) => (hgg i hi).imp fun _ h => h.imp fun _ h => And.intro h.1 (RInt.mono (ext_of_below hb) h.2)
          clear hD9
          have hA10 := hA9.trans (hb.mono hA9.size)
          have hB10 := hB9.below hb hB9.lt
          have hC10 := hC9.below hb hC9.lt
          have hY10 := hY9.below hb hY9.lt
          clear hA9 hB9 hC9 hY9 hb
          obtain ⟨w10, hw10⟩ : ∃ w10 : World, w10 = wr := ⟨_, rfl⟩
          subst hw10
          go_wp2
          clear hk hlt
          go_loopw [19] (fun i wr => ∃ (k : Nat), k ≤ b.props.length ∧ i = .int .i64 k ∧ Below w10.heap.size w10 wr) (fun i _ => b.props.length - (intOf i).toNat)
          case atStart => exact ⟨0, Nat.zero_le _, rfl, Below.refl _ _⟩
          case round =>
            obtain ⟨k, hk, rfl, hb⟩ := hrel
            have hA11 := hA10.trans (hb.mono hA10.size)
            have hB11 := hB10.below hb hB10.lt
            have hC11 := hC10.below hb hC10.lt
            by_cases hlt : k < b.props.length
            · obtain ⟨b7, o7, rfl, vc, ⟨t0, t1, t2, t3⟩, hvc, -, -, -⟩ := hl3 k hlt
              obtain ⟨ac, kc, rfl, -, ⟨-, lc⟩, hcc⟩ := hvc
              have hpm := List.getElem_mem hlt
              have hpo := G1.out.props _ hpm
              have hv9 := pr_rng G1.out G3.out G2.out HZ.out HBT.out hpm
              rw [HWT.out] at hv9
              have hdb := dot_bd2 hpo.coefs (fun i hi => g_ok G1.out G3.out G2.out HBT.out hi) (by rw [hpo.len, HGL.out])
              have hcl1 : (b.props[k]).coefs.length ≤ b.oxides.length := by rw [hpo.len]; exact Nat.le_refl _
              have hcl2 : b.oxides.length ≤ (b.props[k]).coefs.length := by rw [hpo.len]; exact Nat.le_refl _
              have hcb := hpo.coefs
              have hva := val_any _ _ b x.recipe k (by have := G1.out.pr; omega)  (wr.alloc (.cells #[.string (b.props[k]).name, .slice ac (b.props[k]).coefs.length kc, .int .i64 (b.props[k]).target.lo, .int .i64 (b.props[k]).target.hi] 60)) (h.mono (ext_of_below (hA11.alloc hA11.size _))) (hr1.mono (ext_of_below (hA11.alloc hA11.size _)))
              rw [HVB.out k hlt] at hva
              simp only at t0 t1 t2 t3
              replace t0 := ext_of_below hA11 _ _ t0
              replace t1 := ext_of_below hA11 _ _ t1
              replace t2 := ext_of_below hA11 _ _ t2
              replace t3 := ext_of_below hA11 _ _ t3
              have fp3 := hB11.cell 3 (.slice (some ⟨b7, o7, none⟩) b.props.length k3) rfl
              have n1 : (0 : Int) ≤ (k : Int) := Int.natCast_nonneg _
              have n2 : (k : Int) < (b.props.length : Int) := by omega
              have hpB : Below w.heap.size w wr := hA11
              clear hpo hl3 hx hy hA10 hB10 hC10 hY10
              generalize b.props[k]'hlt = p at *
              generalize hvv : valueB p.coefs (gramsB b x.recipe) = vv at *
              clear hvv
              have hq1 := below_box wr (.cells #[.string p.name, .slice ac p.coefs.length kc, .int .i64 p.target.lo, .int .i64 p.target.hi] 60)
              have hP12 := Blk.new wr #[.string p.name, .slice ac p.coefs.length kc, .int .i64 p.target.lo, .int .i64 p.target.hi] 60
              have hB12 := hB11.alloc (.cells #[.string p.name, .slice ac p.coefs.length kc, .int .i64 p.target.lo, .int .i64 p.target.hi] 60)
              have hC12 := hC11.alloc (.cells #[.string p.name, .slice ac p.coefs.length kc, .int .i64 p.target.lo, .int .i64 p.target.hi] 60)
              have hA12 := hA11.alloc hA11.size (.cells #[.string p.name, .slice ac p.coefs.length kc, .int .i64 p.target.lo, .int .i64 p.target.hi] 60)
              have hb12 := hb.trans (hq1.mono hb.size)
              have hpl : w10.heap.size ≤ wr.heap.size := hb.size
              have f0 := hB12.cell 0 (.slice a0 b.oxides.length k0) rfl
              have f1 := hB12.cell 1 (.slice a1 b.mats.length k1) rfl
              have f2 := hB12.cell 2 (.slice a2 b.shares.length k2) rfl
              have f3 := hB12.cell 3 (.slice (some ⟨b7, o7, none⟩) b.props.length k3) rfl
              have f4 := hB12.cell 4 (.int .i64 b.redox.lo) rfl
              have f5 := hB12.cell 5 (.int .i64 b.redox.hi) rfl
              have f6 := hB12.cell 6 (.int .i64 b.wanted) rfl
              have c0 := hC12.cell 0 (.slice b0 x.recipe.length j0) rfl
              clear hA11 hB11 hC11 hq1 hb hpB
              go_wp2_with fail
              clear fp3 t0 t1 t2 t3
              generalize wr.alloc (.cells #[.string p.name, .slice ac p.coefs.length kc, .int .i64 p.target.lo, .int .i64 p.target.hi] 60) = w12 at *
              generalize wr.heap.size = pp at *
              refine hva.mono ?_
              rintro e w13 ⟨rfl, hb13⟩
              have hA13 := hA12.trans (hb13.mono hA12.size)
              have hb13b := hb12.trans (hb13.mono hb12.size)
              have hP13 := hP12.below hb13 hP12.lt
              have hB13 := hB12.below hb13 hB12.lt
              clear f0 f1 f2 f3 f4 f5 f6 c0 hva hA12 hb12 hP12 hB12 hC12 hb13
              have hV14 := Blk.new w13 #[.int .i64 vv.lo, .int .i64 vv.hi] 27
              have hP14 := hP13.alloc (.cells #[.int .i64 vv.lo, .int .i64 vv.hi] 27)
              have hb14 := hb13b.alloc hb13b.size (.cells #[.int .i64 vv.lo, .int .i64 vv.hi] 27)
              have hA14 := hA13.alloc hA13.size (.cells #[.int .i64 vv.lo, .int .i64 vv.hi] 27)
              have hpv : pp < w13.heap.size := hP13.lt
              clear hP13 hb13b hA13 hB13
              go_wp2_with fail
              generalize w13.alloc (.cells #[.int .i64 vv.lo, .int .i64 vv.hi] 27) = w14 at *
              generalize w13.heap.size = qq at *
              go_wp2
              have hb14s := hb14.size
              obtain ⟨wx, hwx⟩ : ∃ wx : World, wx = w14 := ⟨_, rfl⟩
              clear hwx wx
              go_loopw [23, 24] (fun v i wr => ∃ (j : Nat), j ≤ g.length ∧ i = .int .i64 j ∧ v = .int .i64 (dotTo p.coefs g j) ∧ Below w14.heap.size w14 wr) (fun _ i _ => g.length - (intOf i).toNat)
              case atStart => exact ⟨0, Nat.zero_le _, rfl, by simp [dotTo], Below.refl _ _⟩
              case round =>
                obtain ⟨j, hj, rfl, rfl, hbj⟩ := hrel
                have hP15 := hP14.below hbj hP14.lt
                have hb15 := hb14.trans (hbj.mono hb14.size)
                by_cases hlj : j < g.length
                · obtain ⟨b8, o8, rfl, q1, -⟩ := hgg j hlj
                  have hjc : j < p.coefs.length := by omega
                  obtain ⟨b9, o9, rfl, q2, -⟩ := hcc j hjc
                  simp only [Nat.mul_one] at q1 q2
                  replace q1 := ext_of_below hb15 _ _ q1
                  replace q2 := ext_of_below hbj _ _ (ext_of_below hA14 _ _ q2)
                  have p1 := hP15.cell 1 (.slice (some ⟨b9, o9, none⟩) p.coefs.length kc) rfl
                  have m1 := hdb j hj
                  have hox3 := G1.out.ox
                  have m2 := g_ok G1.out G3.out G2.out HBT.out hlj
                  have m3 := cg_bd (hcb _ (List.getElem_mem hjc)) m2
                  have hst := dotTo_succ' p.coefs g j
                  rw [show p.coefs.getD j 0 = p.coefs[j] from by simp [List.getD, List.getElem?_eq_getElem hjc], show g.getD j 0 = g[j] from by simp [List.getD, List.getElem?_eq_getElem hlj]] at hst
                  have HS := Lib.hid hst
                  obtain ⟨m4, m5⟩ := m1
                  obtain ⟨m6, m7⟩ := m3
                  have m8 : -2000000000000000 ≤ dotTo p.coefs g j := by omega
                  have m9 : dotTo p.coefs g j ≤ 2000000000000000 := by omega
                  have n3 : (0 : Int) ≤ (j : Int) := Int.natCast_nonneg _
                  have n4 : (j : Int) < (g.length : Int) := by omega
                  have n5 : (j : Int) < (p.coefs.length : Int) := by omega
                  clear m2 m4 m5 hst hdb hcb hgg hcc hv9 h hr1 hP14 hV14 hA14 hb14 hP15 hb15 hD10
                  generalize g[j]'hlj = gj at *
                  generalize p.coefs[j]'hjc = cj at *
                  have i1 : IntKind.i64.wrap (cj * gj) = cj * gj := IntWalk.i64_in _ (by omega)
                  have i2 : IntKind.i64.wrap (dotTo p.coefs g j + cj * gj) = dotTo p.coefs g j + cj * gj := IntWalk.i64_in _ (by omega)
                  go_wp2_with fail
                  go_quiet (fail)
                  clear i1 i2
                  go_wp2
                  go_roundw
                  case rel => exact ⟨j + 1, by omega, by go_num, by rw [HS.out], by first | exact hbj | exact hbj.drew | exact below_drewI hbj⟩
                  case measure => simp [intOf]; omega
                have hV15 := hV14.below hbj hV14.lt
                have hje : j = g.length := by omega
                rw [hje]
                clear hje hlj hj hgg hcc hcb
                have m1 := hdb g.length (Nat.le_refl _)
                have hox3 := G1.out.ox
                have v0 := hV15.cell 0 (.int .i64 vv.lo) rfl
                have v1 := hV15.cell 1 (.int .i64 vv.hi) rfl
                have x2 := hP15.cell 2 (.int .i64 p.target.lo) rfl
                have x3 := hP15.cell 3 (.int .i64 p.target.hi) rfl
                generalize dotTo p.coefs g g.length = d at *
                obtain ⟨r1, r2, r3, r4, r5, r6⟩ := hv9
                have e1 : decide (d < vv.lo * wt) = false := decide_eq_false (by omega)
                have e2 : decide (vv.hi * wt < d) = false := decide_eq_false (by omega)
                clear hdb h hr1 hP14 hV14 hA14 hb14 hV15 hP15 hD10 hb14s
                go_wp2
                clear e1 e2
                go_roundw
                case rel => exact ⟨k + 1, by omega, by go_num, hb15⟩
                case measure => simp [intOf]; omega
            clear hA10 hB10 hC10 hY10 hl3 hgg
            have hD11 := hD10.below hb hD10.lt
            have r0 := hD11.cell 0 (.int .i64 rd.lo) rfl
            have r1 := hD11.cell 1 (.int .i64 rd.hi) rfl
            have f3 := hB11.cell 3 (.slice a3 b.props.length k3) rfl
            have f4 := hB11.cell 4 (.int .i64 b.redox.lo) rfl
            have f5 := hB11.cell 5 (.int .i64 b.redox.hi) rfl
            obtain ⟨c1, c2⟩ := HLS.out
            have hc1 := fun w => less_any _ _ _ _ w c1
            have hc2 := fun w => less_any _ _ _ _ w c2
            obtain ⟨⟨i1, i2⟩, ⟨i3, i4⟩⟩ := hrs
            clear c1 c2 hB11 hC11 hD10 hD11 hb
            go_wp2_with fail
            refine (hc1 _).mono ?_
            rintro e w' ⟨rfl, rfl⟩
            go_wp2_with fail
            refine (hc2 _).mono ?_
            rintro e w' ⟨rfl, rfl⟩
            go_wp2_with fail
            refine (lives_any _).mono ?_
            rintro e wl ⟨rfl, hbl⟩
            have hAl := hA11.trans (hbl.mono hA11.size)
            clear hbl
            go_wp2
            go_ret
            exact ⟨rfl, hAl⟩
      case true =>
        have HIP := Lib.hid (HIN.out rfl)
        clear HIN
        have hd2 : decide (wt < 100000 * b.wanted) = false := decide_eq_false (by have := HIP.out.1; have := HW.out.1; omega)
        go_wp2
        clear hd1 c0
        go_loopw [18] (fun i wr => ∃ (k : Nat), k ≤ g.length ∧ i = .int .i64 k ∧ Below w9.heap.size w9 wr) (fun i _ => g.length - (intOf i).toNat)
        case atStart => exact ⟨0, Nat.zero_le _, rfl, Below.refl _ _⟩
        case round =>
          obtain ⟨k, hk, rfl, hb⟩ := hrel
          by_cases hlt : k < g.length
          · obtain ⟨b6, o6, rfl, q1, -⟩ := hgg k hlt
            have hls : k < ss.length := by omega
            have hlm : k < b.shares.length := by have := G1.out.shLen; omega
            obtain ⟨b7, o7, rfl, p1, p2, -, -⟩ := hss9 k hls
            obtain ⟨b8, o8, rfl, t1, t2, -, -⟩ := hl2 k hlm
            simp only [Nat.mul_one] at q1
            try simp only at p1 p2 t1 t2
            replace q1 := ext_of_below hb _ _ q1
            replace p1 := ext_of_below hb _ _ p1
            replace p2 := ext_of_below hb _ _ p2
            replace t1 := ext_of_below hb _ _ (ext_of_below hA9 _ _ t1)
            replace t2 := ext_of_below hb _ _ (ext_of_below hA9 _ _ t2)
            have f2 := (hB9.below hb hB9.lt).cell 2 (.slice (some ⟨b8, o8, none⟩) b.shares.length k2) rfl
            have hr9 := sh_rng G1.out G3.out G2.out HZ.out HBT.out hlt
            rw [HWT.out, ← HSV.out k hls] at hr9
            have ht9 := sh_tgt G1.out G3.out G2.out HZ.out HBT.out HIP.out hlt hlm
            rw [HWT.out] at ht9
            have m2 := g_ok G1.out G3.out G2.out HBT.out hlt
            obtain ⟨m5, m6⟩ := m2
            have n1 : (0 : Int) ≤ (k : Int) := Int.natCast_nonneg _
            have n2 : (k : Int) < (g.length : Int) := by omega
            have n3 : (k : Int) < (ss.length : Int) := by omega
            have n4 : (k : Int) < (b.shares.length : Int) := by omega
            have hbs := hb
            clear hgg hss9 hl2 hl3 h hr1 hx hy hA9 hB9 hC9 hY9 hD9 hb
            generalize g[k]'hlt = gk at *
            generalize ss[k]'hls = s at *
            generalize b.shares[k]'hlm = m at *
            obtain ⟨r1, r2, r3, r4, r5, r6⟩ := hr9
            have e1 : decide (1000 * gk < s.lo * wt) = false := decide_eq_false (by omega)
            have e2 : decide (s.hi * wt < 1000 * gk) = false := decide_eq_false (by omega)
            have i1 : IntKind.i64.wrap (1000 * gk) = 1000 * gk := IntWalk.i64_in _ (by omega)
            have i2 : IntKind.i64.wrap (s.lo * wt) = s.lo * wt := IntWalk.i64_in _ (by omega)
            have i3 : IntKind.i64.wrap (s.hi * wt) = s.hi * wt := IntWalk.i64_in _ (by omega)
            obtain ⟨u1, u2, u3, u4, u5, u6⟩ := ht9
            have e3 : decide (1000 * gk < m.lo * wt) = false := decide_eq_false (by omega)
            have e4 : decide (m.hi * wt < 1000 * gk) = false := decide_eq_false (by omega)
            have i4 : IntKind.i64.wrap (m.lo * wt) = m.lo * wt := IntWalk.i64_in _ (by omega)
            have i5 : IntKind.i64.wrap (m.hi * wt) = m.hi * wt := IntWalk.i64_in _ (by omega)
            go_wp2_with fail
            go_quiet (fail)
            go_wp2_with fail
            go_quiet (fail)
            clear i1 i2 i3 i4 i5
            go_wp2
            go_roundw
            case rel => exact ⟨k + 1, by omega, by go_num, by first | exact hbs | exact below_drewI hbs | exact below_drewI (below_drewI hbs)⟩
            case measure => simp [intOf]; omega
          clear hss9 hl2
          have hD10 := hD9.below hb hD9.lt
          replace hgg := fun i (hi : i < g.length) => (hgg i hi).imp fun _ h => h.imp fun _ h => And.intro h.1 (RInt.mono (ext_of_below hb) h.2)
          clear hD9
          have hA10 := hA9.trans (hb.mono hA9.size)
          have hB10 := hB9.below hb hB9.lt
          have hC10 := hC9.below hb hC9.lt
          have hY10 := hY9.below hb hY9.lt
          clear hA9 hB9 hC9 hY9 hb
          obtain ⟨w10, hw10⟩ : ∃ w10 : World, w10 = wr := ⟨_, rfl⟩
          subst hw10
          go_wp2
          clear hk hlt
          go_loopw [19] (fun i wr => ∃ (k : Nat), k ≤ b.props.length ∧ i = .int .i64 k ∧ Below w10.heap.size w10 wr) (fun i _ => b.props.length - (intOf i).toNat)
          case atStart => exact ⟨0, Nat.zero_le _, rfl, Below.refl _ _⟩
          case round =>
            obtain ⟨k, hk, rfl, hb⟩ := hrel
            have hA11 := hA10.trans (hb.mono hA10.size)
            have hB11 := hB10.below hb hB10.lt
            have hC11 := hC10.below hb hC10.lt
            by_cases hlt : k < b.props.length
            · obtain ⟨b7, o7, rfl, vc, ⟨t0, t1, t2, t3⟩, hvc, -, -, -⟩ := hl3 k hlt
              obtain ⟨ac, kc, rfl, -, ⟨-, lc⟩, hcc⟩ := hvc
              have hpm := List.getElem_mem hlt
              have hpo := G1.out.props _ hpm
              have hv9 := pr_rng G1.out G3.out G2.out HZ.out HBT.out hpm
              rw [HWT.out] at hv9
              have ht9 := pr_tgt G1.out G3.out G2.out HZ.out HBT.out HIP.out hpm
              rw [HWT.out] at ht9
              have hdb := dot_bd2 hpo.coefs (fun i hi => g_ok G1.out G3.out G2.out HBT.out hi) (by rw [hpo.len, HGL.out])
              have hcl1 : (b.props[k]).coefs.length ≤ b.oxides.length := by rw [hpo.len]; exact Nat.le_refl _
              have hcl2 : b.oxides.length ≤ (b.props[k]).coefs.length := by rw [hpo.len]; exact Nat.le_refl _
              have hcb := hpo.coefs
              have hva := val_any _ _ b x.recipe k (by have := G1.out.pr; omega)  (wr.alloc (.cells #[.string (b.props[k]).name, .slice ac (b.props[k]).coefs.length kc, .int .i64 (b.props[k]).target.lo, .int .i64 (b.props[k]).target.hi] 60)) (h.mono (ext_of_below (hA11.alloc hA11.size _))) (hr1.mono (ext_of_below (hA11.alloc hA11.size _)))
              rw [HVB.out k hlt] at hva
              simp only at t0 t1 t2 t3
              replace t0 := ext_of_below hA11 _ _ t0
              replace t1 := ext_of_below hA11 _ _ t1
              replace t2 := ext_of_below hA11 _ _ t2
              replace t3 := ext_of_below hA11 _ _ t3
              have fp3 := hB11.cell 3 (.slice (some ⟨b7, o7, none⟩) b.props.length k3) rfl
              have n1 : (0 : Int) ≤ (k : Int) := Int.natCast_nonneg _
              have n2 : (k : Int) < (b.props.length : Int) := by omega
              have hpB : Below w.heap.size w wr := hA11
              clear hpo hl3 hx hy hA10 hB10 hC10 hY10
              generalize b.props[k]'hlt = p at *
              generalize hvv : valueB p.coefs (gramsB b x.recipe) = vv at *
              clear hvv
              have hq1 := below_box wr (.cells #[.string p.name, .slice ac p.coefs.length kc, .int .i64 p.target.lo, .int .i64 p.target.hi] 60)
              have hP12 := Blk.new wr #[.string p.name, .slice ac p.coefs.length kc, .int .i64 p.target.lo, .int .i64 p.target.hi] 60
              have hB12 := hB11.alloc (.cells #[.string p.name, .slice ac p.coefs.length kc, .int .i64 p.target.lo, .int .i64 p.target.hi] 60)
              have hC12 := hC11.alloc (.cells #[.string p.name, .slice ac p.coefs.length kc, .int .i64 p.target.lo, .int .i64 p.target.hi] 60)
              have hA12 := hA11.alloc hA11.size (.cells #[.string p.name, .slice ac p.coefs.length kc, .int .i64 p.target.lo, .int .i64 p.target.hi] 60)
              have hb12 := hb.trans (hq1.mono hb.size)
              have hpl : w10.heap.size ≤ wr.heap.size := hb.size
              have f0 := hB12.cell 0 (.slice a0 b.oxides.length k0) rfl
              have f1 := hB12.cell 1 (.slice a1 b.mats.length k1) rfl
              have f2 := hB12.cell 2 (.slice a2 b.shares.length k2) rfl
              have f3 := hB12.cell 3 (.slice (some ⟨b7, o7, none⟩) b.props.length k3) rfl
              have f4 := hB12.cell 4 (.int .i64 b.redox.lo) rfl
              have f5 := hB12.cell 5 (.int .i64 b.redox.hi) rfl
              have f6 := hB12.cell 6 (.int .i64 b.wanted) rfl
              have c0 := hC12.cell 0 (.slice b0 x.recipe.length j0) rfl
              clear hA11 hB11 hC11 hq1 hb hpB
              go_wp2_with fail
              clear fp3 t0 t1 t2 t3
              generalize wr.alloc (.cells #[.string p.name, .slice ac p.coefs.length kc, .int .i64 p.target.lo, .int .i64 p.target.hi] 60) = w12 at *
              generalize wr.heap.size = pp at *
              refine hva.mono ?_
              rintro e w13 ⟨rfl, hb13⟩
              have hA13 := hA12.trans (hb13.mono hA12.size)
              have hb13b := hb12.trans (hb13.mono hb12.size)
              have hP13 := hP12.below hb13 hP12.lt
              have hB13 := hB12.below hb13 hB12.lt
              clear f0 f1 f2 f3 f4 f5 f6 c0 hva hA12 hb12 hP12 hB12 hC12 hb13
              have hV14 := Blk.new w13 #[.int .i64 vv.lo, .int .i64 vv.hi] 27
              have hP14 := hP13.alloc (.cells #[.int .i64 vv.lo, .int .i64 vv.hi] 27)
              have hb14 := hb13b.alloc hb13b.size (.cells #[.int .i64 vv.lo, .int .i64 vv.hi] 27)
              have hA14 := hA13.alloc hA13.size (.cells #[.int .i64 vv.lo, .int .i64 vv.hi] 27)
              have hpv : pp < w13.heap.size := hP13.lt
              clear hP13 hb13b hA13 hB13
              go_wp2_with fail
              generalize w13.alloc (.cells #[.int .i64 vv.lo, .int .i64 vv.hi] 27) = w14 at *
              generalize w13.heap.size = qq at *
              go_wp2
              have hb14s := hb14.size
              obtain ⟨wx, hwx⟩ : ∃ wx : World, wx = w14 := ⟨_, rfl⟩
              clear hwx wx
              go_loopw [23, 24] (fun v i wr => ∃ (j : Nat), j ≤ g.length ∧ i = .int .i64 j ∧ v = .int .i64 (dotTo p.coefs g j) ∧ Below w14.heap.size w14 wr) (fun _ i _ => g.length - (intOf i).toNat)
              case atStart => exact ⟨0, Nat.zero_le _, rfl, by simp [dotTo], Below.refl _ _⟩
              case round =>
                obtain ⟨j, hj, rfl, rfl, hbj⟩ := hrel
                have hP15 := hP14.below hbj hP14.lt
                have hb15 := hb14.trans (hbj.mono hb14.size)
                by_cases hlj : j < g.length
                · obtain ⟨b8, o8, rfl, q1, -⟩ := hgg j hlj
                  have hjc : j < p.coefs.length := by omega
                  obtain ⟨b9, o9, rfl, q2, -⟩ := hcc j hjc
                  simp only [Nat.mul_one] at q1 q2
                  replace q1 := ext_of_below hb15 _ _ q1
                  replace q2 := ext_of_below hbj _ _ (ext_of_below hA14 _ _ q2)
                  have p1 := hP15.cell 1 (.slice (some ⟨b9, o9, none⟩) p.coefs.length kc) rfl
                  have m1 := hdb j hj
                  have hox3 := G1.out.ox
                  have m2 := g_ok G1.out G3.out G2.out HBT.out hlj
                  have m3 := cg_bd (hcb _ (List.getElem_mem hjc)) m2
                  have hst := dotTo_succ' p.coefs g j
                  rw [show p.coefs.getD j 0 = p.coefs[j] from by simp [List.getD, List.getElem?_eq_getElem hjc], show g.getD j 0 = g[j] from by simp [List.getD, List.getElem?_eq_getElem hlj]] at hst
                  have HS := Lib.hid hst
                  obtain ⟨m4, m5⟩ := m1
                  obtain ⟨m6, m7⟩ := m3
                  have m8 : -2000000000000000 ≤ dotTo p.coefs g j := by omega
                  have m9 : dotTo p.coefs g j ≤ 2000000000000000 := by omega
                  have n3 : (0 : Int) ≤ (j : Int) := Int.natCast_nonneg _
                  have n4 : (j : Int) < (g.length : Int) := by omega
                  have n5 : (j : Int) < (p.coefs.length : Int) := by omega
                  clear m2 m4 m5 hst hdb hcb hgg hcc hv9 ht9 h hr1 hP14 hV14 hA14 hb14 hP15 hb15 hD10
                  generalize g[j]'hlj = gj at *
                  generalize p.coefs[j]'hjc = cj at *
                  have i1 : IntKind.i64.wrap (cj * gj) = cj * gj := IntWalk.i64_in _ (by omega)
                  have i2 : IntKind.i64.wrap (dotTo p.coefs g j + cj * gj) = dotTo p.coefs g j + cj * gj := IntWalk.i64_in _ (by omega)
                  go_wp2_with fail
                  go_quiet (fail)
                  clear i1 i2
                  go_wp2
                  go_roundw
                  case rel => exact ⟨j + 1, by omega, by go_num, by rw [HS.out], by first | exact hbj | exact hbj.drew | exact below_drewI hbj⟩
                  case measure => simp [intOf]; omega
                have hV15 := hV14.below hbj hV14.lt
                have hje : j = g.length := by omega
                rw [hje]
                clear hje hlj hj hgg hcc hcb
                have m1 := hdb g.length (Nat.le_refl _)
                have hox3 := G1.out.ox
                have v0 := hV15.cell 0 (.int .i64 vv.lo) rfl
                have v1 := hV15.cell 1 (.int .i64 vv.hi) rfl
                have x2 := hP15.cell 2 (.int .i64 p.target.lo) rfl
                have x3 := hP15.cell 3 (.int .i64 p.target.hi) rfl
                generalize dotTo p.coefs g g.length = d at *
                obtain ⟨r1, r2, r3, r4, r5, r6⟩ := hv9
                have e1 : decide (d < vv.lo * wt) = false := decide_eq_false (by omega)
                have e2 : decide (vv.hi * wt < d) = false := decide_eq_false (by omega)
                obtain ⟨u1, u2, u3, u4, u5, u6⟩ := ht9
                have e3 : decide (d < p.target.lo * wt) = false := decide_eq_false (by omega)
                have e4 : decide (p.target.hi * wt < d) = false := decide_eq_false (by omega)
                clear hdb h hr1 hP14 hV14 hA14 hb14 hV15 hP15 hD10 hb14s
                go_wp2
                clear e1 e2 e3 e4
                go_roundw
                case rel => exact ⟨k + 1, by omega, by go_num, hb15⟩
                case measure => simp [intOf]; omega
            clear hA10 hB10 hC10 hY10 hl3 hgg
            have hD11 := hD10.below hb hD10.lt
            have r0 := hD11.cell 0 (.int .i64 rd.lo) rfl
            have r1 := hD11.cell 1 (.int .i64 rd.hi) rfl
            have f3 := hB11.cell 3 (.slice a3 b.props.length k3) rfl
            have f4 := hB11.cell 4 (.int .i64 b.redox.lo) rfl
            have f5 := hB11.cell 5 (.int .i64 b.redox.hi) rfl
            obtain ⟨c1, c2⟩ := HLS.out
            have hc1 := fun w => less_any _ _ _ _ w c1
            have hc2 := fun w => less_any _ _ _ _ w c2
            obtain ⟨⟨i1, i2⟩, ⟨i3, i4⟩⟩ := hrs
            have hin := HIP.out
            have hrb := G1.out.redox
            have hl2 := less_redox G1.out G3.out G2.out HZ.out HBT.out (t := b.redox) hin.2.2.1.1 hin.2.2.1.2 (by have := hrb.lo; have := hrb.le; have := hrb.hi; omega)
            rw [HWT.out, HSM.out] at hl2
            have hc3 := fun w => less_any _ _ _ _ w hl2.1
            have hc4 := fun w => less_any _ _ _ _ w hl2.2
            have j1 : -10000 ≤ b.redox.hi := by have := hrb.lo; have := hrb.le; omega
            have j2 : b.redox.hi ≤ 10000 := hrb.hi
            clear hin hrb hl2
            clear c1 c2 hB11 hC11 hD10 hD11 hb
            go_wp2_with fail
            refine (hc1 _).mono ?_
            rintro e w' ⟨rfl, rfl⟩
            go_wp2_with fail
            refine (hc2 _).mono ?_
            rintro e w' ⟨rfl, rfl⟩
            go_wp2_with fail
            refine (hc3 _).mono ?_
            rintro e w' ⟨rfl, rfl⟩
            go_wp2_with fail
            refine (hc4 _).mono ?_
            rintro e w' ⟨rfl, rfl⟩
            go_wp2_with fail
            refine (lives_any _).mono ?_
            rintro e wl ⟨rfl, hbl⟩
            have hAl := hA11.trans (hbl.mono hA11.size)
            clear hbl
            go_wp2
            go_ret
            exact ⟨rfl, hAl⟩

end Go.Proofs.Ytnnkcbeadiembaa
