/- The law StrengthShocks: every input; no statement is proved here. -/
import Derived.Test.YtmmlocjiegkjeaaDoorLeSh
import Derived.Test.YtmmlocjiegkjeaaDoorHolds2
import Derived.Test.YtmmlocjiegkjeaaDoorMoreM
import Derived.Test.YtmmlocjiegkjeaaDoorSLives
import Derived.Test.YtmmlocjiegkjeaaDoorSCLaw
import Derived.Test.YtmmlocjiegkjeaaDoorSCells
namespace Go.Proofs.YtmmlocjiegkjeaaDoor
open Go.RowKit Go.PlainAid
set_option linter.unusedVariables false
set_option linter.unusedSimpArgs false
attribute [local go_sem ↓] exec_ask
attribute [local go_sem] beq_self_eq_true bne_self_eq_false

theorem eql_span0 (w : World) : Sem.run Tryd.prog (Go.binOp .eql 29 (.agg #[.int .i64 0, .int .i64 0]) (.agg #[.int .i64 0, .int .i64 0])) w = .ok (.bool true) w := by
  rw [run_eql_struct]
  simp [go_sem]
theorem wallS_other {b : Bot} {ts : List Sp} {l : Ld} {n : Int} (h : wallS b ts l = 0) (hn : 0 ≤ n ∧ n ≤ l.other) : wallS b ts ⟨l.press, l.force, l.speed, n⟩ = 0 := by
  have hl := (okWall_of h).load
  have hL : OkL ⟨l.press, l.force, l.speed, n⟩ := ⟨hl.press, hl.force, hl.speed, by have := hl.other; simp only; omega⟩
  unfold wallS at h ⊢
  split at h
  case isFalse h1 => exact absurd h h1
  rename_i h1
  split at h
  case isFalse => cases h
  rename_i h2
  split at h
  case isFalse => cases h
  rename_i h3
  rw [if_pos h1, if_pos h2, if_pos h3]
  exact loadS_of hL
theorem holds_less {b : Bot} {ts : List Sp} {l : Ld} {n : Int} (h : wallS b ts l = 0) (hn : 0 ≤ n ∧ n ≤ l.other) (hH : HoldsB b ts l) : HoldsB b ts ⟨l.press, l.force, l.speed, n⟩ := by
  have hk := okWall_of h
  have hf := hk.bot.flaw
  have ht := hk.bot.tough
  have hl := hk.load
  exact (more_ok (f := b.flaw) (t := b.tough) (l' := ⟨l.press, l.force, l.speed, n⟩) h hH ⟨hf.1, Int.le_refl _⟩ ⟨Int.le_refl _, ht.2⟩ rfl (fun i h1 h2 => ⟨hk.thick i h1, Int.le_refl _⟩) ⟨⟨hl.press.1, Int.le_refl _⟩, ⟨hl.force.1, Int.le_refl _⟩, ⟨hl.speed.1, Int.le_refl _⟩, hn⟩).2.1

set_option maxHeartbeats 8000000 in
set_option maxRecDepth 100000 in
theorem sShocksLaw_any (vo vb vx : Value) (o : Bot) (b : Bat) (x : Ask5) (w : World) (h : RBot w vo o) (hb : RBat w vb b) (hx : RAskC w vx x) (hC : Circ w) :
    Calls Tryd.prog 4 #[vo, vb, vx] w (TrueB w) := by
  have h0 := h
  have hb0 := hb
  have hx0 := hx
  obtain ⟨v0, rfl, hr, hI⟩ := h
  obtain ⟨a, cap, rfl, -, -, -⟩ := hr
  obtain ⟨a0, k0, a1, k1, a2, k2, a3, k3, rfl⟩ := hb.agg
  obtain ⟨vt, vm, vr, pa, pk, cl, rfl, hx', -⟩ := hx
  obtain ⟨vt', vm', vr', pa', pk', he, hx1, hx2, hx3, -, hxi⟩ := hx'
  simp only [askCells, Value.agg.injEq, Array.mk.injEq, List.cons.injEq, and_true, true_and] at he
  obtain ⟨rfl, rfl, rfl, -⟩ := he
  have hc0 := hx3
  have ht0 := hx1
  obtain ⟨at', kt, rfl, -, -, -⟩ := hx1
  obtain ⟨am, km, rfl, -, -, -⟩ := hx2
  obtain ⟨ar, kr, rfl, -, -, -⟩ := hx3
  have hA1 : Below w.heap.size w (((w.alloc (.cells #[.slice a o.rings.length cap, .int .i64 o.flaw, .int .i64 o.tough] 47)).alloc (.cells #[.slice a0 b.oxides.length k0, .slice a1 b.mats.length k1, .slice a2 b.shares.length k2, .slice a3 b.props.length k3, .int .i64 b.redox.lo, .int .i64 b.redox.hi, .int .i64 b.wanted] 52)).alloc (.cells (askCells x (.slice at' x.thick.length kt) (.slice am x.measured.length km) (.slice ar x.recipe.length kr) pa pk) 33)) := ((below_boxS w _).alloc (by simp) _).alloc (by simp only [World.size_alloc]; omega) _
  have hB1 := ((Blk.new w #[.slice a o.rings.length cap, .int .i64 o.flaw, .int .i64 o.tough] 47).alloc (.cells #[.slice a0 b.oxides.length k0, .slice a1 b.mats.length k1, .slice a2 b.shares.length k2, .slice a3 b.props.length k3, .int .i64 b.redox.lo, .int .i64 b.redox.hi, .int .i64 b.wanted] 52)).alloc (.cells (askCells x (.slice at' x.thick.length kt) (.slice am x.measured.length km) (.slice ar x.recipe.length kr) pa pk) 33)
  have hM1 := (Blk.new (w.alloc (.cells #[.slice a o.rings.length cap, .int .i64 o.flaw, .int .i64 o.tough] 47)) #[.slice a0 b.oxides.length k0, .slice a1 b.mats.length k1, .slice a2 b.shares.length k2, .slice a3 b.props.length k3, .int .i64 b.redox.lo, .int .i64 b.redox.hi, .int .i64 b.wanted] 52).alloc (.cells (askCells x (.slice at' x.thick.length kt) (.slice am x.measured.length km) (.slice ar x.recipe.length kr) pa pk) 33)
  have hX1 := Blk.new ((w.alloc (.cells #[.slice a o.rings.length cap, .int .i64 o.flaw, .int .i64 o.tough] 47)).alloc (.cells #[.slice a0 b.oxides.length k0, .slice a1 b.mats.length k1, .slice a2 b.shares.length k2, .slice a3 b.props.length k3, .int .i64 b.redox.lo, .int .i64 b.redox.hi, .int .i64 b.wanted] 52)) (askCells x (.slice at' x.thick.length kt) (.slice am x.measured.length km) (.slice ar x.recipe.length kr) pa pk) 33
  simp only [World.size_alloc] at hM1 hX1
  simp only [askCells] at hA1 hB1 hM1 hX1 ⊢
  go_enter Tryd.func4, Tryd.ntmps4
  have HI := Lib.hid hxi
  have HR := Lib.hid (fun V (hV : Below w.heap.size w V) => h0.mono (ext_of_below hV))
  have HBT := Lib.hid (fun V (hV : Below w.heap.size w V) => hb0.mono (ext_of_below hV))
  have HX := Lib.hid (fun V (hV : Below w.heap.size w V) => hx0.mono (ext_of_below hV))
  have HRC := Lib.hid (fun V (hV : Below w.heap.size w V) => hc0.mono (ext_of_below hV))
  have HT := Lib.hid (fun V (hV : Below w.heap.size w V) => ht0.mono (ext_of_below hV))
  have HC := Lib.hid (fun V (hV : Below w.heap.size w V) => hC.mono (ext_of_below hV))
  clear h0 hb0 hx0 hc0 ht0 hC hxi hb
  simp only [askCells] at HX
  have c0 := hB1.cell 0 _ rfl
  have c1 := hB1.cell 1 _ rfl
  have c2 := hB1.cell 2 _ rfl
  go_wp2_with fail
  generalize ((w.alloc (.cells #[.slice a o.rings.length cap, .int .i64 o.flaw, .int .i64 o.tough] 47)).alloc (.cells #[.slice a0 b.oxides.length k0, .slice a1 b.mats.length k1, .slice a2 b.shares.length k2, .slice a3 b.props.length k3, .int .i64 b.redox.lo, .int .i64 b.redox.hi, .int .i64 b.wanted] 52)).alloc _ = w1 at *
  refine (great5_any _ o _ (HR.out _ hA1)).mono ?_
  rintro e w2 ⟨rfl, hb⟩
  have hA2 := hA1.trans (hb.mono hA1.size)
  have hB2 := hB1.below hb hB1.lt
  have hM2 := hM1.below hb hM1.lt
  have hX2 := hX1.below hb hX1.lt
  clear hb hA1 hB1 hM1 hX1
  clear c0 c1 c2
  cases hg : decide (40 < o.rings.length) with
  | true =>
    clear hB2 hM2 hX2
    go_wp2_with fail
    refine (lives5_any _ (HC.out _ hA2)).mono ?_
    rintro e wl ⟨rfl, hbl⟩
    have hAl := hA2.trans (hbl.mono hA2.size)
    clear hbl hA2
    go_wp2
    go_ret
    exact ⟨rfl, hAl⟩
  | false =>
  have m0 := hM2.cell 0 _ rfl
  have m1 := hM2.cell 1 _ rfl
  have m2 := hM2.cell 2 _ rfl
  have m3 := hM2.cell 3 _ rfl
  have m4 := hM2.cell 4 _ rfl
  have m5 := hM2.cell 5 _ rfl
  have m6 := hM2.cell 6 _ rfl
  go_wp2_with fail
  refine (B1.great_any _ b _ (HBT.out _ hA2)).mono ?_
  rintro e w3 ⟨rg, rfl, hb⟩
  have hA3 := hA2.trans (hb.mono hA2.size)
  have hB3 := hB2.below hb hB2.lt
  have hM3 := hM2.below hb hM2.lt
  have hX3 := hX2.below hb hX2.lt
  clear hb hA2 hB2 hM2 hX2
  clear m0 m1 m2 m3 m4 m5 m6 hg
  cases rg with
  | true =>
    clear hB3 hM3 hX3
    go_wp2_with fail
    refine (lives5_any _ (HC.out _ hA3)).mono ?_
    rintro e wl ⟨rfl, hbl⟩
    have hAl := hA3.trans (hbl.mono hA3.size)
    clear hbl hA3
    go_wp2
    go_ret
    exact ⟨rfl, hAl⟩
  | false =>
  have hld := ld_ask hX3 rfl
  go_wp2_with fail
  refine (wide5_any _ x _ (HX.out _ hA3)).mono ?_
  rintro e w4 ⟨rw, rfl, hwd, hb⟩
  have hA4 := hA3.trans (hb.mono hA3.size)
  have hB4 := hB3.below hb hB3.lt
  have hM4 := hM3.below hb hM3.lt
  have hX4 := hX3.below hb hX3.lt
  clear hb hA3 hB3 hM3 hX3
  clear hld hwd
  cases rw with
  | true =>
    clear hB4 hM4 hX4
    go_wp2_with fail
    refine (lives5_any _ (HC.out _ hA4)).mono ?_
    rintro e wl ⟨rfl, hbl⟩
    have hAl := hA4.trans (hbl.mono hA4.size)
    clear hbl hA4
    go_wp2
    go_ret
    exact ⟨rfl, hAl⟩
  | false =>
  have m0 := hM4.cell 0 _ rfl
  have m1 := hM4.cell 1 _ rfl
  have m2 := hM4.cell 2 _ rfl
  have m3 := hM4.cell 3 _ rfl
  have m4 := hM4.cell 4 _ rfl
  have m5 := hM4.cell 5 _ rfl
  have m6 := hM4.cell 6 _ rfl
  have x13 := hX4.cell 13 _ rfl
  have x14 := hX4.cell 14 _ rfl
  have x19 := hX4.cell 19 _ rfl
  go_wp2_with fail
  refine (shockP_any _ _ b x.recipe x.property x.degrees _ (HBT.out _ hA4) (HRC.out _ hA4)).mono ?_
  rintro e w5 ⟨rfl, hb⟩
  have hA5 := hA4.trans (hb.mono hA4.size)
  have hB5 := hB4.below hb hB4.lt
  have hM5 := hM4.below hb hM4.lt
  have hX5 := hX4.below hb hX4.lt
  clear hb hA4 hB4 hM4 hX4
  clear m0 m1 m2 m3 m4 m5 m6 x13 x14 x19
  have hva := fun V (hV : Below w.heap.size w V) => B1.valI_any _ _ b x.recipe x.property V (HBT.out _ hV) (HRC.out _ hV)
  have hvb := B1.valI_bd b x.recipe x.property
  have hsc := fun V (d : Int) (hV : Below w.heap.size w V) => shockP_any _ _ b x.recipe x.property d V (HBT.out _ hV) (HRC.out _ hV)
  generalize B1.valI b x.recipe x.property = vv at *
  obtain ⟨v, ve⟩ := vv
  have hvb : ve = 0 → v.lo ≤ v.hi ∧ -200000000000000 ≤ v.lo ∧ v.hi ≤ 200000000000000 := hvb
  by_cases hE : shockE (v, ve) x.degrees = 0
  case neg =>
    have e1 : shockS (v, ve) x.degrees = (⟨0, 0⟩, shockE (v, ve) x.degrees) := by rw [shockS, if_neg hE]
    rw [e1]
    have hne : (shockE (v, ve) x.degrees != 0) = true := by simpa using hE
    generalize shockE (v, ve) x.degrees = ee at *
    clear e1 hE hva hvb hsc
    have hA6 := hA5.alloc hA5.size (.cells #[.int .i64 0, .int .i64 0] 29)
    have hB6 := hB5.alloc (.cells #[.int .i64 0, .int .i64 0] 29)
    have hM6 := hM5.alloc (.cells #[.int .i64 0, .int .i64 0] 29)
    have hX6 := hX5.alloc (.cells #[.int .i64 0, .int .i64 0] 29)
    have hS6 := Blk.new w5 #[.int .i64 0, .int .i64 0] 29
    clear hA5 hB5 hM5 hX5
    clear hB6 hM6 hX6
    have s0 := hS6.cell 0 _ rfl
    have s1 := hS6.cell 1 _ rfl
    have heq := fun w => eql_span0 w
    go_wp2_with fail
    generalize w5.alloc (.cells #[.int .i64 0, .int .i64 0] 29) = w6 at *
    clear s0 s1 hS6 heq
    refine (lives5_any _ (HC.out _ hA6)).mono ?_
    rintro e wl ⟨rfl, hbl⟩
    have hAl := hA6.trans (hbl.mono hA6.size)
    clear hbl hA6
    go_wp2
    go_ret
    exact ⟨rfl, hAl⟩
  have e1 : shockS (v, ve) x.degrees = (shockV (v, ve) x.degrees, 0) := by rw [shockS, if_pos hE]
  rw [e1]
  clear e1
  obtain ⟨hv0, hd1, hd2⟩ := shockE_ok hE
  have hv0 : ve = 0 := hv0
  subst hv0
  have hvb := hvb rfl
  clear hE
  have a1 := shA_bd (x := v.lo) (deg := x.degrees) (by omega) ⟨hd1, hd2⟩
  have a2 := shA_bd (x := v.hi) (deg := x.degrees) (by omega) ⟨hd1, hd2⟩
  have a3 := shA_mono (x := v.lo) (y := v.hi) (deg := x.degrees) hvb.1 hd1
  have a4 := shA_two v.lo x.degrees
  have a5 := shA_two v.hi x.degrees
  have HN := Lib.hid (And.intro a1 (And.intro a2 (And.intro a3 (And.intro a4 a5))))
  have HD := Lib.hid (And.intro hd1 hd2)
  have HV := Lib.hid hva
  have HSC := Lib.hid hsc
  obtain ⟨s, hs⟩ : ∃ s : Sp, s = shockV (v, 0) x.degrees := ⟨_, rfl⟩
  rw [← hs]
  have HS1 : Hid (s.lo = shA v.lo x.degrees / 78) := Lib.hid (by rw [hs]; rfl)
  have HS2 : Hid (s.hi = (shA v.hi x.degrees + 78 - 1) / 78) := Lib.hid (by rw [hs]; rfl)
  clear hs a1 a2 a3 a4 a5 hva hvb hsc hd1 hd2
  have hA6 := hA5.alloc hA5.size (.cells #[.int .i64 s.lo, .int .i64 s.hi] 29)
  have hB6 := hB5.alloc (.cells #[.int .i64 s.lo, .int .i64 s.hi] 29)
  have hM6 := hM5.alloc (.cells #[.int .i64 s.lo, .int .i64 s.hi] 29)
  have hX6 := hX5.alloc (.cells #[.int .i64 s.lo, .int .i64 s.hi] 29)
  have hS6 := Blk.new w5 #[.int .i64 s.lo, .int .i64 s.hi] 29
  clear hA5 hB5 hM5 hX5
  have m0 := hM6.cell 0 _ rfl
  have m1 := hM6.cell 1 _ rfl
  have m2 := hM6.cell 2 _ rfl
  have m3 := hM6.cell 3 _ rfl
  have m4 := hM6.cell 4 _ rfl
  have m5 := hM6.cell 5 _ rfl
  have m6 := hM6.cell 6 _ rfl
  have x14 := hX6.cell 14 _ rfl
  have x19 := hX6.cell 19 _ rfl
  go_wp2_with fail
  generalize w5.alloc (.cells #[.int .i64 s.lo, .int .i64 s.hi] 29) = w6 at *
  generalize w5.heap.size = pS at *
  refine (HV.out _ hA6).mono ?_
  rintro e w7 ⟨rfl, hb⟩
  have hA7 := hA6.trans (hb.mono hA6.size)
  have hB7 := hB6.below hb hB6.lt
  have hM7 := hM6.below hb hM6.lt
  have hX7 := hX6.below hb hX6.lt
  have hS7 := hS6.below hb hS6.lt
  clear hb hA6 hB6 hM6 hX6 hS6
  clear m0 m1 m2 m3 m4 m5 m6 x14 x19
  simp only
  have hA8 := hA7.alloc hA7.size (.cells #[.int .i64 v.lo, .int .i64 v.hi] 29)
  have hB8 := hB7.alloc (.cells #[.int .i64 v.lo, .int .i64 v.hi] 29)
  have hM8 := hM7.alloc (.cells #[.int .i64 v.lo, .int .i64 v.hi] 29)
  have hX8 := hX7.alloc (.cells #[.int .i64 v.lo, .int .i64 v.hi] 29)
  have hS8 := hS7.alloc (.cells #[.int .i64 v.lo, .int .i64 v.hi] 29)
  have hV8 := Blk.new w7 #[.int .i64 v.lo, .int .i64 v.hi] 29
  clear hA7 hB7 hM7 hX7 hS7
  obtain ⟨⟨-, ⟨b1, b2⟩, b3, b4⟩, ⟨-, ⟨c1, c2⟩, c3, c4⟩, e5, e6, e7⟩ := HN.out
  have hs1 := HS1.out
  have hs2 := HS2.out
  have g1 : decide (s.lo < 0) = false := decide_eq_false (by omega)
  have g2 : decide (s.hi < s.lo) = false := decide_eq_false (by omega)
  have g3 : decide (shA v.lo x.degrees < 78 * s.lo) = false := decide_eq_false (by omega)
  have g4 : decide (78 * s.hi < shA v.hi x.degrees) = false := decide_eq_false (by omega)
  have z1 := wrap_id (78 * s.lo) (by unfold I64; omega)
  have z2 := wrap_id (78 * s.hi) (by unfold I64; omega)
  have z3 := wrap_id (35 * max 0 v.lo) (by unfold I64; omega)
  have z4 := wrap_id (35 * max 0 v.hi) (by unfold I64; omega)
  have z5 : wrap64 (35 * max 0 v.lo * x.degrees) = shA v.lo x.degrees := wrap_id _ (by change I64 (shA v.lo x.degrees); unfold I64; omega)
  have z6 : wrap64 (35 * max 0 v.hi * x.degrees) = shA v.hi x.degrees := wrap_id _ (by change I64 (shA v.hi x.degrees); unfold I64; omega)
  have i1 : (if v.lo < 0 then 0 else v.lo) = max 0 v.lo := by split <;> omega
  have i2 : (if v.hi < 0 then 0 else v.hi) = max 0 v.hi := by split <;> omega
  have z7 := wrap_id (2 * x.degrees) (by have := HD.out; unfold I64; omega)
  clear b1 b2 b3 b4 c1 c2 c3 c4 e5 e6 e7 hs1 hs2
  generalize shA v.lo x.degrees = A1 at *
  generalize shA v.hi x.degrees = A2 at *
  generalize max 0 v.lo = ml at *
  generalize max 0 v.hi = mh at *
  have s0 := hS8.cell 0 _ rfl
  have s1 := hS8.cell 1 _ rfl
  have u0 := hV8.cell 0 _ rfl
  have u1 := hV8.cell 1 _ rfl
  have m0 := hM8.cell 0 _ rfl
  have m1 := hM8.cell 1 _ rfl
  have m2 := hM8.cell 2 _ rfl
  have m3 := hM8.cell 3 _ rfl
  have m4 := hM8.cell 4 _ rfl
  have m5 := hM8.cell 5 _ rfl
  have m6 := hM8.cell 6 _ rfl
  have x13 := hX8.cell 13 _ rfl
  have x14 := hX8.cell 14 _ rfl
  have x19 := hX8.cell 19 _ rfl
  go_wp2_with fail
  generalize w7.alloc (.cells #[.int .i64 v.lo, .int .i64 v.hi] 29) = w8 at *
  refine (HSC.out _ (2 * x.degrees) hA8).mono ?_
  rintro e w9 ⟨rfl, hb⟩
  clear hV8
  have hA9 := hA8.trans (hb.mono hA8.size)
  have hB9 := hB8.below hb hB8.lt
  have hM9 := hM8.below hb hM8.lt
  have hX9 := hX8.below hb hX8.lt
  have hS9 := hS8.below hb hS8.lt
  clear hb hA8 hB8 hM8 hX8 hS8
  clear m0 m1 m2 m3 m4 m5 m6 x13 x14 x19 g1 g2 g3 g4 z1 z2 z3 z4 z5 z6 z7 i1 i2 s0 s1 u0 u1
  by_cases hE2 : shockE (v, 0) (2 * x.degrees) = 0
  case neg =>
    have e1 : shockS (v, 0) (2 * x.degrees) = (⟨0, 0⟩, shockE (v, 0) (2 * x.degrees)) := by rw [shockS, if_neg hE2]
    rw [e1]
    have hq : (shockE (v, 0) (2 * x.degrees) == 0) = false := by simpa using hE2
    generalize shockE (v, 0) (2 * x.degrees) = er at *
    clear e1 hE2
    have lX9 := hX9.lt
    have hA10 := hA9.alloc hA9.size (.cells #[.int .i64 0, .int .i64 0] 29)
    have hB10 := hB9.alloc (.cells #[.int .i64 0, .int .i64 0] 29)
    have hM10 := hM9.alloc (.cells #[.int .i64 0, .int .i64 0] 29)
    have hX10 := hX9.alloc (.cells #[.int .i64 0, .int .i64 0] 29)
    have hS10 := hS9.alloc (.cells #[.int .i64 0, .int .i64 0] 29)
    have hD10 := Blk.new w9 #[.int .i64 0, .int .i64 0] 29
    clear hA9 hB9 hM9 hX9 hS9
    have d0 := hD10.cell 0 _ rfl
    have d1 := hD10.cell 1 _ rfl
    have s0 := hS10.cell 0 _ rfl
    have s1 := hS10.cell 1 _ rfl
    have x1 := hX10.cell 1 _ rfl
    have x2 := hX10.cell 2 _ rfl
    have x3 := hX10.cell 3 _ rfl
    have x4 := hX10.cell 4 _ rfl
    have hA11 := hA10.alloc hA10.size (.cells #[.int .i64 x.load.press, .int .i64 x.load.force, .int .i64 x.load.speed, .int .i64 s.hi] 27)
    have hB11 := hB10.alloc (.cells #[.int .i64 x.load.press, .int .i64 x.load.force, .int .i64 x.load.speed, .int .i64 s.hi] 27)
    have hX11 := hX10.alloc (.cells #[.int .i64 x.load.press, .int .i64 x.load.force, .int .i64 x.load.speed, .int .i64 s.hi] 27)
    have hS11 := hS10.alloc (.cells #[.int .i64 x.load.press, .int .i64 x.load.force, .int .i64 x.load.speed, .int .i64 s.hi] 27)
    have hL11 := Blk.new (w9.alloc (.cells #[.int .i64 0, .int .i64 0] 29)) #[.int .i64 x.load.press, .int .i64 x.load.force, .int .i64 x.load.speed, .int .i64 s.hi] 27
    have s1' := (hS10.alloc (.cells #[.int .i64 x.load.press, .int .i64 x.load.force, .int .i64 x.load.speed, .int .i64 x.load.other] 27)).cell 1 _ rfl
    rw [World.size_alloc] at hL11
    clear hA10 hM10
    have c0 := hB11.cell 0 _ rfl
    have c1 := hB11.cell 1 _ rfl
    have c2 := hB11.cell 2 _ rfl
    have y0 := hX11.cell 0 _ rfl
    have l0 := hL11.cell 0 _ rfl
    have l1 := hL11.cell 1 _ rfl
    have l2 := hL11.cell 2 _ rfl
    have l3 := hL11.cell 3 _ rfl
    go_wp2_with fail
    generalize (w9.alloc (.cells #[.int .i64 0, .int .i64 0] 29)).alloc (.cells #[.int .i64 x.load.press, .int .i64 x.load.force, .int .i64 x.load.speed, .int .i64 s.hi] 27) = w11 at *
    refine (holdsP_any _ _ o x.thick ⟨x.load.press, x.load.force, x.load.speed, s.hi⟩ _ (HR.out _ hA11) (HT.out _ hA11) (HC.out _ hA11)).mono ?_
    rintro e w12 ⟨h1, br1, rfl, hy, hn, hb⟩
    have hA12 := hA11.trans (hb.mono hA11.size)
    have hB12 := hB11.below hb hB11.lt
    have hX12 := hX11.below hb hX11.lt
    have hS12 := hS11.below hb hS11.lt
    have hL12 := hL11.below hb hL11.lt
    clear hb hA11 hB11 hX11 hS11 hL11
    clear c0 c1 c2 y0 l0 l1 l2 l3 d0 d1 s0 s1 s1' x1 x2 x3 x4 hB10 hX10 hS10 hD10
    by_cases hW : wallS o x.thick ⟨x.load.press, x.load.force, x.load.speed, s.hi⟩ = 0
    case neg =>
      have hne : (wallS o x.thick ⟨x.load.press, x.load.force, x.load.speed, s.hi⟩ != 0) = true := by simpa using hW
      obtain ⟨rfl, rfl⟩ := hn hW
      generalize wallS o x.thick ⟨x.load.press, x.load.force, x.load.speed, s.hi⟩ = ee at *
      clear hW hy hn hB12 hX12 hS12 hL12
      go_wp2_with fail
      refine (lives5_any _ (HC.out _ hA12)).mono ?_
      rintro e wl ⟨rfl, hbl⟩
      have hAl := hA12.trans (hbl.mono hA12.size)
      clear hbl hA12
      go_wp2
      go_ret
      exact ⟨rfl, hAl⟩
    rw [hW]
    have hyy := (hy hW).1
    have HW := Lib.hid hW
    have HY := Lib.hid hyy
    clear hy hn hW hyy
    generalize w9.heap.size = p9 at *
    have hA13 := hA12.setCell (p := ⟨p9 + 1, 3, none⟩) (by simp only; omega) (.int .i64 s.lo)
    have hB13 := hB12.other ⟨p9 + 1, 3, none⟩ (.int .i64 s.lo) (by simp only; omega)
    have hX13 := hX12.other ⟨p9 + 1, 3, none⟩ (.int .i64 s.lo) (by simp only; omega)
    have hL13 : Blk (w12.setCell ⟨p9 + 1, 3, none⟩ (.int .i64 s.lo)) (p9 + 1) #[.int .i64 x.load.press, .int .i64 x.load.force, .int .i64 x.load.speed, .int .i64 s.lo] 27 := by simpa using hL12.set 3 (.int .i64 s.lo)
    have f3 := hL12.frozen 3
    have l3 := hL12.cell 3 _ rfl
    have s0 := hS12.cell 0 _ rfl
    have c0 := hB13.cell 0 _ rfl
    have c1 := hB13.cell 1 _ rfl
    have c2 := hB13.cell 2 _ rfl
    have y0 := hX13.cell 0 _ rfl
    have n0 := hL13.cell 0 _ rfl
    have n1 := hL13.cell 1 _ rfl
    have n2 := hL13.cell 2 _ rfl
    have n3 := hL13.cell 3 _ rfl
    clear hA12 hB12 hX12 hS12 hL12 lX9
    go_wp2_with fail
    generalize w12.setCell ⟨p9 + 1, 3, none⟩ (.int .i64 s.lo) = w13 at *
    refine (holdsP_any _ _ o x.thick ⟨x.load.press, x.load.force, x.load.speed, s.lo⟩ _ (HR.out _ hA13) (HT.out _ hA13) (HC.out _ hA13)).mono ?_
    rintro e w14 ⟨h2, br2, rfl, hy, hn, hb⟩
    have hA14 := hA13.trans (hb.mono hA13.size)
    obtain ⟨⟨-, -, b3, b4⟩, ⟨-, -, c3, c4⟩, e5, e6, e7⟩ := HN.out
    have hs1 := HS1.out
    have hs2 := HS2.out
    have hso : 0 ≤ s.lo ∧ s.lo ≤ s.hi := by omega
    have hW2 : wallS o x.thick ⟨x.load.press, x.load.force, x.load.speed, s.lo⟩ = 0 := wallS_other (l := ⟨x.load.press, x.load.force, x.load.speed, s.hi⟩) HW.out hso
    have hlt : h1 = true → h2 = true := fun e => (hy hW2).1.2 (holds_less (l := ⟨x.load.press, x.load.force, x.load.speed, s.hi⟩) HW.out hso (HY.out.1 e))
    rw [hW2]
    clear hW2 hy hn hb hso hs1 hs2 b3 b4 c3 c4 e5 e6 e7 hA13 hB13 hX13 hL13 f3 l3 s0 c0 c1 c2 y0 n0 n1 n2 n3
    cases h1 with
    | false =>
      clear hlt
      go_wp2_with fail
      refine (lives5_any _ (HC.out _ hA14)).mono ?_
      rintro e wl ⟨rfl, hbl⟩
      have hAl := hA14.trans (hbl.mono hA14.size)
      clear hbl hA14
      go_wp2
      go_ret
      exact ⟨rfl, hAl⟩
    | true =>
      rw [hlt rfl]
      clear hlt
      go_wp2_with fail
      refine (lives5_any _ (HC.out _ hA14)).mono ?_
      rintro e wl ⟨rfl, hbl⟩
      have hAl := hA14.trans (hbl.mono hA14.size)
      clear hbl hA14
      go_wp2
      go_ret
      exact ⟨rfl, hAl⟩
  have e1 : shockS (v, 0) (2 * x.degrees) = (shockV (v, 0) (2 * x.degrees), 0) := by rw [shockS, if_pos hE2]
  rw [e1]
  clear e1 hE2
  obtain ⟨d, hd⟩ : ∃ d : Sp, d = shockV (v, 0) (2 * x.degrees) := ⟨_, rfl⟩
  rw [← hd]
  obtain ⟨⟨-, -, b3, b4⟩, ⟨-, -, c3, c4⟩, e5, e6, e7⟩ := HN.out
  have hd1 : d.lo = 2 * A1 / 78 := by rw [← e6, hd]; rfl
  have hd2 : d.hi = (2 * A2 + 78 - 1) / 78 := by rw [← e7, hd]; rfl
  have hs1 := HS1.out
  have hs2 := HS2.out
  have z1 := wrap_id (2 * s.lo) (by unfold I64; omega)
  have z2 := wrap_id (2 * s.hi) (by unfold I64; omega)
  have z3 := wrap_id (2 * s.hi - 1) (by unfold I64; omega)
  have g1 : decide (d.lo < 2 * s.lo) = false := decide_eq_false (by omega)
  have g2 : decide (2 * s.hi < d.hi) = false := decide_eq_false (by omega)
  have g3 : decide (d.hi < 2 * s.hi - 1) = false := decide_eq_false (by omega)
  clear hd b3 b4 c3 c4 e5 e6 e7 hd1 hd2 hs1 hs2
  have lX9 := hX9.lt
  have hA10 := hA9.alloc hA9.size (.cells #[.int .i64 d.lo, .int .i64 d.hi] 29)
  have hB10 := hB9.alloc (.cells #[.int .i64 d.lo, .int .i64 d.hi] 29)
  have hM10 := hM9.alloc (.cells #[.int .i64 d.lo, .int .i64 d.hi] 29)
  have hX10 := hX9.alloc (.cells #[.int .i64 d.lo, .int .i64 d.hi] 29)
  have hS10 := hS9.alloc (.cells #[.int .i64 d.lo, .int .i64 d.hi] 29)
  have hD10 := Blk.new w9 #[.int .i64 d.lo, .int .i64 d.hi] 29
  clear hA9 hB9 hM9 hX9 hS9
  have d0 := hD10.cell 0 _ rfl
  have d1 := hD10.cell 1 _ rfl
  have s0 := hS10.cell 0 _ rfl
  have s1 := hS10.cell 1 _ rfl
  have x1 := hX10.cell 1 _ rfl
  have x2 := hX10.cell 2 _ rfl
  have x3 := hX10.cell 3 _ rfl
  have x4 := hX10.cell 4 _ rfl
  have hA11 := hA10.alloc hA10.size (.cells #[.int .i64 x.load.press, .int .i64 x.load.force, .int .i64 x.load.speed, .int .i64 s.hi] 27)
  have hB11 := hB10.alloc (.cells #[.int .i64 x.load.press, .int .i64 x.load.force, .int .i64 x.load.speed, .int .i64 s.hi] 27)
  have hX11 := hX10.alloc (.cells #[.int .i64 x.load.press, .int .i64 x.load.force, .int .i64 x.load.speed, .int .i64 s.hi] 27)
  have hS11 := hS10.alloc (.cells #[.int .i64 x.load.press, .int .i64 x.load.force, .int .i64 x.load.speed, .int .i64 s.hi] 27)
  have hL11 := Blk.new (w9.alloc (.cells #[.int .i64 d.lo, .int .i64 d.hi] 29)) #[.int .i64 x.load.press, .int .i64 x.load.force, .int .i64 x.load.speed, .int .i64 s.hi] 27
  have s1' := (hS10.alloc (.cells #[.int .i64 x.load.press, .int .i64 x.load.force, .int .i64 x.load.speed, .int .i64 x.load.other] 27)).cell 1 _ rfl
  rw [World.size_alloc] at hL11
  clear hA10 hM10
  have c0 := hB11.cell 0 _ rfl
  have c1 := hB11.cell 1 _ rfl
  have c2 := hB11.cell 2 _ rfl
  have y0 := hX11.cell 0 _ rfl
  have l0 := hL11.cell 0 _ rfl
  have l1 := hL11.cell 1 _ rfl
  have l2 := hL11.cell 2 _ rfl
  have l3 := hL11.cell 3 _ rfl
  go_wp2_with fail
  generalize (w9.alloc (.cells #[.int .i64 d.lo, .int .i64 d.hi] 29)).alloc (.cells #[.int .i64 x.load.press, .int .i64 x.load.force, .int .i64 x.load.speed, .int .i64 s.hi] 27) = w11 at *
  refine (holdsP_any _ _ o x.thick ⟨x.load.press, x.load.force, x.load.speed, s.hi⟩ _ (HR.out _ hA11) (HT.out _ hA11) (HC.out _ hA11)).mono ?_
  rintro e w12 ⟨h1, br1, rfl, hy, hn, hb⟩
  have hA12 := hA11.trans (hb.mono hA11.size)
  have hB12 := hB11.below hb hB11.lt
  have hX12 := hX11.below hb hX11.lt
  have hS12 := hS11.below hb hS11.lt
  have hL12 := hL11.below hb hL11.lt
  clear hb hA11 hB11 hX11 hS11 hL11
  clear c0 c1 c2 y0 l0 l1 l2 l3 d0 d1 s0 s1 s1' x1 x2 x3 x4 hB10 hX10 hS10 hD10
  by_cases hW : wallS o x.thick ⟨x.load.press, x.load.force, x.load.speed, s.hi⟩ = 0
  case neg =>
    have hne : (wallS o x.thick ⟨x.load.press, x.load.force, x.load.speed, s.hi⟩ != 0) = true := by simpa using hW
    obtain ⟨rfl, rfl⟩ := hn hW
    generalize wallS o x.thick ⟨x.load.press, x.load.force, x.load.speed, s.hi⟩ = ee at *
    clear hW hy hn hB12 hX12 hS12 hL12
    go_wp2_with fail
    refine (lives5_any _ (HC.out _ hA12)).mono ?_
    rintro e wl ⟨rfl, hbl⟩
    have hAl := hA12.trans (hbl.mono hA12.size)
    clear hbl hA12
    go_wp2
    go_ret
    exact ⟨rfl, hAl⟩
  rw [hW]
  have hyy := (hy hW).1
  have HW := Lib.hid hW
  have HY := Lib.hid hyy
  clear hy hn hW hyy
  generalize w9.heap.size = p9 at *
  have hA13 := hA12.setCell (p := ⟨p9 + 1, 3, none⟩) (by simp only; omega) (.int .i64 s.lo)
  have hB13 := hB12.other ⟨p9 + 1, 3, none⟩ (.int .i64 s.lo) (by simp only; omega)
  have hX13 := hX12.other ⟨p9 + 1, 3, none⟩ (.int .i64 s.lo) (by simp only; omega)
  have hL13 : Blk (w12.setCell ⟨p9 + 1, 3, none⟩ (.int .i64 s.lo)) (p9 + 1) #[.int .i64 x.load.press, .int .i64 x.load.force, .int .i64 x.load.speed, .int .i64 s.lo] 27 := by simpa using hL12.set 3 (.int .i64 s.lo)
  have f3 := hL12.frozen 3
  have l3 := hL12.cell 3 _ rfl
  have s0 := hS12.cell 0 _ rfl
  have c0 := hB13.cell 0 _ rfl
  have c1 := hB13.cell 1 _ rfl
  have c2 := hB13.cell 2 _ rfl
  have y0 := hX13.cell 0 _ rfl
  have n0 := hL13.cell 0 _ rfl
  have n1 := hL13.cell 1 _ rfl
  have n2 := hL13.cell 2 _ rfl
  have n3 := hL13.cell 3 _ rfl
  clear hA12 hB12 hX12 hS12 hL12 lX9
  go_wp2_with fail
  generalize w12.setCell ⟨p9 + 1, 3, none⟩ (.int .i64 s.lo) = w13 at *
  refine (holdsP_any _ _ o x.thick ⟨x.load.press, x.load.force, x.load.speed, s.lo⟩ _ (HR.out _ hA13) (HT.out _ hA13) (HC.out _ hA13)).mono ?_
  rintro e w14 ⟨h2, br2, rfl, hy, hn, hb⟩
  have hA14 := hA13.trans (hb.mono hA13.size)
  obtain ⟨⟨-, -, b3, b4⟩, ⟨-, -, c3, c4⟩, e5, e6, e7⟩ := HN.out
  have hs1 := HS1.out
  have hs2 := HS2.out
  have hso : 0 ≤ s.lo ∧ s.lo ≤ s.hi := by omega
  have hW2 : wallS o x.thick ⟨x.load.press, x.load.force, x.load.speed, s.lo⟩ = 0 := wallS_other (l := ⟨x.load.press, x.load.force, x.load.speed, s.hi⟩) HW.out hso
  have hlt : h1 = true → h2 = true := fun e => (hy hW2).1.2 (holds_less (l := ⟨x.load.press, x.load.force, x.load.speed, s.hi⟩) HW.out hso (HY.out.1 e))
  rw [hW2]
  clear hW2 hy hn hb hso hs1 hs2 b3 b4 c3 c4 e5 e6 e7 hA13 hB13 hX13 hL13 f3 l3 s0 c0 c1 c2 y0 n0 n1 n2 n3
  cases h1 with
  | false =>
    clear hlt
    go_wp2_with fail
    refine (lives5_any _ (HC.out _ hA14)).mono ?_
    rintro e wl ⟨rfl, hbl⟩
    have hAl := hA14.trans (hbl.mono hA14.size)
    clear hbl hA14
    go_wp2
    go_ret
    exact ⟨rfl, hAl⟩
  | true =>
    rw [hlt rfl]
    clear hlt
    go_wp2_with fail
    refine (lives5_any _ (HC.out _ hA14)).mono ?_
    rintro e wl ⟨rfl, hbl⟩
    have hAl := hA14.trans (hbl.mono hA14.size)
    clear hbl hA14
    go_wp2
    go_ret
    exact ⟨rfl, hAl⟩

end Go.Proofs.YtmmlocjiegkjeaaDoor
