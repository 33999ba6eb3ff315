/- The law StrengthGlass: every input; no statement is proved here. -/
import Derived.Test.YtmmlocjiegkjeaaGreatDoorRSh
import Derived.Test.YtmmlocjiegkjeaaGreatDoorRAn
import Derived.Test.YtmmlocjiegkjeaaGreatDoorSLives
import Derived.Test.YtmmlocjiegkjeaaGreatDoorSCLaw
import Derived.Test.YtmmlocjiegkjeaaGreatDoorSCells
import Derived.Test.YtmmlocjiegkjeaaGreatDoorTill
namespace Go.Proofs.YtmmlocjiegkjeaaGreatDoor
open Go.RowKit Go.PlainAid
set_option linter.unusedVariables false
set_option linter.unusedSimpArgs false
attribute [local go_sem ↓] exec_ask
attribute [local go_sem] beq_self_eq_true bne_self_eq_false

theorem neq_spanQ (x1 x2 : Int) (w : World) : Sem.run Tryz.prog (Go.binOp .neq 30 (.agg #[.int .i64 x1, .int .i64 x2]) (.agg #[.int .i64 x1, .int .i64 x2])) w = .ok (.bool false) w := by
  rw [run_neq_struct]
  simp [go_sem]

set_option maxHeartbeats 8000000 in
set_option maxRecDepth 100000 in
theorem sGlassLaw_any (vl vb vx : Value) (l : Lr) (b : Bat) (x : Ask5) (w : World) (h : RLr w vl l) (hb : RBat w vb b) (hx : RAskC w vx x) (hC : Circ w) :
    Calls Tryz.prog 3 #[vl, vb, vx] w (TrueB w) := by
  have h0 := h
  have hb0 := hb
  have hx0 := hx
  obtain ⟨v0, rfl, hr, hI⟩ := h
  obtain ⟨a, cap, rfl, -, ⟨-, hkm⟩, -⟩ := hr
  obtain ⟨a0, k0, a1, k1, a2, k2, a3, k3, rfl⟩ := hb.agg
  obtain ⟨vt, vm, vr, pa, pk, cl, rfl, hx', -⟩ := hx
  obtain ⟨vt', vm', vr', pa', pk', he, hx1, hx2, hx3, -, hxi⟩ := hx'
  simp only [askCells, Value.agg.injEq, Array.mk.injEq, List.cons.injEq, and_true, true_and] at he
  obtain ⟨rfl, rfl, rfl, -⟩ := he
  have hc0 := hx3
  obtain ⟨at', kt, rfl, -, -, -⟩ := hx1
  obtain ⟨am, km, rfl, -, -, -⟩ := hx2
  obtain ⟨ar, kr, rfl, -, -, -⟩ := hx3
  have hA : Below w.heap.size w (((w.alloc (.cells #[.slice a l.knees.length cap, .int .i64 l.factor] 24)).alloc (.cells #[.slice a0 b.oxides.length k0, .slice a1 b.mats.length k1, .slice a2 b.shares.length k2, .slice a3 b.props.length k3, .int .i64 b.redox.lo, .int .i64 b.redox.hi, .int .i64 b.wanted] 32)).alloc (.cells (askCells x (.slice at' x.thick.length kt) (.slice am x.measured.length km) (.slice ar x.recipe.length kr) pa pk) 38)) := ((below_boxS w _).alloc (by simp) _).alloc (by simp only [World.size_alloc]; omega) _
  have hB := ((Blk.new w #[.slice a l.knees.length cap, .int .i64 l.factor] 24).alloc (.cells #[.slice a0 b.oxides.length k0, .slice a1 b.mats.length k1, .slice a2 b.shares.length k2, .slice a3 b.props.length k3, .int .i64 b.redox.lo, .int .i64 b.redox.hi, .int .i64 b.wanted] 32)).alloc (.cells (askCells x (.slice at' x.thick.length kt) (.slice am x.measured.length km) (.slice ar x.recipe.length kr) pa pk) 38)
  have hM := (Blk.new (w.alloc (.cells #[.slice a l.knees.length cap, .int .i64 l.factor] 24)) #[.slice a0 b.oxides.length k0, .slice a1 b.mats.length k1, .slice a2 b.shares.length k2, .slice a3 b.props.length k3, .int .i64 b.redox.lo, .int .i64 b.redox.hi, .int .i64 b.wanted] 32).alloc (.cells (askCells x (.slice at' x.thick.length kt) (.slice am x.measured.length km) (.slice ar x.recipe.length kr) pa pk) 38)
  have hX := Blk.new ((w.alloc (.cells #[.slice a l.knees.length cap, .int .i64 l.factor] 24)).alloc (.cells #[.slice a0 b.oxides.length k0, .slice a1 b.mats.length k1, .slice a2 b.shares.length k2, .slice a3 b.props.length k3, .int .i64 b.redox.lo, .int .i64 b.redox.hi, .int .i64 b.wanted] 32)) (askCells x (.slice at' x.thick.length kt) (.slice am x.measured.length km) (.slice ar x.recipe.length kr) pa pk) 38
  have hz : (((w.alloc (.cells #[.slice a l.knees.length cap, .int .i64 l.factor] 24)).alloc (.cells #[.slice a0 b.oxides.length k0, .slice a1 b.mats.length k1, .slice a2 b.shares.length k2, .slice a3 b.props.length k3, .int .i64 b.redox.lo, .int .i64 b.redox.hi, .int .i64 b.wanted] 32)).alloc (.cells (askCells x (.slice at' x.thick.length kt) (.slice am x.measured.length km) (.slice ar x.recipe.length kr) pa pk) 38)).heap.size = w.heap.size + 3 := by simp
  replace hz := Nat.le_of_eq hz.symm
  simp only [World.size_alloc] at hM hX
  simp only [askCells] at hA hB hM hX hz ⊢
  go_enter Tryz.func3, Tryz.ntmps3
  have HI := Lib.hid hxi
  have HR := Lib.hid (fun V (hV : Below w.heap.size w V) => h0.mono (ext_of_below hV))
  have HBT := Lib.hid (fun V (hV : Below w.heap.size w V) => hb0.mono (ext_of_below hV))
  have HX := Lib.hid (fun V (hV : Below w.heap.size w V) => hx0.mono (ext_of_below hV))
  have HRC := Lib.hid (fun V (hV : Below w.heap.size w V) => hc0.mono (ext_of_below hV))
  have HC := Lib.hid (fun V (hV : Below w.heap.size w V) => hC.mono (ext_of_below hV))
  clear h0 hb0 hx0 hc0 hC hxi hb
  simp only [askCells] at HX
  by_cases hg : (100 : Int) < (l.knees.length : Int)
  · have gg := decide_eq_true hg
    have c0 := hB.cell 0 _ rfl
    clear hB hX hM
    go_wp2_with fail
    generalize ((w.alloc (.cells #[.slice a l.knees.length cap, .int .i64 l.factor] 24)).alloc (.cells #[.slice a0 b.oxides.length k0, .slice a1 b.mats.length k1, .slice a2 b.shares.length k2, .slice a3 b.props.length k3, .int .i64 b.redox.lo, .int .i64 b.redox.hi, .int .i64 b.wanted] 32)).alloc _ = W2 at *
    refine (lives5_any _ (HC.out _ hA)).mono ?_
    rintro e wl ⟨rfl, hbl⟩
    have hAl := hA.trans (hbl.mono hA.size)
    clear hbl hA
    go_wp2
    go_ret
    exact ⟨rfl, hAl⟩
  have gg := decide_eq_false hg
  have c0 := hB.cell 0 _ rfl
  have m0 := hM.cell 0 _ rfl
  have m1 := hM.cell 1 _ rfl
  have m2 := hM.cell 2 _ rfl
  have m3 := hM.cell 3 _ rfl
  have m4 := hM.cell 4 _ rfl
  have m5 := hM.cell 5 _ rfl
  have m6 := hM.cell 6 _ rfl
  go_wp2_with fail
  generalize ((w.alloc (.cells #[.slice a l.knees.length cap, .int .i64 l.factor] 24)).alloc (.cells #[.slice a0 b.oxides.length k0, .slice a1 b.mats.length k1, .slice a2 b.shares.length k2, .slice a3 b.props.length k3, .int .i64 b.redox.lo, .int .i64 b.redox.hi, .int .i64 b.wanted] 32)).alloc _ = w1 at *
  refine (B1.great_any _ b _ (HBT.out _ hA)).mono ?_
  rintro e w2 ⟨rg, rfl, hb2⟩
  have hA2 := hA.trans (hb2.mono hA.size)
  have hB2 := hB.below hb2 hB.lt
  have hM2 := hM.below hb2 hM.lt
  have hX2 := hX.below hb2 hX.lt
  have hz2 : w.heap.size + 3 ≤ w2.heap.size := by have := hb2.size; omega
  clear hA hB hM hX hb2 hz c0 m0 m1 m2 m3 m4 m5 m6 gg hg
  cases rg with
  | true =>
    clear hB2 hM2 hX2
    go_wp2_with fail
    refine (lives5_any _ (HC.out _ hA2)).mono ?_
    rintro e wl ⟨rfl, hbl⟩
    have hAl := hA2.trans (hbl.mono hA2.size)
    clear hbl hA2
    go_wp2
    go_ret
    exact ⟨rfl, hAl⟩
  | false =>
  have hld := ld_ask hX2 rfl
  go_wp2_with fail
  refine (wide5_any _ x _ (HX.out _ hA2)).mono ?_
  rintro e w3 ⟨rw, rfl, hwd, hb3⟩
  have hA3 := hA2.trans (hb3.mono hA2.size)
  have hB3 := hB2.below hb3 hB2.lt
  have hM3 := hM2.below hb3 hM2.lt
  have hX3 := hX2.below hb3 hX2.lt
  have hz3 : w.heap.size + 3 ≤ w3.heap.size := by have := hb3.size; omega
  clear hA2 hB2 hM2 hX2 hb3 hz2 hld hwd
  cases rw with
  | true =>
    clear hB3 hM3 hX3
    go_wp2_with fail
    refine (lives5_any _ (HC.out _ hA3)).mono ?_
    rintro e wl ⟨rfl, hbl⟩
    have hAl := hA3.trans (hbl.mono hA3.size)
    clear hbl hA3
    go_wp2
    go_ret
    exact ⟨rfl, hAl⟩
  | false =>
  have m0 := hM3.cell 0 _ rfl
  have m1 := hM3.cell 1 _ rfl
  have m2 := hM3.cell 2 _ rfl
  have m3 := hM3.cell 3 _ rfl
  have m4 := hM3.cell 4 _ rfl
  have m5 := hM3.cell 5 _ rfl
  have m6 := hM3.cell 6 _ rfl
  have x13 := hX3.cell 13 _ rfl
  have x14 := hX3.cell 14 _ rfl
  have x19 := hX3.cell 19 _ rfl
  go_wp2_with fail
  refine (shockP_any _ _ b x.recipe x.property x.degrees _ (HBT.out _ hA3) (HRC.out _ hA3)).mono ?_
  rintro e w4 ⟨rfl, hb4⟩
  have hA4 := hA3.trans (hb4.mono hA3.size)
  have hB4 := hB3.below hb4 hB3.lt
  have hM4 := hM3.below hb4 hM3.lt
  have hX4 := hX3.below hb4 hX3.lt
  have hz4 : w.heap.size + 3 ≤ w4.heap.size := by have := hb4.size; omega
  clear hA3 hB3 hM3 hX3 hb4 hz3
  clear m0 m1 m2 m3 m4 m5 m6 x13 x14 x19
  obtain ⟨q, hq⟩ : ∃ q, shockS (B1.valI b x.recipe x.property) x.degrees = q := ⟨_, rfl⟩
  have HQ := Lib.hid hq
  rw [hq]
  clear hq
  have hA5 := hA4.alloc hA4.size (.cells #[.int .i64 q.1.lo, .int .i64 q.1.hi] 30)
  have hB5 := hB4.alloc (.cells #[.int .i64 q.1.lo, .int .i64 q.1.hi] 30)
  have hM5 := hM4.alloc (.cells #[.int .i64 q.1.lo, .int .i64 q.1.hi] 30)
  have hX5 := hX4.alloc (.cells #[.int .i64 q.1.lo, .int .i64 q.1.hi] 30)
  have hP5 := Blk.new w4 #[.int .i64 q.1.lo, .int .i64 q.1.hi] 30
  clear hA4 hB4 hM4 hX4 hz4
  have m0 := hM5.cell 0 _ rfl
  have m1 := hM5.cell 1 _ rfl
  have m2 := hM5.cell 2 _ rfl
  have m3 := hM5.cell 3 _ rfl
  have m4 := hM5.cell 4 _ rfl
  have m5 := hM5.cell 5 _ rfl
  have m6 := hM5.cell 6 _ rfl
  have x13 := hX5.cell 13 _ rfl
  have x14 := hX5.cell 14 _ rfl
  have x19 := hX5.cell 19 _ rfl
  go_wp2_with fail
  generalize w4.alloc (.cells #[.int .i64 q.1.lo, .int .i64 q.1.hi] 30) = w5 at *
  generalize w4.heap.size = p4 at *
  refine (rshockP_any _ _ b x.recipe x.property x.degrees _ (HBT.out _ hA5) (HRC.out _ hA5)).mono ?_
  rintro e w6 ⟨rfl, hb6⟩
  rw [HQ.out]
  have hA7 := (hA5.trans (hb6.mono hA5.size)).alloc (hA5.trans (hb6.mono hA5.size)).size (.cells #[.int .i64 q.1.lo, .int .i64 q.1.hi] 30)
  have hB7 := (hB5.below hb6 hB5.lt).alloc (.cells #[.int .i64 q.1.lo, .int .i64 q.1.hi] 30)
  have hM7 := (hM5.below hb6 hM5.lt).alloc (.cells #[.int .i64 q.1.lo, .int .i64 q.1.hi] 30)
  have hX7 := (hX5.below hb6 hX5.lt).alloc (.cells #[.int .i64 q.1.lo, .int .i64 q.1.hi] 30)
  have hP7 := (hP5.below hb6 hP5.lt).alloc (.cells #[.int .i64 q.1.lo, .int .i64 q.1.hi] 30)
  have hO7 := Blk.new w6 #[.int .i64 q.1.lo, .int .i64 q.1.hi] 30
  clear hA5 hB5 hM5 hX5 hP5 hb6 m0 m1 m2 m3 m4 m5 m6 x13 x14 x19 HQ
  have r0 := hP7.cell 0 _ rfl
  have r1 := hP7.cell 1 _ rfl
  have s0 := hO7.cell 0 _ rfl
  have s1 := hO7.cell 1 _ rfl
  have hneq := fun w => neq_spanQ q.1.lo q.1.hi w
  have c0 := hB7.cell 0 _ rfl
  have c1 := hB7.cell 1 _ rfl
  have m0 := hM7.cell 0 _ rfl
  have m1 := hM7.cell 1 _ rfl
  have m2 := hM7.cell 2 _ rfl
  have m3 := hM7.cell 3 _ rfl
  have m4 := hM7.cell 4 _ rfl
  have m5 := hM7.cell 5 _ rfl
  have m6 := hM7.cell 6 _ rfl
  have x12 := hX7.cell 12 _ rfl
  have x14 := hX7.cell 14 _ rfl
  have x15 := hX7.cell 15 _ rfl
  have x16 := hX7.cell 16 _ rfl
  have x17 := hX7.cell 17 _ rfl
  have x19 := hX7.cell 19 _ rfl
  go_wp2_with fail
  generalize w6.alloc (.cells #[.int .i64 q.1.lo, .int .i64 q.1.hi] 30) = w7 at *
  clear hneq r0 r1 s0 s1 hP7 hO7
  refine (annealP_any _ _ _ l b x.recipe x.property x.below x.soak x.wall x.limit _ (HR.out _ hA7) (HBT.out _ hA7) (HRC.out _ hA7)).mono ?_
  rintro e w8 ⟨rfl, hb8⟩
  have hA8 := hA7.trans (hb8.mono hA7.size)
  have hB8 := hB7.below hb8 hB7.lt
  have hM8 := hM7.below hb8 hM7.lt
  have hX8 := hX7.below hb8 hX7.lt
  clear hA7 hB7 hM7 hX7 hb8 c0 c1 m0 m1 m2 m3 m4 m5 m6 x12 x14 x15 x16 x17 x19
  obtain ⟨t, ht⟩ : ∃ t, annealS l (B1.valI b x.recipe x.property) x.below x.soak x.wall x.limit = t := ⟨_, rfl⟩
  have HQ := Lib.hid ht
  rw [ht]
  clear ht
  have c0 := hB8.cell 0 _ rfl
  have c1 := hB8.cell 1 _ rfl
  have m0 := hM8.cell 0 _ rfl
  have m1 := hM8.cell 1 _ rfl
  have m2 := hM8.cell 2 _ rfl
  have m3 := hM8.cell 3 _ rfl
  have m4 := hM8.cell 4 _ rfl
  have m5 := hM8.cell 5 _ rfl
  have m6 := hM8.cell 6 _ rfl
  have x12 := hX8.cell 12 _ rfl
  have x14 := hX8.cell 14 _ rfl
  have x15 := hX8.cell 15 _ rfl
  have x16 := hX8.cell 16 _ rfl
  have x17 := hX8.cell 17 _ rfl
  have x19 := hX8.cell 19 _ rfl
  go_wp2_with fail
  refine (rannealP_any _ _ _ l b x.recipe x.property x.below x.soak x.wall x.limit _ (HR.out _ hA8) (HBT.out _ hA8) (HRC.out _ hA8)).mono ?_
  rintro e w9 ⟨rfl, hb9⟩
  have hA9 := hA8.trans (hb9.mono hA8.size)
  rw [HQ.out]
  clear hA8 hB8 hM8 hX8 hb9 c0 c1 m0 m1 m2 m3 m4 m5 m6 x12 x14 x15 x16 x17 x19 HQ
  go_wp2_with fail
  refine (lives5_any _ (HC.out _ hA9)).mono ?_
  rintro e wl ⟨rfl, hbl⟩
  have hAl := hA9.trans (hbl.mono hA9.size)
  clear hbl hA9
  go_wp2
  go_ret
  exact ⟨rfl, hAl⟩

end Go.Proofs.YtmmlocjiegkjeaaGreatDoor
