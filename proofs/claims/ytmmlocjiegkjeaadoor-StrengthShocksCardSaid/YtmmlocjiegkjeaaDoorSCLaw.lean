/- The law StrengthChecks: every input; no statement is proved here. -/
import Derived.Test.YtmmlocjiegkjeaaDoorSLives
import Derived.Test.YtmmlocjiegkjeaaDoorThRef
import Derived.Test.YtmmlocjiegkjeaaDoorTill
namespace Go.Proofs.YtmmlocjiegkjeaaDoor
open Go.RowKit Go.PlainAid
set_option linter.unusedVariables false

def TrueB (w : World) (e : Ending) (w' : World) : Prop := e = .returned (.bool true) ∧ Below w.heap.size w w'

set_option maxHeartbeats 2000000 in
set_option maxRecDepth 100000 in
theorem sChecksLaw_any (vb vx : Value) (b : Bot) (x : Ask5) (w : World) (h : RBot w vb b) (hx : RAsk5 w vx x) (hC : Circ w) :
    Calls Tryd.prog 8 #[vb, vx] w (TrueB w) := by
  have h0 := h
  obtain ⟨v0, rfl, hr, hI⟩ := h
  obtain ⟨a, cap, rfl, -, -, -⟩ := hr
  obtain ⟨vt, vm, vr, pa, pk, rfl, hx1, hx2, hx3, hx4, hx5⟩ := hx
  obtain ⟨at', kt, rfl, -, -, -⟩ := hx1
  obtain ⟨am, km, rfl, -, -, -⟩ := hx2
  obtain ⟨ar, kr, rfl, -, -, -⟩ := hx3
  have hA : Below w.heap.size w ((w.alloc (.cells #[.slice a b.rings.length cap, .int .i64 b.flaw, .int .i64 b.tough] 47)).alloc (.cells (askCells x (.slice at' x.thick.length kt) (.slice am x.measured.length km) (.slice ar x.recipe.length kr) pa pk) 33)) := (below_boxS w _).alloc (by simp) _
  have hB := (Blk.new w #[.slice a b.rings.length cap, .int .i64 b.flaw, .int .i64 b.tough] 47).alloc (.cells (askCells x (.slice at' x.thick.length kt) (.slice am x.measured.length km) (.slice ar x.recipe.length kr) pa pk) 33)
  have hX := Blk.new (w.alloc (.cells #[.slice a b.rings.length cap, .int .i64 b.flaw, .int .i64 b.tough] 47)) (askCells x (.slice at' x.thick.length kt) (.slice am x.measured.length km) (.slice ar x.recipe.length kr) pa pk) 33
  rw [World.size_alloc] at hX
  simp only [askCells] at hA hB hX ⊢
  go_enter Tryd.func8, Tryd.ntmps8
  go_wp2_with fail
  generalize (w.alloc (.cells #[.slice a b.rings.length cap, .int .i64 b.flaw, .int .i64 b.tough] 47)).alloc (.cells #[.slice at' x.thick.length kt, .int .i64 x.load.press, .int .i64 x.load.force, .int .i64 x.load.speed, .int .i64 x.load.other, .int .i64 x.weights.lo, .int .i64 x.weights.hi, .int .i64 x.temps.lo, .int .i64 x.temps.hi, .slice am x.measured.length km, .int .i64 x.acc, .int .i64 x.temp, .int .i64 x.wall, .int .i64 x.degrees, .int .i64 x.property, .int .i64 x.below, .int .i64 x.soak, .int .i64 x.limit, .int .i64 x.most, .slice ar x.recipe.length kr, .slice pa x.cells pk] 33) = W2 at *
  have hR : ∀ V, Below w.heap.size w V → RBot V (.agg #[.slice a b.rings.length cap, .int .i64 b.flaw, .int .i64 b.tough]) b := fun V hV => h0.mono (ext_of_below hV)
  have hCi : ∀ V, Below w.heap.size w V → Circ V := fun V hV => hC.mono (ext_of_below hV)
  have HR := Lib.hid hR
  have HC := Lib.hid hCi
  clear hR hCi h0 hC
  refine (great5_any _ b _ (HR.out _ hA)).mono ?_
  rintro e w1 ⟨rfl, hb1⟩
  have hA1 := hA.trans (hb1.mono hA.size)
  have hB1 := hB.below hb1 hB.lt
  have hX1 := hX.below hb1 hX.lt
  clear hA hB hX hb1
  cases hg : decide (40 < b.rings.length) with
  | true =>
    clear hB1 hX1
    go_wp2_with fail
    refine (lives5_any _ (HC.out _ hA1)).mono ?_
    rintro e w2 ⟨rfl, hb2⟩
    have hA2 := hA1.trans (hb2.mono hA1.size)
    clear hb2 hA1
    go_wp2
    go_ret
    exact ⟨rfl, hA2⟩
  | false =>
  have c0 := hB1.cell 0 _ rfl
  have c1 := hB1.cell 1 _ rfl
  have c2 := hB1.cell 2 _ rfl
  have x5 := hX1.cell 5 _ rfl
  have x6 := hX1.cell 6 _ rfl
  go_wp2_with fail
  refine (thicknessP_any _ b x.weights _ (HR.out _ hA1) (HC.out _ hA1)).mono ?_
  rintro e w2 ⟨v2, rfl, hv2, hb2⟩
  have hA2 := hA1.trans (hb2.mono hA1.size)
  have hB2 := hB1.below hb2 hB1.lt
  have hX2 := hX1.below hb2 hX1.lt
  have hv2' := hv2.mono (vis_ext _ _)
  clear hA1 hB1 hX1 hb2 c0 c1 c2 x5 x6 hv2
  have c0 := hB2.cell 0 _ rfl
  have c1 := hB2.cell 1 _ rfl
  have c2 := hB2.cell 2 _ rfl
  have x5 := hX2.cell 5 _ rfl
  have x6 := hX2.cell 6 _ rfl
  go_wp2_with fail
  refine (rthick_any _ b x.weights _ (HR.out _ hA2)).mono ?_
  rintro e w3 ⟨v3, rfl, hv3, hb3⟩
  have hA3 := hA2.trans (hb3.mono hA2.size)
  have hB3 := hB2.below hb3 hB2.lt
  have hv3' := hv3.mono (vis_ext _ _)
  have hv2'' := hv2'.mono (ext_of_below hb3)
  clear hA2 hB2 hX2 hb3 c0 c1 c2 x5 x6 hv3 hv2'
  have c0 := hB3.cell 0 _ rfl
  have c1 := hB3.cell 1 _ rfl
  have c2 := hB3.cell 2 _ rfl
  have D0 : Below w3.heap.size w3 w3.drew := (Below.refl _ _).drew
  have HSV : Hid (∀ V, Below w3.heap.size w3 V → (fun w' : World => w'.cell? ⟨w.heap.size, 0, none⟩ = some (.slice a b.rings.length cap) ∧ w'.cell? ⟨w.heap.size, 1, none⟩ = some (.int .i64 b.flaw) ∧ w'.cell? ⟨w.heap.size, 2, none⟩ = some (.int .i64 b.tough)) V) := Lib.hid (fun V hV => ⟨ext_of_below hV _ _ c0, ext_of_below hV _ _ c1, ext_of_below hV _ _ c2⟩)
  have HV2 := Lib.hid hv2''
  have HV3 := Lib.hid hv3'
  have HA3 := Lib.hid hA3
  clear hv2'' hv3' hA3 hB3
  go_wp2_with fail
  refine wp_region_till (fun w' : World => w'.cell? ⟨w.heap.size, 0, none⟩ = some (.slice a b.rings.length cap) ∧ w'.cell? ⟨w.heap.size, 1, none⟩ = some (.int .i64 b.flaw) ∧ w'.cell? ⟨w.heap.size, 2, none⟩ = some (.int .i64 b.tough)) 99 (by kernel_rfl) (HSV.out _ D0) (fun hHeld => ?_)
  refine Till.take 0 (some 26) (v := ?_) rfl rfl (by kernel_rfl) (by kernel_rfl) (by kernel_rfl) (by kernel_rfl) (fun _ _ _ h => h) (Or.inl ⟨by rfl, ?_⟩) (by assumption) ?_
  rotate_left
  · (intro w hSw; (try dsimp only at hSw); go_simp; try with_reducible rfl)
  try simp only [Act.put, List.setIfInBounds_toArray, List.set_cons_zero, List.set_cons_succ]
  refine Till.take 2 (some 28) (v := ?_) rfl rfl (by kernel_rfl) (by kernel_rfl) (by kernel_rfl) (by kernel_rfl) (fun _ _ _ h => h) (Or.inl ⟨by rfl, ?_⟩) (by assumption) ?_
  rotate_left
  · (intro w hSw; (try dsimp only at hSw); go_simp; try with_reducible rfl)
  try simp only [Act.put, List.setIfInBounds_toArray, List.set_cons_zero, List.set_cons_succ]
  refine Till.one 1 rfl (by kernel_rfl) (fun K hK => ?_)
  go_simp
  go_at_call 33
  refine (checkP_any _ b _ (HR.out _ (HA3.out.trans (D0.mono HA3.out.size)))).mono ?_
  rintro e w4 ⟨rfl, hb4⟩
  have D1 := D0.trans (hb4.mono D0.size)
  refine hK.out _ _ (fun _ => HSV.out _ D1) (fun hHeld2 => ?_)
  clear hK K hb4
  try simp only [Act.put, List.setIfInBounds_toArray, List.set_cons_zero, List.set_cons_succ]
  refine Till.one 3 rfl (by kernel_rfl) (fun K hK => ?_)
  go_simp
  go_at_call 34
  refine (rcheck5_any _ b _ (HR.out _ (HA3.out.trans (D1.mono HA3.out.size)))).mono ?_
  rintro e w5 ⟨rfl, hb5⟩
  have D2 := D1.trans (hb5.mono D1.size)
  have hh5 := HSV.out _ D2
  refine hK.out _ _ (fun _ => hh5) (fun hHeld3 => ?_)
  clear hK K hb5
  try simp only [Act.put, List.setIfInBounds_toArray, List.set_cons_zero, List.set_cons_succ]
  refine Till.take 4 (some 30) (v := ?_) rfl rfl (by kernel_rfl) (by kernel_rfl) (by kernel_rfl) (by kernel_rfl) (fun _ _ _ h => h) (Or.inl ⟨by rfl, ?_⟩) (by assumption) ?_
  rotate_left
  · (intro w hSw; (try dsimp only at hSw); go_simp; try with_reducible rfl)
  try simp only [Act.put, List.setIfInBounds_toArray, List.set_cons_zero, List.set_cons_succ]
  refine Till.take 5 (some 31) (v := ?_) rfl rfl (by kernel_rfl) (by kernel_rfl) (by kernel_rfl) (by kernel_rfl) (fun _ _ _ h => h) (Or.inl ⟨by rfl, ?_⟩) (by assumption) ?_
  rotate_left
  · (intro w hSw; (try dsimp only at hSw); go_simp; try with_reducible rfl)
  try simp only [Act.put, List.setIfInBounds_toArray, List.set_cons_zero, List.set_cons_succ]
  refine Till.take 6 (some 32) (v := ?_) rfl rfl (by kernel_rfl) (by kernel_rfl) (by kernel_rfl) (by kernel_rfl) (fun _ _ _ h => h) (Or.inl ⟨by rfl, ?_⟩) (by assumption) ?_
  rotate_left
  · (intro w hSw; (try dsimp only at hSw); go_simp; try with_reducible rfl)
  try simp only [Act.put, List.setIfInBounds_toArray, List.set_cons_zero, List.set_cons_succ]
  refine Till.take 7 (some 33) (v := ?_) rfl rfl (by kernel_rfl) (by kernel_rfl) (by kernel_rfl) (by kernel_rfl) (fun _ _ _ h => h) (Or.inl ⟨by rfl, ?_⟩) (by assumption) ?_
  rotate_left
  · (intro w hSw; (try dsimp only at hSw); go_simp; try with_reducible rfl)
  try simp only [Act.put, List.setIfInBounds_toArray, List.set_cons_zero, List.set_cons_succ]
  refine Till.take 8 (some 34) (v := ?_) rfl rfl (by kernel_rfl) (by kernel_rfl) (by kernel_rfl) (by kernel_rfl) (fun _ _ _ h => h) (Or.inl ⟨by rfl, ?_⟩) (by assumption) ?_
  rotate_left
  · (intro w hSw; (try dsimp only at hSw); go_simp; try with_reducible rfl)
  try simp only [Act.put, List.setIfInBounds_toArray, List.set_cons_zero, List.set_cons_succ]
  refine Till.take 9 (some 35) (v := ?_) rfl rfl (by kernel_rfl) (by kernel_rfl) (by kernel_rfl) (by kernel_rfl) (fun _ _ _ h => h) (Or.inl ⟨by rfl, ?_⟩) (by assumption) ?_
  rotate_left
  · (intro w hSw; (try dsimp only at hSw); go_simp; try with_reducible rfl)
  try simp only [Act.put, List.setIfInBounds_toArray, List.set_cons_zero, List.set_cons_succ]
  refine Till.take 10 (some 36) (v := ?_) rfl rfl (by kernel_rfl) (by kernel_rfl) (by kernel_rfl) (by kernel_rfl) (fun _ _ _ h => h) (Or.inl ⟨by rfl, ?_⟩) (by assumption) ?_
  rotate_left
  · (intro w hSw; (try dsimp only at hSw); go_simp; try with_reducible rfl)
  try simp only [Act.put, List.setIfInBounds_toArray, List.set_cons_zero, List.set_cons_succ]
  refine Till.take 11 (some 37) (v := ?_) rfl rfl (by kernel_rfl) (by kernel_rfl) (by kernel_rfl) (by kernel_rfl) (fun _ _ _ h => h) (Or.inl ⟨by rfl, ?_⟩) (by assumption) ?_
  rotate_left
  · (intro w hSw; (try dsimp only at hSw); go_simp; try with_reducible rfl)
  try simp only [Act.put, List.setIfInBounds_toArray, List.set_cons_zero, List.set_cons_succ]
  refine Till.take 12 (some 38) (v := ?_) rfl rfl (by kernel_rfl) (by kernel_rfl) (by kernel_rfl) (by kernel_rfl) (fun _ _ _ h => h) (Or.inl ⟨by rfl, ?_⟩) (by assumption) ?_
  rotate_left
  · (intro w hSw; (try dsimp only at hSw); go_simp; try with_reducible rfl)
  try simp only [Act.put, List.setIfInBounds_toArray, List.set_cons_zero, List.set_cons_succ]
  have hss := sameSpans_any v2 v3 _ _ w5 (HV2.out.mono (ext_of_below D2)) (HV3.out.mono (ext_of_below D2))
  rw [decide_eq_true rfl] at hss
  refine Till.one 13 rfl (by kernel_rfl) (fun K hK => ?_)
  go_simp
  go_at_call 27
  refine hss.mono ?_
  rintro e w6 ⟨rfl, hb6⟩
  have D3 := D2.trans (hb6.mono D2.size)
  have hh6 := HSV.out _ D3
  refine hK.out _ _ (fun _ => hh6) (fun hHeld4 => ?_)
  clear hK K hb6 hss
  try simp only [Act.put, List.setIfInBounds_toArray, List.set_cons_zero, List.set_cons_succ]
  refine Till.take 14 (some 40) (v := ?_) rfl rfl (by kernel_rfl) (by kernel_rfl) (by kernel_rfl) (by kernel_rfl) (fun _ _ _ h => h) (Or.inl ⟨by rfl, ?_⟩) (by assumption) ?_
  rotate_left
  · (intro w hSw; (try dsimp only at hSw); go_simp; try with_reducible rfl)
  try simp only [Act.put, List.setIfInBounds_toArray, List.set_cons_zero, List.set_cons_succ]
  refine Till.take 15 (some 41) (v := ?_) rfl rfl (by kernel_rfl) (by kernel_rfl) (by kernel_rfl) (by kernel_rfl) (fun _ _ _ h => h) (Or.inl ⟨by rfl, ?_⟩) (by assumption) ?_
  rotate_left
  · (intro w hSw; (try dsimp only at hSw); go_simp; try with_reducible rfl)
  try simp only [Act.put, List.setIfInBounds_toArray, List.set_cons_zero, List.set_cons_succ]
  refine Till.one 16 rfl (by kernel_rfl) (fun K hK => ?_)
  go_simp
  go_at_call 9
  refine (lives5_any _ (HC.out _ (HA3.out.trans (D3.mono HA3.out.size)))).mono ?_
  rintro e w7 ⟨rfl, hb7⟩
  have D4 := D3.trans (hb7.mono D3.size)
  have hh7 := HSV.out _ D4
  refine hK.out _ _ (fun _ => hh7) (fun hHeld5 => ?_)
  clear hK K hb7
  try simp only [Act.put, List.setIfInBounds_toArray, List.set_cons_zero, List.set_cons_succ]
  refine Till.take 17 (some 43) (v := ?_) rfl rfl (by kernel_rfl) (by kernel_rfl) (by kernel_rfl) (by kernel_rfl) (fun _ _ _ h => h) (Or.inl ⟨by rfl, ?_⟩) (by assumption) ?_
  rotate_left
  · (intro w hSw; (try dsimp only at hSw); go_simp; try with_reducible rfl)
  try simp only [Act.put, List.setIfInBounds_toArray, List.set_cons_zero, List.set_cons_succ]
  refine Till.take 18 (some 4) (v := ?_) rfl rfl (by kernel_rfl) (by kernel_rfl) (by kernel_rfl) (by kernel_rfl) (fun _ _ _ h => h) (Or.inl ⟨by rfl, ?_⟩) (by assumption) ?_
  rotate_left
  · (intro w hSw; (try dsimp only at hSw); go_simp; try with_reducible rfl)
  try simp only [Act.put, List.setIfInBounds_toArray, List.set_cons_zero, List.set_cons_succ]
  refine Till.done (by kernel_rfl) ?_ _
  have HF := Lib.hid (HA3.out.trans (D4.mono HA3.out.size))
  clear hh5 hh6 hh7 hHeld hHeld2 hHeld3 hHeld4 hHeld5 D0 D1 D2 D3 D4 c0 c1 c2
  go_wp2
  go_ret
  exact ⟨rfl, HF.out⟩

end Go.Proofs.YtmmlocjiegkjeaaDoor
