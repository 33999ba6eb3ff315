/- The law StrengthLehrs: every input; no statement is proved here. -/
import Derived.Test.YtmmlocjiegkjeaaDoorRLp
import Derived.Test.YtmmlocjiegkjeaaDoorSLives
import Derived.Test.YtmmlocjiegkjeaaDoorSCLaw
namespace Go.Proofs.YtmmlocjiegkjeaaDoor
open Go.RowKit Go.PlainAid
set_option linter.unusedVariables false
set_option linter.unusedSimpArgs false
attribute [local go_sem] beq_self_eq_true bne_self_eq_false

theorem neq_ratio (x1 x2 : Int) (w : World) : Sem.run Tryd.prog (Go.binOp .neq 36 (.agg #[.int .i64 x1, .int .i64 x2]) (.agg #[.int .i64 x1, .int .i64 x2])) w = .ok (.bool false) w := by
  rw [run_neq_struct]
  simp [go_sem]

set_option maxHeartbeats 8000000 in
set_option maxRecDepth 100000 in
theorem sLehrsLaw_any (vl vx : Value) (l : Lr) (x : Ask5) (w : World) (h : RLr w vl l) (hx : RAsk5 w vx x) (hC : Circ w) :
    Calls Tryd.prog 3 #[vl, vx] w (TrueB w) := by
  have h0 := h
  obtain ⟨v0, rfl, hr, hI⟩ := h
  obtain ⟨a, cap, rfl, -, ⟨-, hm⟩, -⟩ := hr
  obtain ⟨vt, vm, vr, pa, pk, rfl, hx1, hx2, hx3, -, -⟩ := hx
  obtain ⟨at', kt, rfl, -, -, -⟩ := hx1
  obtain ⟨am, km, rfl, -, -, -⟩ := hx2
  obtain ⟨ar, kr, rfl, -, -, -⟩ := hx3
  have hA : Below w.heap.size w ((w.alloc (.cells #[.slice a l.knees.length cap, .int .i64 l.factor] 24)).alloc (.cells (askCells x (.slice at' x.thick.length kt) (.slice am x.measured.length km) (.slice ar x.recipe.length kr) pa pk) 33)) := (below_boxS w _).alloc (by simp) _
  have hB := (Blk.new w #[.slice a l.knees.length cap, .int .i64 l.factor] 24).alloc (.cells (askCells x (.slice at' x.thick.length kt) (.slice am x.measured.length km) (.slice ar x.recipe.length kr) pa pk) 33)
  have hX := Blk.new (w.alloc (.cells #[.slice a l.knees.length cap, .int .i64 l.factor] 24)) (askCells x (.slice at' x.thick.length kt) (.slice am x.measured.length km) (.slice ar x.recipe.length kr) pa pk) 33
  rw [World.size_alloc] at hX
  simp only [askCells] at hA hB hX ⊢
  go_enter Tryd.func3, Tryd.ntmps3
  have HR := Lib.hid (fun V (hV : Below w.heap.size w V) => h0.mono (ext_of_below hV))
  have HC := Lib.hid (fun V (hV : Below w.heap.size w V) => hC.mono (ext_of_below hV))
  clear h0 hC
  by_cases hg : (100 : Int) < (l.knees.length : Int)
  · have gg := decide_eq_true hg
    have c0 := hB.cell 0 _ rfl
    clear hB hX
    go_wp2_with fail
    generalize (w.alloc (.cells #[.slice a l.knees.length cap, .int .i64 l.factor] 24)).alloc _ = W2 at *
    refine (lives5_any _ (HC.out _ hA)).mono ?_
    rintro e wl ⟨rfl, hbl⟩
    have hAl := hA.trans (hbl.mono hA.size)
    clear hbl hA
    go_wp2
    go_ret
    exact ⟨rfl, hAl⟩
  have gg := decide_eq_false hg
  have c0 := hB.cell 0 _ rfl
  have c1 := hB.cell 1 _ rfl
  have x7 := hX.cell 7 _ rfl
  have x8 := hX.cell 8 _ rfl
  go_wp2_with fail
  generalize (w.alloc (.cells #[.slice a l.knees.length cap, .int .i64 l.factor] 24)).alloc _ = w1 at *
  have hA1 := hA
  have hB1 := hB
  have hX1 := hX
  clear hA hB hX gg hg
  refine (steepP_any _ l x.temps _ (HR.out _ hA1)).mono ?_
  rintro e w2 ⟨rfl, hb2⟩
  have hA2 := hA1.trans (hb2.mono hA1.size)
  have hB2 := hB1.below hb2 hB1.lt
  have hX2 := hX1.below hb2 hX1.lt
  clear hA1 hB1 hX1 hb2 c0 c1 x7 x8
  obtain ⟨q, hq⟩ : ∃ q, steepS l x.temps = q := ⟨_, rfl⟩
  have HQ := Lib.hid hq
  rw [hq]
  clear hq
  have hA3 := hA2.alloc hA2.size (.cells #[.int .i64 q.1.1, .int .i64 q.1.2] 36)
  have hB3 := hB2.alloc (.cells #[.int .i64 q.1.1, .int .i64 q.1.2] 36)
  have hX3 := hX2.alloc (.cells #[.int .i64 q.1.1, .int .i64 q.1.2] 36)
  have hP3 := Blk.new w2 #[.int .i64 q.1.1, .int .i64 q.1.2] 36
  clear hA2 hB2 hX2
  have c0 := hB3.cell 0 _ rfl
  have c1 := hB3.cell 1 _ rfl
  have x7 := hX3.cell 7 _ rfl
  have x8 := hX3.cell 8 _ rfl
  go_wp2_with fail
  generalize w2.alloc (.cells #[.int .i64 q.1.1, .int .i64 q.1.2] 36) = w3 at *
  refine (rsteepP_any _ l x.temps _ (HR.out _ hA3)).mono ?_
  rintro e w4 ⟨rfl, hb4⟩
  have hA4 := hA3.trans (hb4.mono hA3.size)
  have hB4 := hB3.below hb4 hB3.lt
  have hX4 := hX3.below hb4 hX3.lt
  have hP4 := hP3.below hb4 hP3.lt
  clear hA3 hB3 hX3 hb4 c0 c1 x7 x8 hP3
  rw [HQ.out]
  generalize w2.heap.size = p2 at *
  have hA5 := hA4.alloc hA4.size (.cells #[.int .i64 q.1.1, .int .i64 q.1.2] 36)
  have hB5 := hB4.alloc (.cells #[.int .i64 q.1.1, .int .i64 q.1.2] 36)
  have hX5 := hX4.alloc (.cells #[.int .i64 q.1.1, .int .i64 q.1.2] 36)
  have hO5 := Blk.new w4 #[.int .i64 q.1.1, .int .i64 q.1.2] 36
  have hP5 := hP4.alloc (.cells #[.int .i64 q.1.1, .int .i64 q.1.2] 36)
  clear hA4 hB4 hX4 hP4
  have r0 := hP5.cell 0 _ rfl
  have r1 := hP5.cell 1 _ rfl
  have s0 := hO5.cell 0 _ rfl
  have s1 := hO5.cell 1 _ rfl
  have hneq := fun w => neq_ratio q.1.1 q.1.2 w
  have c0 := hB5.cell 0 _ rfl
  have c1 := hB5.cell 1 _ rfl
  have x11 := hX5.cell 11 _ rfl
  go_wp2_with fail
  generalize w4.alloc (.cells #[.int .i64 q.1.1, .int .i64 q.1.2] 36) = w5 at *
  clear hneq r0 r1 s0 s1 hP5 hO5
  refine (heldP_any _ l x.temp _ (HR.out _ hA5)).mono ?_
  rintro e w6 ⟨rfl, hb6⟩
  have hA6 := hA5.trans (hb6.mono hA5.size)
  have hB6 := hB5.below hb6 hB5.lt
  have hX6 := hX5.below hb6 hX5.lt
  clear hA5 hB5 hX5 hb6 c0 c1 x11
  have c0 := hB6.cell 0 _ rfl
  have c1 := hB6.cell 1 _ rfl
  have x11 := hX6.cell 11 _ rfl
  go_wp2_with fail
  refine (rheldP_any _ l x.temp _ (HR.out _ hA6)).mono ?_
  rintro e w7 ⟨rfl, hb7⟩
  have hA7 := hA6.trans (hb7.mono hA6.size)
  have hB7 := hB6.below hb7 hB6.lt
  have hX7 := hX6.below hb7 hX6.lt
  clear hA6 hB6 hX6 hb7 c0 c1 x11
  have c0 := hB7.cell 0 _ rfl
  have c1 := hB7.cell 1 _ rfl
  have x7 := hX7.cell 7 _ rfl
  have x8 := hX7.cell 8 _ rfl
  have x12 := hX7.cell 12 _ rfl
  go_wp2_with fail
  refine (strainP_any _ l x.temps x.wall _ (HR.out _ hA7)).mono ?_
  rintro e w8 ⟨rfl, hb8⟩
  have hA8 := hA7.trans (hb8.mono hA7.size)
  have hB8 := hB7.below hb8 hB7.lt
  have hX8 := hX7.below hb8 hX7.lt
  clear hA7 hB7 hX7 hb8 c0 c1 x7 x8 x12
  have c0 := hB8.cell 0 _ rfl
  have c1 := hB8.cell 1 _ rfl
  have x7 := hX8.cell 7 _ rfl
  have x8 := hX8.cell 8 _ rfl
  have x12 := hX8.cell 12 _ rfl
  go_wp2_with fail
  refine (rstrainP_any _ l x.temps x.wall _ (HR.out _ hA8)).mono ?_
  rintro e w9 ⟨rfl, hb9⟩
  have hA9 := hA8.trans (hb9.mono hA8.size)
  have hB9 := hB8.below hb9 hB8.lt
  have hX9 := hX8.below hb9 hX8.lt
  clear hA8 hB8 hX8 hb9 c0 c1 x7 x8 x12
  have c0 := hB9.cell 0 _ rfl
  have c1 := hB9.cell 1 _ rfl
  have D0 : Below w9.heap.size w9 w9.drew := (Below.refl _ _).drew
  have HSV : Hid (∀ V, Below w9.heap.size w9 V → (fun w' : World => w'.cell? ⟨w.heap.size, 0, none⟩ = some (.slice a l.knees.length cap) ∧ w'.cell? ⟨w.heap.size, 1, none⟩ = some (.int .i64 l.factor)) V) := Lib.hid (fun V hV => ⟨ext_of_below hV _ _ c0, ext_of_below hV _ _ c1⟩)
  have HA9 := Lib.hid hA9
  clear hA9 hB9 hX9 c0 c1
  go_wp2_with fail
  refine wp_region_till (fun w' : World => w'.cell? ⟨w.heap.size, 0, none⟩ = some (.slice a l.knees.length cap) ∧ w'.cell? ⟨w.heap.size, 1, none⟩ = some (.int .i64 l.factor)) 99 (by kernel_rfl) (HSV.out _ D0) (fun hHeld => ?_)
  refine Till.take 0 (some 74) (v := ?_) rfl rfl (by kernel_rfl) (by kernel_rfl) (by kernel_rfl) (by kernel_rfl) (fun _ _ _ h => h) (Or.inl ⟨by rfl, ?_⟩) (by assumption) ?_
  rotate_left
  · (intro w hSw; (try dsimp only at hSw); go_simp; try with_reducible rfl)
  try simp only [Act.put, List.setIfInBounds_toArray, List.set_cons_zero, List.set_cons_succ]
  refine Till.take 2 (some 76) (v := ?_) rfl rfl (by kernel_rfl) (by kernel_rfl) (by kernel_rfl) (by kernel_rfl) (fun _ _ _ h => h) (Or.inl ⟨by rfl, ?_⟩) (by assumption) ?_
  rotate_left
  · (intro w hSw; (try dsimp only at hSw); go_simp; try with_reducible rfl)
  try simp only [Act.put, List.setIfInBounds_toArray, List.set_cons_zero, List.set_cons_succ]
  refine Till.one 1 rfl (by kernel_rfl) (fun K hK => ?_)
  go_simp
  go_at_call 16
  refine (checkLehrP_any _ l _ (HR.out _ (HA9.out.trans (D0.mono HA9.out.size)))).mono ?_
  rintro e w10 ⟨rfl, hb10⟩
  have D1 := D0.trans (hb10.mono D0.size)
  refine hK.out _ _ (fun _ => HSV.out _ D1) (fun hHeld2 => ?_)
  clear hK K hb10
  try simp only [Act.put, List.setIfInBounds_toArray, List.set_cons_zero, List.set_cons_succ]
  refine Till.one 3 rfl (by kernel_rfl) (fun K hK => ?_)
  go_simp
  go_at_call 17
  refine (rcheckL_any _ l _ (HR.out _ (HA9.out.trans (D1.mono HA9.out.size)))).mono ?_
  rintro e w11 ⟨rfl, hb11⟩
  have D2 := D1.trans (hb11.mono D1.size)
  have hh5 := HSV.out _ D2
  refine hK.out _ _ (fun _ => hh5) (fun hHeld3 => ?_)
  clear hK K hb11
  try simp only [Act.put, List.setIfInBounds_toArray, List.set_cons_zero, List.set_cons_succ]
  refine Till.take 4 (some 78) (v := ?_) rfl rfl (by kernel_rfl) (by kernel_rfl) (by kernel_rfl) (by kernel_rfl) (fun _ _ _ h => h) (Or.inl ⟨by rfl, ?_⟩) (by assumption) ?_
  rotate_left
  · (intro w hSw; (try dsimp only at hSw); go_simp; try with_reducible rfl)
  try simp only [Act.put, List.setIfInBounds_toArray, List.set_cons_zero, List.set_cons_succ]
  refine Till.take 5 (some 79) (v := ?_) rfl rfl (by kernel_rfl) (by kernel_rfl) (by kernel_rfl) (by kernel_rfl) (fun _ _ _ h => h) (Or.inl ⟨by rfl, ?_⟩) (by assumption) ?_
  rotate_left
  · (intro w hSw; (try dsimp only at hSw); go_simp; try with_reducible rfl)
  try simp only [Act.put, List.setIfInBounds_toArray, List.set_cons_zero, List.set_cons_succ]
  refine Till.take 6 (some 80) (v := ?_) rfl rfl (by kernel_rfl) (by kernel_rfl) (by kernel_rfl) (by kernel_rfl) (fun _ _ _ h => h) (Or.inl ⟨by rfl, ?_⟩) (by assumption) ?_
  rotate_left
  · (intro w hSw; (try dsimp only at hSw); go_simp; try with_reducible rfl)
  try simp only [Act.put, List.setIfInBounds_toArray, List.set_cons_zero, List.set_cons_succ]
  refine Till.take 7 (some 81) (v := ?_) rfl rfl (by kernel_rfl) (by kernel_rfl) (by kernel_rfl) (by kernel_rfl) (fun _ _ _ h => h) (Or.inl ⟨by rfl, ?_⟩) (by assumption) ?_
  rotate_left
  · (intro w hSw; (try dsimp only at hSw); go_simp; try with_reducible rfl)
  try simp only [Act.put, List.setIfInBounds_toArray, List.set_cons_zero, List.set_cons_succ]
  refine Till.take 8 (some 82) (v := ?_) rfl rfl (by kernel_rfl) (by kernel_rfl) (by kernel_rfl) (by kernel_rfl) (fun _ _ _ h => h) (Or.inl ⟨by rfl, ?_⟩) (by assumption) ?_
  rotate_left
  · (intro w hSw; (try dsimp only at hSw); go_simp; try with_reducible rfl)
  try simp only [Act.put, List.setIfInBounds_toArray, List.set_cons_zero, List.set_cons_succ]
  refine Till.take 9 (some 83) (v := ?_) rfl rfl (by kernel_rfl) (by kernel_rfl) (by kernel_rfl) (by kernel_rfl) (fun _ _ _ h => h) (Or.inl ⟨by rfl, ?_⟩) (by assumption) ?_
  rotate_left
  · (intro w hSw; (try dsimp only at hSw); go_simp; try with_reducible rfl)
  try simp only [Act.put, List.setIfInBounds_toArray, List.set_cons_zero, List.set_cons_succ]
  refine Till.take 10 (some 84) (v := ?_) rfl rfl (by kernel_rfl) (by kernel_rfl) (by kernel_rfl) (by kernel_rfl) (fun _ _ _ h => h) (Or.inl ⟨by rfl, ?_⟩) (by assumption) ?_
  rotate_left
  · (intro w hSw; (try dsimp only at hSw); go_simp; try with_reducible rfl)
  try simp only [Act.put, List.setIfInBounds_toArray, List.set_cons_zero, List.set_cons_succ]
  refine Till.take 11 (some 85) (v := ?_) rfl rfl (by kernel_rfl) (by kernel_rfl) (by kernel_rfl) (by kernel_rfl) (fun _ _ _ h => h) (Or.inl ⟨by rfl, ?_⟩) (by assumption) ?_
  rotate_left
  · (intro w hSw; (try dsimp only at hSw); go_simp; try with_reducible rfl)
  try simp only [Act.put, List.setIfInBounds_toArray, List.set_cons_zero, List.set_cons_succ]
  refine Till.take 12 (some 86) (v := ?_) rfl rfl (by kernel_rfl) (by kernel_rfl) (by kernel_rfl) (by kernel_rfl) (fun _ _ _ h => h) (Or.inl ⟨by rfl, ?_⟩) (by assumption) ?_
  rotate_left
  · (intro w hSw; (try dsimp only at hSw); go_simp; try with_reducible rfl)
  try simp only [Act.put, List.setIfInBounds_toArray, List.set_cons_zero, List.set_cons_succ]
  refine Till.take 13 (some 87) (v := ?_) rfl rfl (by kernel_rfl) (by kernel_rfl) (by kernel_rfl) (by kernel_rfl) (fun _ _ _ h => h) (Or.inl ⟨by rfl, ?_⟩) (by assumption) ?_
  rotate_left
  · (intro w hSw; (try dsimp only at hSw); go_simp; try with_reducible rfl)
  try simp only [Act.put, List.setIfInBounds_toArray, List.set_cons_zero, List.set_cons_succ]
  refine Till.take 14 (some 88) (v := ?_) rfl rfl (by kernel_rfl) (by kernel_rfl) (by kernel_rfl) (by kernel_rfl) (fun _ _ _ h => h) (Or.inl ⟨by rfl, ?_⟩) (by assumption) ?_
  rotate_left
  · (intro w hSw; (try dsimp only at hSw); go_simp; try with_reducible rfl)
  try simp only [Act.put, List.setIfInBounds_toArray, List.set_cons_zero, List.set_cons_succ]
  refine Till.take 15 (some 89) (v := ?_) rfl rfl (by kernel_rfl) (by kernel_rfl) (by kernel_rfl) (by kernel_rfl) (fun _ _ _ h => h) (Or.inl ⟨by rfl, ?_⟩) (by assumption) ?_
  rotate_left
  · (intro w hSw; (try dsimp only at hSw); go_simp; try with_reducible rfl)
  try simp only [Act.put, List.setIfInBounds_toArray, List.set_cons_zero, List.set_cons_succ]
  refine Till.take 16 (some 90) (v := ?_) rfl rfl (by kernel_rfl) (by kernel_rfl) (by kernel_rfl) (by kernel_rfl) (fun _ _ _ h => h) (Or.inl ⟨by rfl, ?_⟩) (by assumption) ?_
  rotate_left
  · (intro w hSw; (try dsimp only at hSw); go_simp; try with_reducible rfl)
  try simp only [Act.put, List.setIfInBounds_toArray, List.set_cons_zero, List.set_cons_succ]
  refine Till.take 17 (some 91) (v := ?_) rfl rfl (by kernel_rfl) (by kernel_rfl) (by kernel_rfl) (by kernel_rfl) (fun _ _ _ h => h) (Or.inl ⟨by rfl, ?_⟩) (by assumption) ?_
  rotate_left
  · (intro w hSw; (try dsimp only at hSw); go_simp; try with_reducible rfl)
  try simp only [Act.put, List.setIfInBounds_toArray, List.set_cons_zero, List.set_cons_succ]
  refine Till.take 18 (some 92) (v := ?_) rfl rfl (by kernel_rfl) (by kernel_rfl) (by kernel_rfl) (by kernel_rfl) (fun _ _ _ h => h) (Or.inl ⟨by rfl, ?_⟩) (by assumption) ?_
  rotate_left
  · (intro w hSw; (try dsimp only at hSw); go_simp; try with_reducible rfl)
  try simp only [Act.put, List.setIfInBounds_toArray, List.set_cons_zero, List.set_cons_succ]
  refine Till.take 19 (some 93) (v := ?_) rfl rfl (by kernel_rfl) (by kernel_rfl) (by kernel_rfl) (by kernel_rfl) (fun _ _ _ h => h) (Or.inl ⟨by rfl, ?_⟩) (by assumption) ?_
  rotate_left
  · (intro w hSw; (try dsimp only at hSw); go_simp; try with_reducible rfl)
  try simp only [Act.put, List.setIfInBounds_toArray, List.set_cons_zero, List.set_cons_succ]
  refine Till.take 20 (some 94) (v := ?_) rfl rfl (by kernel_rfl) (by kernel_rfl) (by kernel_rfl) (by kernel_rfl) (fun _ _ _ h => h) (Or.inl ⟨by rfl, ?_⟩) (by assumption) ?_
  rotate_left
  · (intro w hSw; (try dsimp only at hSw); go_simp; try with_reducible rfl)
  try simp only [Act.put, List.setIfInBounds_toArray, List.set_cons_zero, List.set_cons_succ]
  refine Till.take 21 (some 95) (v := ?_) rfl rfl (by kernel_rfl) (by kernel_rfl) (by kernel_rfl) (by kernel_rfl) (fun _ _ _ h => h) (Or.inl ⟨by rfl, ?_⟩) (by assumption) ?_
  rotate_left
  · (intro w hSw; (try dsimp only at hSw); go_simp; try with_reducible rfl)
  try simp only [Act.put, List.setIfInBounds_toArray, List.set_cons_zero, List.set_cons_succ]
  refine Till.take 22 (some 96) (v := ?_) rfl rfl (by kernel_rfl) (by kernel_rfl) (by kernel_rfl) (by kernel_rfl) (fun _ _ _ h => h) (Or.inl ⟨by rfl, ?_⟩) (by assumption) ?_
  rotate_left
  · (intro w hSw; (try dsimp only at hSw); go_simp; try with_reducible rfl)
  try simp only [Act.put, List.setIfInBounds_toArray, List.set_cons_zero, List.set_cons_succ]
  refine Till.take 23 (some 97) (v := ?_) rfl rfl (by kernel_rfl) (by kernel_rfl) (by kernel_rfl) (by kernel_rfl) (fun _ _ _ h => h) (Or.inl ⟨by rfl, ?_⟩) (by assumption) ?_
  rotate_left
  · (intro w hSw; (try dsimp only at hSw); go_simp; try with_reducible rfl)
  try simp only [Act.put, List.setIfInBounds_toArray, List.set_cons_zero, List.set_cons_succ]
  refine Till.take 24 (some 98) (v := ?_) rfl rfl (by kernel_rfl) (by kernel_rfl) (by kernel_rfl) (by kernel_rfl) (fun _ _ _ h => h) (Or.inl ⟨by rfl, ?_⟩) (by assumption) ?_
  rotate_left
  · (intro w hSw; (try dsimp only at hSw); go_simp; try with_reducible rfl)
  try simp only [Act.put, List.setIfInBounds_toArray, List.set_cons_zero, List.set_cons_succ]
  refine Till.take 25 (some 99) (v := ?_) rfl rfl (by kernel_rfl) (by kernel_rfl) (by kernel_rfl) (by kernel_rfl) (fun _ _ _ h => h) (Or.inl ⟨by rfl, ?_⟩) (by assumption) ?_
  rotate_left
  · (intro w hSw; (try dsimp only at hSw); go_simp; try with_reducible rfl)
  try simp only [Act.put, List.setIfInBounds_toArray, List.set_cons_zero, List.set_cons_succ]
  refine Till.one 26 rfl (by kernel_rfl) (fun K hK => ?_)
  go_simp
  go_at_call 9
  refine (lives5_any _ (HC.out _ (HA9.out.trans (D2.mono HA9.out.size)))).mono ?_
  rintro e w12 ⟨rfl, hb12⟩
  have D4 := D2.trans (hb12.mono D2.size)
  have hh7 := HSV.out _ D4
  refine hK.out _ _ (fun _ => hh7) (fun hHeld5 => ?_)
  clear hK K hb12
  try simp only [Act.put, List.setIfInBounds_toArray, List.set_cons_zero, List.set_cons_succ]
  refine Till.take 27 (some 101) (v := ?_) rfl rfl (by kernel_rfl) (by kernel_rfl) (by kernel_rfl) (by kernel_rfl) (fun _ _ _ h => h) (Or.inl ⟨by rfl, ?_⟩) (by assumption) ?_
  rotate_left
  · (intro w hSw; (try dsimp only at hSw); go_simp; try with_reducible rfl)
  try simp only [Act.put, List.setIfInBounds_toArray, List.set_cons_zero, List.set_cons_succ]
  refine Till.take 28 (some 4) (v := ?_) rfl rfl (by kernel_rfl) (by kernel_rfl) (by kernel_rfl) (by kernel_rfl) (fun _ _ _ h => h) (Or.inl ⟨by rfl, ?_⟩) (by assumption) ?_
  rotate_left
  · (intro w hSw; (try dsimp only at hSw); go_simp; try with_reducible rfl)
  try simp only [Act.put, List.setIfInBounds_toArray, List.set_cons_zero, List.set_cons_succ]
  refine Till.done (by kernel_rfl) ?_ _
  have HF := Lib.hid (HA9.out.trans (D4.mono HA9.out.size))
  clear hh5 hh7 hHeld hHeld2 hHeld3 hHeld5 D0 D1 D2 D4
  go_wp2
  go_ret
  exact ⟨rfl, HF.out⟩

end Go.Proofs.YtmmlocjiegkjeaaDoor
