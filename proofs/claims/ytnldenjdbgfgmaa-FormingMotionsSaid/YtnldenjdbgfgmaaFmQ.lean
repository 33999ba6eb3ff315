/- Quotients of package forming: their contracts; no statement is proved here. -/
import Derived.Test.YtnldenjdbgfgmaaFmSmall
import Derived.Test.YtnldenjdbgfgmaaTill
namespace Go.Proofs.Ytnldenjdbgfgmaa
open Go.RowKit Go.PlainAid
set_option linter.unusedVariables false
set_option linter.unusedSimpArgs false

set_option maxRecDepth 100000 in
theorem whole_any (n : Int) (w : World) : Calls Try.prog 35 #[.int .i64 n] w fun e w' => e = .returned (.agg #[.int .i64 n, .int .i64 1]) ∧ Below w.heap.size w w' := by
  have HA := Lib.hid (below_box w (.cells #[.int .i64 n, .int .i64 1] 67))
  have hB := Blk.new w #[.int .i64 n, .int .i64 1] 67
  have C0 := Lib.hid (hB.cell 0 _ rfl)
  have C1 := Lib.hid (hB.cell 1 _ rfl)
  clear hB
  go_enter Try.func35, Try.ntmps35
  go_wp2
  have c0 := C0.out
  have c1 := C1.out
  refine ⟨rfl, .agg #[.int .i64 n, .int .i64 1], ?_, rfl, HA.out⟩
  simp [results, Try.results35, go_sem]

set_option maxRecDepth 100000 in
theorem plus_any (a b c d x y : Int) (w : World) (h1 : I64 (a * d)) (h2 : I64 (c * b)) (h3 : I64 (a * d + c * b)) (h4 : I64 (b * d)) (hx : a * d + c * b = x) (hy : b * d = y) :
    Calls Try.prog 65 #[.agg #[.int .i64 a, .int .i64 b], .agg #[.int .i64 c, .int .i64 d]] w fun e w' => e = .returned (.agg #[.int .i64 x, .int .i64 y]) ∧ Below w.heap.size w w' := by
  have hA : Below w.heap.size w (((w.alloc (.cells #[.int .i64 a, .int .i64 b] 67)).alloc (.cells #[.int .i64 c, .int .i64 d] 67)).alloc (.cells #[.int .i64 x, .int .i64 y] 67)) := ((below_box w _).alloc (by simp) _).alloc (by simp only [World.size_alloc]; omega) _
  have hB := Blk.new ((w.alloc (.cells #[.int .i64 a, .int .i64 b] 67)).alloc (.cells #[.int .i64 c, .int .i64 d] 67)) #[.int .i64 x, .int .i64 y] 67
  have c0 := hB.cell 0 _ rfl
  have c1 := hB.cell 1 _ rfl
  simp only [World.size_alloc] at c0 c1
  have C0 := Lib.hid c0
  have C1 := Lib.hid c1
  have HA := Lib.hid hA
  have z1 := wrap_id _ h1
  have z2 := wrap_id _ h2
  have z3 := wrap_id _ h3
  have z4 := wrap_id _ h4
  clear c0 c1 hA hB h1 h2 h3 h4
  have HX := Lib.hid hx
  have HY := Lib.hid hy
  clear hx hy
  go_enter Try.func65, Try.ntmps65
  go_wp2
  rw [HX.out, HY.out]
  have c0 := C0.out
  have c1 := C1.out
  refine ⟨rfl, .agg #[.int .i64 x, .int .i64 y], ?_, rfl, HA.out⟩
  simp [results, Try.results65, go_sem]

set_option maxRecDepth 100000 in
theorem minus_any (a b c d x y : Int) (w : World) (h0 : I64 (-c)) (h1 : I64 (a * d)) (h2 : I64 (-c * b)) (h3 : I64 (a * d + -c * b)) (h4 : I64 (b * d)) (hx : a * d + -c * b = x) (hy : b * d = y) :
    Calls Try.prog 66 #[.agg #[.int .i64 a, .int .i64 b], .agg #[.int .i64 c, .int .i64 d]] w fun e w' => e = .returned (.agg #[.int .i64 x, .int .i64 y]) ∧ Below w.heap.size w w' := by
  have hA : Below w.heap.size w (((w.alloc (.cells #[.int .i64 a, .int .i64 b] 67)).alloc (.cells #[.int .i64 c, .int .i64 d] 67)).alloc (.cells #[.int .i64 0, .int .i64 0] 67)) := ((below_box w _).alloc (by simp) _).alloc (by simp only [World.size_alloc]; omega) _
  have hq := (Blk.new w #[.int .i64 a, .int .i64 b] 67).alloc (.cells #[.int .i64 c, .int .i64 d] 67) |>.alloc (.cells #[.int .i64 0, .int .i64 0] 67)
  have ho := (Blk.new (w.alloc (.cells #[.int .i64 a, .int .i64 b] 67)) #[.int .i64 c, .int .i64 d] 67).alloc (.cells #[.int .i64 0, .int .i64 0] 67)
  have hr := Blk.new ((w.alloc (.cells #[.int .i64 a, .int .i64 b] 67)).alloc (.cells #[.int .i64 c, .int .i64 d] 67)) #[.int .i64 0, .int .i64 0] 67
  simp only [World.size_alloc] at ho hr
  have z0 := wrap_id _ h0
  have q0 := hq.cell 0 _ rfl
  have q1 := hq.cell 1 _ rfl
  have o0 := ho.cell 0 _ rfl
  have o1 := ho.cell 1 _ rfl
  have HP := fun V => Lib.hid (plus_any a b (-c) d x y V h1 h2 h3 h4 hx hy)
  have HA := Lib.hid hA
  have HR0 := Lib.hid hr
  clear h0 h1 h2 h3 h4 hx hy hA hr hq ho
  go_enter Try.func66, Try.ntmps66
  go_wp2_with fail
  refine ((HP _).out).mono ?_
  rintro e w4 ⟨rfl, hb⟩
  have hA := HA.out
  have hr := HR0.out.below hb HR0.out.lt
  have hsz := hA.size
  have hA4 := hA.trans (hb.mono hA.size)
  have r0 := hr.cell 0 _ rfl
  have r1 := hr.cell 1 _ rfl
  have f0 := hr.frozen 0
  have f1 := hr.frozen 1
  have HE : Hid (Below w.heap.size w ((w4.setCell ⟨w.heap.size + 1 + 1, 0, none⟩ (.int .i64 x)).setCell ⟨w.heap.size + 1 + 1, 1, none⟩ (.int .i64 y))) := Lib.hid ((hA4.setCell (by simp only; omega) _).setCell (by simp only; omega) _)
  have HR : Hid (Blk ((w4.setCell ⟨w.heap.size + 1 + 1, 0, none⟩ (.int .i64 x)).setCell ⟨w.heap.size + 1 + 1, 1, none⟩ (.int .i64 y)) (w.heap.size + 1 + 1) #[.int .i64 x, .int .i64 y] 67) := Lib.hid (by simpa using (hr.set 0 (.int .i64 x)).set 1 (.int .i64 y))
  have C0 := Lib.hid (HR.out.cell 0 _ rfl)
  have C1 := Lib.hid (HR.out.cell 1 _ rfl)
  clear hr hA hA4 hb hsz q0 q1 o0 o1 HR HA HR0 HP
  go_wp2
  have c0 := C0.out
  have c1 := C1.out
  have hE := HE.out
  clear C0 C1 HE r0 r1 f0 f1
  generalize ((w4.setCell ⟨w.heap.size + 1 + 1, 0, none⟩ (.int .i64 x)).setCell ⟨w.heap.size + 1 + 1, 1, none⟩ (.int .i64 y)) = WE at c0 c1 hE ⊢
  refine ⟨rfl, .agg #[.int .i64 x, .int .i64 y], ?_, rfl, hE⟩
  simp [results, Try.results66, go_sem, c0, c1]

set_option maxRecDepth 100000 in
theorem orZero_any (a b : Int) (w : World) :
    Calls Try.prog 67 #[.agg #[.int .i64 a, .int .i64 b]] w fun e w' => e = .returned (.agg (if a < 0 then #[.int .i64 0, .int .i64 1] else #[.int .i64 a, .int .i64 b])) ∧ Below w.heap.size w w' := by
  have hA : Below w.heap.size w ((w.alloc (.cells #[.int .i64 a, .int .i64 b] 67)).alloc (.cells #[.int .i64 0, .int .i64 0] 67)) := (below_box w _).alloc (by simp) _
  have hq := (Blk.new w #[.int .i64 a, .int .i64 b] 67).alloc (.cells #[.int .i64 0, .int .i64 0] 67)
  have hr := Blk.new (w.alloc (.cells #[.int .i64 a, .int .i64 b] 67)) #[.int .i64 0, .int .i64 0] 67
  simp only [World.size_alloc] at hr
  have q0 := hq.cell 0 _ rfl
  have q1 := hq.cell 1 _ rfl
  have r0 := hr.cell 0 _ rfl
  have r1 := hr.cell 1 _ rfl
  have f0 := hr.frozen 0
  have f1 := hr.frozen 1
  go_enter Try.func67, Try.ntmps67
  by_cases hn : a < 0
  · rw [if_pos hn]
    have HA := Lib.hid hA
    have HR0 := Lib.hid hr
    clear hA hr hq r0 r1 f0 f1
    go_wp2_with fail
    refine (whole_any 0 _).mono ?_
    rintro e w4 ⟨rfl, hb⟩
    have hA := HA.out
    have hr := HR0.out.below hb HR0.out.lt
    have hA4 := hA.trans (hb.mono hA.size)
    have r0 := hr.cell 0 _ rfl
    have r1 := hr.cell 1 _ rfl
    have f0 := hr.frozen 0
    have f1 := hr.frozen 1
    have HE : Hid (Below w.heap.size w ((w4.setCell ⟨w.heap.size + 1, 0, none⟩ (.int .i64 0)).setCell ⟨w.heap.size + 1, 1, none⟩ (.int .i64 1))) := Lib.hid ((hA4.setCell (by simp only; omega) _).setCell (by simp only; omega) _)
    have HR : Hid (Blk ((w4.setCell ⟨w.heap.size + 1, 0, none⟩ (.int .i64 0)).setCell ⟨w.heap.size + 1, 1, none⟩ (.int .i64 1)) (w.heap.size + 1) #[.int .i64 0, .int .i64 1] 67) := Lib.hid (by simpa using (hr.set 0 (.int .i64 0)).set 1 (.int .i64 1))
    have C0 := Lib.hid (HR.out.cell 0 _ rfl)
    have C1 := Lib.hid (HR.out.cell 1 _ rfl)
    clear hr hA hA4 hb q0 q1 HR HA HR0
    go_wp2
    have c0 := C0.out
    have c1 := C1.out
    have hE := HE.out
    clear C0 C1 HE r0 r1 f0 f1
    generalize ((w4.setCell ⟨w.heap.size + 1, 0, none⟩ (.int .i64 0)).setCell ⟨w.heap.size + 1, 1, none⟩ (.int .i64 1)) = WE at c0 c1 hE ⊢
    refine ⟨rfl, .agg #[.int .i64 0, .int .i64 1], ?_, rfl, hE⟩
    simp [results, Try.results67, go_sem, c0, c1]
  · rw [if_neg hn]
    have hE : Below w.heap.size w ((w.alloc (.cells #[.int .i64 a, .int .i64 b] 67)).alloc (.cells #[.int .i64 a, .int .i64 b] 67)) := (below_box w _).alloc (by simp) _
    have hX := Blk.new (w.alloc (.cells #[.int .i64 a, .int .i64 b] 67)) #[.int .i64 a, .int .i64 b] 67
    simp only [World.size_alloc] at hX
    have C0 := Lib.hid (hX.cell 0 _ rfl)
    have C1 := Lib.hid (hX.cell 1 _ rfl)
    have HE := Lib.hid hE
    clear hr hA hq hX hE
    go_wp2
    have c0 := C0.out
    have c1 := C1.out
    refine ⟨rfl, .agg #[.int .i64 a, .int .i64 b], ?_, rfl, HE.out⟩
    simp [results, Try.results67, go_sem]

theorem rat_pos {a b : Int} (h : 0 < b) : rat a b = mk a b := by unfold rat; rw [if_pos h]
theorem rat_neg {a b : Int} (h : b < 0) : rat a b = mk (-a) (-b) := by unfold rat; rw [if_neg (by omega)]
theorem mk_neg (a b : Int) : mk (-a) (-b) = ⟨-(a.tdiv (gI a b)), -(b.tdiv (gI a b))⟩ := by
  unfold mk
  rw [gI_neg_l, gI_neg_r, ← Int.neg_tdiv, ← Int.neg_tdiv]
  have h1 := tdiv_gl (-a) (-b)
  have h2 := tdiv_gr (-a) (-b)
  rw [gI_neg_l, gI_neg_r] at h1 h2
  rw [h1, h2]
theorem mk_tdiv (a b : Int) : mk a b = ⟨a.tdiv (gI a b), b.tdiv (gI a b)⟩ := by
  unfold mk
  rw [tdiv_gl, tdiv_gr]
theorem rat_bd {a b : Int} (ha : -9223372036854775807 ≤ a ∧ a ≤ 9223372036854775807) (hb : b ≠ 0 ∧ -9223372036854775807 ≤ b ∧ b ≤ 9223372036854775807) : I64q (rat a b) := by
  by_cases h : 0 < b
  · rw [rat_pos h]
    have h1 := mk_nabs a h _ ha
    have h2 := mk_dpos a h
    have h3 := mk_dle a h
    unfold I64q I64; omega
  · rw [rat_neg (by omega)]
    have h1 := mk_nabs (-a) (show 0 < -b by omega) 9223372036854775807 (by omega)
    have h2 := mk_dpos (-a) (show 0 < -b by omega)
    have h3 := mk_dle (-a) (show 0 < -b by omega)
    unfold I64q I64; omega

set_option maxRecDepth 100000 in
theorem ratio_any (a b : Int) (w : World) (ha : -9223372036854775807 ≤ a ∧ a ≤ 9223372036854775807) (hb : b ≠ 0 ∧ -9223372036854775807 ≤ b ∧ b ≤ 9223372036854775807) :
    Calls Try.prog 38 #[.agg #[.int .i64 a, .int .i64 b]] w fun e w' => e = .returned (rtV (rat a b)) ∧ Below w.heap.size w w' := by
  have hI := rat_bd ha hb
  have hA : Below w.heap.size w ((w.alloc (.cells #[.int .i64 a, .int .i64 b] 67)).alloc (.cells #[.int .i64 0, .int .i64 0] 24)) := (below_box w _).alloc (by simp) _
  have hq := (Blk.new w #[.int .i64 a, .int .i64 b] 67).alloc (.cells #[.int .i64 0, .int .i64 0] 24)
  have hr := Blk.new (w.alloc (.cells #[.int .i64 a, .int .i64 b] 67)) #[.int .i64 0, .int .i64 0] 24
  simp only [World.size_alloc] at hr
  have q0 := hq.cell 0 _ rfl
  have q1 := hq.cell 1 _ rfl
  have g1 := gI_pos a hb.1
  have g2 := gI_le_abs a hb.1
  have HA := Lib.hid hA
  have HQ := Lib.hid hq
  have HR0 := Lib.hid hr
  clear hA hr hq
  obtain ⟨N, hN⟩ : ∃ N, (rat a b).n = N := ⟨_, rfl⟩
  obtain ⟨D, hD⟩ : ∃ D, (rat a b).d = D := ⟨_, rfl⟩
  rw [show rtV (rat a b) = .agg #[.int .i64 N, .int .i64 D] by unfold rtV; rw [hN, hD]]
  go_enter Try.func38, Try.ntmps38
  go_wp2_with fail
  refine (divisor_any a b _ (by unfold I64; omega) hb).mono ?_
  rintro e w3 ⟨rfl, hb3⟩
  have hA := HA.out
  have hr := HR0.out.below hb3 HR0.out.lt
  have hq := HQ.out.below hb3 HQ.out.lt
  have hA4 := hA.trans (hb3.mono hA.size)
  have hsz := hA4.size
  clear HA HR0 HQ q0 q1 hA hb3
  have q0 := hq.cell 0 _ rfl
  have q1 := hq.cell 1 _ rfl
  have r0 := hr.cell 0 _ rfl
  have r1 := hr.cell 1 _ rfl
  have f0 := hr.frozen 0
  have f1 := hr.frozen 1
  have HE : Hid (Below w.heap.size w ((w3.setCell ⟨w.heap.size + 1, 0, none⟩ (.int .i64 N)).setCell ⟨w.heap.size + 1, 1, none⟩ (.int .i64 D)).drew) := Lib.hid (((hA4.setCell (by simp only; omega) _).setCell (by simp only; omega) _).drew)
  have hrd : Blk w3 (w.heap.size + 1) #[.int .i64 0, .int .i64 0] 24 := hr
  have HR : Hid (Blk ((w3.setCell ⟨w.heap.size + 1, 0, none⟩ (.int .i64 N)).setCell ⟨w.heap.size + 1, 1, none⟩ (.int .i64 D)).drew (w.heap.size + 1) #[.int .i64 N, .int .i64 D] 24) := Lib.hid (show Blk ((w3.setCell ⟨w.heap.size + 1, 0, none⟩ (.int .i64 N)).setCell ⟨w.heap.size + 1, 1, none⟩ (.int .i64 D)) _ _ _ by simpa using (hrd.set 0 (.int .i64 N)).set 1 (.int .i64 D))
  have C0 := Lib.hid (HR.out.cell 0 _ rfl)
  have C1 := Lib.hid (HR.out.cell 1 _ rfl)
  have hI1 := hI.1
  have hI2 := hI.2
  rw [hN] at hI1
  rw [hD] at hI2
  clear hr hq hA4 hrd HR hI
  by_cases hneg : b < 0
  · rw [rat_neg hneg, mk_neg] at hN hD
    generalize gI a b = g at *
    have z0 : wrap64 (-g) = -g := wrap_id _ (by unfold I64; omega)
    have hg0 : ¬ -g = 0 := by omega
    dsimp only at hN hD
    have HN : Hid (IntKind.i64.wrap (-a.tdiv g) = N) := Lib.hid (by rw [hN]; exact IntWalk.i64_in N (by unfold I64 at hI1; omega))
    have HD : Hid (IntKind.i64.wrap (-b.tdiv g) = D) := Lib.hid (by rw [hD]; exact IntWalk.i64_in D (by unfold I64 at hI2; omega))
    clear hN hD hI1 hI2
    go_wp2_with fail
    refine wp_region_till (fun w' : World => w'.cell? ⟨w.heap.size, 0, none⟩ = some (.int .i64 a) ∧ w'.cell? ⟨w.heap.size, 1, none⟩ = some (.int .i64 b) ∧ w'.cell? ⟨w.heap.size + 1, 0, none⟩ = some (.int .i64 0) ∧ w'.cell? ⟨w.heap.size + 1, 1, none⟩ = some (.int .i64 0) ∧ w'.frozen? ⟨w.heap.size + 1, 0, none⟩ = false ∧ w'.frozen? ⟨w.heap.size + 1, 1, none⟩ = false) 9 (by kernel_rfl) (by exact ⟨by simpa using q0, by simpa using q1, by simpa using r0, by simpa using r1, by simpa using f0, by simpa using f1⟩) (fun hHeld => ?_)
    refine Till.take 0 (some 14) (v := ?_) rfl rfl (by kernel_rfl) (by kernel_rfl) (by kernel_rfl) (by kernel_rfl) (fun _ _ _ h => h) (Or.inl ⟨by rfl, ?_⟩) (by assumption) ?_
    rotate_left
    · (intro w hSw; (try dsimp only at hSw); go_simp; try with_reducible rfl)
    try simp only [Act.put, List.setIfInBounds_toArray, List.set_cons_zero, List.set_cons_succ]
    refine Till.take 1 (some 15) (v := ?_) rfl rfl (by kernel_rfl) (by kernel_rfl) (by kernel_rfl) (by kernel_rfl) (fun _ _ _ h => h) (Or.inl ⟨by rfl, ?_⟩) (by assumption) ?_
    rotate_left
    · (intro w hSw; (try dsimp only at hSw); go_simp; try with_reducible rfl)
    try simp only [Act.put, List.setIfInBounds_toArray, List.set_cons_zero, List.set_cons_succ]
    refine Till.take 2 (some 16) (v := ?_) rfl rfl (by kernel_rfl) (by kernel_rfl) (by kernel_rfl) (by kernel_rfl) (fun _ _ _ h => h) (Or.inl ⟨by rfl, ?_⟩) (by assumption) ?_
    rotate_left
    · (intro w hSw; (try dsimp only at hSw); go_simp; try with_reducible rfl)
    try simp only [Act.put, List.setIfInBounds_toArray, List.set_cons_zero, List.set_cons_succ]
    refine Till.take 3 (some 17) (v := ?_) rfl rfl (by kernel_rfl) (by kernel_rfl) (by kernel_rfl) (by kernel_rfl) (fun _ _ _ h => h) (Or.inl ⟨by rfl, ?_⟩) (by assumption) ?_
    rotate_left
    · (intro w hSw; (try dsimp only at hSw); go_simp; try with_reducible rfl)
    try simp only [Act.put, List.setIfInBounds_toArray, List.set_cons_zero, List.set_cons_succ]
    refine Till.take 4 (some 18) (v := ?_) rfl rfl (by kernel_rfl) (by kernel_rfl) (by kernel_rfl) (by kernel_rfl) (fun _ _ _ h => h) (Or.inl ⟨by rfl, ?_⟩) (by assumption) ?_
    rotate_left
    · (intro w hSw; (try dsimp only at hSw); go_simp; try with_reducible rfl)
    try simp only [Act.put, List.setIfInBounds_toArray, List.set_cons_zero, List.set_cons_succ]
    refine Till.take 5 (some 19) (v := ?_) rfl rfl (by kernel_rfl) (by kernel_rfl) (by kernel_rfl) (by kernel_rfl) (fun _ _ _ h => h) (Or.inl ⟨by rfl, ?_⟩) (by assumption) ?_
    rotate_left
    · (intro w hSw; (try dsimp only at hSw); go_simp; try with_reducible rfl)
    try simp only [Act.put, List.setIfInBounds_toArray, List.set_cons_zero, List.set_cons_succ]
    refine Till.take 6 (some 20) (v := ?_) rfl rfl (by kernel_rfl) (by kernel_rfl) (by kernel_rfl) (by kernel_rfl) (fun _ _ _ h => h) (Or.inl ⟨by rfl, ?_⟩) (by assumption) ?_
    rotate_left
    · (intro w hSw; (try dsimp only at hSw); go_simp; try with_reducible rfl)
    try simp only [Act.put, List.setIfInBounds_toArray, List.set_cons_zero, List.set_cons_succ]
    refine Till.take 7 (some 21) (v := ?_) rfl rfl (by kernel_rfl) (by kernel_rfl) (by kernel_rfl) (by kernel_rfl) (fun _ _ _ h => h) (Or.inl ⟨by rfl, ?_⟩) (by assumption) ?_
    rotate_left
    · (intro w hSw; (try dsimp only at hSw); go_simp; try with_reducible rfl)
    try simp only [Act.put, List.setIfInBounds_toArray, List.set_cons_zero, List.set_cons_succ]
    refine Till.take 8 (some 22) (v := ?_) rfl rfl (by kernel_rfl) (by kernel_rfl) (by kernel_rfl) (by kernel_rfl) (fun _ _ _ h => h) (Or.inl ⟨by rfl, ?_⟩) (by assumption) ?_
    rotate_left
    · (intro w hSw; (try dsimp only at hSw); go_simp; try with_reducible rfl)
    try simp only [Act.put, List.setIfInBounds_toArray, List.set_cons_zero, List.set_cons_succ]
    obtain ⟨-, -, g0, g1, g2, g3⟩ := hHeld
    refine Till.one 9 rfl (by kernel_rfl) (fun K hK => ?_)
    go_simp
    refine hK.out _ _ (fun h => absurd rfl h) (fun _ => ?_)
    clear hK K
    refine Till.done (by kernel_rfl) ?_ _
    clear g0 g1 g2 g3 q0 q1 r0 r1 f0 f1
    go_wp2
    have c0 := C0.out
    have c1 := C1.out
    have hE := HE.out
    have hn := HN.out
    have hd := HD.out
    clear C0 C1 HE
    try rw [hn]
    try rw [hd]
    generalize ((w3.setCell ⟨w.heap.size + 1, 0, none⟩ (.int .i64 N)).setCell ⟨w.heap.size + 1, 1, none⟩ (.int .i64 D)).drew = WE at c0 c1 hE ⊢
    refine ⟨rfl, .agg #[.int .i64 N, .int .i64 D], ?_, rfl, hE⟩
    simp [results, Try.results38, go_sem, c0, c1]
  · rw [rat_pos (by omega), mk_tdiv] at hN hD
    generalize gI a b = g at *
    have hg0 : ¬ g = 0 := by omega
    dsimp only at hN hD
    have HN : Hid (IntKind.i64.wrap (a.tdiv g) = N) := Lib.hid (by rw [hN]; exact IntWalk.i64_in N (by unfold I64 at hI1; omega))
    have HD : Hid (IntKind.i64.wrap (b.tdiv g) = D) := Lib.hid (by rw [hD]; exact IntWalk.i64_in D (by unfold I64 at hI2; omega))
    clear hN hD hI1 hI2
    go_wp2_with fail
    refine wp_region_till (fun w' : World => w'.cell? ⟨w.heap.size, 0, none⟩ = some (.int .i64 a) ∧ w'.cell? ⟨w.heap.size, 1, none⟩ = some (.int .i64 b) ∧ w'.cell? ⟨w.heap.size + 1, 0, none⟩ = some (.int .i64 0) ∧ w'.cell? ⟨w.heap.size + 1, 1, none⟩ = some (.int .i64 0) ∧ w'.frozen? ⟨w.heap.size + 1, 0, none⟩ = false ∧ w'.frozen? ⟨w.heap.size + 1, 1, none⟩ = false) 9 (by kernel_rfl) (by exact ⟨by simpa using q0, by simpa using q1, by simpa using r0, by simpa using r1, by simpa using f0, by simpa using f1⟩) (fun hHeld => ?_)
    refine Till.take 0 (some 14) (v := ?_) rfl rfl (by kernel_rfl) (by kernel_rfl) (by kernel_rfl) (by kernel_rfl) (fun _ _ _ h => h) (Or.inl ⟨by rfl, ?_⟩) (by assumption) ?_
    rotate_left
    · (intro w hSw; (try dsimp only at hSw); go_simp; try with_reducible rfl)
    try simp only [Act.put, List.setIfInBounds_toArray, List.set_cons_zero, List.set_cons_succ]
    refine Till.take 1 (some 15) (v := ?_) rfl rfl (by kernel_rfl) (by kernel_rfl) (by kernel_rfl) (by kernel_rfl) (fun _ _ _ h => h) (Or.inl ⟨by rfl, ?_⟩) (by assumption) ?_
    rotate_left
    · (intro w hSw; (try dsimp only at hSw); go_simp; try with_reducible rfl)
    try simp only [Act.put, List.setIfInBounds_toArray, List.set_cons_zero, List.set_cons_succ]
    refine Till.take 2 (some 16) (v := ?_) rfl rfl (by kernel_rfl) (by kernel_rfl) (by kernel_rfl) (by kernel_rfl) (fun _ _ _ h => h) (Or.inl ⟨by rfl, ?_⟩) (by assumption) ?_
    rotate_left
    · (intro w hSw; (try dsimp only at hSw); go_simp; try with_reducible rfl)
    try simp only [Act.put, List.setIfInBounds_toArray, List.set_cons_zero, List.set_cons_succ]
    refine Till.take 3 (some 17) (v := ?_) rfl rfl (by kernel_rfl) (by kernel_rfl) (by kernel_rfl) (by kernel_rfl) (fun _ _ _ h => h) (Or.inl ⟨by rfl, ?_⟩) (by assumption) ?_
    rotate_left
    · (intro w hSw; (try dsimp only at hSw); go_simp; try with_reducible rfl)
    try simp only [Act.put, List.setIfInBounds_toArray, List.set_cons_zero, List.set_cons_succ]
    refine Till.take 4 (some 18) (v := ?_) rfl rfl (by kernel_rfl) (by kernel_rfl) (by kernel_rfl) (by kernel_rfl) (fun _ _ _ h => h) (Or.inl ⟨by rfl, ?_⟩) (by assumption) ?_
    rotate_left
    · (intro w hSw; (try dsimp only at hSw); go_simp; try with_reducible rfl)
    try simp only [Act.put, List.setIfInBounds_toArray, List.set_cons_zero, List.set_cons_succ]
    refine Till.take 5 (some 19) (v := ?_) rfl rfl (by kernel_rfl) (by kernel_rfl) (by kernel_rfl) (by kernel_rfl) (fun _ _ _ h => h) (Or.inl ⟨by rfl, ?_⟩) (by assumption) ?_
    rotate_left
    · (intro w hSw; (try dsimp only at hSw); go_simp; try with_reducible rfl)
    try simp only [Act.put, List.setIfInBounds_toArray, List.set_cons_zero, List.set_cons_succ]
    refine Till.take 6 (some 20) (v := ?_) rfl rfl (by kernel_rfl) (by kernel_rfl) (by kernel_rfl) (by kernel_rfl) (fun _ _ _ h => h) (Or.inl ⟨by rfl, ?_⟩) (by assumption) ?_
    rotate_left
    · (intro w hSw; (try dsimp only at hSw); go_simp; try with_reducible rfl)
    try simp only [Act.put, List.setIfInBounds_toArray, List.set_cons_zero, List.set_cons_succ]
    refine Till.take 7 (some 21) (v := ?_) rfl rfl (by kernel_rfl) (by kernel_rfl) (by kernel_rfl) (by kernel_rfl) (fun _ _ _ h => h) (Or.inl ⟨by rfl, ?_⟩) (by assumption) ?_
    rotate_left
    · (intro w hSw; (try dsimp only at hSw); go_simp; try with_reducible rfl)
    try simp only [Act.put, List.setIfInBounds_toArray, List.set_cons_zero, List.set_cons_succ]
    refine Till.take 8 (some 22) (v := ?_) rfl rfl (by kernel_rfl) (by kernel_rfl) (by kernel_rfl) (by kernel_rfl) (fun _ _ _ h => h) (Or.inl ⟨by rfl, ?_⟩) (by assumption) ?_
    rotate_left
    · (intro w hSw; (try dsimp only at hSw); go_simp; try with_reducible rfl)
    try simp only [Act.put, List.setIfInBounds_toArray, List.set_cons_zero, List.set_cons_succ]
    obtain ⟨-, -, g0, g1, g2, g3⟩ := hHeld
    refine Till.one 9 rfl (by kernel_rfl) (fun K hK => ?_)
    go_simp
    refine hK.out _ _ (fun h => absurd rfl h) (fun _ => ?_)
    clear hK K
    refine Till.done (by kernel_rfl) ?_ _
    clear g0 g1 g2 g3 q0 q1 r0 r1 f0 f1
    go_wp2
    have c0 := C0.out
    have c1 := C1.out
    have hE := HE.out
    have hn := HN.out
    have hd := HD.out
    clear C0 C1 HE
    try rw [hn]
    try rw [hd]
    generalize ((w3.setCell ⟨w.heap.size + 1, 0, none⟩ (.int .i64 N)).setCell ⟨w.heap.size + 1, 1, none⟩ (.int .i64 D)).drew = WE at c0 c1 hE ⊢
    refine ⟨rfl, .agg #[.int .i64 N, .int .i64 D], ?_, rfl, hE⟩
    simp [results, Try.results38, go_sem, c0, c1]

set_option maxRecDepth 100000 in
theorem isLowest_any (a b : Int) (w : World) (ha : I64 a) :
    Calls Try.prog 25 #[.agg #[.int .i64 a, .int .i64 b]] w fun e w' => e = .returned (.bool (decide (1 ≤ b ∧ b ≤ 1000000 ∧ gI a b = 1))) ∧ Below w.heap.size w w' := by
  have hA := below_box w (.cells #[.int .i64 a, .int .i64 b] 24)
  have hq := Blk.new w #[.int .i64 a, .int .i64 b] 24
  have q0 := hq.cell 0 _ rfl
  have q1 := hq.cell 1 _ rfl
  go_enter Try.func25, Try.ntmps25
  go_wp2_with fail
  refine (between_any b 1 1000000 _).mono ?_
  rintro e w' ⟨rfl, rfl⟩
  by_cases h : 1 ≤ b ∧ b ≤ 1000000
  · have g1 : btw b 1 1000000 = true := by simp [btw, h]
    rw [g1]
    go_wp2_with fail
    refine (divisor_any a b _ ha (by omega)).mono ?_
    rintro e w3 ⟨rfl, hb3⟩
    have hA3 := hA.trans (hb3.mono hA.size)
    clear hA hq q0 q1 hb3
    go_wp2
    go_ret
    exact ⟨ret_bool (by simp [h.1, h.2]; rfl), hA3⟩
  · have g1 : btw b 1 1000000 = false := by simp [btw]; omega
    rw [g1]
    go_wp2
    go_ret
    exact ⟨ret_bool (by rw [decide_eq_false (by rintro ⟨x, y, -⟩; exact h ⟨x, y⟩)]), hA⟩

end Go.Proofs.Ytnldenjdbgfgmaa
