/- Quotients of the specification of layer 4 that are made; no statement is proved here. -/
import Derived.Test.YtnldenjdbgfgmaaFmRq
import Derived.Test.YtnldenjdbgfgmaaFmLeg
namespace Go.Proofs.Ytnldenjdbgfgmaa
open Go.RowKit Go.PlainAid
set_option linter.unusedVariables false
set_option linter.unusedSimpArgs false

theorem quot_bd2 {a n : Int} (ha : -9223372036854775807 ≤ a ∧ a ≤ 9223372036854775807) (hn : 1 ≤ n) : -9223372036854775807 ≤ a.tdiv n ∧ a.tdiv n ≤ 9223372036854775807 := by
  have h1 : (a.tdiv n).natAbs = a.natAbs / n.natAbs := Int.natAbs_tdiv a n
  have h2 := Nat.div_le_self a.natAbs n.natAbs
  rw [← h1] at h2
  omega
theorem mkQ_bd (a : Int) {b : Int} (ha : -9223372036854775807 ≤ a ∧ a ≤ 9223372036854775807) (hb : 1 ≤ b ∧ b ≤ 9223372036854775807) : (-9223372036854775807 ≤ (mk a b).n ∧ (mk a b).n ≤ 9223372036854775807) ∧ (1 ≤ (mk a b).d ∧ (mk a b).d ≤ b) :=
  ⟨mk_nabs a (by omega) _ ha, mk_dpos a (by omega), mk_dle a (by omega)⟩

set_option maxHeartbeats 2000000 in
set_option maxRecDepth 100000 in
theorem made_any (a b : Int) (w : World) (ha : -9223372036854775807 ≤ a ∧ a ≤ 9223372036854775807) (hb : 1 ≤ b ∧ b ≤ 9223372036854775807) :
    Calls Try.prog 21 #[.int .i64 a, .int .i64 b] w fun e w' => e = .returned (rtV (mk a b)) ∧ Below w.heap.size w w' := by
  have hA := below_box w (.cells #[.int .i64 0, .int .i64 0] 24)
  have hR := Blk.new w #[.int .i64 0, .int .i64 0] 24
  have hm : 0 ≤ max a (-a) ∧ max a (-a) ≤ 9223372036854775807 := by omega
  have z0 : wrap64 (-a) = -a := wrap_id _ (by unfold I64; omega)
  have z0' := IntWalk.i64_in (-a) (by omega)
  have HD1 : -a ≤ a → ∀ V, Calls Try.prog 43 #[.int .i64 a, .int .i64 b] V fun e w' => e = .returned (.int .i64 (gI a b)) ∧ Below V.heap.size V w' := fun h V => rdivisor_any a b V (by omega) (by omega)
  have HD2 : ¬ -a ≤ a → ∀ V, Calls Try.prog 43 #[.int .i64 (-a), .int .i64 b] V fun e w' => e = .returned (.int .i64 (gI a b)) ∧ Below V.heap.size V w' := fun h V => by
    have := rdivisor_any (-a) b V (by omega) (by omega)
    rwa [gI_neg_l] at this
  have hb2 := mkQ_bd a ha hb
  have hN : (mk a b).n = a.tdiv (gI a b) := (tdiv_gl a b).symm
  have hDd : (mk a b).d = b.tdiv (gI a b) := (tdiv_gr a b).symm
  obtain ⟨N, hN'⟩ : ∃ N, (mk a b).n = N := ⟨_, rfl⟩
  obtain ⟨D, hD'⟩ : ∃ D, (mk a b).d = D := ⟨_, rfl⟩
  have hg := gI_pos a (show b ≠ 0 by omega)
  rw [show rtV (mk a b) = .agg #[.int .i64 N, .int .i64 D] by rw [← hN', ← hD']; rfl]
  rw [hN'] at hN hb2
  rw [hD'] at hDd hb2
  clear hN' hD'
  obtain ⟨⟨n1, n2⟩, n3, n4⟩ := hb2
  generalize gI a b = g at *
  have hg0 : ¬ g = 0 := by omega
  have HN : Hid (IntKind.i64.wrap (a.tdiv g) = N) := Lib.hid (by rw [← hN]; exact IntWalk.i64_in N (by omega))
  have HDD : Hid (IntKind.i64.wrap (b.tdiv g) = D) := Lib.hid (by rw [← hDd]; exact IntWalk.i64_in D (by omega))
  clear hN hDd n1 n2 n3 n4
  have HA := Lib.hid hA
  have HR := Lib.hid hR
  clear hA hR
  clear hm
  by_cases hc : -a ≤ a
  · replace HD1 := HD1 hc
    clear HD2
    go_enter Try.func21, Try.ntmps21
    go_wp2_with fail
    refine (HD1 _).mono ?_
    rintro e w3 ⟨rfl, hb3⟩
    have hr := HR.out.below hb3 HR.out.lt
    have hA4 := HA.out.trans (hb3.mono HA.out.size)
    have hr5 := hr.below (show Below w3.heap.size w3 w3.drew from (Below.refl _ _).drew) hr.lt
    have hA5 := hA4.trans (show Below w.heap.size w3 w3.drew from (Below.refl _ _).drew)
    clear HR HA hb3 hr hA4 HD1
    have q0 := hr5.cell 0 _ rfl
    have q1 := hr5.cell 1 _ rfl
    have q2 := hr5.frozen 0
    have q3 := hr5.frozen 1
    have HR5 := Lib.hid hr5
    have HA5 := Lib.hid hA5
    clear hr5 hA5
    go_wp2_with fail
    refine wp_region_till (fun w' : World => w'.cell? ⟨w.heap.size, 0, none⟩ = some (.int .i64 0) ∧ w'.cell? ⟨w.heap.size, 1, none⟩ = some (.int .i64 0) ∧ w'.frozen? ⟨w.heap.size, 0, none⟩ = false ∧ w'.frozen? ⟨w.heap.size, 1, none⟩ = false) 7 (by kernel_rfl) ⟨q0, q1, q2, q3⟩ (fun hHeld => ?_)
    clear q0 q1 q2 q3
    generalize w3.drew = wd at *
    refine Till.take 0 (some 12) (v := ?_) rfl rfl (by kernel_rfl) (by kernel_rfl) (by kernel_rfl) (by kernel_rfl) (fun _ _ _ h => h) (Or.inl ⟨by rfl, ?_⟩) (by assumption) ?_
    rotate_left
    · (intro w hSw; (try dsimp only at hSw); go_simp; try with_reducible rfl)
    try simp only [Act.put, List.setIfInBounds_toArray, List.set_cons_zero, List.set_cons_succ]
    refine Till.take 1 (some 13) (v := ?_) rfl rfl (by kernel_rfl) (by kernel_rfl) (by kernel_rfl) (by kernel_rfl) (fun _ _ _ h => h) (Or.inl ⟨by rfl, ?_⟩) (by assumption) ?_
    rotate_left
    · (intro w hSw; (try dsimp only at hSw); go_simp; try with_reducible rfl)
    try simp only [Act.put, List.setIfInBounds_toArray, List.set_cons_zero, List.set_cons_succ]
    refine Till.take 2 (some 14) (v := ?_) rfl rfl (by kernel_rfl) (by kernel_rfl) (by kernel_rfl) (by kernel_rfl) (fun _ _ _ h => h) (Or.inl ⟨by rfl, ?_⟩) (by assumption) ?_
    rotate_left
    · (intro w hSw; (try dsimp only at hSw); go_simp; try with_reducible rfl)
    try simp only [Act.put, List.setIfInBounds_toArray, List.set_cons_zero, List.set_cons_succ]
    refine Till.take 3 (some 15) (v := ?_) rfl rfl (by kernel_rfl) (by kernel_rfl) (by kernel_rfl) (by kernel_rfl) (fun _ _ _ h => h) (Or.inl ⟨by rfl, ?_⟩) (by assumption) ?_
    rotate_left
    · (intro w hSw; (try dsimp only at hSw); go_simp; try with_reducible rfl)
    try simp only [Act.put, List.setIfInBounds_toArray, List.set_cons_zero, List.set_cons_succ]
    refine Till.take 4 (some 16) (v := ?_) rfl rfl (by kernel_rfl) (by kernel_rfl) (by kernel_rfl) (by kernel_rfl) (fun _ _ _ h => h) (Or.inl ⟨by rfl, ?_⟩) (by assumption) ?_
    rotate_left
    · (intro w hSw; (try dsimp only at hSw); go_simp; try with_reducible rfl)
    try simp only [Act.put, List.setIfInBounds_toArray, List.set_cons_zero, List.set_cons_succ]
    refine Till.take 5 (some 17) (v := ?_) rfl rfl (by kernel_rfl) (by kernel_rfl) (by kernel_rfl) (by kernel_rfl) (fun _ _ _ h => h) (Or.inl ⟨by rfl, ?_⟩) (by assumption) ?_
    rotate_left
    · (intro w hSw; (try dsimp only at hSw); go_simp; try with_reducible rfl)
    try simp only [Act.put, List.setIfInBounds_toArray, List.set_cons_zero, List.set_cons_succ]
    refine Till.take 6 (some 18) (v := ?_) rfl rfl (by kernel_rfl) (by kernel_rfl) (by kernel_rfl) (by kernel_rfl) (fun _ _ _ h => h) (Or.inl ⟨by rfl, ?_⟩) (by assumption) ?_
    rotate_left
    · (intro w hSw; (try dsimp only at hSw); go_simp; try with_reducible rfl)
    try simp only [Act.put, List.setIfInBounds_toArray, List.set_cons_zero, List.set_cons_succ]
    obtain ⟨g0, g1, g2, g3⟩ := hHeld
    refine Till.one 7 rfl (by kernel_rfl) (fun K hK => ?_)
    go_simp
    refine hK.out _ _ (fun h => absurd rfl h) (fun _ => ?_)
    clear hK K g0 g1 g2 g3
    refine Till.done (by kernel_rfl) ?_ _
    go_wp2
    try rw [HN.out]
    try rw [HDD.out]
    have hE : Below w.heap.size w ((wd.setCell ⟨w.heap.size, 0, none⟩ (.int .i64 N)).setCell ⟨w.heap.size, 1, none⟩ (.int .i64 D)) := (HA5.out.setCell (by simp only; omega) _).setCell (by simp only; omega) _
    have hB : Blk ((wd.setCell ⟨w.heap.size, 0, none⟩ (.int .i64 N)).setCell ⟨w.heap.size, 1, none⟩ (.int .i64 D)) w.heap.size #[.int .i64 N, .int .i64 D] 24 := by simpa using (HR5.out.set 0 (.int .i64 N)).set 1 (.int .i64 D)
    have c0 := hB.cell 0 _ rfl
    have c1 := hB.cell 1 _ rfl
    clear hB HA5 HR5
    generalize ((wd.setCell ⟨w.heap.size, 0, none⟩ (.int .i64 N)).setCell ⟨w.heap.size, 1, none⟩ (.int .i64 D)) = WE at c0 c1 hE ⊢
    refine ⟨rfl, .agg #[.int .i64 N, .int .i64 D], ?_, rfl, hE⟩
    simp [results, Try.results21, go_sem, c0, c1]
  · replace HD2 := HD2 hc
    clear HD1
    go_enter Try.func21, Try.ntmps21
    go_wp2_with fail
    refine (HD2 _).mono ?_
    rintro e w3 ⟨rfl, hb3⟩
    have hr := HR.out.below hb3 HR.out.lt
    have hA4 := HA.out.trans (hb3.mono HA.out.size)
    have hr5 := hr.below (show Below w3.heap.size w3 w3.drew from (Below.refl _ _).drew) hr.lt
    have hA5 := hA4.trans (show Below w.heap.size w3 w3.drew from (Below.refl _ _).drew)
    clear HR HA hb3 hr hA4 HD2
    have q0 := hr5.cell 0 _ rfl
    have q1 := hr5.cell 1 _ rfl
    have q2 := hr5.frozen 0
    have q3 := hr5.frozen 1
    have HR5 := Lib.hid hr5
    have HA5 := Lib.hid hA5
    clear hr5 hA5
    go_wp2_with fail
    refine wp_region_till (fun w' : World => w'.cell? ⟨w.heap.size, 0, none⟩ = some (.int .i64 0) ∧ w'.cell? ⟨w.heap.size, 1, none⟩ = some (.int .i64 0) ∧ w'.frozen? ⟨w.heap.size, 0, none⟩ = false ∧ w'.frozen? ⟨w.heap.size, 1, none⟩ = false) 7 (by kernel_rfl) ⟨q0, q1, q2, q3⟩ (fun hHeld => ?_)
    clear q0 q1 q2 q3
    generalize w3.drew = wd at *
    refine Till.take 0 (some 12) (v := ?_) rfl rfl (by kernel_rfl) (by kernel_rfl) (by kernel_rfl) (by kernel_rfl) (fun _ _ _ h => h) (Or.inl ⟨by rfl, ?_⟩) (by assumption) ?_
    rotate_left
    · (intro w hSw; (try dsimp only at hSw); go_simp; try with_reducible rfl)
    try simp only [Act.put, List.setIfInBounds_toArray, List.set_cons_zero, List.set_cons_succ]
    refine Till.take 1 (some 13) (v := ?_) rfl rfl (by kernel_rfl) (by kernel_rfl) (by kernel_rfl) (by kernel_rfl) (fun _ _ _ h => h) (Or.inl ⟨by rfl, ?_⟩) (by assumption) ?_
    rotate_left
    · (intro w hSw; (try dsimp only at hSw); go_simp; try with_reducible rfl)
    try simp only [Act.put, List.setIfInBounds_toArray, List.set_cons_zero, List.set_cons_succ]
    refine Till.take 2 (some 14) (v := ?_) rfl rfl (by kernel_rfl) (by kernel_rfl) (by kernel_rfl) (by kernel_rfl) (fun _ _ _ h => h) (Or.inl ⟨by rfl, ?_⟩) (by assumption) ?_
    rotate_left
    · (intro w hSw; (try dsimp only at hSw); go_simp; try with_reducible rfl)
    try simp only [Act.put, List.setIfInBounds_toArray, List.set_cons_zero, List.set_cons_succ]
    refine Till.take 3 (some 15) (v := ?_) rfl rfl (by kernel_rfl) (by kernel_rfl) (by kernel_rfl) (by kernel_rfl) (fun _ _ _ h => h) (Or.inl ⟨by rfl, ?_⟩) (by assumption) ?_
    rotate_left
    · (intro w hSw; (try dsimp only at hSw); go_simp; try with_reducible rfl)
    try simp only [Act.put, List.setIfInBounds_toArray, List.set_cons_zero, List.set_cons_succ]
    refine Till.take 4 (some 16) (v := ?_) rfl rfl (by kernel_rfl) (by kernel_rfl) (by kernel_rfl) (by kernel_rfl) (fun _ _ _ h => h) (Or.inl ⟨by rfl, ?_⟩) (by assumption) ?_
    rotate_left
    · (intro w hSw; (try dsimp only at hSw); go_simp; try with_reducible rfl)
    try simp only [Act.put, List.setIfInBounds_toArray, List.set_cons_zero, List.set_cons_succ]
    refine Till.take 5 (some 17) (v := ?_) rfl rfl (by kernel_rfl) (by kernel_rfl) (by kernel_rfl) (by kernel_rfl) (fun _ _ _ h => h) (Or.inl ⟨by rfl, ?_⟩) (by assumption) ?_
    rotate_left
    · (intro w hSw; (try dsimp only at hSw); go_simp; try with_reducible rfl)
    try simp only [Act.put, List.setIfInBounds_toArray, List.set_cons_zero, List.set_cons_succ]
    refine Till.take 6 (some 18) (v := ?_) rfl rfl (by kernel_rfl) (by kernel_rfl) (by kernel_rfl) (by kernel_rfl) (fun _ _ _ h => h) (Or.inl ⟨by rfl, ?_⟩) (by assumption) ?_
    rotate_left
    · (intro w hSw; (try dsimp only at hSw); go_simp; try with_reducible rfl)
    try simp only [Act.put, List.setIfInBounds_toArray, List.set_cons_zero, List.set_cons_succ]
    obtain ⟨g0, g1, g2, g3⟩ := hHeld
    refine Till.one 7 rfl (by kernel_rfl) (fun K hK => ?_)
    go_simp
    refine hK.out _ _ (fun h => absurd rfl h) (fun _ => ?_)
    clear hK K g0 g1 g2 g3
    refine Till.done (by kernel_rfl) ?_ _
    go_wp2
    try rw [HN.out]
    try rw [HDD.out]
    have hE : Below w.heap.size w ((wd.setCell ⟨w.heap.size, 0, none⟩ (.int .i64 N)).setCell ⟨w.heap.size, 1, none⟩ (.int .i64 D)) := (HA5.out.setCell (by simp only; omega) _).setCell (by simp only; omega) _
    have hB : Blk ((wd.setCell ⟨w.heap.size, 0, none⟩ (.int .i64 N)).setCell ⟨w.heap.size, 1, none⟩ (.int .i64 D)) w.heap.size #[.int .i64 N, .int .i64 D] 24 := by simpa using (HR5.out.set 0 (.int .i64 N)).set 1 (.int .i64 D)
    have c0 := hB.cell 0 _ rfl
    have c1 := hB.cell 1 _ rfl
    clear hB HA5 HR5
    generalize ((wd.setCell ⟨w.heap.size, 0, none⟩ (.int .i64 N)).setCell ⟨w.heap.size, 1, none⟩ (.int .i64 D)) = WE at c0 c1 hE ⊢
    refine ⟨rfl, .agg #[.int .i64 N, .int .i64 D], ?_, rfl, hE⟩
    simp [results, Try.results21, go_sem, c0, c1]

set_option maxRecDepth 100000 in
theorem moved_any (a b n x : Int) (w : World) (h1 : I64 (n * b)) (h2 : I64 (a + n * b)) (hx : a + n * b = x) :
    Calls Try.prog 70 #[.agg #[.int .i64 a, .int .i64 b], .int .i64 n] w fun e w' => e = .returned (rtV ⟨x, b⟩) ∧ Below w.heap.size w w' := by
  have hA : Below w.heap.size w ((w.alloc (.cells #[.int .i64 a, .int .i64 b] 24)).alloc (.cells #[.int .i64 x, .int .i64 b] 24)) := (below_box w _).alloc (by simp) _
  have hB := Blk.new (w.alloc (.cells #[.int .i64 a, .int .i64 b] 24)) #[.int .i64 x, .int .i64 b] 24
  have hA0 : Below w.heap.size w ((w.alloc (.cells #[.int .i64 a, .int .i64 b] 24)).alloc (.cells #[.int .i64 0, .int .i64 0] 24)) := (below_box w _).alloc (by simp) _
  have hQ := (Blk.new w #[.int .i64 a, .int .i64 b] 24).alloc (.cells #[.int .i64 0, .int .i64 0] 24)
  have hR := Blk.new (w.alloc (.cells #[.int .i64 a, .int .i64 b] 24)) #[.int .i64 0, .int .i64 0] 24
  simp only [World.size_alloc] at hB hR
  have q0 := hQ.cell 0 _ rfl
  have q1 := hQ.cell 1 _ rfl
  have C0 := Lib.hid (hB.cell 0 _ rfl)
  have C1 := Lib.hid (hB.cell 1 _ rfl)
  have HA := Lib.hid hA
  have z1 := wrap_id _ h1
  have z2 := wrap_id _ h2
  have HX := Lib.hid hx
  clear hA hA0 hB hQ hR hx h1 h2
  go_enter Try.func70, Try.ntmps70
  go_wp2
  try rw [HX.out]
  have c0 := C0.out
  have c1 := C1.out
  refine ⟨rfl, .agg #[.int .i64 x, .int .i64 b], ?_, rfl, HA.out⟩
  simp [results, Try.results70, go_sem]

set_option maxRecDepth 100000 in
theorem rless_any (a b c d x y : Int) (w : World) (h1 : I64 (a * d)) (h2 : I64 (c * b)) (h3 : -9223372036854775807 ≤ a * d - c * b ∧ a * d - c * b ≤ 9223372036854775807) (h4 : 1 ≤ b * d ∧ b * d ≤ 9223372036854775807) (hx : a * d - c * b = x) (hy : b * d = y) :
    Calls Try.prog 69 #[.agg #[.int .i64 a, .int .i64 b], .agg #[.int .i64 c, .int .i64 d]] w fun e w' => e = .returned (rtV (mk x y)) ∧ Below w.heap.size w w' := by
  have hA : Below w.heap.size w (((w.alloc (.cells #[.int .i64 a, .int .i64 b] 24)).alloc (.cells #[.int .i64 c, .int .i64 d] 24)).alloc (.cells #[.int .i64 0, .int .i64 0] 24)) := ((below_box w _).alloc (by simp) _).alloc (by simp only [World.size_alloc]; omega) _
  have hP := ((Blk.new w #[.int .i64 a, .int .i64 b] 24).alloc (.cells #[.int .i64 c, .int .i64 d] 24)).alloc (.cells #[.int .i64 0, .int .i64 0] 24)
  have hQ := (Blk.new (w.alloc (.cells #[.int .i64 a, .int .i64 b] 24)) #[.int .i64 c, .int .i64 d] 24).alloc (.cells #[.int .i64 0, .int .i64 0] 24)
  have hR := Blk.new ((w.alloc (.cells #[.int .i64 a, .int .i64 b] 24)).alloc (.cells #[.int .i64 c, .int .i64 d] 24)) #[.int .i64 0, .int .i64 0] 24
  simp only [World.size_alloc] at hQ hR
  have p0 := hP.cell 0 _ rfl
  have p1 := hP.cell 1 _ rfl
  have q0 := hQ.cell 0 _ rfl
  have q1 := hQ.cell 1 _ rfl
  have z1 := wrap_id _ h1
  have z2 := wrap_id _ h2
  have z3 := wrap_id (a * d - c * b) (by unfold I64; omega)
  have z4 := wrap_id (b * d) (by unfold I64; omega)
  have HM := fun V => made_any (a * d - c * b) (b * d) V h3 h4
  rw [hx, hy] at HM
  have hmb := mkQ_bd x (b := y) (by omega) (by omega)
  have HX := Lib.hid hx
  have HY := Lib.hid hy
  obtain ⟨M, hM⟩ : ∃ M, mk x y = M := ⟨_, rfl⟩
  rw [hM] at HM hmb ⊢
  unfold rtV at HM
  have HA := Lib.hid hA
  have HR := Lib.hid hR
  clear hA hP hQ hR hx hy h1 h2 h3 h4 hM
  go_enter Try.func69, Try.ntmps69
  go_wp2_with fail
  rw [HX.out, HY.out]
  refine (HM _).mono ?_
  rintro e w3 ⟨rfl, hb3⟩
  obtain ⟨r0, r1, f0, f1, HE, C0, C1⟩ := store2 HA.out HR.out (by omega) hb3 (.int .i64 M.n) (.int .i64 M.d)
  clear HA HR HM hb3 p0 p1 q0 q1 z1 z2 z3 z4
  go_wp2
  have c0 := C0.out
  have c1 := C1.out
  have hE := HE.out
  clear C0 C1 HE r0 r1 f0 f1
  generalize ((w3.setCell ⟨w.heap.size + 1 + 1, 0, none⟩ (.int .i64 M.n)).setCell ⟨w.heap.size + 1 + 1, 1, none⟩ (.int .i64 M.d)) = WE at c0 c1 hE ⊢
  refine ⟨rfl, .agg #[.int .i64 M.n, .int .i64 M.d], ?_, rfl, hE⟩
  simp [results, Try.results69, go_sem, c0, c1]
end Go.Proofs.Ytnldenjdbgfgmaa
