/- Shock and Anneals of the specification, by their contracts; no statement is proved here. -/
import Derived.Test.YtmmlocjiegkjeaaGreatDoorLeSh
import Derived.Test.YtmmlocjiegkjeaaGreatDoorRLp
namespace Go.Proofs.YtmmlocjiegkjeaaGreatDoor
open Go.RowKit Go.PlainAid
set_option linter.unusedVariables false
set_option linter.unusedSimpArgs false
attribute [local go_sem] Oper.semAt_some

set_option maxRecDepth 100000 in
theorem rup7_any (a b : Int) (w : World) (ha : 0 ≤ a ∧ a ≤ 8000000000000000000) (hb : 1 ≤ b ∧ b ≤ 1000) :
    Calls Tryz.prog 25 #[.int .i64 a, .int .i64 b] w fun e w' => e = .returned (.int .i64 ((a + b - 1) / b)) ∧ w' = w := by
  have hn : ¬ b = 0 := by omega
  have h1 : wrap64 (a + b) = a + b := wrap_id _ (by unfold I64; omega)
  have h2 : wrap64 (a + b - 1) = a + b - 1 := wrap_id _ (by unfold I64; omega)
  have hq : wrap64 ((a + b - 1).tdiv b) = (a + b - 1) / b := by
    rw [Int.tdiv_eq_ediv_of_nonneg (by omega)]
    have h1 := Int.ediv_nonneg (show 0 ≤ a + b - 1 by omega) (show 0 ≤ b by omega)
    have h2 := Int.ediv_le_self b (show 0 ≤ a + b - 1 by omega)
    exact wrap_id _ (by unfold I64; omega)
  go_enter Tryz.func25, Tryz.ntmps25
  go_wp2
  go_ret
  exact ⟨rfl, rfl⟩

set_option maxHeartbeats 4000000 in
set_option maxRecDepth 100000 in
theorem rshockP_any (vb vr : Value) (b : Bat) (r : List Int) (n deg : Int) (w : World) (hb : RBat w vb b) (hr : RInts w vr r) :
    Calls Tryz.prog 8 #[vb, vr, .int .i64 n, .int .i64 deg] w (ShockA w (B1.valI b r n) deg) := by
  have hb0 := hb
  have hr0 := hr
  obtain ⟨a0, k0, a1, k1, a2, k2, a3, k3, rfl⟩ := hb.agg
  obtain ⟨ar, kr, rfl, -, -, -⟩ := hr
  have hva := fun V (hV : Below w.heap.size w V) => B1.rval_any _ _ b r n V (hb0.mono (ext_of_below hV)) (hr0.mono (ext_of_below hV))
  have hvb := B1.valI_bd b r n
  generalize B1.valI b r n = vv at *
  obtain ⟨v, ve⟩ := vv
  have hvb : ve = 0 → v.lo ≤ v.hi ∧ -200000000000000 ≤ v.lo ∧ v.hi ≤ 200000000000000 := hvb
  have hA0 : Below w.heap.size w ((w.alloc (.cells #[.slice a0 b.oxides.length k0, .slice a1 b.mats.length k1, .slice a2 b.shares.length k2, .slice a3 b.props.length k3, .int .i64 b.redox.lo, .int .i64 b.redox.hi, .int .i64 b.wanted] 32)).alloc (.cells #[.int .i64 0, .int .i64 0] 30)) := (below_boxS w _).alloc (by simp) _
  have hM0 := (Blk.new w #[.slice a0 b.oxides.length k0, .slice a1 b.mats.length k1, .slice a2 b.shares.length k2, .slice a3 b.props.length k3, .int .i64 b.redox.lo, .int .i64 b.redox.hi, .int .i64 b.wanted] 32).alloc (.cells #[.int .i64 0, .int .i64 0] 30)
  have hO0 := Blk.new (w.alloc (.cells #[.slice a0 b.oxides.length k0, .slice a1 b.mats.length k1, .slice a2 b.shares.length k2, .slice a3 b.props.length k3, .int .i64 b.redox.lo, .int .i64 b.redox.hi, .int .i64 b.wanted] 32)) #[.int .i64 0, .int .i64 0] 30
  rw [World.size_alloc] at hO0
  clear hb0 hr0
  go_enter Tryz.func8, Tryz.ntmps8
  have m0 := hM0.cell 0 _ rfl
  have m1 := hM0.cell 1 _ rfl
  have m2 := hM0.cell 2 _ rfl
  have m3 := hM0.cell 3 _ rfl
  have m4 := hM0.cell 4 _ rfl
  have m5 := hM0.cell 5 _ rfl
  have m6 := hM0.cell 6 _ rfl
  go_wp2_with fail
  generalize (w.alloc (.cells #[.slice a0 b.oxides.length k0, .slice a1 b.mats.length k1, .slice a2 b.shares.length k2, .slice a3 b.props.length k3, .int .i64 b.redox.lo, .int .i64 b.redox.hi, .int .i64 b.wanted] 32)).alloc (.cells #[.int .i64 0, .int .i64 0] 30) = w0 at *
  refine (hva _ hA0).mono ?_
  rintro e w1 ⟨rfl, hb1⟩
  simp only
  have hA1 := (hA0.trans (hb1.mono hA0.size)).alloc (hA0.trans (hb1.mono hA0.size)).size (.cells #[.int .i64 v.lo, .int .i64 v.hi] 30)
  have hO1 := (hO0.below hb1 hO0.lt).alloc (.cells #[.int .i64 v.lo, .int .i64 v.hi] 30)
  have hV1 := Blk.new w1 #[.int .i64 v.lo, .int .i64 v.hi] 30
  have lOp := Lib.hid (hO0.below hb1 hO0.lt).lt
  clear hA0 hb1 hva hM0 hO0 m0 m1 m2 m3 m4 m5 m6
  by_cases hve : ve = 0
  case neg =>
    have hne : (ve != 0) = true := by simpa using hve
    have HX := Lib.hid (show shockS (v, ve) deg = (⟨0, 0⟩, ve) by
      have he : shockE (v, ve) deg = ve := by rw [shockE, if_pos hve]
      rw [shockS, if_neg (by rw [he]; exact hve), he])
    have z0 := hO1.cell 0 _ rfl
    have z1 := hO1.cell 1 _ rfl
    have f0 := hO1.frozen 0
    have f1 := hO1.frozen 1
    have HF := Lib.hid ((hA1.setCell (p := ⟨w.heap.size + 1, 0, none⟩) (by simp only; omega) (.int .i64 0)).setCell (p := ⟨w.heap.size + 1, 1, none⟩) (by simp only; omega) (.int .i64 0))
    have HP : Hid (Blk (((w1.alloc (.cells #[.int .i64 v.lo, .int .i64 v.hi] 30)).setCell ⟨w.heap.size + 1, 0, none⟩ (.int .i64 0)).setCell ⟨w.heap.size + 1, 1, none⟩ (.int .i64 0)) (w.heap.size + 1) #[.int .i64 0, .int .i64 0] 30) := Lib.hid (by
      have := (hO1.set 0 (.int .i64 0)).set 1 (.int .i64 0)
      simpa using this)
    clear hA1 hO1 hV1 hvb hve
    go_wp2
    have r0 := HP.out.cell 0 _ rfl
    have r1 := HP.out.cell 1 _ rfl
    simp only [List.getElem_toArray, List.getElem_cons_zero, List.getElem_cons_succ] at r0 r1
    exact bodyPost_ret (v := .tuple #[.agg #[.int .i64 0, .int .i64 0], .int .i64 ve]) (by simp only [results, Tryz.results8]; simp [go_sem, r0, r1]) rfl ⟨by rw [HX.out], HF.out⟩
  subst hve
  have HV := Lib.hid (hvb rfl)
  clear hvb
  have x0 := hV1.cell 0 _ rfl
  have x1 := hV1.cell 1 _ rfl
  by_cases hd : 0 ≤ deg ∧ deg ≤ 1000
  case neg =>
    have HX := Lib.hid (show shockS (v, 0) deg = (⟨0, 0⟩, 1) by
      have he : shockE (v, 0) deg = 1 := by rw [shockE, if_neg (fun z => z rfl), if_pos (by unfold btw; exact decide_eq_false (by omega))]
      rw [shockS, if_neg (by rw [he]; decide), he])
    by_cases hd0 : deg < 0
    · have g1 := decide_eq_true hd0
      have z0 := hO1.cell 0 _ rfl
      have z1 := hO1.cell 1 _ rfl
      have f0 := hO1.frozen 0
      have f1 := hO1.frozen 1
      have HF := Lib.hid ((hA1.setCell (p := ⟨w.heap.size + 1, 0, none⟩) (by simp only; omega) (.int .i64 0)).setCell (p := ⟨w.heap.size + 1, 1, none⟩) (by simp only; omega) (.int .i64 0))
      have HP : Hid (Blk (((w1.alloc (.cells #[.int .i64 v.lo, .int .i64 v.hi] 30)).setCell ⟨w.heap.size + 1, 0, none⟩ (.int .i64 0)).setCell ⟨w.heap.size + 1, 1, none⟩ (.int .i64 0)) (w.heap.size + 1) #[.int .i64 0, .int .i64 0] 30) := Lib.hid (by
        have := (hO1.set 0 (.int .i64 0)).set 1 (.int .i64 0)
        simpa using this)
      clear hA1 hO1 hV1 hd hd0
      go_wp2
      have r0 := HP.out.cell 0 _ rfl
      have r1 := HP.out.cell 1 _ rfl
      simp only [List.getElem_toArray, List.getElem_cons_zero, List.getElem_cons_succ] at r0 r1
      exact bodyPost_ret (v := .tuple #[.agg #[.int .i64 0, .int .i64 0], .int .i64 1]) (by simp only [results, Tryz.results8]; simp [go_sem, r0, r1]) rfl ⟨by rw [HX.out], HF.out⟩
    · have g1 := decide_eq_false hd0
      have g2 : decide ((1000 : Int) < deg) = true := decide_eq_true (by omega)
      have z0 := hO1.cell 0 _ rfl
      have z1 := hO1.cell 1 _ rfl
      have f0 := hO1.frozen 0
      have f1 := hO1.frozen 1
      have HF := Lib.hid ((hA1.setCell (p := ⟨w.heap.size + 1, 0, none⟩) (by simp only; omega) (.int .i64 0)).setCell (p := ⟨w.heap.size + 1, 1, none⟩) (by simp only; omega) (.int .i64 0))
      have HP : Hid (Blk (((w1.alloc (.cells #[.int .i64 v.lo, .int .i64 v.hi] 30)).setCell ⟨w.heap.size + 1, 0, none⟩ (.int .i64 0)).setCell ⟨w.heap.size + 1, 1, none⟩ (.int .i64 0)) (w.heap.size + 1) #[.int .i64 0, .int .i64 0] 30) := Lib.hid (by
        have := (hO1.set 0 (.int .i64 0)).set 1 (.int .i64 0)
        simpa using this)
      clear hA1 hO1 hV1 hd hd0
      go_wp2
      have r0 := HP.out.cell 0 _ rfl
      have r1 := HP.out.cell 1 _ rfl
      simp only [List.getElem_toArray, List.getElem_cons_zero, List.getElem_cons_succ] at r0 r1
      exact bodyPost_ret (v := .tuple #[.agg #[.int .i64 0, .int .i64 0], .int .i64 1]) (by simp only [results, Tryz.results8]; simp [go_sem, r0, r1]) rfl ⟨by rw [HX.out], HF.out⟩
  have he : shockE (v, 0) deg = 0 := by rw [shockE, if_neg (fun z => z rfl), if_neg (by rw [btw_true.2 hd]; decide)]
  have HX := Lib.hid (show shockS (v, 0) deg = (shockV (v, 0) deg, 0) by rw [shockS, if_pos he])
  clear he
  have g1 : decide (deg < 0) = false := decide_eq_false (by omega)
  have g2 : decide ((1000 : Int) < deg) = false := decide_eq_false (by omega)
  go_wp2_with fail
  generalize w1.alloc (.cells #[.int .i64 v.lo, .int .i64 v.hi] 30) = w3 at *
  generalize w1.heap.size = pV at *
  obtain ⟨v1, v2, v3⟩ := HV.out
  obtain ⟨⟨u1, u2⟩, ⟨u3, u4⟩, u5, u6⟩ := shA_bd (x := v.lo) (deg := deg) (by omega) hd
  obtain ⟨⟨t1, t2⟩, ⟨t3, t4⟩, t5, t6⟩ := shA_bd (x := v.hi) (deg := deg) (by omega) hd
  have hdn := fun V => rdown_any (shA v.lo deg) 78 V (by omega) (by omega)
  have hup := fun V => rup7_any (shA v.hi deg) 78 V (by omega) (by omega)
  have y1 : IntKind.i64.wrap (35 * max 0 v.lo) = 35 * max 0 v.lo := (IntWalk.i64_left _).trans (wrap_id _ (by unfold I64; omega))
  have y2 : IntKind.i64.wrap (35 * max 0 v.lo * deg) = shA v.lo deg := (IntWalk.i64_left _).trans (wrap_id _ (by change I64 (shA v.lo deg); unfold I64; omega))
  have y3 : IntKind.i64.wrap (35 * max 0 v.hi) = 35 * max 0 v.hi := (IntWalk.i64_left _).trans (wrap_id _ (by unfold I64; omega))
  have y4 : IntKind.i64.wrap (35 * max 0 v.hi * deg) = shA v.hi deg := (IntWalk.i64_left _).trans (wrap_id _ (by change I64 (shA v.hi deg); unfold I64; omega))
  have HM1 := Lib.hid (show (if v.lo < 0 then 0 else v.lo) = max 0 v.lo by split <;> omega)
  have HM2 := Lib.hid (show (if v.hi < 0 then 0 else v.hi) = max 0 v.hi by split <;> omega)
  have D0 : Below w3.heap.size w3 w3.drew := (Below.refl _ _).drew
  have HSV : Hid (∀ V, Below w3.heap.size w3 V → (fun w' : World => w'.cell? ⟨pV, 0, none⟩ = some (.int .i64 v.lo) ∧ w'.cell? ⟨pV, 1, none⟩ = some (.int .i64 v.hi)) V) := Lib.hid (fun V hV => ⟨ext_of_below hV _ _ x0, ext_of_below hV _ _ x1⟩)
  clear u1 u2 u3 u4 u5 u6 t1 t2 t3 t4 t5 t6 v1 v2 v3 g1 g2
  have lO := hO1.lt
  refine wp_region_till (fun w' : World => w'.cell? ⟨pV, 0, none⟩ = some (.int .i64 v.lo) ∧ w'.cell? ⟨pV, 1, none⟩ = some (.int .i64 v.hi)) 16 (by kernel_rfl) (HSV.out _ D0) (fun hHeld => ?_)
  clear x0 x1
  refine Till.take 0 (some 30) (v := ?_) rfl rfl (by kernel_rfl) (by kernel_rfl) (by kernel_rfl) (by kernel_rfl) (fun _ _ _ h => h) (Or.inl ⟨by rfl, ?_⟩) (by assumption) ?_
  rotate_left
  · (intro w hSw; (try dsimp only at hSw); go_simp; try with_reducible rfl)
  try simp only [Act.put, List.setIfInBounds_toArray, List.set_cons_zero, List.set_cons_succ]
  refine Till.take 1 (some 31) (v := ?_) rfl rfl (by kernel_rfl) (by kernel_rfl) (by kernel_rfl) (by kernel_rfl) (fun _ _ _ h => h) (Or.inl ⟨by rfl, ?_⟩) (by assumption) ?_
  rotate_left
  · (intro w hSw; (try dsimp only at hSw); go_simp; try with_reducible rfl)
  try simp only [Act.put, List.setIfInBounds_toArray, List.set_cons_zero, List.set_cons_succ]
  refine Till.take 2 (some 32) (v := ?_) rfl rfl (by kernel_rfl) (by kernel_rfl) (by kernel_rfl) (by kernel_rfl) (fun _ _ _ h => h) (Or.inl ⟨by rfl, ?_⟩) (by assumption) ?_
  rotate_left
  · (intro w hSw; (try dsimp only at hSw); go_simp; try with_reducible rfl)
  try simp only [Act.put, List.setIfInBounds_toArray, List.set_cons_zero, List.set_cons_succ]
  try simp only [HM1.out]
  refine Till.take 3 (some 33) (v := ?_) rfl rfl (by kernel_rfl) (by kernel_rfl) (by kernel_rfl) (by kernel_rfl) (fun _ _ _ h => h) (Or.inl ⟨by rfl, ?_⟩) (by assumption) ?_
  rotate_left
  · (intro w hSw; (try dsimp only at hSw); go_simp; try with_reducible rfl)
  try simp only [Act.put, List.setIfInBounds_toArray, List.set_cons_zero, List.set_cons_succ]
  refine Till.take 4 (some 34) (v := ?_) rfl rfl (by kernel_rfl) (by kernel_rfl) (by kernel_rfl) (by kernel_rfl) (fun _ _ _ h => h) (Or.inl ⟨by rfl, ?_⟩) (by assumption) ?_
  rotate_left
  · (intro w hSw; (try dsimp only at hSw); go_simp; try with_reducible rfl)
  try simp only [Act.put, List.setIfInBounds_toArray, List.set_cons_zero, List.set_cons_succ]
  refine Till.take 5 (some 35) (v := ?_) rfl rfl (by kernel_rfl) (by kernel_rfl) (by kernel_rfl) (by kernel_rfl) (fun _ _ _ h => h) (Or.inl ⟨by rfl, ?_⟩) (by assumption) ?_
  rotate_left
  · (intro w hSw; (try dsimp only at hSw); go_simp; try with_reducible rfl)
  try simp only [Act.put, List.setIfInBounds_toArray, List.set_cons_zero, List.set_cons_succ]
  refine Till.take 7 (some 37) (v := ?_) rfl rfl (by kernel_rfl) (by kernel_rfl) (by kernel_rfl) (by kernel_rfl) (fun _ _ _ h => h) (Or.inl ⟨by rfl, ?_⟩) (by assumption) ?_
  rotate_left
  · (intro w hSw; (try dsimp only at hSw); go_simp; try with_reducible rfl)
  try simp only [Act.put, List.setIfInBounds_toArray, List.set_cons_zero, List.set_cons_succ]
  refine Till.take 8 (some 38) (v := ?_) rfl rfl (by kernel_rfl) (by kernel_rfl) (by kernel_rfl) (by kernel_rfl) (fun _ _ _ h => h) (Or.inl ⟨by rfl, ?_⟩) (by assumption) ?_
  rotate_left
  · (intro w hSw; (try dsimp only at hSw); go_simp; try with_reducible rfl)
  try simp only [Act.put, List.setIfInBounds_toArray, List.set_cons_zero, List.set_cons_succ]
  refine Till.take 9 (some 39) (v := ?_) rfl rfl (by kernel_rfl) (by kernel_rfl) (by kernel_rfl) (by kernel_rfl) (fun _ _ _ h => h) (Or.inl ⟨by rfl, ?_⟩) (by assumption) ?_
  rotate_left
  · (intro w hSw; (try dsimp only at hSw); go_simp; try with_reducible rfl)
  try simp only [Act.put, List.setIfInBounds_toArray, List.set_cons_zero, List.set_cons_succ]
  try simp only [HM2.out]
  refine Till.take 10 (some 40) (v := ?_) rfl rfl (by kernel_rfl) (by kernel_rfl) (by kernel_rfl) (by kernel_rfl) (fun _ _ _ h => h) (Or.inl ⟨by rfl, ?_⟩) (by assumption) ?_
  rotate_left
  · (intro w hSw; (try dsimp only at hSw); go_simp; try with_reducible rfl)
  try simp only [Act.put, List.setIfInBounds_toArray, List.set_cons_zero, List.set_cons_succ]
  refine Till.take 11 (some 41) (v := ?_) rfl rfl (by kernel_rfl) (by kernel_rfl) (by kernel_rfl) (by kernel_rfl) (fun _ _ _ h => h) (Or.inl ⟨by rfl, ?_⟩) (by assumption) ?_
  rotate_left
  · (intro w hSw; (try dsimp only at hSw); go_simp; try with_reducible rfl)
  try simp only [Act.put, List.setIfInBounds_toArray, List.set_cons_zero, List.set_cons_succ]
  refine Till.take 12 (some 42) (v := ?_) rfl rfl (by kernel_rfl) (by kernel_rfl) (by kernel_rfl) (by kernel_rfl) (fun _ _ _ h => h) (Or.inl ⟨by rfl, ?_⟩) (by assumption) ?_
  rotate_left
  · (intro w hSw; (try dsimp only at hSw); go_simp; try with_reducible rfl)
  try simp only [Act.put, List.setIfInBounds_toArray, List.set_cons_zero, List.set_cons_succ]
  try simp only [y1, y2, y3, y4]
  refine Till.one 6 rfl (by kernel_rfl) (fun K hK => ?_)
  go_simp
  go_at_call 24
  refine (hdn _).mono ?_
  rintro e w4 ⟨rfl, rfl⟩
  refine hK.out _ _ (fun _ => HSV.out _ D0) (fun hHeld2 => ?_)
  clear hK K hdn
  try simp only [Act.put, List.setIfInBounds_toArray, List.set_cons_zero, List.set_cons_succ]
  refine Till.one 13 rfl (by kernel_rfl) (fun K hK => ?_)
  go_simp
  go_at_call 25
  refine (hup _).mono ?_
  rintro e w5 ⟨rfl, rfl⟩
  refine hK.out _ _ (fun _ => HSV.out _ D0) (fun hHeld3 => ?_)
  clear hK K hup
  try simp only [Act.put, List.setIfInBounds_toArray, List.set_cons_zero, List.set_cons_succ]
  have hh := HSV.out _ D0
  dsimp only at hh
  refine Till.take 14 (some 44) (v := ?_) rfl rfl (by kernel_rfl) (by kernel_rfl) (by kernel_rfl) (by kernel_rfl) (fun _ _ _ h => h) (Or.inl ⟨by rfl, ?_⟩) (by assumption) ?_
  rotate_left
  · (intro w hSw; (try dsimp only at hSw); go_simp; try with_reducible rfl)
  try simp only [Act.put, List.setIfInBounds_toArray, List.set_cons_zero, List.set_cons_succ]
  have hO4 := hO1.below D0 lO
  have hAF := hA1.trans (D0.mono hA1.size)
  have hV4 := hV1.below D0 hV1.lt
  have lOp := lOp.out
  have hV5 := (hV4.other ⟨w.heap.size + 1, 0, none⟩ (.int .i64 (shA v.lo deg / 78)) (by simp only; omega)).other ⟨w.heap.size + 1, 1, none⟩ (.int .i64 ((shA v.hi deg + 78 - 1) / 78)) (by simp only; omega)
  have HV5 := Lib.hid (And.intro (hV5.cell 0 _ rfl) (hV5.cell 1 _ rfl))
  generalize w3.drew = wd at *
  have z0 := hO4.cell 0 _ rfl
  have z1 := hO4.cell 1 _ rfl
  have f0 := hO4.frozen 0
  have f1 := hO4.frozen 1
  have HF := Lib.hid ((hAF.setCell (p := ⟨w.heap.size + 1, 0, none⟩) (by simp only; omega) (.int .i64 (shA v.lo deg / 78))).setCell (p := ⟨w.heap.size + 1, 1, none⟩) (by simp only; omega) (.int .i64 ((shA v.hi deg + 78 - 1) / 78)))
  have HP : Hid (Blk (((wd).setCell ⟨w.heap.size + 1, 0, none⟩ (.int .i64 (shA v.lo deg / 78))).setCell ⟨w.heap.size + 1, 1, none⟩ (.int .i64 ((shA v.hi deg + 78 - 1) / 78))) (w.heap.size + 1) #[.int .i64 (shA v.lo deg / 78), .int .i64 ((shA v.hi deg + 78 - 1) / 78)] 30) := Lib.hid (by
    have := (hO4.set 0 (.int .i64 (shA v.lo deg / 78))).set 1 (.int .i64 ((shA v.hi deg + 78 - 1) / 78))
    simpa using this)
  clear hh hHeld hHeld2 hHeld3 D0 hO1 hO4 hA1 hAF HSV hV1 hV4 hV5 lOp y1 y2 y3 y4 hd
  refine Till.one 15 rfl (by kernel_rfl) (fun K hK => ?_)
  go_simp
  refine hK.out _ _ (fun _ => HV5.out) (fun hHeld9 => ?_)
  clear hK K
  refine Till.one 16 rfl (by kernel_rfl) (fun K hK => ?_)
  go_simp
  refine hK.out _ _ (fun h => absurd rfl h) (fun _ => ?_)
  clear hK K hHeld9 HV5
  refine Till.done (by kernel_rfl) ?_ _
  go_wp2
  have r0 := HP.out.cell 0 _ rfl
  have r1 := HP.out.cell 1 _ rfl
  simp only [List.getElem_toArray, List.getElem_cons_zero, List.getElem_cons_succ] at r0 r1
  exact bodyPost_ret (v := .tuple #[.agg #[.int .i64 (shA v.lo deg / 78), .int .i64 ((shA v.hi deg + 78 - 1) / 78)], .int .i64 0]) (by simp only [results, Tryz.results8]; simp [go_sem, r0, r1]) rfl ⟨by rw [HX.out]; rfl, HF.out⟩

end Go.Proofs.YtmmlocjiegkjeaaGreatDoor
