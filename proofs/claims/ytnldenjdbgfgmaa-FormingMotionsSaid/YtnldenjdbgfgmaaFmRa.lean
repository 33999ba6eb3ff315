/- shifted and apart of the specification; no statement is proved here. -/
import Derived.Test.YtnldenjdbgfgmaaFmRl
namespace Go.Proofs.Ytnldenjdbgfgmaa
open Go.RowKit Go.PlainAid
set_option linter.unusedVariables false
set_option linter.unusedSimpArgs false

def shiftS (s : St) (t : Int) : St := ⟨⟨s.a.n + t * s.a.d, s.a.d⟩, ⟨s.b.n + t * s.b.d, s.b.d⟩⟩
/-- four cells are stored. -/
theorem store4Q {w W : World} {k : Nat} {T : TypeId} {u0 u1 u2 u3 : Value} (hA : Below w.heap.size w W) (hr : Blk W k #[u0, u1, u2, u3] T) (hk : w.heap.size ≤ k) (x0 x1 x2 x3 : Value) :
    (W.cell? ⟨k, 0, none⟩ = some u0 ∧ W.cell? ⟨k, 1, none⟩ = some u1 ∧ W.cell? ⟨k, 2, none⟩ = some u2 ∧ W.cell? ⟨k, 3, none⟩ = some u3) ∧ (W.frozen? ⟨k, 0, none⟩ = false ∧ W.frozen? ⟨k, 1, none⟩ = false ∧ W.frozen? ⟨k, 2, none⟩ = false ∧ W.frozen? ⟨k, 3, none⟩ = false)
      ∧ Hid (Below w.heap.size w ((((W.setCell ⟨k, 0, none⟩ x0).setCell ⟨k, 1, none⟩ x1).setCell ⟨k, 2, none⟩ x2).setCell ⟨k, 3, none⟩ x3)) ∧ Hid (Blk ((((W.setCell ⟨k, 0, none⟩ x0).setCell ⟨k, 1, none⟩ x1).setCell ⟨k, 2, none⟩ x2).setCell ⟨k, 3, none⟩ x3) k #[x0, x1, x2, x3] T) := by
  have hR : Blk ((((W.setCell ⟨k, 0, none⟩ x0).setCell ⟨k, 1, none⟩ x1).setCell ⟨k, 2, none⟩ x2).setCell ⟨k, 3, none⟩ x3) k #[x0, x1, x2, x3] T := by simpa using (((hr.set 0 x0).set 1 x1).set 2 x2).set 3 x3
  exact ⟨⟨hr.cell 0 _ rfl, hr.cell 1 _ rfl, hr.cell 2 _ rfl, hr.cell 3 _ rfl⟩, ⟨hr.frozen 0, hr.frozen 1, hr.frozen 2, hr.frozen 3⟩, Lib.hid ((((hA.setCell (by simpa using hk) _).setCell (by simpa using hk) _).setCell (by simpa using hk) _).setCell (by simpa using hk) _), Lib.hid hR⟩

set_option maxHeartbeats 4000000 in
set_option maxRecDepth 100000 in
theorem shifted_any (s : St) (t : Int) (w : World) (h1 : I64 (t * s.a.d)) (h2 : I64 (s.a.n + t * s.a.d)) (h3 : I64 (t * s.b.d)) (h4 : I64 (s.b.n + t * s.b.d)) :
    Calls Try.prog 60 #[.agg #[.int .i64 s.a.n, .int .i64 s.a.d, .int .i64 s.b.n, .int .i64 s.b.d], .int .i64 t] w fun e w' => e = .returned (stV (shiftS s t)) ∧ Below w.heap.size w w' := by
  have hA2 : Below w.heap.size w ((w.alloc (.cells #[.int .i64 s.a.n, .int .i64 s.a.d, .int .i64 s.b.n, .int .i64 s.b.d] 41)).alloc (.cells #[.int .i64 0, .int .i64 0, .int .i64 0, .int .i64 0] 41)) := (below_box w _).alloc (by simp) _
  have hS2 := (Blk.new w #[.int .i64 s.a.n, .int .i64 s.a.d, .int .i64 s.b.n, .int .i64 s.b.d] 41).alloc (.cells #[.int .i64 0, .int .i64 0, .int .i64 0, .int .i64 0] 41)
  have hR2 := Blk.new (w.alloc (.cells #[.int .i64 s.a.n, .int .i64 s.a.d, .int .i64 s.b.n, .int .i64 s.b.d] 41)) #[.int .i64 0, .int .i64 0, .int .i64 0, .int .i64 0] 41
  simp only [World.size_alloc] at hR2
  have hz2 : ((w.alloc (.cells #[.int .i64 s.a.n, .int .i64 s.a.d, .int .i64 s.b.n, .int .i64 s.b.d] 41)).alloc (.cells #[.int .i64 0, .int .i64 0, .int .i64 0, .int .i64 0] 41)).heap.size = w.heap.size + 2 := by simp
  replace hz2 := And.intro (Nat.le_of_eq hz2) (Nat.le_of_eq hz2.symm)
  obtain ⟨X, hX⟩ : ∃ X, s.a.n + t * s.a.d = X := ⟨_, rfl⟩
  obtain ⟨Y, hY⟩ : ∃ Y, s.b.n + t * s.b.d = Y := ⟨_, rfl⟩
  have HC1 := fun V => moved_any s.a.n s.a.d t X V h1 h2 hX
  have HC2 := fun V => moved_any s.b.n s.b.d t Y V h3 h4 hY
  unfold rtV at HC1 HC2
  obtain ⟨Z, hZ⟩ : ∃ Z, stV (shiftS s t) = Z := ⟨_, rfl⟩
  rw [hZ]
  have HZ : Hid (Value.agg #[.int .i64 X, .int .i64 s.a.d, .int .i64 Y, .int .i64 s.b.d] = Z) := Lib.hid (by rw [← hZ, ← hX, ← hY]; rfl)
  clear hX hY hZ h1 h2 h3 h4
  have s0 := hS2.cell 0 _ rfl
  have s1 := hS2.cell 1 _ rfl
  have s2 := hS2.cell 2 _ rfl
  have s3 := hS2.cell 3 _ rfl
  go_enter Try.func60, Try.ntmps60
  go_upto_region 1 with fail
  generalize ((w.alloc (.cells #[.int .i64 s.a.n, .int .i64 s.a.d, .int .i64 s.b.n, .int .i64 s.b.d] 41)).alloc (.cells #[.int .i64 0, .int .i64 0, .int .i64 0, .int .i64 0] 41)) = w2 at *
  have D0 : Below w2.heap.size w2 w2.drew := (Below.refl _ _).drew
  have HSV : Hid (∀ V, Below w2.heap.size w2 V → (fun w' : World => w'.cell? ⟨w.heap.size, 0, none⟩ = some (.int .i64 s.a.n) ∧ w'.cell? ⟨w.heap.size, 1, none⟩ = some (.int .i64 s.a.d) ∧ w'.cell? ⟨w.heap.size, 2, none⟩ = some (.int .i64 s.b.n) ∧ w'.cell? ⟨w.heap.size, 3, none⟩ = some (.int .i64 s.b.d)) V) := Lib.hid (fun V hV => ⟨ext_of_below hV _ _ s0, ext_of_below hV _ _ s1, ext_of_below hV _ _ s2, ext_of_below hV _ _ s3⟩)
  have HRB := Lib.hid hR2
  have HAB := Lib.hid hA2
  clear s0 s1 s2 s3 hS2 hR2 hA2
  go_wp2_with fail
  refine wp_region_till (fun w' : World => w'.cell? ⟨w.heap.size, 0, none⟩ = some (.int .i64 s.a.n) ∧ w'.cell? ⟨w.heap.size, 1, none⟩ = some (.int .i64 s.a.d) ∧ w'.cell? ⟨w.heap.size, 2, none⟩ = some (.int .i64 s.b.n) ∧ w'.cell? ⟨w.heap.size, 3, none⟩ = some (.int .i64 s.b.d)) 9 (by kernel_rfl) (HSV.out _ D0) (fun hHeld => ?_)
  generalize w2.drew = wd at *
  refine Till.take 0 (some 5) (v := ?_) rfl rfl (by kernel_rfl) (by kernel_rfl) (by kernel_rfl) (by kernel_rfl) (fun _ _ _ h => h) (Or.inl ⟨by rfl, ?_⟩) (by assumption) ?_
  rotate_left
  · (intro w hSw; (try dsimp only at hSw); go_simp; try with_reducible rfl)
  try simp only [Act.put, List.setIfInBounds_toArray, List.set_cons_zero, List.set_cons_succ]
  refine Till.take 1 (some 6) (v := ?_) rfl rfl (by kernel_rfl) (by kernel_rfl) (by kernel_rfl) (by kernel_rfl) (fun _ _ _ h => h) (Or.inl ⟨by rfl, ?_⟩) (by assumption) ?_
  rotate_left
  · (intro w hSw; (try dsimp only at hSw); go_simp; try with_reducible rfl)
  try simp only [Act.put, List.setIfInBounds_toArray, List.set_cons_zero, List.set_cons_succ]
  refine Till.take 2 (some 7) (v := ?_) rfl rfl (by kernel_rfl) (by kernel_rfl) (by kernel_rfl) (by kernel_rfl) (fun _ _ _ h => h) (Or.inl ⟨by rfl, ?_⟩) (by assumption) ?_
  rotate_left
  · (intro w hSw; (try dsimp only at hSw); go_simp; try with_reducible rfl)
  try simp only [Act.put, List.setIfInBounds_toArray, List.set_cons_zero, List.set_cons_succ]
  refine Till.take 4 (some 9) (v := ?_) rfl rfl (by kernel_rfl) (by kernel_rfl) (by kernel_rfl) (by kernel_rfl) (fun _ _ _ h => h) (Or.inl ⟨by rfl, ?_⟩) (by assumption) ?_
  rotate_left
  · (intro w hSw; (try dsimp only at hSw); go_simp; try with_reducible rfl)
  try simp only [Act.put, List.setIfInBounds_toArray, List.set_cons_zero, List.set_cons_succ]
  refine Till.take 5 (some 10) (v := ?_) rfl rfl (by kernel_rfl) (by kernel_rfl) (by kernel_rfl) (by kernel_rfl) (fun _ _ _ h => h) (Or.inl ⟨by rfl, ?_⟩) (by assumption) ?_
  rotate_left
  · (intro w hSw; (try dsimp only at hSw); go_simp; try with_reducible rfl)
  try simp only [Act.put, List.setIfInBounds_toArray, List.set_cons_zero, List.set_cons_succ]
  refine Till.take 6 (some 11) (v := ?_) rfl rfl (by kernel_rfl) (by kernel_rfl) (by kernel_rfl) (by kernel_rfl) (fun _ _ _ h => h) (Or.inl ⟨by rfl, ?_⟩) (by assumption) ?_
  rotate_left
  · (intro w hSw; (try dsimp only at hSw); go_simp; try with_reducible rfl)
  try simp only [Act.put, List.setIfInBounds_toArray, List.set_cons_zero, List.set_cons_succ]
  refine Till.one 3 rfl (by kernel_rfl) (fun K hK => ?_)
  go_simp
  go_at_call 70
  refine (HC1 _).mono ?_
  rintro e v0 ⟨rfl, hb0⟩
  have D1 := D0.trans (hb0.mono D0.size)
  have hh0 := HSV.out _ D1
  refine hK.out _ _ (fun _ => hh0) (fun hHeld0 => ?_)
  clear hK K hb0
  try simp only [Act.put, List.setIfInBounds_toArray, List.set_cons_zero, List.set_cons_succ]
  refine Till.one 7 rfl (by kernel_rfl) (fun K hK => ?_)
  go_simp
  go_at_call 70
  refine (HC2 _).mono ?_
  rintro e v1 ⟨rfl, hb1⟩
  have D2 := D1.trans (hb1.mono D1.size)
  have hh1 := HSV.out _ D2
  refine hK.out _ _ (fun _ => hh1) (fun hHeld1 => ?_)
  clear hK K hb1
  try simp only [Act.put, List.setIfInBounds_toArray, List.set_cons_zero, List.set_cons_succ]
  refine Till.take 8 (some 13) (v := ?_) rfl rfl (by kernel_rfl) (by kernel_rfl) (by kernel_rfl) (by kernel_rfl) (fun _ _ _ h => h) (Or.inl ⟨by rfl, ?_⟩) (by assumption) ?_
  rotate_left
  · (intro w hSw; (try dsimp only at hSw); go_simp; try with_reducible rfl)
  try simp only [Act.put, List.setIfInBounds_toArray, List.set_cons_zero, List.set_cons_succ]
  have hr := HRB.out.below D2 HRB.out.lt
  have hA := HAB.out.trans (D2.mono HAB.out.size)
  obtain ⟨⟨r0, r1, r2, r3⟩, ⟨f0, f1, f2, f3⟩, HE, HB⟩ := store4Q hA hr (by omega) (.int .i64 X) (.int .i64 s.a.d) (.int .i64 Y) (.int .i64 s.b.d)
  clear HRB HAB hr hA HSV
  refine Till.one 9 rfl (by kernel_rfl) (fun K hK => ?_)
  go_simp
  refine hK.out _ _ (fun h => absurd rfl h) (fun _ => ?_)
  clear hK K
  refine Till.done (by kernel_rfl) ?_ _
  go_wp2
  have c0 := HB.out.cell 0 _ rfl
  have c1 := HB.out.cell 1 _ rfl
  have c2 := HB.out.cell 2 _ rfl
  have c3 := HB.out.cell 3 _ rfl
  have hE := HE.out
  clear HB HE r0 r1 r2 r3 f0 f1 f2 f3
  generalize ((((v1.setCell ⟨w.heap.size + 1, 0, none⟩ (.int .i64 X)).setCell ⟨w.heap.size + 1, 1, none⟩ (.int .i64 s.a.d)).setCell ⟨w.heap.size + 1, 2, none⟩ (.int .i64 Y)).setCell ⟨w.heap.size + 1, 3, none⟩ (.int .i64 s.b.d)) = WE at c0 c1 c2 c3 hE ⊢
  refine ⟨rfl, .agg #[.int .i64 X, .int .i64 s.a.d, .int .i64 Y, .int .i64 s.b.d], ?_, congrArg Ending.returned HZ.out, hE⟩
  simp [results, Try.results60, go_sem, c0, c1, c2, c3]


/-- how far two stretches are apart, in lowest terms. -/
def apartQ (x y : St) : Rt :=
  if x.b.n * y.a.d < y.a.n * x.b.d then mk (y.a.n * x.b.d - x.b.n * y.a.d) (y.a.d * x.b.d)
  else if y.b.n * x.a.d < x.a.n * y.b.d then mk (x.a.n * y.b.d - y.b.n * x.a.d) (x.a.d * y.b.d) else ⟨0, 1⟩
/-- sizes. -/
def RtB (r : Rt) : Prop := (-100000000000 ≤ r.n ∧ r.n ≤ 100000000000) ∧ (1 ≤ r.d ∧ r.d ≤ 1000000)
theorem rt_cross {r s : Rt} (hr : RtB r) (hs : RtB s) : (-100000000000000000 ≤ r.n * s.d ∧ r.n * s.d ≤ 100000000000000000) ∧ (1 ≤ r.d * s.d ∧ r.d * s.d ≤ 1000000000000) := by
  obtain ⟨h1, h2⟩ := hr
  obtain ⟨h3, h4⟩ := hs
  have m1 := bd_mul (a := r.n) (b := s.d) (A := 100000000000) (B := 1000000) (by omega) (by omega) (by omega)
  have m2 := bd_mul (a := r.d) (b := s.d) (A := 1000000) (B := 1000000) (by omega) (by omega) (by omega)
  have m3 := Int.mul_pos (show 0 < r.d by omega) (show 0 < s.d by omega)
  omega
theorem rt_num4 {r : Rt} (h : RtB r) : Num4 r.n ∧ Den4 r.d := by
  obtain ⟨h1, h2⟩ := h
  unfold Num4 Den4; omega

set_option maxHeartbeats 2000000 in
set_option maxRecDepth 100000 in
theorem apart_any (x y : St) (w : World) (hxa : RtB x.a) (hxb : RtB x.b) (hya : RtB y.a) (hyb : RtB y.b) :
    Calls Try.prog 59 #[.agg #[.int .i64 x.a.n, .int .i64 x.a.d, .int .i64 x.b.n, .int .i64 x.b.d], .agg #[.int .i64 y.a.n, .int .i64 y.a.d, .int .i64 y.b.n, .int .i64 y.b.d]] w fun e w' => e = .returned (rtV (apartQ x y)) ∧ Below w.heap.size w w' := by
  have hA3 : Below w.heap.size w (((w.alloc (.cells #[.int .i64 x.a.n, .int .i64 x.a.d, .int .i64 x.b.n, .int .i64 x.b.d] 41)).alloc (.cells #[.int .i64 y.a.n, .int .i64 y.a.d, .int .i64 y.b.n, .int .i64 y.b.d] 41)).alloc (.cells #[.int .i64 0, .int .i64 0] 24)) := ((below_box w _).alloc (by simp) _).alloc (by simp only [World.size_alloc]; omega) _
  have hX3 := ((Blk.new w #[.int .i64 x.a.n, .int .i64 x.a.d, .int .i64 x.b.n, .int .i64 x.b.d] 41).alloc (.cells #[.int .i64 y.a.n, .int .i64 y.a.d, .int .i64 y.b.n, .int .i64 y.b.d] 41)).alloc (.cells #[.int .i64 0, .int .i64 0] 24)
  have hY3 := (Blk.new (w.alloc (.cells #[.int .i64 x.a.n, .int .i64 x.a.d, .int .i64 x.b.n, .int .i64 x.b.d] 41)) #[.int .i64 y.a.n, .int .i64 y.a.d, .int .i64 y.b.n, .int .i64 y.b.d] 41).alloc (.cells #[.int .i64 0, .int .i64 0] 24)
  have hR3 := Blk.new ((w.alloc (.cells #[.int .i64 x.a.n, .int .i64 x.a.d, .int .i64 x.b.n, .int .i64 x.b.d] 41)).alloc (.cells #[.int .i64 y.a.n, .int .i64 y.a.d, .int .i64 y.b.n, .int .i64 y.b.d] 41)) #[.int .i64 0, .int .i64 0] 24
  simp only [World.size_alloc] at hY3 hR3
  have k1 := rt_cross hya hxb
  have k2 := rt_cross hxb hya
  have k3 := rt_cross hxa hyb
  have k4 := rt_cross hyb hxa
  have HL1 := fun V => rl_any x.b.n x.b.d y.a.n y.a.d V (rt_num4 hxb).1 (rt_num4 hxb).2 (rt_num4 hya).1 (rt_num4 hya).2
  have HL2 := fun V => rl_any y.b.n y.b.d x.a.n x.a.d V (rt_num4 hyb).1 (rt_num4 hyb).2 (rt_num4 hxa).1 (rt_num4 hxa).2
  obtain ⟨Z, hZ⟩ : ∃ Z, apartQ x y = Z := ⟨_, rfl⟩
  rw [hZ]
  obtain ⟨M1, hM1⟩ : ∃ M, mk (y.a.n * x.b.d - x.b.n * y.a.d) (y.a.d * x.b.d) = M := ⟨_, rfl⟩
  obtain ⟨M2, hM2⟩ : ∃ M, mk (x.a.n * y.b.d - y.b.n * x.a.d) (x.a.d * y.b.d) = M := ⟨_, rfl⟩
  have HM1 := fun V => rless_any y.a.n y.a.d x.b.n x.b.d _ _ V (by unfold I64; omega) (by unfold I64; omega) (by omega) (by omega) rfl rfl
  have HM2 := fun V => rless_any x.a.n x.a.d y.b.n y.b.d _ _ V (by unfold I64; omega) (by unfold I64; omega) (by omega) (by omega) rfl rfl
  rw [hM1] at HM1
  rw [hM2] at HM2
  unfold rtV at HM1 HM2
  have HW := fun V => rwhole_any 0 V
  unfold rtV at HW
  unfold apartQ at hZ
  rw [hM1, hM2] at hZ
  have x0 := hX3.cell 0 _ rfl
  have x1 := hX3.cell 1 _ rfl
  have x2 := hX3.cell 2 _ rfl
  have x3 := hX3.cell 3 _ rfl
  have y0 := hY3.cell 0 _ rfl
  have y1 := hY3.cell 1 _ rfl
  have y2 := hY3.cell 2 _ rfl
  have y3 := hY3.cell 3 _ rfl
  clear hM1 hM2 k1 k2 k3 k4 hxa hxb hya hyb
  generalize hp1 : decide (x.b.n * y.a.d < y.a.n * x.b.d) = p1 at *
  generalize hp2 : decide (y.b.n * x.a.d < x.a.n * y.b.d) = p2 at *
  have hZ1 : p1 = true → Z = M1 := fun h => by rw [← hZ, if_pos (of_decide_eq_true (hp1.trans h))]
  have hZ2 : p1 = false → p2 = true → Z = M2 := fun h g => by rw [← hZ, if_neg (of_decide_eq_false (hp1.trans h)), if_pos (of_decide_eq_true (hp2.trans g))]
  have hZ3 : p1 = false → p2 = false → Z = ⟨0, 1⟩ := fun h g => by rw [← hZ, if_neg (of_decide_eq_false (hp1.trans h)), if_neg (of_decide_eq_false (hp2.trans g))]
  have HZ1 := Lib.hid hZ1
  have HZ2 := Lib.hid hZ2
  have HZ3 := Lib.hid hZ3
  have HX := Lib.hid hX3
  have HY := Lib.hid hY3
  have HRB := Lib.hid hR3
  have HAB := Lib.hid hA3
  clear hZ hZ1 hZ2 hZ3 hp1 hp2 hX3 hY3 hR3 hA3
  go_enter Try.func59, Try.ntmps59
  go_wp2_with fail
  refine (HL1 _).mono ?_
  rintro e w4 ⟨rfl, hb4⟩
  have hA4 := HAB.out.trans (hb4.mono HAB.out.size)
  have hX4 := HX.out.below hb4 HX.out.lt
  have hY4 := HY.out.below hb4 HY.out.lt
  have hR4 := HRB.out.below hb4 HRB.out.lt
  clear HL1 x0 x1 x2 x3 y0 y1 y2 y3 HX HY HRB HAB hb4
  have x0 := hX4.cell 0 _ rfl
  have x1 := hX4.cell 1 _ rfl
  have x2 := hX4.cell 2 _ rfl
  have x3 := hX4.cell 3 _ rfl
  have y0 := hY4.cell 0 _ rfl
  have y1 := hY4.cell 1 _ rfl
  have y2 := hY4.cell 2 _ rfl
  have y3 := hY4.cell 3 _ rfl
  cases p1 with
  | true =>
    have hz := HZ1.out rfl
    subst hz
    have HZ : Hid (rtV Z = rtV Z) := Lib.hid rfl
    unfold rtV at HZ
    clear HZ1 HZ2 HZ3 HL2 HM2 HW hX4 hY4
    have HAB := Lib.hid hA4
    have HRB := Lib.hid hR4
    clear hA4 hR4
    go_wp2_with fail
    refine (HM1 _).mono ?_
    rintro e w5 ⟨rfl, hb5⟩
    obtain ⟨r0, r1, f0, f1, HE, C0, C1⟩ := store2 HAB.out HRB.out (by omega) hb5 (.int .i64 Z.n) (.int .i64 Z.d)
    clear HM1 HAB HRB hb5 x0 x1 x2 x3 y0 y1 y2 y3
    go_wp2
    have c0 := C0.out
    have c1 := C1.out
    have hE := HE.out
    clear C0 C1 HE r0 r1 f0 f1
    generalize ((w5.setCell ⟨w.heap.size + 1 + 1, 0, none⟩ (.int .i64 Z.n)).setCell ⟨w.heap.size + 1 + 1, 1, none⟩ (.int .i64 Z.d)) = WE at c0 c1 hE ⊢
    refine ⟨rfl, .agg #[.int .i64 Z.n, .int .i64 Z.d], ?_, rfl, hE⟩
    simp [results, Try.results59, go_sem, c0, c1]
  | false =>
    replace HZ2 := Lib.hid (HZ2.out rfl)
    replace HZ3 := Lib.hid (HZ3.out rfl)
    have HX := Lib.hid hX4
    have HY := Lib.hid hY4
    have HAB := Lib.hid hA4
    have HRB := Lib.hid hR4
    clear HZ1 HM1 hX4 hY4 hA4 hR4
    go_wp2_with fail
    refine (HL2 _).mono ?_
    rintro e w5 ⟨rfl, hb5⟩
    have hA5 := HAB.out.trans (hb5.mono HAB.out.size)
    have hX5 := HX.out.below hb5 HX.out.lt
    have hY5 := HY.out.below hb5 HY.out.lt
    have hR5 := HRB.out.below hb5 HRB.out.lt
    clear HL2 x0 x1 x2 x3 y0 y1 y2 y3 HX HY HRB HAB hb5
    have x0 := hX5.cell 0 _ rfl
    have x1 := hX5.cell 1 _ rfl
    have x2 := hX5.cell 2 _ rfl
    have x3 := hX5.cell 3 _ rfl
    have y0 := hY5.cell 0 _ rfl
    have y1 := hY5.cell 1 _ rfl
    have y2 := hY5.cell 2 _ rfl
    have y3 := hY5.cell 3 _ rfl
    have HAB := Lib.hid hA5
    have HRB := Lib.hid hR5
    clear hA5 hR5 hX5 hY5
    cases p2 with
    | true =>
      have hz := HZ2.out rfl
      subst hz
      have HZ : Hid (rtV Z = rtV Z) := Lib.hid rfl
      unfold rtV at HZ
      clear HZ2 HZ3 HW
      go_wp2_with fail
      refine (HM2 _).mono ?_
      rintro e w6 ⟨rfl, hb6⟩
      obtain ⟨r0, r1, f0, f1, HE, C0, C1⟩ := store2 HAB.out HRB.out (by omega) hb6 (.int .i64 Z.n) (.int .i64 Z.d)
      clear HM2 HAB HRB hb6 x0 x1 x2 x3 y0 y1 y2 y3
      go_wp2
      have c0 := C0.out
      have c1 := C1.out
      have hE := HE.out
      clear C0 C1 HE r0 r1 f0 f1
      generalize ((w6.setCell ⟨w.heap.size + 1 + 1, 0, none⟩ (.int .i64 Z.n)).setCell ⟨w.heap.size + 1 + 1, 1, none⟩ (.int .i64 Z.d)) = WE at c0 c1 hE ⊢
      refine ⟨rfl, .agg #[.int .i64 Z.n, .int .i64 Z.d], ?_, rfl, hE⟩
      simp [results, Try.results59, go_sem, c0, c1]
    | false =>
      have hz := HZ3.out rfl
      subst hz
      have HZ : Hid (rtV ⟨0, 1⟩ = rtV ⟨0, 1⟩) := Lib.hid rfl
      unfold rtV at HZ
      clear HZ2 HZ3 HM2
      go_wp2_with fail
      refine (HW _).mono ?_
      rintro e w6 ⟨rfl, hb6⟩
      obtain ⟨r0, r1, f0, f1, HE, C0, C1⟩ := store2 HAB.out HRB.out (by omega) hb6 (.int .i64 0) (.int .i64 1)
      clear HW HAB HRB hb6 x0 x1 x2 x3 y0 y1 y2 y3
      go_wp2
      have c0 := C0.out
      have c1 := C1.out
      have hE := HE.out
      clear C0 C1 HE r0 r1 f0 f1
      generalize ((w6.setCell ⟨w.heap.size + 1 + 1, 0, none⟩ (.int .i64 0)).setCell ⟨w.heap.size + 1 + 1, 1, none⟩ (.int .i64 1)) = WE at c0 c1 hE ⊢
      refine ⟨rfl, .agg #[.int .i64 0, .int .i64 1], ?_, rfl, hE⟩
      simp [results, Try.results59, go_sem, c0, c1]

end Go.Proofs.Ytnldenjdbgfgmaa
