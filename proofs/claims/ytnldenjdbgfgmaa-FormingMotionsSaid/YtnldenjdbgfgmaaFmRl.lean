/- Less, lowest and apart of the specification; no statement is proved here. -/
import Derived.Test.YtnldenjdbgfgmaaFmRo
import Derived.Test.YtnldenjdbgfgmaaFmDist
namespace Go.Proofs.Ytnldenjdbgfgmaa
open Go.RowKit Go.PlainAid
set_option linter.unusedVariables false
set_option linter.unusedSimpArgs false

set_option maxRecDepth 100000 in
theorem rl_any (a b c d : Int) (w : World) (ha : Num4 a) (hb : Den4 b) (hc : Num4 c) (hd : Den4 d) :
    Calls Try.prog 16 #[.agg #[.int .i64 a, .int .i64 b], .agg #[.int .i64 c, .int .i64 d]] w fun e w' => e = .returned (.bool (decide (a * d < c * b))) ∧ Below w.heap.size w w' := by
  have hA : Below w.heap.size w ((w.alloc (.cells #[.int .i64 a, .int .i64 b] 24)).alloc (.cells #[.int .i64 c, .int .i64 d] 24)) := (below_box w _).alloc (by simp) _
  have hP := (Blk.new w #[.int .i64 a, .int .i64 b] 24).alloc (.cells #[.int .i64 c, .int .i64 d] 24)
  have hQ := Blk.new (w.alloc (.cells #[.int .i64 a, .int .i64 b] 24)) #[.int .i64 c, .int .i64 d] 24
  simp only [World.size_alloc] at hQ
  have p0 := hP.cell 0 _ rfl
  have p1 := hP.cell 1 _ rfl
  have q0 := hQ.cell 0 _ rfl
  have q1 := hQ.cell 1 _ rfl
  have HO := fun V => order_any (b + d).toNat a b c d V ha hb hc hd (by have := hb.1; have := hd.1; omega)
  have hcm : decide (cmpI (a * d) (c * b) < 0) = decide (a * d < c * b) := by
    refine decide_eq_decide.2 ?_
    unfold cmpI; split <;> (try split) <;> omega
  generalize cmpI (a * d) (c * b) = R at *
  obtain ⟨Z, hZ⟩ : ∃ Z, decide (a * d < c * b) = Z := ⟨_, rfl⟩
  rw [hZ] at hcm ⊢
  have HZ := Lib.hid hcm
  clear hcm hZ
  have HA := Lib.hid hA
  clear hA hP hQ
  go_enter Try.func16, Try.ntmps16
  go_wp2_with fail
  refine (HO _).mono ?_
  rintro e w3 ⟨rfl, hb3⟩
  have HE := Lib.hid (HA.out.trans (hb3.mono HA.out.size))
  clear HA HO hb3 p0 p1 q0 q1
  go_wp2
  go_ret
  exact ⟨ret_bool HZ.out, HE.out⟩

def LowR (a b : Int) : Prop := (1 ≤ b ∧ b ≤ 1000000) ∧ (-1000000000000000 ≤ a ∧ a ≤ 1000000000000000) ∧ gI a b = 1
instance (a b : Int) : Decidable (LowR a b) := by unfold LowR; infer_instance

set_option maxHeartbeats 1000000 in
set_option maxRecDepth 100000 in
theorem rlow_any (a b : Int) (w : World) (ha : I64 a) :
    Calls Try.prog 29 #[.agg #[.int .i64 a, .int .i64 b]] w fun e w' => e = .returned (.bool (decide (LowR a b))) ∧ Below w.heap.size w w' := by
  have hA := below_box w (.cells #[.int .i64 a, .int .i64 b] 24)
  have hP := Blk.new w #[.int .i64 a, .int .i64 b] 24
  have p0 := hP.cell 0 _ rfl
  have p1 := hP.cell 1 _ rfl
  have HD1 : -a ≤ a → a ≤ 1000000000000000 → 1 ≤ b → b ≤ 1000000 → ∀ V, Calls Try.prog 43 #[.int .i64 a, .int .i64 b] V fun e w' => e = .returned (.int .i64 (gI a b)) ∧ Below V.heap.size V w' := fun h h1 h2 h3 V => rdivisor_any a b V (by omega) (by omega)
  have HD2 : ¬ -a ≤ a → -1000000000000000 ≤ a → 1 ≤ b → b ≤ 1000000 → ∀ V, Calls Try.prog 43 #[.int .i64 (-a), .int .i64 b] V fun e w' => e = .returned (.int .i64 (gI a b)) ∧ Below V.heap.size V w' := fun h h1 h2 h3 V => by
    have := rdivisor_any (-a) b V (by omega) (by omega)
    rwa [gI_neg_l] at this
  have HA := Lib.hid hA
  clear hA hP
  go_enter Try.func29, Try.ntmps29
  by_cases h1 : 1 ≤ b
  case neg =>
    have HF := Lib.hid (show decide (LowR a b) = false from decide_eq_false (fun x => h1 x.1.1))
    clear HD1 HD2
    go_wp2
    all_goals (go_ret; exact ⟨ret_bool HF.out.symm, HA.out⟩)
  by_cases h2 : b ≤ 1000000
  case neg =>
    have HF := Lib.hid (show decide (LowR a b) = false from decide_eq_false (fun x => h2 x.1.2))
    clear HD1 HD2
    go_wp2
    all_goals (go_ret; exact ⟨ret_bool HF.out.symm, HA.out⟩)
  by_cases h3 : -1000000000000000 ≤ a
  case neg =>
    have HF := Lib.hid (show decide (LowR a b) = false from decide_eq_false (fun x => h3 x.2.1.1))
    clear HD1 HD2
    go_wp2
    all_goals (go_ret; exact ⟨ret_bool HF.out.symm, HA.out⟩)
  by_cases h4 : a ≤ 1000000000000000
  case neg =>
    have HF := Lib.hid (show decide (LowR a b) = false from decide_eq_false (fun x => h4 x.2.1.2))
    clear HD1 HD2
    go_wp2
    all_goals (go_ret; exact ⟨ret_bool HF.out.symm, HA.out⟩)
  have z0 : wrap64 (-a) = -a := wrap_id _ (by unfold I64; omega)
  have z0' := IntWalk.i64_in (-a) (by omega)
  have HG : Hid (LowR a b ↔ gI a b = 1) := Lib.hid ⟨fun x => x.2.2, fun x => ⟨⟨h1, h2⟩, ⟨h3, h4⟩, x⟩⟩
  have hgb := gI_pos a (show b ≠ 0 by omega)
  have hgl := gI_le a (show 0 < b by omega)
  by_cases hc : -a ≤ a
  · replace HD1 := HD1 hc h4 h1 h2
    clear HD2
    generalize gI a b = g at *
    go_wp2_with fail
    refine (HD1 _).mono ?_
    rintro e w3 ⟨rfl, hb3⟩
    have HE := Lib.hid (HA.out.trans (hb3.mono HA.out.size))
    clear HA HD1 hb3 p0 p1
    by_cases hg : g = 1
    · have HF := Lib.hid (show decide (LowR a b) = true from decide_eq_true (HG.out.2 hg))
      clear HG
      go_wp2
      all_goals (go_ret; exact ⟨ret_bool (by first | exact HF.out.symm | (rw [HF.out]; simp [hg])), HE.out⟩)
    · have HF := Lib.hid (show decide (LowR a b) = false from decide_eq_false (fun x => hg (HG.out.1 x)))
      clear HG
      go_wp2
      all_goals (go_ret; exact ⟨ret_bool (by first | exact HF.out.symm | (rw [HF.out]; simp [hg])), HE.out⟩)
  · replace HD2 := HD2 hc h3 h1 h2
    clear HD1
    generalize gI a b = g at *
    go_wp2_with fail
    refine (HD2 _).mono ?_
    rintro e w3 ⟨rfl, hb3⟩
    have HE := Lib.hid (HA.out.trans (hb3.mono HA.out.size))
    clear HA HD2 hb3 p0 p1
    by_cases hg : g = 1
    · have HF := Lib.hid (show decide (LowR a b) = true from decide_eq_true (HG.out.2 hg))
      clear HG
      go_wp2
      all_goals (go_ret; exact ⟨ret_bool (by first | exact HF.out.symm | (rw [HF.out]; simp [hg])), HE.out⟩)
    · have HF := Lib.hid (show decide (LowR a b) = false from decide_eq_false (fun x => hg (HG.out.1 x)))
      clear HG
      go_wp2
      all_goals (go_ret; exact ⟨ret_bool (by first | exact HF.out.symm | (rw [HF.out]; simp [hg])), HE.out⟩)


set_option maxRecDepth 100000 in
theorem rlater_any (a b c d : Int) (w : World) (ha : Num4 a) (hb : Den4 b) (hc : Num4 c) (hd : Den4 d) :
    Calls Try.prog 63 #[.agg #[.int .i64 a, .int .i64 b], .agg #[.int .i64 c, .int .i64 d]] w fun e w' => e = .returned (rtV (if a * d < c * b then ⟨c, d⟩ else ⟨a, b⟩)) ∧ Below w.heap.size w w' := by
  have hA : Below w.heap.size w (((w.alloc (.cells #[.int .i64 a, .int .i64 b] 24)).alloc (.cells #[.int .i64 c, .int .i64 d] 24)).alloc (.cells #[.int .i64 0, .int .i64 0] 24)) := ((below_box w _).alloc (by simp) _).alloc (by simp only [World.size_alloc]; omega) _
  have hP := ((Blk.new w #[.int .i64 a, .int .i64 b] 24).alloc (.cells #[.int .i64 c, .int .i64 d] 24)).alloc (.cells #[.int .i64 0, .int .i64 0] 24)
  have hQ := (Blk.new (w.alloc (.cells #[.int .i64 a, .int .i64 b] 24)) #[.int .i64 c, .int .i64 d] 24).alloc (.cells #[.int .i64 0, .int .i64 0] 24)
  have hR := Blk.new ((w.alloc (.cells #[.int .i64 a, .int .i64 b] 24)).alloc (.cells #[.int .i64 c, .int .i64 d] 24)) #[.int .i64 0, .int .i64 0] 24
  simp only [World.size_alloc] at hQ hR
  have p0 := hP.cell 0 _ rfl
  have p1 := hP.cell 1 _ rfl
  have q0 := hQ.cell 0 _ rfl
  have q1 := hQ.cell 1 _ rfl
  have HL := fun V => rl_any a b c d V ha hb hc hd
  obtain ⟨Z, hZ⟩ : ∃ Z : Rt, (if a * d < c * b then ⟨c, d⟩ else ⟨a, b⟩) = Z := ⟨_, rfl⟩
  rw [hZ]
  have HZ := Lib.hid hZ
  clear hZ
  have HA := Lib.hid hA
  have HP := Lib.hid hP
  have HQ := Lib.hid hQ
  have HR := Lib.hid hR
  clear hA hP hQ hR
  go_enter Try.func63, Try.ntmps63
  go_wp2_with fail
  refine (HL _).mono ?_
  rintro e w3 ⟨rfl, hb3⟩
  clear HL p0 p1 q0 q1
  have hP3 := HP.out.below hb3 HP.out.lt
  have hQ3 := HQ.out.below hb3 HQ.out.lt
  have p0 := hP3.cell 0 _ rfl
  have p1 := hP3.cell 1 _ rfl
  have q0 := hQ3.cell 0 _ rfl
  have q1 := hQ3.cell 1 _ rfl
  clear hP3 hQ3
  by_cases h : a * d < c * b
  · have hz := HZ.out
    rw [if_pos h] at hz
    rw [decide_eq_true h]
    subst hz
    clear h HZ
    obtain ⟨r0, r1, f0, f1, HE, C0, C1⟩ := store2 HA.out HR.out (by omega) hb3 (.int .i64 c) (.int .i64 d)
    clear HA HR HP HQ hb3
    go_wp2
    have c0 := C0.out
    have c1 := C1.out
    have hE := HE.out
    clear C0 C1 HE r0 r1 f0 f1
    generalize ((w3.setCell ⟨w.heap.size + 1 + 1, 0, none⟩ (.int .i64 c)).setCell ⟨w.heap.size + 1 + 1, 1, none⟩ (.int .i64 d)) = WE at c0 c1 hE ⊢
    refine ⟨rfl, .agg #[.int .i64 c, .int .i64 d], ?_, rfl, hE⟩
    simp [results, Try.results63, go_sem, c0, c1]
  · have hz := HZ.out
    rw [if_neg h] at hz
    rw [decide_eq_false h]
    subst hz
    clear h HZ
    obtain ⟨r0, r1, f0, f1, HE, C0, C1⟩ := store2 HA.out HR.out (by omega) hb3 (.int .i64 a) (.int .i64 b)
    clear HA HR HP HQ hb3
    go_wp2
    have c0 := C0.out
    have c1 := C1.out
    have hE := HE.out
    clear C0 C1 HE r0 r1 f0 f1
    generalize ((w3.setCell ⟨w.heap.size + 1 + 1, 0, none⟩ (.int .i64 a)).setCell ⟨w.heap.size + 1 + 1, 1, none⟩ (.int .i64 b)) = WE at c0 c1 hE ⊢
    refine ⟨rfl, .agg #[.int .i64 a, .int .i64 b], ?_, rfl, hE⟩
    simp [results, Try.results63, go_sem, c0, c1]


set_option maxRecDepth 100000 in
theorem rsooner_any (a b c d : Int) (w : World) (ha : Num4 a) (hb : Den4 b) (hc : Num4 c) (hd : Den4 d) :
    Calls Try.prog 64 #[.agg #[.int .i64 a, .int .i64 b], .agg #[.int .i64 c, .int .i64 d]] w fun e w' => e = .returned (rtV (if a * d < c * b then ⟨a, b⟩ else ⟨c, d⟩)) ∧ Below w.heap.size w w' := by
  have hA : Below w.heap.size w (((w.alloc (.cells #[.int .i64 a, .int .i64 b] 24)).alloc (.cells #[.int .i64 c, .int .i64 d] 24)).alloc (.cells #[.int .i64 0, .int .i64 0] 24)) := ((below_box w _).alloc (by simp) _).alloc (by simp only [World.size_alloc]; omega) _
  have hP := ((Blk.new w #[.int .i64 a, .int .i64 b] 24).alloc (.cells #[.int .i64 c, .int .i64 d] 24)).alloc (.cells #[.int .i64 0, .int .i64 0] 24)
  have hQ := (Blk.new (w.alloc (.cells #[.int .i64 a, .int .i64 b] 24)) #[.int .i64 c, .int .i64 d] 24).alloc (.cells #[.int .i64 0, .int .i64 0] 24)
  have hR := Blk.new ((w.alloc (.cells #[.int .i64 a, .int .i64 b] 24)).alloc (.cells #[.int .i64 c, .int .i64 d] 24)) #[.int .i64 0, .int .i64 0] 24
  simp only [World.size_alloc] at hQ hR
  have p0 := hP.cell 0 _ rfl
  have p1 := hP.cell 1 _ rfl
  have q0 := hQ.cell 0 _ rfl
  have q1 := hQ.cell 1 _ rfl
  have HL := fun V => rl_any a b c d V ha hb hc hd
  obtain ⟨Z, hZ⟩ : ∃ Z : Rt, (if a * d < c * b then ⟨a, b⟩ else ⟨c, d⟩) = Z := ⟨_, rfl⟩
  rw [hZ]
  have HZ := Lib.hid hZ
  clear hZ
  have HA := Lib.hid hA
  have HP := Lib.hid hP
  have HQ := Lib.hid hQ
  have HR := Lib.hid hR
  clear hA hP hQ hR
  go_enter Try.func64, Try.ntmps64
  go_wp2_with fail
  refine (HL _).mono ?_
  rintro e w3 ⟨rfl, hb3⟩
  clear HL p0 p1 q0 q1
  have hP3 := HP.out.below hb3 HP.out.lt
  have hQ3 := HQ.out.below hb3 HQ.out.lt
  have p0 := hP3.cell 0 _ rfl
  have p1 := hP3.cell 1 _ rfl
  have q0 := hQ3.cell 0 _ rfl
  have q1 := hQ3.cell 1 _ rfl
  clear hP3 hQ3
  by_cases h : a * d < c * b
  · have hz := HZ.out
    rw [if_pos h] at hz
    rw [decide_eq_true h]
    subst hz
    clear h HZ
    obtain ⟨r0, r1, f0, f1, HE, C0, C1⟩ := store2 HA.out HR.out (by omega) hb3 (.int .i64 a) (.int .i64 b)
    clear HA HR HP HQ hb3
    go_wp2
    have c0 := C0.out
    have c1 := C1.out
    have hE := HE.out
    clear C0 C1 HE r0 r1 f0 f1
    generalize ((w3.setCell ⟨w.heap.size + 1 + 1, 0, none⟩ (.int .i64 a)).setCell ⟨w.heap.size + 1 + 1, 1, none⟩ (.int .i64 b)) = WE at c0 c1 hE ⊢
    refine ⟨rfl, .agg #[.int .i64 a, .int .i64 b], ?_, rfl, hE⟩
    simp [results, Try.results64, go_sem, c0, c1]
  · have hz := HZ.out
    rw [if_neg h] at hz
    rw [decide_eq_false h]
    subst hz
    clear h HZ
    obtain ⟨r0, r1, f0, f1, HE, C0, C1⟩ := store2 HA.out HR.out (by omega) hb3 (.int .i64 c) (.int .i64 d)
    clear HA HR HP HQ hb3
    go_wp2
    have c0 := C0.out
    have c1 := C1.out
    have hE := HE.out
    clear C0 C1 HE r0 r1 f0 f1
    generalize ((w3.setCell ⟨w.heap.size + 1 + 1, 0, none⟩ (.int .i64 c)).setCell ⟨w.heap.size + 1 + 1, 1, none⟩ (.int .i64 d)) = WE at c0 c1 hE ⊢
    refine ⟨rfl, .agg #[.int .i64 c, .int .i64 d], ?_, rfl, hE⟩
    simp [results, Try.results64, go_sem, c0, c1]

end Go.Proofs.Ytnldenjdbgfgmaa
