/- Whether a lehr may be: it goes wrong with its first error; no statement is proved here. -/
import Derived.Test.YtaldpalhckdcdaaGreatDoorLeIt0
import Derived.Test.YtaldpalhckdcdaaGreatDoorTillF
namespace Go.Proofs.YtaldpalhckdcdaaGreatDoor
open Go.RowKit Go.PlainAid
set_option linter.unusedVariables false
set_option linter.unusedSimpArgs false
attribute [local go_sem] Oper.semAt_some fp_round fp_depth
theorem fp_needLehr : Fp.fn 48 := ⟨_, Tryz.func48⟩
theorem fp_needTemps : Fp.fn 44 := ⟨_, Tryz.func44⟩
def AllOk (ks : List Sp) (k : Nat) : Prop := ∀ i, i < k → kOk ks i = true
theorem checkL_knees {l : Lr} (h1 : ¬ 24 < l.knees.length) (h2 : ¬ l.knees.length < 2) (h3 : (kn l.knees 0).lo = 0) (h4 : allK l.knees = false) : checkL l = 1 := by
  unfold checkL
  rw [if_neg h1, if_neg h2, if_neg (by simp [h3]), if_pos h4]
theorem checkL_fac {l : Lr} (h1 : ¬ 24 < l.knees.length) (h2 : ¬ l.knees.length < 2) (h3 : (kn l.knees 0).lo = 0) (h4 : allK l.knees = true) : checkL l = if btw l.factor 0 10000 = false then 1 else 0 := by
  unfold checkL
  rw [if_neg h1, if_neg h2, if_neg (by simp [h3]), if_neg (by rw [h4]; decide)]

set_option maxHeartbeats 4000000 in
set_option maxRecDepth 100000 in
theorem needLehr_in (vl : Value) (l : Lr) (w : World) (n : Nat) (h : RLr w vl l) : CallsIn Fp n Tryz.prog 48 #[vl] w (Need w (checkL l)) := by
  obtain ⟨v0, rfl, hr, i1⟩ := h
  obtain ⟨a, cap, rfl, hc1, ⟨hc2, hm⟩, hl⟩ := hr
  have hA := below_boxS w (.cells #[.slice a l.knees.length cap, .int .i64 l.factor] 44)
  have hB := Blk.new w #[.slice a l.knees.length cap, .int .i64 l.factor] 44
  have hro : Fp.round = none := rfl
  have c0 := hB.cell 0 _ rfl
  have c1 := hB.cell 1 _ rfl
  refine callsIn_of_wp Tryz.func48 rfl fp_needLehr ?_ rfl
  simp only [Tryz.ntmps48, List.size_toArray, List.length_cons, List.length_nil, Nat.reduceAdd, Nat.reduceSub, Array.replicate_succ, Array.replicate_zero, List.push_toArray, List.append_toArray, List.nil_append, List.cons_append]
  by_cases h24 : 24 < l.knees.length
  · have hq : decide ((l.knees.length : Int) ≤ 24) = false := decide_eq_false (by omega)
    have hc := Lib.hid (show checkL l = 3 by simp [checkL, h24])
    clear hl h24
    gi_wp2_with fail
    refine ⟨fp_need, ?_⟩
    refine (need_no 3 _ _).mono ?_
    rintro e w' ⟨rfl, rfl⟩
    exact ⟨rfl, .inr ⟨by rw [hc.out]; decide, by rw [hc.out]⟩, hA⟩
  have hq : decide ((l.knees.length : Int) ≤ 24) = true := decide_eq_true (by omega)
  gi_wp2_with fail
  refine ⟨fp_need, ?_⟩
  refine (need_ok 3 _ _).mono ?_
  rintro e w' ⟨rfl, rfl⟩
  clear hq
  by_cases h2 : l.knees.length < 2
  · have hq : decide ((2 : Int) ≤ (l.knees.length : Int)) = false := decide_eq_false (by omega)
    have hc := Lib.hid (show checkL l = 1 by simp [checkL, h24, h2])
    clear hl h2
    gi_wp2_with fail
    refine ⟨fp_need, ?_⟩
    refine (need_no 1 _ _).mono ?_
    rintro e w' ⟨rfl, rfl⟩
    exact ⟨rfl, .inr ⟨by rw [hc.out]; decide, by rw [hc.out]⟩, hA⟩
  have hq : decide ((2 : Int) ≤ (l.knees.length : Int)) = true := decide_eq_true (by omega)
  gi_wp2_with fail
  refine ⟨fp_need, ?_⟩
  refine (need_ok 1 _ _).mono ?_
  rintro e w' ⟨rfl, rfl⟩
  clear hq
  obtain ⟨ab, ao, rfl, q1, q2, -⟩ := hl 0 (by omega)
  have hz0 : (kn l.knees 0).lo = (l.knees[0]'(by omega)).lo := by rw [kn_eq]
  have j1 := ext_of_below hA _ _ q1
  simp only [Nat.zero_mul, Nat.add_zero] at j1
  have i0 : (0 : Int) < (l.knees.length : Int) := by omega
  by_cases h0 : (kn l.knees 0).lo = 0
  case neg =>
    have hq : ((l.knees[0]'(by omega)).lo == 0) = false := by rw [← hz0]; simpa using h0
    have hc := Lib.hid (show checkL l = 1 by simp [checkL, h24, h2, h0])
    generalize (l.knees[0]'_).lo = z at *
    clear hl h0 q1 q2 hz0
    gi_wp2_with fail
    refine ⟨fp_need, ?_⟩
    refine (need_no 1 _ _).mono ?_
    rintro e w' ⟨rfl, rfl⟩
    exact ⟨rfl, .inr ⟨by rw [hc.out]; decide, by rw [hc.out]⟩, hA⟩
  have hq : (l.knees[0]'(by omega)).lo = 0 := by rw [← hz0]; exact h0
  rw [hq] at j1
  clear hq q1 q2 hz0
  gi_wp2_with fail
  refine ⟨fp_need, ?_⟩
  refine (need_ok 1 _ _).mono ?_
  rintro e w' ⟨rfl, rfl⟩
  have H24 := Lib.hid h24
  have H2 := Lib.hid h2
  have H0 := Lib.hid h0
  clear j1 h0
  gi_wp2_with fail
  generalize w.alloc (.cells #[.slice (some ⟨ab, ao, none⟩) l.knees.length cap, .int .i64 l.factor] 44) = W0 at *
  gi_loopw [24] (fun i wr => ∃ (k : Nat), k ≤ l.knees.length ∧ i = .int .i64 k ∧ Hid (AllOk l.knees k) ∧ Below W0.heap.size W0 wr) (fun i _ => l.knees.length - (intOf i).toNat)
  case atStart => exact ⟨0, Nat.zero_le _, rfl, fun j h => absurd h (by omega), Below.refl _ _⟩
  case round =>
    obtain ⟨k, hk, rfl, hall, hb⟩ := hrel
    have hBr := hB.below hb hB.lt
    have hAr := hA.trans (hb.mono hA.size)
    clear c0 c1
    by_cases hlt : k < l.knees.length
    · obtain ⟨b1, o1, he1, q1, q2, -⟩ := hl k hlt
      cases he1
      have hkq := kn_eq hlt
      have hxl := fun (hk0 : k ≠ 0) => hl (k - 1) (by omega)
      have hyq := fun (hk0 : k ≠ 0) => kn_eq (ks := l.knees) (i := k - 1) (by omega)
      have hno : kOk l.knees k = false → checkL l = 1 := fun h => checkL_knees H24.out H2.out H0.out (allK_false hlt h)
      have hyes : kOk l.knees k = true → AllOk l.knees (k + 1) := fun h i hi => by
        by_cases e : i = k
        · rw [e]; exact h
        · exact hall.out i (by omega)
      have hdef : kOk l.knees k = ((decide (k = 0) || decide ((kn l.knees (k - 1)).lo < (kn l.knees k).lo)) && decide ((kn l.knees k).lo ≤ 2000) && btw (kn l.knees k).hi 0 10000) := rfl
      rw [← hkq] at q1 q2
      generalize kn l.knees k = y at *
      have y0 := ext_of_below hAr _ _ q1
      have y1 := ext_of_below hAr _ _ q2
      have e0 := hBr.cell 0 _ rfl
      have e1 := hBr.cell 1 _ rfl
      have i3 : (0 : Int) ≤ (k : Int) := Int.natCast_nonneg _
      have i4 : (k : Int) < (l.knees.length : Int) := by omega
      have hX := Blk.new wr #[.int .i64 y.lo, .int .i64 y.hi] 65
      have hbX : Below W0.heap.size W0 (wr.alloc (.cells #[.int .i64 y.lo, .int .i64 y.hi] 65)) := hb.alloc hb.size _
      have hAX : Below w.heap.size w (wr.alloc (.cells #[.int .i64 y.lo, .int .i64 y.hi] 65)) := hAr.alloc hAr.size _
      have hBX := hBr.alloc (.cells #[.int .i64 y.lo, .int .i64 y.hi] 65)
      have HNO := Lib.hid hno
      have HYES := Lib.hid hyes
      have HDEF := Lib.hid hdef
      have HXL := Lib.hid hxl
      have HYQ := Lib.hid hyq
      clear hl hno hyes hdef hxl hyq hkq q1 q2 hBr hAr hb hB hA
      gi_wp2_with fail
      generalize wr.alloc (.cells #[.int .i64 y.lo, .int .i64 y.hi] 65) = V0 at *
      have v0 := hX.cell 0 _ rfl
      have v1 := hX.cell 1 _ rfl
      have f0 := hBX.cell 0 _ rfl
      clear y0 y1 e0 e1
      have D0 : Below V0.heap.size V0 V0.drew := (Below.refl _ _).drew
      by_cases hk0 : k = 0
      · subst hk0
        have hone : (decide (0 = 0) || decide ((kn l.knees (0 - 1)).lo < y.lo)) = true := by simp
        refine wpIn_region_tillF (fun w' : World => w'.cell? ⟨wr.heap.size, 0, none⟩ = some (.int .i64 y.lo) ∧ w'.cell? ⟨wr.heap.size, 1, none⟩ = some (.int .i64 y.hi)) 15 (by kernel_rfl) ⟨v0, v1⟩ (fun hHeld => ?_)
        refine TillF.take 0 (some 29) (v := ?_) hro rfl rfl (by kernel_rfl) (by kernel_rfl) (by kernel_rfl) (by kernel_rfl) (fun _ _ _ h => h) (Or.inl ⟨by rfl, ?_⟩) (fun _ => rfl) (by assumption) ?_
        rotate_left
        · (intro w hSw; (try dsimp only at hSw); go_simp; try with_reducible rfl)
        try simp only [Act.put, List.setIfInBounds_toArray, List.set_cons_zero, List.set_cons_succ]
        refine TillF.take 1 (some 30) (v := ?_) hro rfl rfl (by kernel_rfl) (by kernel_rfl) (by kernel_rfl) (by kernel_rfl) (fun _ _ _ h => h) (Or.inl ⟨by rfl, ?_⟩) (fun _ => rfl) (by assumption) ?_
        rotate_left
        · (intro w hSw; (try dsimp only at hSw); go_simp; try with_reducible rfl)
        try simp only [Act.put, List.setIfInBounds_toArray, List.set_cons_zero, List.set_cons_succ]
        refine TillF.take 2 (some 31) (v := ?_) hro rfl rfl (by kernel_rfl) (by kernel_rfl) (by kernel_rfl) (by kernel_rfl) (fun _ _ _ h => h) (Or.inl ⟨by rfl, ?_⟩) (fun _ => rfl) (by assumption) ?_
        rotate_left
        · (intro w hSw; (try dsimp only at hSw); go_simp; try with_reducible rfl)
        try simp only [Act.put, List.setIfInBounds_toArray, List.set_cons_zero, List.set_cons_succ]
        refine TillF.take 3 (some 32) (v := undef) hro rfl rfl (by kernel_rfl) (by kernel_rfl) (by kernel_rfl) (by kernel_rfl) (fun _ _ _ h => h) (Or.inr ⟨by rfl, rfl⟩) (fun _ => rfl) (by assumption) ?_
        try simp only [Act.put, List.setIfInBounds_toArray, List.set_cons_zero, List.set_cons_succ]
        refine TillF.take 4 (some 33) (v := undef) hro rfl rfl (by kernel_rfl) (by kernel_rfl) (by kernel_rfl) (by kernel_rfl) (fun _ _ _ h => h) (Or.inr ⟨by rfl, rfl⟩) (fun _ => rfl) (by assumption) ?_
        try simp only [Act.put, List.setIfInBounds_toArray, List.set_cons_zero, List.set_cons_succ]
        refine TillF.take 5 (some 34) (v := undef) hro rfl rfl (by kernel_rfl) (by kernel_rfl) (by kernel_rfl) (by kernel_rfl) (fun _ _ _ h => h) (Or.inr ⟨by rfl, rfl⟩) (fun _ => rfl) (by assumption) ?_
        try simp only [Act.put, List.setIfInBounds_toArray, List.set_cons_zero, List.set_cons_succ]
        refine TillF.take 6 (some 35) (v := undef) hro rfl rfl (by kernel_rfl) (by kernel_rfl) (by kernel_rfl) (by kernel_rfl) (fun _ _ _ h => h) (Or.inr ⟨by rfl, rfl⟩) (fun _ => rfl) (by assumption) ?_
        try simp only [Act.put, List.setIfInBounds_toArray, List.set_cons_zero, List.set_cons_succ]
        refine TillF.take 7 (some 36) (v := undef) hro rfl rfl (by kernel_rfl) (by kernel_rfl) (by kernel_rfl) (by kernel_rfl) (fun _ _ _ h => h) (Or.inr ⟨by rfl, rfl⟩) (fun _ => rfl) (by assumption) ?_
        try simp only [Act.put, List.setIfInBounds_toArray, List.set_cons_zero, List.set_cons_succ]
        refine TillF.take 8 (some 37) (v := undef) hro rfl rfl (by kernel_rfl) (by kernel_rfl) (by kernel_rfl) (by kernel_rfl) (fun _ _ _ h => h) (Or.inr ⟨by rfl, rfl⟩) (fun _ => rfl) (by assumption) ?_
        try simp only [Act.put, List.setIfInBounds_toArray, List.set_cons_zero, List.set_cons_succ]
        refine TillF.take 9 (some 38) (v := undef) hro rfl rfl (by kernel_rfl) (by kernel_rfl) (by kernel_rfl) (by kernel_rfl) (fun _ _ _ h => h) (Or.inr ⟨by rfl, rfl⟩) (fun _ => rfl) (by assumption) ?_
        try simp only [Act.put, List.setIfInBounds_toArray, List.set_cons_zero, List.set_cons_succ]
        refine TillF.take 10 (some 39) (v := undef) hro rfl rfl (by kernel_rfl) (by kernel_rfl) (by kernel_rfl) (by kernel_rfl) (fun _ _ _ h => h) (Or.inr ⟨by rfl, rfl⟩) (fun _ => rfl) (by assumption) ?_
        try simp only [Act.put, List.setIfInBounds_toArray, List.set_cons_zero, List.set_cons_succ]
        refine TillF.take 11 (some 40) (v := undef) hro rfl rfl (by kernel_rfl) (by kernel_rfl) (by kernel_rfl) (by kernel_rfl) (fun _ _ _ h => h) (Or.inr ⟨by rfl, rfl⟩) (fun _ => rfl) (by assumption) ?_
        try simp only [Act.put, List.setIfInBounds_toArray, List.set_cons_zero, List.set_cons_succ]
        refine TillF.take 12 (some 41) (v := undef) hro rfl rfl (by kernel_rfl) (by kernel_rfl) (by kernel_rfl) (by kernel_rfl) (fun _ _ _ h => h) (Or.inr ⟨by rfl, rfl⟩) (fun _ => rfl) (by assumption) ?_
        try simp only [Act.put, List.setIfInBounds_toArray, List.set_cons_zero, List.set_cons_succ]
        refine TillF.take 13 (some 42) (v := ?_) hro rfl rfl (by kernel_rfl) (by kernel_rfl) (by kernel_rfl) (by kernel_rfl) (fun _ _ _ h => h) (Or.inl ⟨by rfl, ?_⟩) (fun _ => rfl) (by assumption) ?_
        rotate_left
        · (intro w hSw; (try dsimp only at hSw); go_simp; try with_reducible rfl)
        try simp only [Act.put, List.setIfInBounds_toArray, List.set_cons_zero, List.set_cons_succ]
        refine TillF.last 14 rfl (by kernel_rfl) (by rfl) (by kernel_rfl) (fun K hK => ?_)
        go_simp
        refine ⟨fp_need, ?_⟩
        refine (need_ok 1 _ _).mono ?_
        rintro e w' ⟨rfl, rfl⟩
        refine hK.out _ _ ?_
        clear hK K
        try simp only [Act.put, List.setIfInBounds_toArray, List.set_cons_zero, List.set_cons_succ]
        refine TillF.done (by kernel_rfl) ?_ _
        have D1 := D0
        have hbD := hbX.trans (D1.mono hbX.size)
        have hAD := hAX.trans (D1.mono hAX.size)
        have hXD := hX.below D1 hX.lt
        have d0 := hXD.cell 0 _ rfl
        have d1 := hXD.cell 1 _ rfl
        clear hHeld D0 D1 hX hbX hAX hBX v0 v1 f0
        generalize V0.drew = V at *
        by_cases h20 : y.lo ≤ 2000
        case neg =>
          have hE := Lib.hid (HNO.out (by rw [HDEF.out, decide_eq_false h20]; simp))
          have hq := decide_eq_false h20
          gi_wp2_with fail
          refine ⟨fp_need, ?_⟩
          refine (need_no 1 _ _).mono ?_
          rintro e w' ⟨rfl, rfl⟩
          exact ⟨rfl, .inr ⟨by rw [hE.out]; decide, by rw [hE.out]⟩, hAD⟩
        have hq := decide_eq_true h20
        gi_wp2_with fail
        refine ⟨fp_need, ?_⟩
        refine (need_ok 1 _ _).mono ?_
        rintro e w' ⟨rfl, rfl⟩
        gi_wp2_with fail
        refine ⟨fp_between, ?_⟩
        refine (between_in y.hi 0 10000 _ _).mono ?_
        rintro e w' ⟨rfl, rfl⟩
        cases hbt : btw y.hi 0 10000 with
        | false =>
          have hE := Lib.hid (HNO.out (by rw [HDEF.out, hbt]; simp))
          gi_wp2_with fail
          refine ⟨fp_need, ?_⟩
          refine (need_no 1 _ _).mono ?_
          rintro e w' ⟨rfl, rfl⟩
          exact ⟨rfl, .inr ⟨by rw [hE.out]; decide, by rw [hE.out]⟩, hAD⟩
        | true =>
        gi_wp2_with fail
        refine ⟨fp_need, ?_⟩
        refine (need_ok 1 _ _).mono ?_
        rintro e w' ⟨rfl, rfl⟩
        have HALL := Lib.hid (HYES.out (by rw [HDEF.out, hbt, hone, decide_eq_true h20]; simp))
        have HBD := Lib.hid hbD
        clear hbt hbD hAD hXD d0 d1 hq h20
        gi_wp2
        go_roundw
        case rel => exact ⟨0 + 1, by omega, by go_num, HALL, HBD.out⟩
        case measure => simp [intOf]; omega
      obtain ⟨b3, o3, he3, p1, -, -⟩ := HXL.out hk0
      cases he3
      have hxq := HYQ.out hk0
      rw [← hxq] at p1
      generalize kn l.knees (k - 1) = x at *
      have x0 := ext_of_below hAX _ _ p1
      have hk0' : ((k : Int) == 0) = false := by rw [beq_eq_false_iff_ne]; omega
      have i5 : IntKind.i64.wrap ((k : Int) - 1) = ((k - 1 : Nat) : Int) := ((IntWalk.i64_left _).trans (wrap_id _ (by unfold I64; omega))).trans (by omega)
      have i6 : (0 : Int) ≤ ((k - 1 : Nat) : Int) := Int.natCast_nonneg _
      have i7 : ((k - 1 : Nat) : Int) < (l.knees.length : Int) := by omega
      clear p1 hxq HXL HYQ
      by_cases hgt : x.lo < y.lo
      · have hd := decide_eq_true hgt
        have hone : (decide (k = 0) || decide (x.lo < y.lo)) = true := by rw [hd]; simp
        refine wpIn_region_tillF (fun w' : World => w'.cell? ⟨wr.heap.size, 0, none⟩ = some (.int .i64 y.lo) ∧ w'.cell? ⟨w.heap.size, 0, none⟩ = some (.slice (some ⟨ab, ao, none⟩) l.knees.length cap) ∧ w'.cell? ⟨ab, ao + (k - 1) * 2, none⟩ = some (.int .i64 x.lo)) 15 (by kernel_rfl) ⟨v0, f0, x0⟩ (fun hHeld => ?_)
        refine TillF.take 0 (some 29) (v := ?_) hro rfl rfl (by kernel_rfl) (by kernel_rfl) (by kernel_rfl) (by kernel_rfl) (fun _ _ _ h => h) (Or.inl ⟨by rfl, ?_⟩) (fun _ => rfl) (by assumption) ?_
        rotate_left
        · (intro w hSw; (try dsimp only at hSw); go_simp; try with_reducible rfl)
        try simp only [Act.put, List.setIfInBounds_toArray, List.set_cons_zero, List.set_cons_succ]
        refine TillF.take 1 (some 30) (v := ?_) hro rfl rfl (by kernel_rfl) (by kernel_rfl) (by kernel_rfl) (by kernel_rfl) (fun _ _ _ h => h) (Or.inl ⟨by rfl, ?_⟩) (fun _ => rfl) (by assumption) ?_
        rotate_left
        · (intro w hSw; (try dsimp only at hSw); go_simp; try with_reducible rfl)
        try simp only [Act.put, List.setIfInBounds_toArray, List.set_cons_zero, List.set_cons_succ]
        refine TillF.take 2 (some 31) (v := ?_) hro rfl rfl (by kernel_rfl) (by kernel_rfl) (by kernel_rfl) (by kernel_rfl) (fun _ _ _ h => h) (Or.inl ⟨by rfl, ?_⟩) (fun _ => rfl) (by assumption) ?_
        rotate_left
        · (intro w hSw; (try dsimp only at hSw); go_simp; try with_reducible rfl)
        try simp only [Act.put, List.setIfInBounds_toArray, List.set_cons_zero, List.set_cons_succ]
        refine TillF.take 3 (some 32) (v := ?_) hro rfl rfl (by kernel_rfl) (by kernel_rfl) (by kernel_rfl) (by kernel_rfl) (fun _ _ _ h => h) (Or.inl ⟨by rfl, ?_⟩) (fun _ => rfl) (by assumption) ?_
        rotate_left
        · (intro w hSw; (try dsimp only at hSw); go_simp; try with_reducible rfl)
        try simp only [Act.put, List.setIfInBounds_toArray, List.set_cons_zero, List.set_cons_succ]
        refine TillF.take 4 (some 33) (v := ?_) hro rfl rfl (by kernel_rfl) (by kernel_rfl) (by kernel_rfl) (by kernel_rfl) (fun _ _ _ h => h) (Or.inl ⟨by rfl, ?_⟩) (fun _ => rfl) (by assumption) ?_
        rotate_left
        · (intro w hSw; (try dsimp only at hSw); go_simp; try with_reducible rfl)
        try simp only [Act.put, List.setIfInBounds_toArray, List.set_cons_zero, List.set_cons_succ]
        refine TillF.take 5 (some 34) (v := ?_) hro rfl rfl (by kernel_rfl) (by kernel_rfl) (by kernel_rfl) (by kernel_rfl) (fun _ _ _ h => h) (Or.inl ⟨by rfl, ?_⟩) (fun _ => rfl) (by assumption) ?_
        rotate_left
        · (intro w hSw; (try dsimp only at hSw); go_simp; try with_reducible rfl)
        try simp only [Act.put, List.setIfInBounds_toArray, List.set_cons_zero, List.set_cons_succ]
        refine TillF.take 6 (some 35) (v := ?_) hro rfl rfl (by kernel_rfl) (by kernel_rfl) (by kernel_rfl) (by kernel_rfl) (fun _ _ _ h => h) (Or.inl ⟨by rfl, ?_⟩) (fun _ => rfl) (by assumption) ?_
        rotate_left
        · (intro w hSw; (try dsimp only at hSw); go_simp; try with_reducible rfl)
        try simp only [Act.put, List.setIfInBounds_toArray, List.set_cons_zero, List.set_cons_succ]
        refine TillF.take 7 (some 36) (v := ?_) hro rfl rfl (by kernel_rfl) (by kernel_rfl) (by kernel_rfl) (by kernel_rfl) (fun _ _ _ h => h) (Or.inl ⟨by rfl, ?_⟩) (fun _ => rfl) (by assumption) ?_
        rotate_left
        · (intro w hSw; (try dsimp only at hSw); go_simp; try with_reducible rfl)
        try simp only [Act.put, List.setIfInBounds_toArray, List.set_cons_zero, List.set_cons_succ]
        refine TillF.take 8 (some 37) (v := ?_) hro rfl rfl (by kernel_rfl) (by kernel_rfl) (by kernel_rfl) (by kernel_rfl) (fun _ _ _ h => h) (Or.inl ⟨by rfl, ?_⟩) (fun _ => rfl) (by assumption) ?_
        rotate_left
        · (intro w hSw; (try dsimp only at hSw); go_simp; try with_reducible rfl)
        try simp only [Act.put, List.setIfInBounds_toArray, List.set_cons_zero, List.set_cons_succ]
        refine TillF.take 9 (some 38) (v := ?_) hro rfl rfl (by kernel_rfl) (by kernel_rfl) (by kernel_rfl) (by kernel_rfl) (fun _ _ _ h => h) (Or.inl ⟨by rfl, ?_⟩) (fun _ => rfl) (by assumption) ?_
        rotate_left
        · (intro w hSw; (try dsimp only at hSw); go_simp; try with_reducible rfl)
        try simp only [Act.put, List.setIfInBounds_toArray, List.set_cons_zero, List.set_cons_succ]
        refine TillF.take 10 (some 39) (v := ?_) hro rfl rfl (by kernel_rfl) (by kernel_rfl) (by kernel_rfl) (by kernel_rfl) (fun _ _ _ h => h) (Or.inl ⟨by rfl, ?_⟩) (fun _ => rfl) (by assumption) ?_
        rotate_left
        · (intro w hSw; (try dsimp only at hSw); go_simp; try with_reducible rfl)
        try simp only [Act.put, List.setIfInBounds_toArray, List.set_cons_zero, List.set_cons_succ]
        refine TillF.take 11 (some 40) (v := ?_) hro rfl rfl (by kernel_rfl) (by kernel_rfl) (by kernel_rfl) (by kernel_rfl) (fun _ _ _ h => h) (Or.inl ⟨by rfl, ?_⟩) (fun _ => rfl) (by assumption) ?_
        rotate_left
        · (intro w hSw; (try dsimp only at hSw); go_simp; try with_reducible rfl)
        try simp only [Act.put, List.setIfInBounds_toArray, List.set_cons_zero, List.set_cons_succ]
        refine TillF.take 12 (some 41) (v := ?_) hro rfl rfl (by kernel_rfl) (by kernel_rfl) (by kernel_rfl) (by kernel_rfl) (fun _ _ _ h => h) (Or.inl ⟨by rfl, ?_⟩) (fun _ => rfl) (by assumption) ?_
        rotate_left
        · (intro w hSw; (try dsimp only at hSw); go_simp; try with_reducible rfl)
        try simp only [Act.put, List.setIfInBounds_toArray, List.set_cons_zero, List.set_cons_succ]
        refine TillF.take 13 (some 42) (v := ?_) hro rfl rfl (by kernel_rfl) (by kernel_rfl) (by kernel_rfl) (by kernel_rfl) (fun _ _ _ h => h) (Or.inl ⟨by rfl, ?_⟩) (fun _ => rfl) (by assumption) ?_
        rotate_left
        · (intro w hSw; (try dsimp only at hSw); go_simp; try with_reducible rfl)
        try simp only [Act.put, List.setIfInBounds_toArray, List.set_cons_zero, List.set_cons_succ]
        refine TillF.last 14 rfl (by kernel_rfl) (by rfl) (by kernel_rfl) (fun K hK => ?_)
        go_simp
        try simp only [hd]
        refine ⟨fp_need, ?_⟩
        refine (need_ok 1 _ _).mono ?_
        rintro e w' ⟨rfl, rfl⟩
        refine hK.out _ _ ?_
        clear hK K x0
        try simp only [Act.put, List.setIfInBounds_toArray, List.set_cons_zero, List.set_cons_succ]
        refine TillF.done (by kernel_rfl) ?_ _
        have D1 := D0
        have hbD := hbX.trans (D1.mono hbX.size)
        have hAD := hAX.trans (D1.mono hAX.size)
        have hXD := hX.below D1 hX.lt
        have d0 := hXD.cell 0 _ rfl
        have d1 := hXD.cell 1 _ rfl
        clear hHeld D0 D1 hX hbX hAX hBX v0 v1 f0
        generalize V0.drew = V at *
        by_cases h20 : y.lo ≤ 2000
        case neg =>
          have hE := Lib.hid (HNO.out (by rw [HDEF.out, decide_eq_false h20]; simp))
          have hq := decide_eq_false h20
          gi_wp2_with fail
          refine ⟨fp_need, ?_⟩
          refine (need_no 1 _ _).mono ?_
          rintro e w' ⟨rfl, rfl⟩
          exact ⟨rfl, .inr ⟨by rw [hE.out]; decide, by rw [hE.out]⟩, hAD⟩
        have hq := decide_eq_true h20
        gi_wp2_with fail
        refine ⟨fp_need, ?_⟩
        refine (need_ok 1 _ _).mono ?_
        rintro e w' ⟨rfl, rfl⟩
        gi_wp2_with fail
        refine ⟨fp_between, ?_⟩
        refine (between_in y.hi 0 10000 _ _).mono ?_
        rintro e w' ⟨rfl, rfl⟩
        cases hbt : btw y.hi 0 10000 with
        | false =>
          have hE := Lib.hid (HNO.out (by rw [HDEF.out, hbt]; simp))
          gi_wp2_with fail
          refine ⟨fp_need, ?_⟩
          refine (need_no 1 _ _).mono ?_
          rintro e w' ⟨rfl, rfl⟩
          exact ⟨rfl, .inr ⟨by rw [hE.out]; decide, by rw [hE.out]⟩, hAD⟩
        | true =>
        gi_wp2_with fail
        refine ⟨fp_need, ?_⟩
        refine (need_ok 1 _ _).mono ?_
        rintro e w' ⟨rfl, rfl⟩
        have HALL := Lib.hid (HYES.out (by rw [HDEF.out, hbt, hone, decide_eq_true h20]; simp))
        have HBD := Lib.hid hbD
        clear hbt hbD hAD hXD d0 d1 hq h20
        gi_wp2
        go_roundw
        case rel => exact ⟨k + 1, by omega, by go_num, HALL, HBD.out⟩
        case measure => simp [intOf]; omega
      · have hd := decide_eq_false hgt
        have hE := Lib.hid (HNO.out (by rw [HDEF.out, decide_eq_false hk0, hd]; simp))
        have hAD := hAX.trans (D0.mono hAX.size)
        refine wpIn_region_tillF (fun w' : World => w'.cell? ⟨wr.heap.size, 0, none⟩ = some (.int .i64 y.lo) ∧ w'.cell? ⟨w.heap.size, 0, none⟩ = some (.slice (some ⟨ab, ao, none⟩) l.knees.length cap) ∧ w'.cell? ⟨ab, ao + (k - 1) * 2, none⟩ = some (.int .i64 x.lo)) 15 (by kernel_rfl) ⟨v0, f0, x0⟩ (fun hHeld => ?_)
        refine TillF.take 0 (some 29) (v := ?_) hro rfl rfl (by kernel_rfl) (by kernel_rfl) (by kernel_rfl) (by kernel_rfl) (fun _ _ _ h => h) (Or.inl ⟨by rfl, ?_⟩) (fun _ => rfl) (by assumption) ?_
        rotate_left
        · (intro w hSw; (try dsimp only at hSw); go_simp; try with_reducible rfl)
        try simp only [Act.put, List.setIfInBounds_toArray, List.set_cons_zero, List.set_cons_succ]
        refine TillF.take 1 (some 30) (v := ?_) hro rfl rfl (by kernel_rfl) (by kernel_rfl) (by kernel_rfl) (by kernel_rfl) (fun _ _ _ h => h) (Or.inl ⟨by rfl, ?_⟩) (fun _ => rfl) (by assumption) ?_
        rotate_left
        · (intro w hSw; (try dsimp only at hSw); go_simp; try with_reducible rfl)
        try simp only [Act.put, List.setIfInBounds_toArray, List.set_cons_zero, List.set_cons_succ]
        refine TillF.take 2 (some 31) (v := ?_) hro rfl rfl (by kernel_rfl) (by kernel_rfl) (by kernel_rfl) (by kernel_rfl) (fun _ _ _ h => h) (Or.inl ⟨by rfl, ?_⟩) (fun _ => rfl) (by assumption) ?_
        rotate_left
        · (intro w hSw; (try dsimp only at hSw); go_simp; try with_reducible rfl)
        try simp only [Act.put, List.setIfInBounds_toArray, List.set_cons_zero, List.set_cons_succ]
        refine TillF.take 3 (some 32) (v := ?_) hro rfl rfl (by kernel_rfl) (by kernel_rfl) (by kernel_rfl) (by kernel_rfl) (fun _ _ _ h => h) (Or.inl ⟨by rfl, ?_⟩) (fun _ => rfl) (by assumption) ?_
        rotate_left
        · (intro w hSw; (try dsimp only at hSw); go_simp; try with_reducible rfl)
        try simp only [Act.put, List.setIfInBounds_toArray, List.set_cons_zero, List.set_cons_succ]
        refine TillF.take 4 (some 33) (v := ?_) hro rfl rfl (by kernel_rfl) (by kernel_rfl) (by kernel_rfl) (by kernel_rfl) (fun _ _ _ h => h) (Or.inl ⟨by rfl, ?_⟩) (fun _ => rfl) (by assumption) ?_
        rotate_left
        · (intro w hSw; (try dsimp only at hSw); go_simp; try with_reducible rfl)
        try simp only [Act.put, List.setIfInBounds_toArray, List.set_cons_zero, List.set_cons_succ]
        refine TillF.take 5 (some 34) (v := ?_) hro rfl rfl (by kernel_rfl) (by kernel_rfl) (by kernel_rfl) (by kernel_rfl) (fun _ _ _ h => h) (Or.inl ⟨by rfl, ?_⟩) (fun _ => rfl) (by assumption) ?_
        rotate_left
        · (intro w hSw; (try dsimp only at hSw); go_simp; try with_reducible rfl)
        try simp only [Act.put, List.setIfInBounds_toArray, List.set_cons_zero, List.set_cons_succ]
        refine TillF.take 6 (some 35) (v := ?_) hro rfl rfl (by kernel_rfl) (by kernel_rfl) (by kernel_rfl) (by kernel_rfl) (fun _ _ _ h => h) (Or.inl ⟨by rfl, ?_⟩) (fun _ => rfl) (by assumption) ?_
        rotate_left
        · (intro w hSw; (try dsimp only at hSw); go_simp; try with_reducible rfl)
        try simp only [Act.put, List.setIfInBounds_toArray, List.set_cons_zero, List.set_cons_succ]
        refine TillF.take 7 (some 36) (v := ?_) hro rfl rfl (by kernel_rfl) (by kernel_rfl) (by kernel_rfl) (by kernel_rfl) (fun _ _ _ h => h) (Or.inl ⟨by rfl, ?_⟩) (fun _ => rfl) (by assumption) ?_
        rotate_left
        · (intro w hSw; (try dsimp only at hSw); go_simp; try with_reducible rfl)
        try simp only [Act.put, List.setIfInBounds_toArray, List.set_cons_zero, List.set_cons_succ]
        refine TillF.take 8 (some 37) (v := ?_) hro rfl rfl (by kernel_rfl) (by kernel_rfl) (by kernel_rfl) (by kernel_rfl) (fun _ _ _ h => h) (Or.inl ⟨by rfl, ?_⟩) (fun _ => rfl) (by assumption) ?_
        rotate_left
        · (intro w hSw; (try dsimp only at hSw); go_simp; try with_reducible rfl)
        try simp only [Act.put, List.setIfInBounds_toArray, List.set_cons_zero, List.set_cons_succ]
        refine TillF.take 9 (some 38) (v := ?_) hro rfl rfl (by kernel_rfl) (by kernel_rfl) (by kernel_rfl) (by kernel_rfl) (fun _ _ _ h => h) (Or.inl ⟨by rfl, ?_⟩) (fun _ => rfl) (by assumption) ?_
        rotate_left
        · (intro w hSw; (try dsimp only at hSw); go_simp; try with_reducible rfl)
        try simp only [Act.put, List.setIfInBounds_toArray, List.set_cons_zero, List.set_cons_succ]
        refine TillF.take 10 (some 39) (v := ?_) hro rfl rfl (by kernel_rfl) (by kernel_rfl) (by kernel_rfl) (by kernel_rfl) (fun _ _ _ h => h) (Or.inl ⟨by rfl, ?_⟩) (fun _ => rfl) (by assumption) ?_
        rotate_left
        · (intro w hSw; (try dsimp only at hSw); go_simp; try with_reducible rfl)
        try simp only [Act.put, List.setIfInBounds_toArray, List.set_cons_zero, List.set_cons_succ]
        refine TillF.take 11 (some 40) (v := ?_) hro rfl rfl (by kernel_rfl) (by kernel_rfl) (by kernel_rfl) (by kernel_rfl) (fun _ _ _ h => h) (Or.inl ⟨by rfl, ?_⟩) (fun _ => rfl) (by assumption) ?_
        rotate_left
        · (intro w hSw; (try dsimp only at hSw); go_simp; try with_reducible rfl)
        try simp only [Act.put, List.setIfInBounds_toArray, List.set_cons_zero, List.set_cons_succ]
        refine TillF.take 12 (some 41) (v := ?_) hro rfl rfl (by kernel_rfl) (by kernel_rfl) (by kernel_rfl) (by kernel_rfl) (fun _ _ _ h => h) (Or.inl ⟨by rfl, ?_⟩) (fun _ => rfl) (by assumption) ?_
        rotate_left
        · (intro w hSw; (try dsimp only at hSw); go_simp; try with_reducible rfl)
        try simp only [Act.put, List.setIfInBounds_toArray, List.set_cons_zero, List.set_cons_succ]
        refine TillF.take 13 (some 42) (v := ?_) hro rfl rfl (by kernel_rfl) (by kernel_rfl) (by kernel_rfl) (by kernel_rfl) (fun _ _ _ h => h) (Or.inl ⟨by rfl, ?_⟩) (fun _ => rfl) (by assumption) ?_
        rotate_left
        · (intro w hSw; (try dsimp only at hSw); go_simp; try with_reducible rfl)
        try simp only [Act.put, List.setIfInBounds_toArray, List.set_cons_zero, List.set_cons_succ]
        refine TillF.last 14 rfl (by kernel_rfl) (by rfl) (by kernel_rfl) (fun K hK => ?_)
        go_simp
        try simp only [hd]
        refine ⟨fp_need, ?_⟩
        refine (need_no 1 _ _).mono ?_
        rintro e w' ⟨rfl, rfl⟩
        clear hK
        exact ⟨rfl, .inr ⟨by rw [hE.out]; decide, by rw [hE.out]⟩, hAD⟩
    · have hke : k = l.knees.length := by omega
      subst hke
      have hal : allK l.knees = true := allK_true.2 hall.out
      have hfac := checkL_fac H24.out H2.out H0.out hal
      have e1 := hBr.cell 1 _ rfl
      have HF := Lib.hid hfac
      clear hl hal hfac hall
      gi_wp2_with fail
      refine ⟨fp_between, ?_⟩
      refine (between_in l.factor 0 10000 _ _).mono ?_
      rintro e w' ⟨rfl, rfl⟩
      cases hbt : btw l.factor 0 10000 with
      | false =>
        have hE := Lib.hid (show checkL l = 1 by rw [HF.out, if_pos hbt])
        gi_wp2_with fail
        refine ⟨fp_need, ?_⟩
        refine (need_no 1 _ _).mono ?_
        rintro e w' ⟨rfl, rfl⟩
        exact ⟨rfl, .inr ⟨by rw [hE.out]; decide, by rw [hE.out]⟩, hAr⟩
      | true =>
        have hE := Lib.hid (show checkL l = 0 by rw [HF.out, if_neg (by rw [hbt]; decide)])
        gi_wp2_with fail
        refine ⟨fp_need, ?_⟩
        refine (need_ok 1 _ _).mono ?_
        rintro e w' ⟨rfl, rfl⟩
        gi_wp2
        go_end0
        exact ⟨.inl ⟨hE.out, rfl⟩, hAr⟩

end Go.Proofs.YtaldpalhckdcdaaGreatDoor
