/- Anneals of the specification, by its contract; no statement is proved here. -/
import Derived.Test.YtmmlocjiegkjeaaGreatDoorLeA
import Derived.Test.YtmmlocjiegkjeaaGreatDoorLeSv
import Derived.Test.YtmmlocjiegkjeaaGreatDoorRLp
namespace Go.Proofs.YtmmlocjiegkjeaaGreatDoor
open Go.RowKit Go.PlainAid
set_option linter.unusedVariables false
set_option linter.unusedSimpArgs false
attribute [local go_sem] Oper.semAt_some

theorem annE_arg {l : Lr} {v : Sp} {below soak th lim : Int} (hc : checkL l = 0) (hg : ¬ ((0 ≤ below ∧ below ≤ 10000) ∧ (0 ≤ soak ∧ soak ≤ 2000) ∧ (1 ≤ th ∧ th ≤ 2000) ∧ 0 ≤ lim)) : annealE l (v, 0) below soak th lim = 1 := by
  unfold annealE
  rw [if_neg (fun z => z hc), if_neg (fun z => z rfl)]
  by_cases h1 : btw below 0 10000 = true
  · by_cases h2 : btw soak 0 2000 = true
    · by_cases h3 : btw th 1 2000 = true
      · rw [if_neg (by rw [h1]; decide), if_neg (by rw [h2]; decide), if_neg (by rw [h3]; decide), if_pos]
        have := btw_true.1 h1
        have := btw_true.1 h2
        have := btw_true.1 h3
        omega
      · rw [if_neg (by rw [h1]; decide), if_neg (by rw [h2]; decide), if_pos (by simpa using h3)]
    · rw [if_neg (by rw [h1]; decide), if_pos (by simpa using h2)]
  · rw [if_pos (by simpa using h1)]
theorem annE_good {l : Lr} {v : Sp} {below soak th lim : Int} (hc : checkL l = 0) (hg : (0 ≤ below ∧ below ≤ 10000) ∧ (0 ≤ soak ∧ soak ≤ 2000) ∧ (1 ≤ th ∧ th ≤ 2000) ∧ 0 ≤ lim) : annealE l (v, 0) below soak th lim = if wi v below 10000 = false then 9 else 0 := by
  unfold annealE
  rw [if_neg (fun z => z hc), if_neg (fun z => z rfl), if_neg (by rw [btw_true.2 hg.1]; decide), if_neg (by rw [btw_true.2 hg.2.1]; decide), if_neg (by rw [btw_true.2 hg.2.2.1]; decide), if_neg (by omega)]

set_option maxHeartbeats 4000000 in
set_option maxRecDepth 100000 in
theorem rannealP_any (vl vb vr : Value) (l : Lr) (b : Bat) (r : List Int) (n below soak th lim : Int) (w : World) (h : RLr w vl l) (hb : RBat w vb b) (hr : RInts w vr r) :
    Calls Tryz.prog 10 #[vl, vb, vr, .int .i64 n, .int .i64 below, .int .i64 soak, .int .i64 th, .int .i64 lim] w (AnnealA w l (B1.valI b r n) below soak th lim) := by
  have h0 := h
  have hb0 := hb
  have hr0 := hr
  obtain ⟨v0, rfl, hk, hI⟩ := h
  obtain ⟨a, cap, rfl, -, -, -⟩ := hk
  obtain ⟨a0, k0, a1, k1, a2, k2, a3, k3, rfl⟩ := hb.agg
  obtain ⟨ar, kr, rfl, -, -, -⟩ := hr
  have hva := fun V (hV : Below w.heap.size w V) => B1.rval_any _ _ b r n V (hb0.mono (ext_of_below hV)) (hr0.mono (ext_of_below hV))
  have hvb := B1.valI_bd b r n
  have HR := Lib.hid (fun V (hV : Below w.heap.size w V) => h0.mono (ext_of_below hV))
  generalize B1.valI b r n = vv at *
  obtain ⟨v, ve⟩ := vv
  have hvb : ve = 0 → v.lo ≤ v.hi ∧ -200000000000000 ≤ v.lo ∧ v.hi ≤ 200000000000000 := hvb
  have hA0 : Below w.heap.size w ((w.alloc (.cells #[.slice a l.knees.length cap, .int .i64 l.factor] 24)).alloc (.cells #[.slice a0 b.oxides.length k0, .slice a1 b.mats.length k1, .slice a2 b.shares.length k2, .slice a3 b.props.length k3, .int .i64 b.redox.lo, .int .i64 b.redox.hi, .int .i64 b.wanted] 32)) := (below_boxS w _).alloc (by simp) _
  have hB0 := (Blk.new w #[.slice a l.knees.length cap, .int .i64 l.factor] 24).alloc (.cells #[.slice a0 b.oxides.length k0, .slice a1 b.mats.length k1, .slice a2 b.shares.length k2, .slice a3 b.props.length k3, .int .i64 b.redox.lo, .int .i64 b.redox.hi, .int .i64 b.wanted] 32)
  have hM0 := Blk.new (w.alloc (.cells #[.slice a l.knees.length cap, .int .i64 l.factor] 24)) #[.slice a0 b.oxides.length k0, .slice a1 b.mats.length k1, .slice a2 b.shares.length k2, .slice a3 b.props.length k3, .int .i64 b.redox.lo, .int .i64 b.redox.hi, .int .i64 b.wanted] 32
  rw [World.size_alloc] at hM0
  clear h0 hb0 hr0 hb
  go_enter Tryz.func10, Tryz.ntmps10
  have c0 := hB0.cell 0 _ rfl
  have c1 := hB0.cell 1 _ rfl
  go_wp2_with fail
  generalize (w.alloc (.cells #[.slice a l.knees.length cap, .int .i64 l.factor] 24)).alloc (.cells #[.slice a0 b.oxides.length k0, .slice a1 b.mats.length k1, .slice a2 b.shares.length k2, .slice a3 b.props.length k3, .int .i64 b.redox.lo, .int .i64 b.redox.hi, .int .i64 b.wanted] 32) = w0 at *
  refine (rcheckL_any _ l _ (HR.out _ hA0)).mono ?_
  rintro e w1 ⟨rfl, hb1⟩
  have hA1 := hA0.trans (hb1.mono hA0.size)
  have hB1 := hB0.below hb1 hB0.lt
  have hM1 := hM0.below hb1 hM0.lt
  clear hA0 hB0 hM0 hb1 c0 c1
  by_cases hc : checkL l = 0
  case neg =>
    have hne : (checkL l != 0) = true := by simpa using hc
    have HX := Lib.hid (show annealS l (v, ve) below soak th lim = (false, checkL l) by
      have he : annealE l (v, ve) below soak th lim = checkL l := by rw [annealE, if_pos hc]
      rw [annealS, if_neg (by rw [he]; exact hc), he])
    have HF := Lib.hid hA1
    clear hA1 hB1 hM1 hva hvb hc
    go_wp2
    go_ret2
    exact ⟨by rw [HX.out]; rfl, HF.out⟩
  have HCL := Lib.hid hc
  have HOK := Lib.hid (okLr_of hc)
  rw [hc]
  clear hc
  have m0 := hM1.cell 0 _ rfl
  have m1 := hM1.cell 1 _ rfl
  have m2 := hM1.cell 2 _ rfl
  have m3 := hM1.cell 3 _ rfl
  have m4 := hM1.cell 4 _ rfl
  have m5 := hM1.cell 5 _ rfl
  have m6 := hM1.cell 6 _ rfl
  go_wp2_with fail
  refine (hva _ hA1).mono ?_
  rintro e w2 ⟨rfl, hb2⟩
  simp only
  have hA2 := (hA1.trans (hb2.mono hA1.size)).alloc (hA1.trans (hb2.mono hA1.size)).size (.cells #[.int .i64 v.lo, .int .i64 v.hi] 30)
  have hB2 := (hB1.below hb2 hB1.lt).alloc (.cells #[.int .i64 v.lo, .int .i64 v.hi] 30)
  have hV2 := Blk.new w2 #[.int .i64 v.lo, .int .i64 v.hi] 30
  clear hA1 hB1 hM1 hb2 hva m0 m1 m2 m3 m4 m5 m6
  by_cases hve : ve = 0
  case neg =>
    have hne : (ve != 0) = true := by simpa using hve
    have HX := Lib.hid (show annealS l (v, ve) below soak th lim = (false, ve) by
      have he : annealE l (v, ve) below soak th lim = ve := by rw [annealE, if_neg (fun z => z HCL.out), if_pos hve]
      rw [annealS, if_neg (by rw [he]; exact hve), he])
    have HF := Lib.hid hA2
    clear hA2 hB2 hV2 hvb hve
    go_wp2
    go_ret2
    exact ⟨by rw [HX.out]; rfl, HF.out⟩
  subst hve
  have HV := Lib.hid (hvb rfl)
  clear hvb
  have x0 := hV2.cell 0 _ rfl
  have x1 := hV2.cell 1 _ rfl
  by_cases q0 : below < 0
  · have g0 := decide_eq_true q0
    have HX := Lib.hid (show annealS l (v, 0) below soak th lim = (false, 1) by
      have he : annealE l (v, 0) below soak th lim = 1 := annE_arg HCL.out (by omega)
      rw [annealS, if_neg (by rw [he]; decide), he])
    have HF := Lib.hid hA2
    clear hA2 hB2 hV2 x0 x1 q0
    go_wp2
    go_ret2
    exact ⟨by rw [HX.out]; rfl, HF.out⟩
  have g0 := decide_eq_false q0
  by_cases q1 : (10000 : Int) < below
  · have g1 := decide_eq_true q1
    have HX := Lib.hid (show annealS l (v, 0) below soak th lim = (false, 1) by
      have he : annealE l (v, 0) below soak th lim = 1 := annE_arg HCL.out (by omega)
      rw [annealS, if_neg (by rw [he]; decide), he])
    have HF := Lib.hid hA2
    clear hA2 hB2 hV2 x0 x1 q0 q1
    go_wp2
    go_ret2
    exact ⟨by rw [HX.out]; rfl, HF.out⟩
  have g1 := decide_eq_false q1
  by_cases q2 : soak < 0
  · have g2 := decide_eq_true q2
    have HX := Lib.hid (show annealS l (v, 0) below soak th lim = (false, 1) by
      have he : annealE l (v, 0) below soak th lim = 1 := annE_arg HCL.out (by omega)
      rw [annealS, if_neg (by rw [he]; decide), he])
    have HF := Lib.hid hA2
    clear hA2 hB2 hV2 x0 x1 q0 q1 q2
    go_wp2
    go_ret2
    exact ⟨by rw [HX.out]; rfl, HF.out⟩
  have g2 := decide_eq_false q2
  by_cases q3 : (2000 : Int) < soak
  · have g3 := decide_eq_true q3
    have HX := Lib.hid (show annealS l (v, 0) below soak th lim = (false, 1) by
      have he : annealE l (v, 0) below soak th lim = 1 := annE_arg HCL.out (by omega)
      rw [annealS, if_neg (by rw [he]; decide), he])
    have HF := Lib.hid hA2
    clear hA2 hB2 hV2 x0 x1 q0 q1 q2 q3
    go_wp2
    go_ret2
    exact ⟨by rw [HX.out]; rfl, HF.out⟩
  have g3 := decide_eq_false q3
  by_cases q4 : th < 1
  · have g4 := decide_eq_true q4
    have HX := Lib.hid (show annealS l (v, 0) below soak th lim = (false, 1) by
      have he : annealE l (v, 0) below soak th lim = 1 := annE_arg HCL.out (by omega)
      rw [annealS, if_neg (by rw [he]; decide), he])
    have HF := Lib.hid hA2
    clear hA2 hB2 hV2 x0 x1 q0 q1 q2 q3 q4
    go_wp2
    go_ret2
    exact ⟨by rw [HX.out]; rfl, HF.out⟩
  have g4 := decide_eq_false q4
  by_cases q5 : (2000 : Int) < th
  · have g5 := decide_eq_true q5
    have HX := Lib.hid (show annealS l (v, 0) below soak th lim = (false, 1) by
      have he : annealE l (v, 0) below soak th lim = 1 := annE_arg HCL.out (by omega)
      rw [annealS, if_neg (by rw [he]; decide), he])
    have HF := Lib.hid hA2
    clear hA2 hB2 hV2 x0 x1 q0 q1 q2 q3 q4 q5
    go_wp2
    go_ret2
    exact ⟨by rw [HX.out]; rfl, HF.out⟩
  have g5 := decide_eq_false q5
  by_cases q6 : lim < 0
  · have g6 := decide_eq_true q6
    have HX := Lib.hid (show annealS l (v, 0) below soak th lim = (false, 1) by
      have he : annealE l (v, 0) below soak th lim = 1 := annE_arg HCL.out (by omega)
      rw [annealS, if_neg (by rw [he]; decide), he])
    have HF := Lib.hid hA2
    clear hA2 hB2 hV2 x0 x1 q0 q1 q2 q3 q4 q5 q6
    go_wp2
    go_ret2
    exact ⟨by rw [HX.out]; rfl, HF.out⟩
  have g6 := decide_eq_false q6
  have hg : (0 ≤ below ∧ below ≤ 10000) ∧ (0 ≤ soak ∧ soak ≤ 2000) ∧ (1 ≤ th ∧ th ≤ 2000) ∧ 0 ≤ lim := by omega
  have HE := Lib.hid (annE_good (v := v) HCL.out hg)
  obtain ⟨v1, v2, v3⟩ := HV.out
  have HG := Lib.hid hg
  clear q0 q1 q2 q3 q4 q5 q6
  by_cases s0 : v.lo < below
  · have gs0 := decide_eq_true s0
    have HX := Lib.hid (show annealS l (v, 0) below soak th lim = (false, 9) by
      have he : annealE l (v, 0) below soak th lim = 9 := by
        rw [HE.out, if_pos]
        cases hw : wi v below 10000 with
        | false => rfl
        | true => have := wi_true.1 hw; omega
      rw [annealS, if_neg (by rw [he]; decide), he])
    have HF := Lib.hid hA2
    clear hA2 hB2 hV2 hg v1 v2 v3 s0 HE
    go_wp2
    go_ret2
    exact ⟨by rw [HX.out]; rfl, HF.out⟩
  have gs0 := decide_eq_false s0
  by_cases s1 : (10000 : Int) < v.hi
  · have gs1 := decide_eq_true s1
    have HX := Lib.hid (show annealS l (v, 0) below soak th lim = (false, 9) by
      have he : annealE l (v, 0) below soak th lim = 9 := by
        rw [HE.out, if_pos]
        cases hw : wi v below 10000 with
        | false => rfl
        | true => have := wi_true.1 hw; omega
      rw [annealS, if_neg (by rw [he]; decide), he])
    have HF := Lib.hid hA2
    clear hA2 hB2 hV2 hg v1 v2 v3 s1 s0 HE
    go_wp2
    go_ret2
    exact ⟨by rw [HX.out]; rfl, HF.out⟩
  have gs1 := decide_eq_false s1
  have hwi : below ≤ v.lo ∧ v.lo ≤ v.hi ∧ v.hi ≤ 10000 := by omega
  have HX := Lib.hid (show annealS l (v, 0) below soak th lim = (annealB l (v, 0) below soak th lim, 0) by
    have he : annealE l (v, 0) below soak th lim = 0 := by rw [HE.out, if_neg (by rw [wi_true.2 hwi]; decide)]
    rw [annealS, if_pos he])
  have HLB := Lib.hid (show annealB l (v, 0) below soak th lim = (decide (soak ≤ heldL l v.hi) && decide (strainL l ⟨v.lo - below, v.hi⟩ th ≤ lim)) from rfl)
  clear HE
  go_wp2_with fail
  generalize w2.alloc (.cells #[.int .i64 v.lo, .int .i64 v.hi] 30) = w3 at *
  generalize w2.heap.size = pV at *
  have y1 : IntKind.i64.wrap (v.lo - below) = v.lo - below := (IntWalk.i64_left _).trans (wrap_id _ (by unfold I64; omega))
  have c0 := hB2.cell 0 _ rfl
  have c1 := hB2.cell 1 _ rfl
  have D0 : Below w3.heap.size w3 w3.drew := (Below.refl _ _).drew
  have HSV : Hid (∀ V, Below w3.heap.size w3 V → (fun w' : World => w'.cell? ⟨w.heap.size, 0, none⟩ = some (.slice a l.knees.length cap) ∧ w'.cell? ⟨w.heap.size, 1, none⟩ = some (.int .i64 l.factor) ∧ w'.cell? ⟨pV, 0, none⟩ = some (.int .i64 v.lo) ∧ w'.cell? ⟨pV, 1, none⟩ = some (.int .i64 v.hi)) V) := Lib.hid (fun V hV => ⟨ext_of_below hV _ _ c0, ext_of_below hV _ _ c1, ext_of_below hV _ _ x0, ext_of_below hV _ _ x1⟩)
  have hhe := fun V (hV : Below w3.heap.size w3 V) => rheldF_any _ l v.hi V (HR.out _ (hA2.trans (hV.mono hA2.size))) HOK.out (by omega)
  have hsp := fun V (hV : Below w3.heap.size w3 V) => rsteepestF_any _ l ⟨v.lo - below, v.hi⟩ V (HR.out _ (hA2.trans (hV.mono hA2.size))) HOK.out
  have hqk := steepL_ok HOK.out ⟨v.lo - below, v.hi⟩
  have hlq := lowQ_q hqk
  have hql : QOk ((lowQ (steepL l ⟨v.lo - below, v.hi⟩)).1, (lowQ (steepL l ⟨v.lo - below, v.hi⟩)).2) := ⟨hlq.n1, Int.le_trans hlq.n2 hqk.n2, hlq.d1, Int.le_trans hlq.d2 hqk.d2⟩
  have hsq : strQ l.factor ((lowQ (steepL l ⟨v.lo - below, v.hi⟩)).1, (lowQ (steepL l ⟨v.lo - below, v.hi⟩)).2) th = strainL l ⟨v.lo - below, v.hi⟩ th := strQ_low hlq l.factor th
  have hst := fun V => rstrainF_any a cap l (lowQ (steepL l ⟨v.lo - below, v.hi⟩)).1 (lowQ (steepL l ⟨v.lo - below, v.hi⟩)).2 th V HOK.out.factor hql hg.2.2.1
  rw [hsq] at hst
  clear hqk hlq hql hsq
  generalize (lowQ (steepL l ⟨v.lo - below, v.hi⟩)).1 = qn at *
  generalize (lowQ (steepL l ⟨v.lo - below, v.hi⟩)).2 = qd at *
  generalize heldL l v.hi = hh at *
  generalize strainL l ⟨v.lo - below, v.hi⟩ th = ss at *
  clear c0 c1 x0 x1 hB2 hV2 hg v1 v2 v3 s0 s1 hwi g0 g1 g2 g3 g4 g5 g6 gs0 gs1
  refine wp_region_till (fun w' : World => w'.cell? ⟨w.heap.size, 0, none⟩ = some (.slice a l.knees.length cap) ∧ w'.cell? ⟨w.heap.size, 1, none⟩ = some (.int .i64 l.factor) ∧ w'.cell? ⟨pV, 0, none⟩ = some (.int .i64 v.lo) ∧ w'.cell? ⟨pV, 1, none⟩ = some (.int .i64 v.hi)) 99 (by kernel_rfl) (HSV.out _ D0) (fun hHeld => ?_)
  refine Till.take 0 (some 71) (v := ?_) rfl rfl (by kernel_rfl) (by kernel_rfl) (by kernel_rfl) (by kernel_rfl) (fun _ _ _ h => h) (Or.inl ⟨by rfl, ?_⟩) (by assumption) ?_
  rotate_left
  · (intro w hSw; (try dsimp only at hSw); go_simp; try with_reducible rfl)
  try simp only [Act.put, List.setIfInBounds_toArray, List.set_cons_zero, List.set_cons_succ]
  refine Till.take 1 (some 72) (v := ?_) rfl rfl (by kernel_rfl) (by kernel_rfl) (by kernel_rfl) (by kernel_rfl) (fun _ _ _ h => h) (Or.inl ⟨by rfl, ?_⟩) (by assumption) ?_
  rotate_left
  · (intro w hSw; (try dsimp only at hSw); go_simp; try with_reducible rfl)
  try simp only [Act.put, List.setIfInBounds_toArray, List.set_cons_zero, List.set_cons_succ]
  refine Till.take 2 (some 73) (v := ?_) rfl rfl (by kernel_rfl) (by kernel_rfl) (by kernel_rfl) (by kernel_rfl) (fun _ _ _ h => h) (Or.inl ⟨by rfl, ?_⟩) (by assumption) ?_
  rotate_left
  · (intro w hSw; (try dsimp only at hSw); go_simp; try with_reducible rfl)
  try simp only [Act.put, List.setIfInBounds_toArray, List.set_cons_zero, List.set_cons_succ]
  refine Till.take 4 (some 75) (v := ?_) rfl rfl (by kernel_rfl) (by kernel_rfl) (by kernel_rfl) (by kernel_rfl) (fun _ _ _ h => h) (Or.inl ⟨by rfl, ?_⟩) (by assumption) ?_
  rotate_left
  · (intro w hSw; (try dsimp only at hSw); go_simp; try with_reducible rfl)
  try simp only [Act.put, List.setIfInBounds_toArray, List.set_cons_zero, List.set_cons_succ]
  refine Till.one 3 rfl (by kernel_rfl) (fun K hK => ?_)
  go_simp
  go_at_call 33
  refine (hhe _ D0).mono ?_
  rintro e w6 ⟨rfl, hb6⟩
  have D1 := D0.trans (hb6.mono D0.size)
  have hh1 := HSV.out _ D1
  refine hK.out _ _ (fun _ => hh1) (fun hHeld2 => ?_)
  clear hK K hb6 hhe
  try simp only [Act.put, List.setIfInBounds_toArray, List.set_cons_zero, List.set_cons_succ]
  by_cases hs1 : soak ≤ hh
  case neg =>
    have g1 := decide_eq_false hs1
    have HLB2 := Lib.hid (show annealB l (v, 0) below soak th lim = false by rw [HLB.out, g1]; rfl)
    refine Till.take 5 (some 76) (v := ?_) rfl rfl (by kernel_rfl) (by kernel_rfl) (by kernel_rfl) (by kernel_rfl) (fun _ _ _ h => h) (Or.inl ⟨by rfl, ?_⟩) (by assumption) ?_
    rotate_left
    · (intro w hSw; (try dsimp only at hSw); go_simp; try with_reducible rfl)
    try simp only [Act.put, List.setIfInBounds_toArray, List.set_cons_zero, List.set_cons_succ]
    refine Till.take 6 (some 77) (v := ?_) rfl rfl (by kernel_rfl) (by kernel_rfl) (by kernel_rfl) (by kernel_rfl) (fun _ _ _ h => h) (Or.inl ⟨by rfl, ?_⟩) (by assumption) ?_
    rotate_left
    · (intro w hSw; (try dsimp only at hSw); go_simp; try with_reducible rfl)
    try simp only [Act.put, List.setIfInBounds_toArray, List.set_cons_zero, List.set_cons_succ]
    try simp only [g1]
    refine Till.take 7 (some 78) (v := undef) rfl rfl (by kernel_rfl) (by kernel_rfl) (by kernel_rfl) (by kernel_rfl) (fun _ _ _ h => h) (Or.inr ⟨by rfl, rfl⟩) (by assumption) ?_
    try simp only [Act.put, List.setIfInBounds_toArray, List.set_cons_zero, List.set_cons_succ]
    refine Till.take 8 (some 79) (v := undef) rfl rfl (by kernel_rfl) (by kernel_rfl) (by kernel_rfl) (by kernel_rfl) (fun _ _ _ h => h) (Or.inr ⟨by rfl, rfl⟩) (by assumption) ?_
    try simp only [Act.put, List.setIfInBounds_toArray, List.set_cons_zero, List.set_cons_succ]
    refine Till.take 9 (some 80) (v := undef) rfl rfl (by kernel_rfl) (by kernel_rfl) (by kernel_rfl) (by kernel_rfl) (fun _ _ _ h => h) (Or.inr ⟨by rfl, rfl⟩) (by assumption) ?_
    try simp only [Act.put, List.setIfInBounds_toArray, List.set_cons_zero, List.set_cons_succ]
    refine Till.take 10 (some 81) (v := undef) rfl rfl (by kernel_rfl) (by kernel_rfl) (by kernel_rfl) (by kernel_rfl) (fun _ _ _ h => h) (Or.inr ⟨by rfl, rfl⟩) (by assumption) ?_
    try simp only [Act.put, List.setIfInBounds_toArray, List.set_cons_zero, List.set_cons_succ]
    refine Till.take 11 (some 82) (v := undef) rfl rfl (by kernel_rfl) (by kernel_rfl) (by kernel_rfl) (by kernel_rfl) (fun _ _ _ h => h) (Or.inr ⟨by rfl, rfl⟩) (by assumption) ?_
    try simp only [Act.put, List.setIfInBounds_toArray, List.set_cons_zero, List.set_cons_succ]
    refine Till.take 12 (some 83) (v := undef) rfl rfl (by kernel_rfl) (by kernel_rfl) (by kernel_rfl) (by kernel_rfl) (fun _ _ _ h => h) (Or.inr ⟨by rfl, rfl⟩) (by assumption) ?_
    try simp only [Act.put, List.setIfInBounds_toArray, List.set_cons_zero, List.set_cons_succ]
    refine Till.take 13 (some 84) (v := undef) rfl rfl (by kernel_rfl) (by kernel_rfl) (by kernel_rfl) (by kernel_rfl) (fun _ _ _ h => h) (Or.inr ⟨by rfl, rfl⟩) (by assumption) ?_
    try simp only [Act.put, List.setIfInBounds_toArray, List.set_cons_zero, List.set_cons_succ]
    refine Till.take 14 (some 85) (v := undef) rfl rfl (by kernel_rfl) (by kernel_rfl) (by kernel_rfl) (by kernel_rfl) (fun _ _ _ h => h) (Or.inr ⟨by rfl, rfl⟩) (by assumption) ?_
    try simp only [Act.put, List.setIfInBounds_toArray, List.set_cons_zero, List.set_cons_succ]
    refine Till.take 15 (some 86) (v := undef) rfl rfl (by kernel_rfl) (by kernel_rfl) (by kernel_rfl) (by kernel_rfl) (fun _ _ _ h => h) (Or.inr ⟨by rfl, rfl⟩) (by assumption) ?_
    try simp only [Act.put, List.setIfInBounds_toArray, List.set_cons_zero, List.set_cons_succ]
    refine Till.take 16 (some 87) (v := undef) rfl rfl (by kernel_rfl) (by kernel_rfl) (by kernel_rfl) (by kernel_rfl) (fun _ _ _ h => h) (Or.inr ⟨by rfl, rfl⟩) (by assumption) ?_
    try simp only [Act.put, List.setIfInBounds_toArray, List.set_cons_zero, List.set_cons_succ]
    refine Till.take 17 (some 88) (v := undef) rfl rfl (by kernel_rfl) (by kernel_rfl) (by kernel_rfl) (by kernel_rfl) (fun _ _ _ h => h) (Or.inr ⟨by rfl, rfl⟩) (by assumption) ?_
    try simp only [Act.put, List.setIfInBounds_toArray, List.set_cons_zero, List.set_cons_succ]
    refine Till.take 18 (some 89) (v := undef) rfl rfl (by kernel_rfl) (by kernel_rfl) (by kernel_rfl) (by kernel_rfl) (fun _ _ _ h => h) (Or.inr ⟨by rfl, rfl⟩) (by assumption) ?_
    try simp only [Act.put, List.setIfInBounds_toArray, List.set_cons_zero, List.set_cons_succ]
    refine Till.take 19 (some 90) (v := undef) rfl rfl (by kernel_rfl) (by kernel_rfl) (by kernel_rfl) (by kernel_rfl) (fun _ _ _ h => h) (Or.inr ⟨by rfl, rfl⟩) (by assumption) ?_
    try simp only [Act.put, List.setIfInBounds_toArray, List.set_cons_zero, List.set_cons_succ]
    refine Till.take 20 (some 91) (v := undef) rfl rfl (by kernel_rfl) (by kernel_rfl) (by kernel_rfl) (by kernel_rfl) (fun _ _ _ h => h) (Or.inr ⟨by rfl, rfl⟩) (by assumption) ?_
    try simp only [Act.put, List.setIfInBounds_toArray, List.set_cons_zero, List.set_cons_succ]
    refine Till.take 21 (some 92) (v := ?_) rfl rfl (by kernel_rfl) (by kernel_rfl) (by kernel_rfl) (by kernel_rfl) (fun _ _ _ h => h) (Or.inl ⟨by rfl, ?_⟩) (by assumption) ?_
    rotate_left
    · (intro w hSw; (try dsimp only at hSw); go_simp; try with_reducible rfl)
    try simp only [Act.put, List.setIfInBounds_toArray, List.set_cons_zero, List.set_cons_succ]
    refine Till.take 22 (some 16) (v := ?_) rfl rfl (by kernel_rfl) (by kernel_rfl) (by kernel_rfl) (by kernel_rfl) (fun _ _ _ h => h) (Or.inl ⟨by rfl, ?_⟩) (by assumption) ?_
    rotate_left
    · (intro w hSw; (try dsimp only at hSw); go_simp; try with_reducible rfl)
    try simp only [Act.put, List.setIfInBounds_toArray, List.set_cons_zero, List.set_cons_succ]
    refine Till.take 23 (some 17) (v := ?_) rfl rfl (by kernel_rfl) (by kernel_rfl) (by kernel_rfl) (by kernel_rfl) (fun _ _ _ h => h) (Or.inl ⟨by rfl, ?_⟩) (by assumption) ?_
    rotate_left
    · (intro w hSw; (try dsimp only at hSw); go_simp; try with_reducible rfl)
    try simp only [Act.put, List.setIfInBounds_toArray, List.set_cons_zero, List.set_cons_succ]
    refine Till.done (by kernel_rfl) ?_ _
    have HF := Lib.hid (hA2.trans (D1.mono hA2.size))
    clear hHeld hHeld2 hh1 HSV D0 D1 hA2 hst hsp
    go_wp2
    go_ret2
    exact ⟨by rw [HX.out, HLB2.out]; rfl, HF.out⟩
  have g1 := decide_eq_true hs1
  have HLB2 := Lib.hid (show annealB l (v, 0) below soak th lim = decide (ss ≤ lim) by rw [HLB.out, g1]; rfl)
  refine Till.take 5 (some 76) (v := ?_) rfl rfl (by kernel_rfl) (by kernel_rfl) (by kernel_rfl) (by kernel_rfl) (fun _ _ _ h => h) (Or.inl ⟨by rfl, ?_⟩) (by assumption) ?_
  rotate_left
  · (intro w hSw; (try dsimp only at hSw); go_simp; try with_reducible rfl)
  try simp only [Act.put, List.setIfInBounds_toArray, List.set_cons_zero, List.set_cons_succ]
  refine Till.take 6 (some 77) (v := ?_) rfl rfl (by kernel_rfl) (by kernel_rfl) (by kernel_rfl) (by kernel_rfl) (fun _ _ _ h => h) (Or.inl ⟨by rfl, ?_⟩) (by assumption) ?_
  rotate_left
  · (intro w hSw; (try dsimp only at hSw); go_simp; try with_reducible rfl)
  try simp only [Act.put, List.setIfInBounds_toArray, List.set_cons_zero, List.set_cons_succ]
  try simp only [g1]
  refine Till.take 7 (some 78) (v := ?_) rfl rfl (by kernel_rfl) (by kernel_rfl) (by kernel_rfl) (by kernel_rfl) (fun _ _ _ h => h) (Or.inl ⟨by rfl, ?_⟩) (by assumption) ?_
  rotate_left
  · (intro w hSw; (try dsimp only at hSw); go_simp; try with_reducible rfl)
  try simp only [Act.put, List.setIfInBounds_toArray, List.set_cons_zero, List.set_cons_succ]
  refine Till.take 8 (some 79) (v := ?_) rfl rfl (by kernel_rfl) (by kernel_rfl) (by kernel_rfl) (by kernel_rfl) (fun _ _ _ h => h) (Or.inl ⟨by rfl, ?_⟩) (by assumption) ?_
  rotate_left
  · (intro w hSw; (try dsimp only at hSw); go_simp; try with_reducible rfl)
  try simp only [Act.put, List.setIfInBounds_toArray, List.set_cons_zero, List.set_cons_succ]
  refine Till.take 9 (some 80) (v := ?_) rfl rfl (by kernel_rfl) (by kernel_rfl) (by kernel_rfl) (by kernel_rfl) (fun _ _ _ h => h) (Or.inl ⟨by rfl, ?_⟩) (by assumption) ?_
  rotate_left
  · (intro w hSw; (try dsimp only at hSw); go_simp; try with_reducible rfl)
  try simp only [Act.put, List.setIfInBounds_toArray, List.set_cons_zero, List.set_cons_succ]
  refine Till.take 10 (some 81) (v := ?_) rfl rfl (by kernel_rfl) (by kernel_rfl) (by kernel_rfl) (by kernel_rfl) (fun _ _ _ h => h) (Or.inl ⟨by rfl, ?_⟩) (by assumption) ?_
  rotate_left
  · (intro w hSw; (try dsimp only at hSw); go_simp; try with_reducible rfl)
  try simp only [Act.put, List.setIfInBounds_toArray, List.set_cons_zero, List.set_cons_succ]
  refine Till.take 11 (some 82) (v := ?_) rfl rfl (by kernel_rfl) (by kernel_rfl) (by kernel_rfl) (by kernel_rfl) (fun _ _ _ h => h) (Or.inl ⟨by rfl, ?_⟩) (by assumption) ?_
  rotate_left
  · (intro w hSw; (try dsimp only at hSw); go_simp; try with_reducible rfl)
  try simp only [Act.put, List.setIfInBounds_toArray, List.set_cons_zero, List.set_cons_succ]
  refine Till.take 12 (some 83) (v := ?_) rfl rfl (by kernel_rfl) (by kernel_rfl) (by kernel_rfl) (by kernel_rfl) (fun _ _ _ h => h) (Or.inl ⟨by rfl, ?_⟩) (by assumption) ?_
  rotate_left
  · (intro w hSw; (try dsimp only at hSw); go_simp; try with_reducible rfl)
  try simp only [Act.put, List.setIfInBounds_toArray, List.set_cons_zero, List.set_cons_succ]
  refine Till.take 13 (some 84) (v := ?_) rfl rfl (by kernel_rfl) (by kernel_rfl) (by kernel_rfl) (by kernel_rfl) (fun _ _ _ h => h) (Or.inl ⟨by rfl, ?_⟩) (by assumption) ?_
  rotate_left
  · (intro w hSw; (try dsimp only at hSw); go_simp; try with_reducible rfl)
  try simp only [Act.put, List.setIfInBounds_toArray, List.set_cons_zero, List.set_cons_succ]
  refine Till.take 14 (some 85) (v := ?_) rfl rfl (by kernel_rfl) (by kernel_rfl) (by kernel_rfl) (by kernel_rfl) (fun _ _ _ h => h) (Or.inl ⟨by rfl, ?_⟩) (by assumption) ?_
  rotate_left
  · (intro w hSw; (try dsimp only at hSw); go_simp; try with_reducible rfl)
  try simp only [Act.put, List.setIfInBounds_toArray, List.set_cons_zero, List.set_cons_succ]
  refine Till.take 15 (some 86) (v := ?_) rfl rfl (by kernel_rfl) (by kernel_rfl) (by kernel_rfl) (by kernel_rfl) (fun _ _ _ h => h) (Or.inl ⟨by rfl, ?_⟩) (by assumption) ?_
  rotate_left
  · (intro w hSw; (try dsimp only at hSw); go_simp; try with_reducible rfl)
  try simp only [Act.put, List.setIfInBounds_toArray, List.set_cons_zero, List.set_cons_succ]
  refine Till.take 17 (some 88) (v := ?_) rfl rfl (by kernel_rfl) (by kernel_rfl) (by kernel_rfl) (by kernel_rfl) (fun _ _ _ h => h) (Or.inl ⟨by rfl, ?_⟩) (by assumption) ?_
  rotate_left
  · (intro w hSw; (try dsimp only at hSw); go_simp; try with_reducible rfl)
  try simp only [Act.put, List.setIfInBounds_toArray, List.set_cons_zero, List.set_cons_succ]
  refine Till.take 19 (some 90) (v := ?_) rfl rfl (by kernel_rfl) (by kernel_rfl) (by kernel_rfl) (by kernel_rfl) (fun _ _ _ h => h) (Or.inl ⟨by rfl, ?_⟩) (by assumption) ?_
  rotate_left
  · (intro w hSw; (try dsimp only at hSw); go_simp; try with_reducible rfl)
  try simp only [Act.put, List.setIfInBounds_toArray, List.set_cons_zero, List.set_cons_succ]
  try simp only [y1]
  refine Till.one 16 rfl (by kernel_rfl) (fun K hK => ?_)
  go_simp
  go_at_call 35
  refine (hsp _ D1).mono ?_
  rintro e w7 ⟨rfl, hb7⟩
  have D2 := D1.trans (hb7.mono D1.size)
  have hh2 := HSV.out _ D2
  refine hK.out _ _ (fun _ => hh2) (fun hHeld3 => ?_)
  clear hK K hb7 hsp
  try simp only [Act.put, List.setIfInBounds_toArray, List.set_cons_zero, List.set_cons_succ]
  refine Till.one 18 rfl (by kernel_rfl) (fun K hK => ?_)
  go_simp
  go_at_call 34
  refine (hst _).mono ?_
  rintro e w8 ⟨rfl, hb8⟩
  have D3 := D2.trans (hb8.mono D2.size)
  have hh3 := HSV.out _ D3
  refine hK.out _ _ (fun _ => hh3) (fun hHeld4 => ?_)
  clear hK K hb8 hst
  try simp only [Act.put, List.setIfInBounds_toArray, List.set_cons_zero, List.set_cons_succ]
  refine Till.take 20 (some 91) (v := ?_) rfl rfl (by kernel_rfl) (by kernel_rfl) (by kernel_rfl) (by kernel_rfl) (fun _ _ _ h => h) (Or.inl ⟨by rfl, ?_⟩) (by assumption) ?_
  rotate_left
  · (intro w hSw; (try dsimp only at hSw); go_simp; try with_reducible rfl)
  try simp only [Act.put, List.setIfInBounds_toArray, List.set_cons_zero, List.set_cons_succ]
  refine Till.take 21 (some 92) (v := ?_) rfl rfl (by kernel_rfl) (by kernel_rfl) (by kernel_rfl) (by kernel_rfl) (fun _ _ _ h => h) (Or.inl ⟨by rfl, ?_⟩) (by assumption) ?_
  rotate_left
  · (intro w hSw; (try dsimp only at hSw); go_simp; try with_reducible rfl)
  try simp only [Act.put, List.setIfInBounds_toArray, List.set_cons_zero, List.set_cons_succ]
  refine Till.take 22 (some 16) (v := ?_) rfl rfl (by kernel_rfl) (by kernel_rfl) (by kernel_rfl) (by kernel_rfl) (fun _ _ _ h => h) (Or.inl ⟨by rfl, ?_⟩) (by assumption) ?_
  rotate_left
  · (intro w hSw; (try dsimp only at hSw); go_simp; try with_reducible rfl)
  try simp only [Act.put, List.setIfInBounds_toArray, List.set_cons_zero, List.set_cons_succ]
  refine Till.take 23 (some 17) (v := ?_) rfl rfl (by kernel_rfl) (by kernel_rfl) (by kernel_rfl) (by kernel_rfl) (fun _ _ _ h => h) (Or.inl ⟨by rfl, ?_⟩) (by assumption) ?_
  rotate_left
  · (intro w hSw; (try dsimp only at hSw); go_simp; try with_reducible rfl)
  try simp only [Act.put, List.setIfInBounds_toArray, List.set_cons_zero, List.set_cons_succ]
  refine Till.done (by kernel_rfl) ?_ _
  have HF := Lib.hid (hA2.trans (D3.mono hA2.size))
  clear hHeld hHeld2 hHeld3 hHeld4 hh1 hh2 hh3 HSV D0 D1 D2 D3 hA2
  go_wp2
  go_ret2
  exact ⟨by rw [HX.out, HLB2.out]; rfl, HF.out⟩

end Go.Proofs.YtmmlocjiegkjeaaGreatDoor
