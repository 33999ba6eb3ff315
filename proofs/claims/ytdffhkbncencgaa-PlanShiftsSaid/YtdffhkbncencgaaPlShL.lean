/- The law PlanShifts: every input; no statement is proved here. -/
import Derived.Test.YtdffhkbncencgaaPlShM
import Derived.Test.YtdffhkbncencgaaPlEx
import Derived.Test.YtdffhkbncencgaaPlGrt
import Derived.Deep.QuietTactic
import Derived.BigQuiet
import Derived.Deep.OwnRows
import Derived.Deep.AppendLies
namespace Go.Proofs.Ytdffhkbncencgaa
open Go.RowKit Go.PlainAid
set_option linter.unusedVariables false
set_option linter.unusedSimpArgs false

theorem boolD_at {f : FuncId} {args : Array Value} {w : World} {b c : Bool} (h : Calls Try.prog f args w (BoolD b w)) (e : b = c) : Calls Try.prog f args w fun e w' => e = .returned (.bool c) ∧ ∃ n, w' = w.drewN n := by
  rw [← e]; exact h
set_option maxHeartbeats 16000000 in
set_option maxRecDepth 100000 in
theorem fShiftsLaw_any (s : Sn) (d : SA) (x : Ask8) (v0 v1 v3 : Value) (w : World) (h : SnD w s d) (hx : AskC w x v0 v1 v3) :
    Calls Try.prog 7 #[.agg #[.int .i64 s.days, .slice d.a1 s.arts.length d.c1, .slice d.a2 s.ovens.length d.c2, .slice d.a3 s.mks.length d.c3, .slice d.a4 s.jobs.length d.c4, .slice d.a5 s.cols.length d.c5, .slice d.a6 s.ods.length d.c6], .agg #[v0, v1, .int .i64 x.oven, v3]] w (TrueP w) := by
  have hA : Below w.heap.size w ((w.alloc (.cells #[.int .i64 s.days, .slice d.a1 s.arts.length d.c1, .slice d.a2 s.ovens.length d.c2, .slice d.a3 s.mks.length d.c3, .slice d.a4 s.jobs.length d.c4, .slice d.a5 s.cols.length d.c5, .slice d.a6 s.ods.length d.c6] 28)).alloc (.cells #[v0, v1, .int .i64 x.oven, v3] 32)) := (below_box w _).alloc (by simp) _
  have hB := (Blk.new w #[.int .i64 s.days, .slice d.a1 s.arts.length d.c1, .slice d.a2 s.ovens.length d.c2, .slice d.a3 s.mks.length d.c3, .slice d.a4 s.jobs.length d.c4, .slice d.a5 s.cols.length d.c5, .slice d.a6 s.ods.length d.c6] 28).alloc (.cells #[v0, v1, .int .i64 x.oven, v3] 32)
  have hX := Blk.new (w.alloc (.cells #[.int .i64 s.days, .slice d.a1 s.arts.length d.c1, .slice d.a2 s.ovens.length d.c2, .slice d.a3 s.mks.length d.c3, .slice d.a4 s.jobs.length d.c4, .slice d.a5 s.cols.length d.c5, .slice d.a6 s.ods.length d.c6] 28)) #[v0, v1, .int .i64 x.oven, v3] 32
  rw [World.size_alloc] at hX
  have HS := Lib.hid (fun V (hV : Below w.heap.size w V) => h.mono (ext_of_below hV))
  have HX := Lib.hid (fun V (hV : Below w.heap.size w V) => hx.mono (ext_of_below hV))
  clear h hx
  go_enter Try.func7, Try.ntmps7
  go_wp2_with fail
  generalize (w.alloc (.cells #[.int .i64 s.days, .slice d.a1 s.arts.length d.c1, .slice d.a2 s.ovens.length d.c2, .slice d.a3 s.mks.length d.c3, .slice d.a4 s.jobs.length d.c4, .slice d.a5 s.cols.length d.c5, .slice d.a6 s.ods.length d.c6] 28)).alloc _ = W at *
  refine (Great8_any s d W (HS.out _ hA)).mono ?_
  rintro e w1 ⟨⟨b, rfl⟩, hb⟩
  replace hB := hB.below hb hB.lt
  replace hX := hX.below hb hX.lt
  replace hA := hA.trans (hb.mono hA.size)
  clear hb
  cases b with
  | true =>
    clear hB hX
    go_wp2_with fail
    refine (lives_any _).mono ?_
    rintro e wl ⟨rfl, hbl⟩
    have HE := Lib.hid (hA.trans (hbl.mono hA.size))
    clear hbl hA
    go_wp2
    go_ret
    exact ⟨rfl, HE.out⟩
  | false =>
  have x0 := hB.cell 0 _ rfl
  have x1 := hB.cell 1 _ rfl
  have x2 := hB.cell 2 _ rfl
  have x3 := hB.cell 3 _ rfl
  have x4 := hB.cell 4 _ rfl
  have x5 := hB.cell 5 _ rfl
  have x6 := hB.cell 6 _ rfl
  have y0 := hX.cell 0 _ rfl
  have y1 := hX.cell 1 _ rfl
  have y2 := hX.cell 2 _ rfl
  have y3 := hX.cell 3 _ rfl
  go_wp2_with fail
  refine (Wide_any x v0 v1 v3 _ (HX.out _ hA)).mono ?_
  rintro e w2 ⟨⟨b, rfl⟩, hb⟩
  clear x0 x1 x2 x3 x4 x5 x6 y0 y1 y2 y3
  replace hB := hB.below hb hB.lt
  replace hX := hX.below hb hX.lt
  replace hA := hA.trans (hb.mono hA.size)
  clear hb
  cases b with
  | true =>
    clear hB hX
    go_wp2_with fail
    refine (lives_any _).mono ?_
    rintro e wl ⟨rfl, hbl⟩
    have HE := Lib.hid (hA.trans (hbl.mono hA.size))
    clear hbl hA
    go_wp2
    go_ret
    exact ⟨rfl, HE.out⟩
  | false =>
  obtain ⟨ii, hi, hzz⟩ := Option.map_eq_some_iff.1 info_int
  obtain ⟨hz0, hz1⟩ := Prod.mk.inj hzz
  obtain ⟨hz1, hz2⟩ := Prod.mk.inj hz1
  clear hzz
  have hC := Keeps_any s d x.plan v0 _ (HS.out _ hA) (HX.out _ hA).plan
  by_cases hp : plE s x.plan = 0
  case neg =>
    have hkp : kpA s x.plan = false := by unfold kpA; simp [hp]
    obtain ⟨r, hr⟩ : ∃ r, plE s x.plan = r := ⟨_, rfl⟩
    rw [hr] at hp
    have hr0 : (r != 0) = true := by simpa using hp
    rw [hkp, hr] at hC
    clear hkp hp hr
    have x0 := hB.cell 0 _ rfl
    have x1 := hB.cell 1 _ rfl
    have x2 := hB.cell 2 _ rfl
    have x3 := hB.cell 3 _ rfl
    have x4 := hB.cell 4 _ rfl
    have x5 := hB.cell 5 _ rfl
    have x6 := hB.cell 6 _ rfl
    have y0 := hX.cell 0 _ rfl
    go_wp2_with fail
    refine hC.mono ?_
    rintro e wt ⟨rfl, hb⟩
    clear hC
    clear x0 x1 x2 x3 x4 x5 x6 y0
    replace hB := hB.below hb hB.lt
    replace hX := hX.below hb hX.lt
    replace hA := hA.trans (hb.mono hA.size)
    clear hb
    clear hB hX
    go_wp2_with fail
    refine (lives_any _).mono ?_
    rintro e wl ⟨rfl, hbl⟩
    have HE := Lib.hid (hA.trans (hbl.mono hA.size))
    clear hbl hA
    go_wp2
    go_ret
    exact ⟨rfl, HE.out⟩
  case pos =>
  obtain ⟨hwk, ok, pk⟩ := plE_ok hp
  have hkp : kpA s x.plan = keepsB s x.plan := by unfold kpA; simp [hp]
  have hfull := allS_full ok.nm x.plan
  rw [← hkp] at hfull
  obtain ⟨isb, hisb⟩ : ∃ b, kpA s x.plan = b := ⟨_, rfl⟩
  rw [hisb] at hfull
  rw [hisb, hp] at hC
  clear hkp hp hisb
  have x0 := hB.cell 0 _ rfl
  have x1 := hB.cell 1 _ rfl
  have x2 := hB.cell 2 _ rfl
  have x3 := hB.cell 3 _ rfl
  have x4 := hB.cell 4 _ rfl
  have x5 := hB.cell 5 _ rfl
  have x6 := hB.cell 6 _ rfl
  have y0 := hX.cell 0 _ rfl
  go_wp2_with fail
  refine hC.mono ?_
  rintro e wt ⟨rfl, hb⟩
  clear hC
  clear x0 x1 x2 x3 x4 x5 x6 y0
  replace hB := hB.below hb hB.lt
  replace hX := hX.below hb hX.lt
  replace hA := hA.trans (hb.mono hA.size)
  clear hb
  obtain ⟨D, hD⟩ : ∃ D, s.days.toNat = D := ⟨_, rfl⟩
  have hDd : s.days = (D : Int) := by have := ok.days; omega
  rw [hD] at hfull
  have HFU := Lib.hid hfull
  have HPL := Lib.hid pk.shp
  rw [hD] at HPL
  have HOK := Lib.hid ok
  have HWK := Lib.hid hwk
  have hno := ok.no
  have hnm := ok.nm
  have hDb : D ≤ 14 := by have := ok.days; omega
  have HDd := Lib.hid hDd
  obtain ⟨a0, c0, hv0⟩ := (HX.out _ hA).plan.shape
  rw [HPL.out.1] at hv0
  have HT := Lib.hid (HX.out _ hA).plan
  rw [hv0] at HT
  have x0 := hB.cell 0 _ rfl
  have x1 := hB.cell 1 _ rfl
  have x2 := hB.cell 2 _ rfl
  have x3 := hB.cell 3 _ rfl
  have x4 := hB.cell 4 _ rfl
  have x5 := hB.cell 5 _ rfl
  have x6 := hB.cell 6 _ rfl
  have y0 := hX.cell 0 _ rfl
  rw [hv0] at y0
  have HS6 := Lib.hid (HS.out _ hA)
  have HA := Lib.hid hA
  have HB := Lib.hid hB
  clear hDd hv0 hfull pk ok hwk hD
  go_upto_region 8 with (fail)
  have x0' := x0
  rw [HDd.out] at x0'
  have HX0 := Lib.hid x0'
  have HX2 := Lib.hid x2
  have HX3 := Lib.hid x3
  have HY0 := Lib.hid y0
  clear x0 x0' x1 x2 x3 x4 x5 x6 y0 hA hB hX
  go_loopw [7, 8] (fun v i wx => ∃ k8 : Nat, k8 ≤ s.ovens.length ∧ i = .int .i64 k8 ∧ v = .bool (allS s x.plan D k8 0) ∧ Below wt.heap.size wt wx) (fun _ i _ => s.ovens.length - (intOf i).toNat)
  case atStart => exact ⟨0, Nat.zero_le _, rfl, by rw [allS_zero], Below.refl _ _⟩
  case round =>
    obtain ⟨k8, hk8, rfl, rfl, hb⟩ := hrel
    have x2 := ext_of_below hb _ _ HX2.out
    by_cases hlt8 : k8 < s.ovens.length
    case neg =>
      have j8c : ¬ (k8 : Int) < (s.ovens.length : Int) := by omega
      obtain rfl : k8 = s.ovens.length := by omega
      rw [HFU.out]
      have hbb : (isb == isb) = true := by simp
      have HE0 := Lib.hid (HA.out.trans (hb.mono HA.out.size))
      clear hb
      go_upto_region 33 with (fail)
      clear x2
      go_wp2_with fail
      refine (lives_any _).mono ?_
      rintro e wl ⟨rfl, hbl⟩
      have HE := Lib.hid (HE0.out.trans (hbl.mono HE0.out.size))
      clear hbl
      go_wp2
      go_ret
      exact ⟨rfl, HE.out⟩
    case pos =>
    have j8a : (0 : Int) ≤ (k8 : Int) := Int.natCast_nonneg _
    have j8b : (k8 : Int) < (s.ovens.length : Int) := by omega
    have hB := HB.out.below hb HB.out.lt
    have z0 := hB.cell 0 _ rfl
    have z1 := hB.cell 1 _ rfl
    have z2 := hB.cell 2 _ rfl
    have z3 := hB.cell 3 _ rfl
    have z4 := hB.cell 4 _ rfl
    have z5 := hB.cell 5 _ rfl
    have z6 := hB.cell 6 _ rfl
    have hC := Shifts_any s d (k8 : Int) wr (HS.out _ (HA.out.trans (hb.mono HA.out.size)))
    have hsE : shE s (k8 : Int) = 0 := by
      unfold shE
      rw [if_pos HWK.out, if_pos]
      rw [btw_true]; omega
    have hsA : shA s (k8 : Int) = shL (ovAt s k8) := by
      unfold shA
      rw [if_pos hsE]; rfl
    unfold ShA at hC
    rw [hsE, hsA] at hC
    have hSP := shL_shp (ovAt s k8)
    have h54 := sh_few HWK.out hlt8
    clear hsE hsA hB
    go_upto_region 10 with (fail)
    clear x2
    go_wp2_with fail
    refine hC.mono ?_
    rintro e w7 ⟨⟨v, rfl, hv⟩, hb7⟩
    replace hv := hv.mono vis_out
    clear hC z0 z1 z2 z3 z4 z5 z6
    obtain ⟨al, cl, rfl⟩ := hv.shape
    rw [hSP.1] at hv ⊢
    have HL := Lib.hid hv
    have HSP := Lib.hid hSP
    have HB7 := Lib.hid (hb.trans (hb7.mono hb.size))
    clear hv hSP hb hb7
    have hnx : ∀ n, n + 1 < (ovAt s k8).sh.length → aheadB ((shL (ovAt s k8)).getD n []) ((shL (ovAt s k8)).getD (n + 1) []) = true := fun n hn => shL_next hnm (by rw [HSP.out.1]; exact hn)
    have HNX := Lib.hid hnx
    have hIT : ∀ day n, n < (ovAt s k8).sh.length → inTo s x.plan k8 day (n + 1) = (inTo s x.plan k8 day n || decide ((shL (ovAt s k8)).getD n [] = nowL s x.plan k8 day)) := fun day n hn => inTo_step (by rw [HSP.out.1]; exact hn)
    have HIT := Lib.hid hIT
    have hIF : ∀ day, inTo s x.plan k8 day (ovAt s k8).sh.length = inB s x.plan k8 day := fun day => by rw [← HSP.out.1]; exact inTo_full s x.plan k8 day
    have HIF := Lib.hid hIF
    clear hnx hIT hIF
    generalize shL (ovAt s k8) = SL at *
    generalize (ovAt s k8).sh.length = nl at *
    generalize (ovAt s k8).ms.length = cc at *
    go_upto_region 14 with (fail)
    go_loopw [11] (fun i wx => ∃ k11 : Nat, 1 ≤ k11 ∧ k11 ≤ nl + 1 ∧ i = .int .i64 k11 ∧ Below w7.heap.size w7 wx) (fun i _ => nl + 1 - (intOf i).toNat)
    case atStart => exact ⟨1, Nat.le_refl _, by omega, rfl, Below.refl _ _⟩
    case round =>
      obtain ⟨k11, hk11a, hk11, rfl, hb⟩ := hrel
      by_cases hlt11 : k11 < nl
      case pos =>
        obtain ⟨km, rfl⟩ : ∃ km, k11 = km + 1 := ⟨k11 - 1, by omega⟩
        have hah0 := HNX.out km hlt11
        obtain ⟨b1, o1, a2, c2, he1, q1, r1⟩ := rows_row HL.out HSP.out (show km < nl by omega)
        obtain ⟨b3, o3, a4, c4, he3, q3, r3⟩ := rows_row HL.out HSP.out hlt11
        subst he1
        simp only [Option.some.injEq, Addr.mk.injEq, and_true] at he3
        obtain ⟨rfl, rfl⟩ := he3
        replace q1 := ext_of_below hb _ _ q1
        replace q3 := ext_of_below hb _ _ q3
        replace r1 := r1.mono (ext_of_below hb)
        replace r3 := r3.mono (ext_of_below hb)
        have hah : ∀ n, Calls Try.prog 28 #[.slice a2 cc c2, .slice a4 cc c4] (wr.drewN n) fun e w' => e = .returned (.bool true) ∧ ∃ m, w' = (wr.drewN n).drewN m := fun n => boolD_at (ahead_any a2 a4 cc c2 c4 _ _ (wr.drewN n) (r1.mono (ext_of_below (below_drewN (Below.refl _ _) n))) (r3.mono (ext_of_below (below_drewN (Below.refl _ _) n)))) hah0
        have HAH := Lib.hid hah
        obtain ⟨kp, hkp⟩ : ∃ kp, km + 1 = kp := ⟨_, rfl⟩
        rw [hkp] at q3 hlt11 hk11 ⊢
        have zk : wrap64 ((kp : Int) - 1) = (km : Int) := by rw [wrap_id _ (by unfold I64; omega)]; omega
        have a1 : (0 : Int) ≤ (kp : Int) := Int.natCast_nonneg _
        have a3 : (kp : Int) < (nl : Int) := by omega
        have a5 : (0 : Int) ≤ (km : Int) := Int.natCast_nonneg _
        have a6 : (km : Int) < (nl : Int) := by omega
        have HKP := Lib.hid hkp
        have a7 : (1 : Int) ≤ (kp : Int) := by omega
        have q5 : wr.cell? ⟨b1, o1 + (kp - 1), none⟩ = some (.slice a2 cc c2) := by rw [show kp - 1 = km by omega]; exact q1
        clear hah hah0 r1 r3 hkp hk11a
        go_wp2_with fail
        go_quiet ((go_at_call 28; exact Calls.quiet_of (HAH.out _)))
        go_wp2
        go_roundw
        case rel => exact ⟨kp + 1, by omega, by omega, by go_num, below_drewN hb _⟩
        case measure => simp [intOf]; omega
      case neg =>
      have j11c : ¬ (k11 : Int) < (nl : Int) := by omega
      go_upto_region 19 with (fail)
      have hb11 := hb
      clear hk11a hk11 hlt11 hb
      go_loopw [7, 12] (fun v i wx => ∃ k12 : Nat, k12 ≤ D ∧ i = .int .i64 k12 ∧ v = .bool (allS s x.plan D k8 k12) ∧ Below w7.heap.size w7 wx) (fun _ i _ => D - (intOf i).toNat)
      case atStart => exact ⟨0, Nat.zero_le _, rfl, rfl, hb11⟩
      case round =>
        obtain ⟨k12, hk12, rfl, rfl, hb⟩ := hrel
        have hbt := HB7.out.trans (hb.mono HB7.out.size)
        have x0 := ext_of_below hbt _ _ HX0.out
        by_cases hlt12 : k12 < D
        case neg =>
          obtain rfl : k12 = D := by omega
          have j12c : ¬ (k12 : Int) < (k12 : Int) := by omega
          have HAS := Lib.hid (allS_oven s x.plan k12 k8)
          clear hb hb11
          go_wp2
          go_roundw
          case rel => exact ⟨k8 + 1, by omega, by go_num, by rw [HAS.out], hbt⟩
          case measure => simp [intOf]; omega
        case pos =>
        have j12a : (0 : Int) ≤ (k12 : Int) := Int.natCast_nonneg _
        have j12b : (k12 : Int) < (D : Int) := by omega
        go_upto_region 23 with (fail)
        clear x0 hb11
        obtain ⟨w12, rfl⟩ : ∃ W, W = wr := ⟨_, rfl⟩
        have HBT := Lib.hid hbt
        have HB12 := Lib.hid hb
        clear hbt hb
        go_loopw [13, 14] (fun v i wx => ∃ (k14 : Nat) (l : List Int), k14 ≤ s.mks.length ∧ i = .int .i64 k14 ∧ Hid (l = nowTo s x.plan k8 k12 k14) ∧ wx.ownsRow w12.heap.size 3 1 v l.length (l.map (Value.int .i64)) ∧ Below w12.heap.size w12 wx) (fun _ i _ => s.mks.length - (intOf i).toNat)
        case atStart => exact ⟨0, [], Nat.zero_le _, rfl, Lib.hid rfl, World.ownsRow_nil _ _ _ _, Below.refl _ _⟩
        case round =>
          obtain ⟨k14, l, hk14, rfl, hx, hown, hb⟩ := hrel
          have hbt := HBT.out.trans (hb.mono HBT.out.size)
          have x3 := ext_of_below hbt _ _ HX3.out
          have hll : l.length ≤ 6 := by
            rw [hx.out]
            exact Nat.le_trans (nowTo_len _ _ _ _ _) (by omega)
          by_cases hlt14 : k14 < s.mks.length
          case pos =>
            have hst := nowTo_step (s := s) (T := x.plan) (k := k8) (day := k12) hlt14
            have j14a : (0 : Int) ≤ (k14 : Int) := Int.natCast_nonneg _
            have j14b : (k14 : Int) < (s.mks.length : Int) := by omega
            obtain ⟨b3, o3, he3, v5, ⟨q1, -, -, -⟩, -⟩ := rsl_at HS6.out.mks hlt14
            try simp only at q1
            replace q1 := ext_of_below hbt _ _ q1
            rw [he3] at x3
            obtain ⟨b8, o8, b9, o9, c9, he8, p0, r1, -⟩ := rows_ent HT.out HPL.out hlt14 hlt12
            replace p0 := ext_of_below hbt _ _ p0
            replace r1 := ext_of_below hbt _ _ r1
            have y0 := ext_of_below hbt _ _ HY0.out
            rw [he8] at y0
            clear he3 he8
            generalize (s.mks[k14]).oven = ov at *
            generalize ent x.plan k14 k12 = av at *
            by_cases hov : ov = (k8 : Int)
            · have hq : (ov == (k8 : Int)) = true := beq_iff_eq.2 hov
              have HXX : Hid (l ++ [av] = nowTo s x.plan k8 k12 (k14 + 1)) := Lib.hid (by rw [hst, if_pos hov, hx.out])
              clear hst hx hov
              have hown2 := hown.alloc (.cells #[.int .i64 av] 3)
              have hlow : ∀ q, u13.ownBlock = some q → w12.heap.size ≤ q := fun q hq => (hown.lt q hq).1
              have hb2 := hb.alloc hb.size (.cells #[.int .i64 av] 3)
              have hbs := hb.size
              have HB2 := Lib.hid hb2
              clear hown hb hbt hb2
              go_wp2_with (at_builtin; refine wpList_append_lies _ rfl _ _ 30 rfl w12.heap.size 3 ii (.int .i64 0) 1 8 Try.underlying30 hi hz0 hz1 hz2 rfl (by decide) _ l.length _ rfl hown2 ⟨wr.heap.size, 0, none⟩ 1 1 [.int .i64 av] rfl rfl (by have := cell_one_new wr (.int .i64 av) 3; simpa using this) (by simp [Value.oneCell']) (by omega) (by unfold maxLen; omega) (by omega) (by simp; omega) _ rfl ?_; intro g6 k6 w6 hown6 hgrow6 hat6 hlt6)
              have hb7 := HB2.out.grown hgrow6 (by simp; omega) (fun q hq => hlow q hq)
              have hownF : w6.ownsRow w12.heap.size 3 1 (.slice (some ⟨g6, 0, none⟩) (l.length + 1) k6) (l ++ [av]).length ((l ++ [av]).map (Value.int .i64)) := by simpa using hown6
              clear hown6 hown2 hgrow6 hat6 HB2
              go_roundw
              case rel => exact ⟨k14 + 1, l ++ [av], by omega, by go_num, HXX, by simpa using hownF, hb7⟩
              case measure => simp [intOf]; omega
            · have hq : (ov == (k8 : Int)) = false := by rw [beq_eq_false_iff_ne]; exact hov
              have HXX : Hid (l = nowTo s x.plan k8 k12 (k14 + 1)) := Lib.hid (by rw [hst, if_neg hov, List.append_nil, hx.out])
              clear hst hx hov p0 r1 y0
              go_wp2
              go_roundw
              case rel => exact ⟨k14 + 1, l, by omega, by go_num, HXX, hown, hb⟩
              case measure => simp [intOf]; omega
          case neg =>
          obtain rfl : k14 = s.mks.length := by omega
          have j14c : ¬ (s.mks.length : Int) < (s.mks.length : Int) := by omega
          have hI : ∀ y ∈ l, I64 y := fun y hy => by
            rw [hx.out] at hy
            unfold nowTo at hy
            obtain ⟨m, hm, rfl⟩ := List.mem_map.1 hy
            have hm2 := mksAt_ok s (k8 : Int) m hm
            obtain ⟨mn, rfl⟩ := Int.eq_ofNat_of_zero_le hm2.1
            rw [planC_ent]
            obtain ⟨_, _, _, _, _, -, -, -, h64⟩ := rows_ent HT.out HPL.out (show mn < s.mks.length by omega) hlt12
            exact h64
          have hRN := own_RInts hown (by omega) hI
          rw [hx.out, nowTo_full] at hRN
          go_upto_region 29 with (fail)
          obtain ⟨w14, rfl⟩ : ∃ W, W = wr := ⟨_, rfl⟩
          obtain ⟨an, cn, hvn⟩ := hRN.shape
          subst hvn
          have HRN := Lib.hid hRN
          have HB14 := Lib.hid (HB12.out.trans (hb.mono HB12.out.size))
          clear hown hb hx hll hI hRN x3 hbt
          go_loopw [15, 16] (fun v i wx => ∃ k16 : Nat, k16 ≤ nl ∧ i = .int .i64 k16 ∧ v = .bool (inTo s x.plan k8 k12 k16) ∧ Below w14.heap.size w14 wx) (fun _ i _ => nl - (intOf i).toNat)
          case atStart => exact ⟨0, Nat.zero_le _, rfl, by simp [inTo], Below.refl _ _⟩
          case round =>
            obtain ⟨k16, hk16, rfl, rfl, hb⟩ := hrel
            by_cases hlt16 : k16 < nl
            case pos =>
              have hst := HIT.out k12 k16 hlt16
              have j16a : (0 : Int) ≤ (k16 : Int) := Int.natCast_nonneg _
              have j16b : (k16 : Int) < (nl : Int) := by omega
              obtain ⟨ib, hib⟩ : ∃ b, inTo s x.plan k8 k12 k16 = b := ⟨_, rfl⟩
              rw [hib] at hst ⊢
              clear hib
              cases ib with
              | true =>
                have HNX2 : Hid (Value.bool true = .bool (inTo s x.plan k8 k12 (k16 + 1))) := Lib.hid (by rw [hst]; rfl)
                clear hst
                go_wp2
                go_roundw
                case rel => exact ⟨k16 + 1, by omega, by go_num, HNX2.out, hb⟩
                case measure => simp [intOf]; omega
              | false =>
                obtain ⟨b1, o1, a2, c2, he1, q1, r1⟩ := rows_row HL.out HSP.out hlt16
                subst he1
                have hb2 := HB14.out.trans (hb.mono HB14.out.size)
                replace q1 := ext_of_below hb2 _ _ q1
                have hSI := sameInts_any _ _ _ _ wr (r1.mono (ext_of_below hb2)) (HRN.out.mono (ext_of_below hb))
                have HNX2 : Hid (inTo s x.plan k8 k12 (k16 + 1) = decide (SL.getD k16 [] = nowL s x.plan k8 k12)) := Lib.hid (by rw [hst]; rfl)
                clear hst r1 hb2
                go_wp2_with fail
                refine hSI.mono ?_
                rintro e w9 ⟨rfl, n9, rfl⟩
                have HB9 := Lib.hid (below_drewN hb n9)
                clear hSI q1 hb
                generalize wr.drewN n9 = w9 at *
                go_wp2
                go_roundw
                case rel => exact ⟨k16 + 1, by omega, by go_num, by rw [HNX2.out, List.getD_eq_getElem?_getD], HB9.out⟩
                case measure => simp [intOf]; omega
            case neg =>
            obtain rfl : k16 = nl := by omega
            have j16c : ¬ (k16 : Int) < (k16 : Int) := by omega
            rw [HIF.out]
            have hst := allS_day s x.plan D k8 k12
            have HBZ := Lib.hid (HB14.out.trans (hb.mono HB14.out.size))
            generalize inB s x.plan k8 k12 = ib at *
            generalize allS s x.plan D k8 k12 = ab at *
            clear hb
            cases ab with
            | true =>
              have HNX2 : Hid (Value.bool ib = .bool (allS s x.plan D k8 (k12 + 1))) := Lib.hid (by rw [hst]; rfl)
              clear hst
              go_wp2
              go_roundw
              case rel => exact ⟨k12 + 1, by omega, by go_num, HNX2.out, HBZ.out⟩
              case measure => simp [intOf]; omega
            | false =>
              have HNX2 : Hid (Value.bool false = .bool (allS s x.plan D k8 (k12 + 1))) := Lib.hid (by rw [hst]; rfl)
              clear hst
              go_wp2
              go_roundw
              case rel => exact ⟨k12 + 1, by omega, by go_num, HNX2.out, HBZ.out⟩
              case measure => simp [intOf]; omega
end Go.Proofs.Ytdffhkbncencgaa
