/- The specification's lacks, cost, Made, Lacks, Cost; no statement is proved here. -/
import Derived.Test.YtdffhkbncencgaaPlRsA
import Derived.Deep.QuietTactic
import Derived.BigQuiet
namespace Go.Proofs.Ytdffhkbncencgaa
open Go.RowKit Go.PlainAid
set_option linter.unusedVariables false
set_option linter.unusedSimpArgs false

theorem madT_bd {s : Sn} (ok : OkS s) (T : List (List Int)) : ∀ r ∈ tblF (dvS s T) s.days.toNat s.mks.length, ∀ x ∈ r, 0 ≤ x ∧ x ≤ 1000000 := fun r hr x hx => by
  unfold tblF at hr
  obtain ⟨i, -, rfl⟩ := List.mem_map.1 hr
  obtain ⟨j, -, rfl⟩ := List.mem_map.1 hx
  exact dvS_bd ok T i j

set_option maxHeartbeats 16000000 in
set_option maxRecDepth 100000 in
theorem rlacks_any (s : Sn) (d : SA) (T M : List (List Int)) (vt vm : Value) (w : World) (h : SnD w s d) (hT : RRows w vt T) (hM : RRows w vm M) (ok : OkS s) (pk : PlOk s T) (hS : Shp s.mks.length s.days.toNat M) (hMb : ∀ r ∈ M, ∀ x ∈ r, 0 ≤ x ∧ x ≤ 1000000) :
    Calls Try.prog 52 #[.agg #[.int .i64 s.days, .slice d.a1 s.arts.length d.c1, .slice d.a2 s.ovens.length d.c2, .slice d.a3 s.mks.length d.c3, .slice d.a4 s.jobs.length d.c4, .slice d.a5 s.cols.length d.c5, .slice d.a6 s.ods.length d.c6], vt, vm] w fun e w' => (∃ v, e = .returned v ∧ RInts (vis (w.heap.size ≤ ·) w') v (lkL s T M s.ods.length)) ∧ Below w.heap.size w w' := by
  obtain ⟨ii, hi, hzz⟩ := Option.map_eq_some_iff.1 info_int
  obtain ⟨hz0, hz1⟩ := Prod.mk.inj hzz
  obtain ⟨hz1, hz2⟩ := Prod.mk.inj hz1
  clear hzz
  have hA := below_box w (.cells #[.int .i64 s.days, .slice d.a1 s.arts.length d.c1, .slice d.a2 s.ovens.length d.c2, .slice d.a3 s.mks.length d.c3, .slice d.a4 s.jobs.length d.c4, .slice d.a5 s.cols.length d.c5, .slice d.a6 s.ods.length d.c6] 28)
  have hB := Blk.new w #[.int .i64 s.days, .slice d.a1 s.arts.length d.c1, .slice d.a2 s.ovens.length d.c2, .slice d.a3 s.mks.length d.c3, .slice d.a4 s.jobs.length d.c4, .slice d.a5 s.cols.length d.c5, .slice d.a6 s.ods.length d.c6] 28
  have HS := Lib.hid (fun V (hV : Below w.heap.size w V) => h.mono (ext_of_below hV))
  have HPL := Lib.hid pk.shp
  have HSM := Lib.hid hS
  have HMB := Lib.hid hMb
  obtain ⟨at', ct, rfl⟩ := hT.shape
  obtain ⟨am', cm, rfl⟩ := hM.shape
  rw [pk.len] at hT ⊢
  rw [hS.1] at hM ⊢
  have HT := Lib.hid (fun V (hV : Below w.heap.size w V) => hT.mono (ext_of_below hV))
  have HM := Lib.hid (fun V (hV : Below w.heap.size w V) => hM.mono (ext_of_below hV))
  have hnd : s.ods.length ≤ 8 := by have := ok.nd; have := ok.na; omega
  have hnm := ok.nm
  have HOK := Lib.hid ok
  have hdy := ok.days
  clear h hT hM ok pk hS hMb
  go_enter Try.func52, Try.ntmps52
  go_upto_region 3 with (fail)
  generalize w.alloc (.cells #[.int .i64 s.days, .slice d.a1 s.arts.length d.c1, .slice d.a2 s.ovens.length d.c2, .slice d.a3 s.mks.length d.c3, .slice d.a4 s.jobs.length d.c4, .slice d.a5 s.cols.length d.c5, .slice d.a6 s.ods.length d.c6] 28) = W at *
  have hWs := hB.lt
  have hSZ := hA.size
  go_loopw [7, 8] (fun v i wr => ∃ (k : Nat) (l : List Int), k ≤ s.ods.length ∧ i = .int .i64 k ∧ Hid (l = lkL s T M k) ∧ wr.ownsRow W.heap.size 3 1 v l.length (l.map (Value.int .i64)) ∧ Below W.heap.size W wr) (fun _ i _ => s.ods.length - (intOf i).toNat)
  case atStart => exact ⟨0, [], Nat.zero_le _, rfl, Lib.hid rfl, World.ownsRow_nil _ _ _ _, Below.refl _ _⟩
  case round =>
    obtain ⟨k, l, hk, rfl, hx, hown, hb⟩ := hrel
    have hE := hA.trans (hb.mono hA.size)
    have hsz := hb.size
    have hBk := hB.below hb hB.lt
    have x6 := hBk.cell 6 _ rfl
    have hll : l.length ≤ 8 := by rw [hx.out, lkL_len]; omega
    by_cases hlt : k < s.ods.length
    case neg =>
      obtain rfl : k = s.ods.length := by omega
      have aN : ¬ (s.ods.length : Int) < (s.ods.length : Int) := by omega
      have HR : Hid (RInts (vis (w.heap.size ≤ ·) wr) u7 (lkL s T M s.ods.length)) := Lib.hid (by
        rw [← hx.out]
        refine own_RInts (own_vis hown (fun q hq => by have := (hown.lt q hq).1; omega)) (by omega) (fun y hy => ?_)
        rw [hx.out] at hy
        unfold lkL at hy
        obtain ⟨i, -, rfl⟩ := List.mem_map.1 hy
        have := lkR_bd HOK.out (T := T) HMB.out i (k := s.mks.length) (d := 0) hnm (by omega)
        unfold I64; omega)
      clear hx hown
      go_wp2
      go_ret
      exact ⟨⟨_, rfl, HR.out⟩, hE⟩
    case pos =>
    have j1 : (0 : Int) ≤ (k : Int) := Int.natCast_nonneg _
    have j2 : (k : Int) < (s.ods.length : Int) := by omega
    obtain ⟨b7, o7, he7, ⟨q0, q1, q2, q3⟩, -⟩ := rsl_at (HS.out _ hE).ods hlt
    simp only at q0 q1 q2 q3
    rw [he7] at x6
    have hod : odAt s k = s.ods[k] := by unfold odAt; simp [List.getElem?_eq_getElem hlt]
    have hdu := (HOK.out.od _ (List.getElem_mem hlt)).2.2.1
    have hqb := (HOK.out.od _ (List.getElem_mem hlt)).2.1
    generalize s.ods[k] = o at *
    have HOD := Lib.hid hod
    have hlow : ∀ q, u7.ownBlock = some q → W.heap.size ≤ q := fun q hq => (hown.lt q hq).1
    clear he7 hod q3
    go_upto_region 7 with (fail)
    obtain ⟨WO, rfl⟩ : ∃ W, W = wr := ⟨_, rfl⟩
    have HX6 := Lib.hid x6
    have HQ0 := Lib.hid q0
    have HQ2 := Lib.hid q2
    have HOW := Lib.hid hown
    have HB1 := Lib.hid hb
    have HE1 := Lib.hid hE
    clear x6 q0 q1 q2 hown hb hE hBk
    go_loopw [9, 10] (fun v i wx => ∃ kk : Nat, kk ≤ s.mks.length ∧ i = .int .i64 kk ∧ v = .int .i64 (lkR s T M k kk 0) ∧ Below WO.heap.size WO wx) (fun _ i _ => s.mks.length - (intOf i).toNat)
    case atStart => exact ⟨0, Nat.zero_le _, rfl, by rw [lkR_zero, HOD.out], Below.refl _ _⟩
    case round =>
      obtain ⟨kk, hkk, rfl, rfl, hb⟩ := hrel
      by_cases hlk : kk < s.mks.length
      case neg =>
        obtain rfl : kk = s.mks.length := by omega
        have aN : ¬ (s.mks.length : Int) < (s.mks.length : Int) := by omega
        have hrb := lkR_bd HOK.out (T := T) HMB.out k (k := s.mks.length) (d := 0) hnm (by omega)
        have hst := lkL_step s T M k
        rw [← hx.out] at hst
        generalize lkR s T M k s.mks.length 0 = rv at *
        obtain ⟨lv, hlv⟩ : ∃ v, max rv 0 = v := ⟨_, rfl⟩
        rw [hlv] at hst
        have HST := Lib.hid hst
        have hown2 := (own_below8 HOW.out hb).alloc (.cells #[.int .i64 lv] 3)
        have hbb := HB1.out.trans (hb.mono HB1.out.size)
        have hszw := hbb.size
        have HB2 := Lib.hid (hbb.alloc hszw (.cells #[.int .i64 lv] 3))
        clear hst hx hb hbb
        by_cases hng : 0 < rv
        · obtain rfl : lv = rv := by omega
          have n1 : ¬ lv < 0 := by omega
          have n2 : ¬ lv ≤ 0 := by omega
          clear hlv
          go_wp2_with (at_builtin; refine wpList_append_lies _ rfl _ _ 30 rfl W.heap.size 3 ii (.int .i64 0) 1 8 Try.underlying30 hi hz0 hz1 hz2 rfl (by decide) _ l.length _ rfl hown2 ⟨wr.heap.size, 0, none⟩ 1 1 [.int .i64 lv] rfl rfl (by have := cell_one_new wr (.int .i64 lv) 3; simpa using this) (by simp [Value.oneCell']) (by omega) (by unfold maxLen; omega) (by omega) (by simp; omega) _ rfl ?_; intro g6 k6 w6 hown6 hgrow6 hat6 hlt6)
          have hb7 := HB2.out.grown hgrow6 (by simp; omega) (fun q hq => hlow q hq)
          have hownF : w6.ownsRow W.heap.size 3 1 (.slice (some ⟨g6, 0, none⟩) (l.length + 1) k6) (l ++ [lv]).length ((l ++ [lv]).map (Value.int .i64)) := by simpa using hown6
          clear hown6 hown2 hgrow6 hat6 HB2
          go_roundw
          case rel => exact ⟨k + 1, l ++ [lv], by omega, by go_num, Lib.hid HST.out.symm, by simpa using hownF, hb7⟩
          case measure => simp [intOf]; omega
        · obtain rfl : lv = 0 := by omega
          clear hlv
          by_cases hn2 : rv < 0
          · have n1 : ¬ rv = 0 := by omega
            go_wp2_with (at_builtin; refine wpList_append_lies _ rfl _ _ 30 rfl W.heap.size 3 ii (.int .i64 0) 1 8 Try.underlying30 hi hz0 hz1 hz2 rfl (by decide) _ l.length _ rfl hown2 ⟨wr.heap.size, 0, none⟩ 1 1 [.int .i64 0] rfl rfl (by have := cell_one_new wr (.int .i64 0) 3; simpa using this) (by simp [Value.oneCell']) (by omega) (by unfold maxLen; omega) (by omega) (by simp; omega) _ rfl ?_; intro g6 k6 w6 hown6 hgrow6 hat6 hlt6)
            have hb7 := HB2.out.grown hgrow6 (by simp; omega) (fun q hq => hlow q hq)
            have hownF : w6.ownsRow W.heap.size 3 1 (.slice (some ⟨g6, 0, none⟩) (l.length + 1) k6) (l ++ [0]).length ((l ++ [0]).map (Value.int .i64)) := by simpa using hown6
            clear hown6 hown2 hgrow6 hat6 HB2
            go_roundw
            case rel => exact ⟨k + 1, l ++ [0], by omega, by go_num, Lib.hid HST.out.symm, by simpa using hownF, hb7⟩
            case measure => simp [intOf]; omega
          · obtain rfl : rv = 0 := by omega
            go_wp2_with (at_builtin; refine wpList_append_lies _ rfl _ _ 30 rfl W.heap.size 3 ii (.int .i64 0) 1 8 Try.underlying30 hi hz0 hz1 hz2 rfl (by decide) _ l.length _ rfl hown2 ⟨wr.heap.size, 0, none⟩ 1 1 [.int .i64 0] rfl rfl (by have := cell_one_new wr (.int .i64 0) 3; simpa using this) (by simp [Value.oneCell']) (by omega) (by unfold maxLen; omega) (by omega) (by simp; omega) _ rfl ?_; intro g6 k6 w6 hown6 hgrow6 hat6 hlt6)
            have hb7 := HB2.out.grown hgrow6 (by simp; omega) (fun q hq => hlow q hq)
            have hownF : w6.ownsRow W.heap.size 3 1 (.slice (some ⟨g6, 0, none⟩) (l.length + 1) k6) (l ++ [0]).length ((l ++ [0]).map (Value.int .i64)) := by simpa using hown6
            clear hown6 hown2 hgrow6 hat6 HB2
            go_roundw
            case rel => exact ⟨k + 1, l ++ [0], by omega, by go_num, Lib.hid HST.out.symm, by simpa using hownF, hb7⟩
            case measure => simp [intOf]; omega
      case pos =>
      have j3 : (0 : Int) ≤ (kk : Int) := Int.natCast_nonneg _
      have j4 : (kk : Int) < (s.mks.length : Int) := by omega
      have HXX := hx
      clear hx
      go_upto_region 10 with (fail)
      go_loopw [9, 11] (fun v i wx => ∃ m : Nat, m ≤ o.due.toNat + 1 ∧ i = .int .i64 m ∧ v = .int .i64 (lkR s T M k kk m) ∧ Below WO.heap.size WO wx) (fun _ i _ => o.due.toNat + 1 - (intOf i).toNat)
      case atStart => exact ⟨0, Nat.zero_le _, rfl, rfl, hb⟩
      case round =>
        obtain ⟨m, hm, rfl, rfl, hb⟩ := hrel
        have x6 := ext_of_below hb _ _ HX6.out
        have q2 := ext_of_below hb _ _ HQ2.out
        by_cases hlm : (m : Int) ≤ o.due
        case neg =>
          obtain rfl : m = o.due.toNat + 1 := by omega
          have hmk : lkR s T M k (kk + 1) 0 = lkR s T M k kk (o.due.toNat + 1) := by rw [lkR_mk, HOD.out]
          have HMK := Lib.hid hmk
          clear hmk
          generalize lkR s T M k kk (o.due.toNat + 1) = sv at *
          go_wp2
          go_roundw
          case rel => exact ⟨kk + 1, by omega, by go_num, by rw [HMK.out], hb⟩
          case measure => simp [intOf]; omega
        case pos =>
        have hmD : m < s.days.toNat := by omega
        have j5 : (0 : Int) ≤ (m : Int) := Int.natCast_nonneg _
        have j6 : (m : Int) < (s.days.toNat : Int) := by omega
        have hE := HE1.out.trans (hb.mono HE1.out.size)
        obtain ⟨b1, o1, b2, o2, c2, he1, p0, r0, -⟩ := rows_ent (HT.out _ hE) HPL.out hlk hmD
        obtain ⟨b3, o3, b4, o4, c4, he3, p1, r1, -⟩ := rows_ent (HM.out _ hE) HSM.out hlk hmD
        subst he1
        subst he3
        have q0 := ext_of_below hb _ _ HQ0.out
        have hday := lkR_day s T M k kk m
        have hb1 := lkR_bd HOK.out (T := T) HMB.out k (k := kk) (d := m) (by omega) (by omega)
        have hb2 := lkR_bd HOK.out (T := T) HMB.out k (k := kk) (d := m + 1) (by omega) (by omega)
        have hpi : piE s T M k kk m = if ent T kk m = o.art then ent M kk m else 0 := by unfold piE; rw [HOD.out]
        by_cases heq : ent T kk m = o.art
        · have n1 : (ent T kk m == o.art) = true := beq_iff_eq.2 heq
          rw [if_pos heq] at hpi
          rw [hpi] at hday
          have HNX := Lib.hid hday
          have zx : wrap64 (lkR s T M k kk m - ent M kk m) = lkR s T M k kk (m + 1) := by rw [hday]; exact wrap_id _ (by unfold I64; omega)
          clear heq hpi hday hE HNX
          generalize hnv : lkR s T M k kk (m + 1) = nv at *
          have HNV := Lib.hid hnv
          clear hnv
          generalize ent T kk m = av at *
          generalize ent M kk m = mv at *
          generalize lkR s T M k kk m = sv at *
          go_wp2_with fail
          go_quiet (fail)
          go_wp2
          go_roundw
          case rel => exact ⟨m + 1, by omega, by go_num, by rw [zx, HNV.out], below_drewN hb _⟩
          case measure => simp [intOf]; omega
        · have n1 : (ent T kk m == o.art) = false := by rw [beq_eq_false_iff_ne]; exact heq
          rw [if_neg heq] at hpi
          rw [hpi, Int.sub_zero] at hday
          have HNX := Lib.hid hday
          clear heq hpi hday hE r1 p1
          generalize ent T kk m = av at *
          generalize hsv : lkR s T M k kk m = sv at *
          clear hsv
          go_wp2_with fail
          go_quiet (fail)
          go_wp2
          go_roundw
          case rel => exact ⟨m + 1, by omega, by go_num, by rw [HNX.out], below_drewN hb _⟩
          case measure => simp [intOf]; omega

set_option maxHeartbeats 16000000 in
set_option maxRecDepth 100000 in
theorem rcost_any (s : Sn) (d : SA) (T : List (List Int)) (vt : Value) (w : World) (h : SnD w s d) (hT : RRows w vt T) (ok : OkS s) (pk : PlOk s T) :
    Calls Try.prog 54 #[.agg #[.int .i64 s.days, .slice d.a1 s.arts.length d.c1, .slice d.a2 s.ovens.length d.c2, .slice d.a3 s.mks.length d.c3, .slice d.a4 s.jobs.length d.c4, .slice d.a5 s.cols.length d.c5, .slice d.a6 s.ods.length d.c6], vt] w fun e w' => e = .returned (.int .i64 (costS s T + fineS s (gotS s T))) ∧ Below w.heap.size w w' := by
  have hA := below_box w (.cells #[.int .i64 s.days, .slice d.a1 s.arts.length d.c1, .slice d.a2 s.ovens.length d.c2, .slice d.a3 s.mks.length d.c3, .slice d.a4 s.jobs.length d.c4, .slice d.a5 s.cols.length d.c5, .slice d.a6 s.ods.length d.c6] 28)
  have hB := Blk.new w #[.int .i64 s.days, .slice d.a1 s.arts.length d.c1, .slice d.a2 s.ovens.length d.c2, .slice d.a3 s.mks.length d.c3, .slice d.a4 s.jobs.length d.c4, .slice d.a5 s.cols.length d.c5, .slice d.a6 s.ods.length d.c6] 28
  have HS := Lib.hid (fun V (hV : Below w.heap.size w V) => h.mono (ext_of_below hV))
  have HT := Lib.hid (fun V (hV : Below w.heap.size w V) => hT.mono (ext_of_below hV))
  have hnd : s.ods.length ≤ 8 := by have := ok.nd; have := ok.na; omega
  have HOK := Lib.hid ok
  have HPK := Lib.hid pk
  have HMB := Lib.hid (madT_bd ok T)
  have HLA := Lib.hid (lack_all ok pk)
  have HCA := Lib.hid (cost_all ok pk)
  have HCB := Lib.hid (csK_bd ok T (D := s.days.toNat) (by have := ok.days; omega) s.ovens.length 0 (by omega))
  have hno := ok.no
  clear h hT ok pk
  go_enter Try.func54, Try.ntmps54
  go_upto_region 1 with (fail)
  generalize w.alloc (.cells #[.int .i64 s.days, .slice d.a1 s.arts.length d.c1, .slice d.a2 s.ovens.length d.c2, .slice d.a3 s.mks.length d.c3, .slice d.a4 s.jobs.length d.c4, .slice d.a5 s.cols.length d.c5, .slice d.a6 s.ods.length d.c6] 28) = W at *
  have x0 := hB.cell 0 _ rfl
  have x1 := hB.cell 1 _ rfl
  have x2 := hB.cell 2 _ rfl
  have x3 := hB.cell 3 _ rfl
  have x4 := hB.cell 4 _ rfl
  have x5 := hB.cell 5 _ rfl
  have x6 := hB.cell 6 _ rfl
  go_wp2_with fail
  refine (rresults_any s d T vt W (HS.out _ hA) (HT.out _ hA) HOK.out HPK.out).mono ?_
  rintro e w1 ⟨⟨vm, rfl, hvm⟩, hb⟩
  clear x0 x1 x2 x3 x4 x5 x6
  replace hB := hB.below hb hB.lt
  replace hA := hA.trans (hb.mono hA.size)
  replace hvm := hvm.mono vis_out
  have hcb := HCB.out
  rw [HCA.out] at hcb ⊢
  generalize hc0 : costS s T = c0 at *
  have HC0 := Lib.hid hc0
  clear hc0
  clear hb
  have x0 := hB.cell 0 _ rfl
  have x1 := hB.cell 1 _ rfl
  have x2 := hB.cell 2 _ rfl
  have x3 := hB.cell 3 _ rfl
  have x4 := hB.cell 4 _ rfl
  have x5 := hB.cell 5 _ rfl
  have x6 := hB.cell 6 _ rfl
  go_wp2_with fail
  refine (rlacks_any s d T _ vt vm w1 (HS.out _ hA) (HT.out _ hA) hvm HOK.out HPK.out (tblF_shp _ _ _) HMB.out).mono ?_
  rintro e w2 ⟨⟨vl, rfl, hvl⟩, hb⟩
  clear x0 x1 x2 x3 x4 x5 x6
  replace hB := hB.below hb hB.lt
  replace hA := hA.trans (hb.mono hA.size)
  replace hvl := hvl.mono vis_out
  rw [HLA.out] at hvl
  clear hb hvm
  have hlb : ∀ x ∈ lackL s (gotS s T), 0 ≤ x ∧ x ≤ 1000000 := fun x hx => by
    unfold lackL lackK at hx
    obtain ⟨i, hi, rfl⟩ := List.mem_map.1 hx
    exact lackI_bd HOK.out ((gotS_ok HOK.out T).2 i (by have := List.mem_range.1 hi; omega)).1
  have hln : (lackL s (gotS s T)).length = s.ods.length := lackK_len _ _ _
  have HF := Lib.hid (fine_all s T c0)
  generalize lackL s (gotS s T) = L at *
  obtain ⟨al, cl, rfl⟩ := hvl.shape
  rw [hln] at hvl ⊢
  have HL := Lib.hid hvl
  have HLB := Lib.hid hlb
  have HLN := Lib.hid hln
  have HA := Lib.hid hA
  have HB := Lib.hid hB
  clear hvl hlb hln hA hB
  go_upto_region 4 with (fail)
  go_loopw [6, 8] (fun v i wr => ∃ k : Nat, k ≤ s.ods.length ∧ i = .int .i64 k ∧ v = .int .i64 (fnL s L c0 k) ∧ Below w2.heap.size w2 wr) (fun _ i _ => s.ods.length - (intOf i).toNat)
  case atStart => exact ⟨0, Nat.zero_le _, rfl, by rw [fnL_zero], Below.refl _ _⟩
  case round =>
    obtain ⟨k, hk, rfl, rfl, hb⟩ := hrel
    have hE := HA.out.trans (hb.mono HA.out.size)
    by_cases hlt : k < s.ods.length
    case neg =>
      obtain rfl : k = s.ods.length := by omega
      have aN : ¬ (s.ods.length : Int) < (s.ods.length : Int) := by omega
      rw [HF.out]
      go_wp2
      go_ret
      exact ⟨by rw [HC0.out]; rfl, hE⟩
    case pos =>
    have j1 : (0 : Int) ≤ (k : Int) := Int.natCast_nonneg _
    have j2 : (k : Int) < (s.ods.length : Int) := by omega
    have x6 := (HB.out.below hb HB.out.lt).cell 6 _ rfl
    obtain ⟨b7, o7, he7, ⟨q0, q1, q2, q3⟩, -⟩ := rsl_at (HS.out _ hE).ods hlt
    simp only at q0 q1 q2 q3
    rw [he7] at x6
    have hkL : k < L.length := by rw [HLN.out]; exact hlt
    have hLK := HL.out
    rw [← HLN.out] at hLK
    obtain ⟨b1, o1, he1, r1, -⟩ := ints_at hLK hkL
    subst he1
    replace r1 := ext_of_below hb _ _ r1
    have hod : odAt s k = s.ods[k] := by unfold odAt; simp [List.getElem?_eq_getElem hlt]
    have hst := fnL_step s L c0 k
    rw [hod, getD_at hkL] at hst
    have hp := (HOK.out.od _ (List.getElem_mem hlt)).2.2.2
    have hl0 := HLB.out _ (List.getElem_mem hkL)
    have hmb := mulb hl0 hp
    have hf1 := fnL_bd HOK.out HLB.out (c := c0) (by omega) k (by omega)
    generalize L[k] = lv at *
    generalize (s.ods[k]).pen = pv at *
    have z1 := wrap_id (lv * pv) (by unfold I64; omega)
    have z2 := wrap_id (fnL s L c0 k + lv * pv) (by unfold I64; omega)
    have HST := Lib.hid hst
    clear hst hLK he7 hod hp hl0 hmb hf1 q0 q1 q2 hE
    generalize fnL s L c0 k = sv at *
    go_wp2_with fail
    go_quiet (fail)
    go_wp2
    go_roundw
    case rel => exact ⟨k + 1, by omega, by go_num, by rw [HST.out]; first | rfl | rw [z2], below_drewN hb _⟩
    case measure => simp [intOf]; omega

set_option maxHeartbeats 8000000 in
set_option maxRecDepth 100000 in
theorem rMade_any (s : Sn) (d : SA) (T : List (List Int)) (vt : Value) (w : World) (h : SnD w s d) (hT : RRows w vt T) :
    Calls Try.prog 22 #[.agg #[.int .i64 s.days, .slice d.a1 s.arts.length d.c1, .slice d.a2 s.ovens.length d.c2, .slice d.a3 s.mks.length d.c3, .slice d.a4 s.jobs.length d.c4, .slice d.a5 s.cols.length d.c5, .slice d.a6 s.ods.length d.c6], vt] w (MaA s T w) := by
  have hA := below_box w (.cells #[.int .i64 s.days, .slice d.a1 s.arts.length d.c1, .slice d.a2 s.ovens.length d.c2, .slice d.a3 s.mks.length d.c3, .slice d.a4 s.jobs.length d.c4, .slice d.a5 s.cols.length d.c5, .slice d.a6 s.ods.length d.c6] 28)
  have hB := Blk.new w #[.int .i64 s.days, .slice d.a1 s.arts.length d.c1, .slice d.a2 s.ovens.length d.c2, .slice d.a3 s.mks.length d.c3, .slice d.a4 s.jobs.length d.c4, .slice d.a5 s.cols.length d.c5, .slice d.a6 s.ods.length d.c6] 28
  have HS := Lib.hid (fun V (hV : Below w.heap.size w V) => h.mono (ext_of_below hV))
  have HT := Lib.hid (fun V (hV : Below w.heap.size w V) => hT.mono (ext_of_below hV))
  clear h hT
  go_enter Try.func22, Try.ntmps22
  go_upto_region 1 with (fail)
  generalize w.alloc (.cells #[.int .i64 s.days, .slice d.a1 s.arts.length d.c1, .slice d.a2 s.ovens.length d.c2, .slice d.a3 s.mks.length d.c3, .slice d.a4 s.jobs.length d.c4, .slice d.a5 s.cols.length d.c5, .slice d.a6 s.ods.length d.c6] 28) = W at *
  have x0 := hB.cell 0 _ rfl
  have x1 := hB.cell 1 _ rfl
  have x2 := hB.cell 2 _ rfl
  have x3 := hB.cell 3 _ rfl
  have x4 := hB.cell 4 _ rfl
  have x5 := hB.cell 5 _ rfl
  have x6 := hB.cell 6 _ rfl
  go_wp2_with fail
  refine (rkept_any s d T vt W (HS.out _ hA) (HT.out _ hA)).mono ?_
  rintro e w1 ⟨rfl, hb⟩
  clear x0 x1 x2 x3 x4 x5 x6
  replace hB := hB.below hb hB.lt
  replace hA := hA.trans (hb.mono hA.size)
  clear hb
  by_cases hE : keE s T = 0
  case neg =>
    obtain ⟨r, hr⟩ : ∃ r, keE s T = r := ⟨_, rfl⟩
    have hq : (r != 0) = true := by rw [← hr]; simpa using hE
    have HP : Hid (madA s T = []) := Lib.hid (by unfold madA; rw [if_neg hE])
    have HE := Lib.hid hr
    rw [hr]
    clear hE hr
    go_wp2
    go_ret2
    exact ⟨⟨.slice none 0 0, by rw [HE.out]; rfl, by rw [HP.out]; exact nil_RRowsS _⟩, hA⟩
  case pos =>
  obtain ⟨hpl, hkb⟩ := keE_ok hE
  obtain ⟨-, ok, pk⟩ := plE_ok hpl
  have HP : Hid (madA s T = tblF (dvS s T) s.days.toNat s.mks.length) := Lib.hid (by unfold madA; rw [if_pos hE]; exact (made_tbl ok pk).symm)
  have HE := Lib.hid hE
  have HOK := Lib.hid ok
  have HPK := Lib.hid pk
  rw [hE]
  clear hE hpl hkb ok pk
  have x0 := hB.cell 0 _ rfl
  have x1 := hB.cell 1 _ rfl
  have x2 := hB.cell 2 _ rfl
  have x3 := hB.cell 3 _ rfl
  have x4 := hB.cell 4 _ rfl
  have x5 := hB.cell 5 _ rfl
  have x6 := hB.cell 6 _ rfl
  go_wp2_with fail
  refine (rresults_any s d T vt w1 (HS.out _ hA) (HT.out _ hA) HOK.out HPK.out).mono ?_
  rintro e w2 ⟨⟨vm, rfl, hvm⟩, hb⟩
  clear x0 x1 x2 x3 x4 x5 x6
  have HW1 : Hid (w.heap.size ≤ w1.heap.size) := Lib.hid hA.size
  replace hA := hA.trans (hb.mono hA.size)
  have HV := Lib.hid (hvm.mono (vis_up (fun k hk => Nat.le_trans HW1.out hk)))
  clear hb hB hvm
  go_wp2
  go_ret2
  exact ⟨⟨_, by rw [HE.out]; rfl, by rw [HP.out]; exact HV.out⟩, hA⟩

set_option maxHeartbeats 8000000 in
set_option maxRecDepth 100000 in
theorem rLacks_any (s : Sn) (d : SA) (T : List (List Int)) (vt : Value) (w : World) (h : SnD w s d) (hT : RRows w vt T) :
    Calls Try.prog 24 #[.agg #[.int .i64 s.days, .slice d.a1 s.arts.length d.c1, .slice d.a2 s.ovens.length d.c2, .slice d.a3 s.mks.length d.c3, .slice d.a4 s.jobs.length d.c4, .slice d.a5 s.cols.length d.c5, .slice d.a6 s.ods.length d.c6], vt] w (LkA s T w) := by
  have hA := below_box w (.cells #[.int .i64 s.days, .slice d.a1 s.arts.length d.c1, .slice d.a2 s.ovens.length d.c2, .slice d.a3 s.mks.length d.c3, .slice d.a4 s.jobs.length d.c4, .slice d.a5 s.cols.length d.c5, .slice d.a6 s.ods.length d.c6] 28)
  have hB := Blk.new w #[.int .i64 s.days, .slice d.a1 s.arts.length d.c1, .slice d.a2 s.ovens.length d.c2, .slice d.a3 s.mks.length d.c3, .slice d.a4 s.jobs.length d.c4, .slice d.a5 s.cols.length d.c5, .slice d.a6 s.ods.length d.c6] 28
  have HS := Lib.hid (fun V (hV : Below w.heap.size w V) => h.mono (ext_of_below hV))
  have HT := Lib.hid (fun V (hV : Below w.heap.size w V) => hT.mono (ext_of_below hV))
  clear h hT
  go_enter Try.func24, Try.ntmps24
  go_upto_region 1 with (fail)
  generalize w.alloc (.cells #[.int .i64 s.days, .slice d.a1 s.arts.length d.c1, .slice d.a2 s.ovens.length d.c2, .slice d.a3 s.mks.length d.c3, .slice d.a4 s.jobs.length d.c4, .slice d.a5 s.cols.length d.c5, .slice d.a6 s.ods.length d.c6] 28) = W at *
  have x0 := hB.cell 0 _ rfl
  have x1 := hB.cell 1 _ rfl
  have x2 := hB.cell 2 _ rfl
  have x3 := hB.cell 3 _ rfl
  have x4 := hB.cell 4 _ rfl
  have x5 := hB.cell 5 _ rfl
  have x6 := hB.cell 6 _ rfl
  go_wp2_with fail
  refine (rkept_any s d T vt W (HS.out _ hA) (HT.out _ hA)).mono ?_
  rintro e w1 ⟨rfl, hb⟩
  clear x0 x1 x2 x3 x4 x5 x6
  replace hB := hB.below hb hB.lt
  replace hA := hA.trans (hb.mono hA.size)
  clear hb
  by_cases hE : keE s T = 0
  case neg =>
    obtain ⟨r, hr⟩ : ∃ r, keE s T = r := ⟨_, rfl⟩
    have hq : (r != 0) = true := by rw [← hr]; simpa using hE
    have HP : Hid (lackA s T = []) := Lib.hid (by unfold lackA; rw [if_neg hE])
    have HE := Lib.hid hr
    rw [hr]
    clear hE hr
    go_wp2
    go_ret2
    exact ⟨⟨.slice none 0 0, by rw [HE.out]; rfl, by rw [HP.out]; exact nil_RInts _⟩, hA⟩
  case pos =>
  obtain ⟨hpl, hkb⟩ := keE_ok hE
  obtain ⟨-, ok, pk⟩ := plE_ok hpl
  have HP : Hid (lackA s T = lkL s T (tblF (dvS s T) s.days.toNat s.mks.length) s.ods.length) := Lib.hid (by unfold lackA; rw [if_pos hE]; exact (lack_all ok pk).symm)
  have HE := Lib.hid hE
  have HOK := Lib.hid ok
  have HPK := Lib.hid pk
  rw [hE]
  clear hE hpl hkb ok pk
  have x0 := hB.cell 0 _ rfl
  have x1 := hB.cell 1 _ rfl
  have x2 := hB.cell 2 _ rfl
  have x3 := hB.cell 3 _ rfl
  have x4 := hB.cell 4 _ rfl
  have x5 := hB.cell 5 _ rfl
  have x6 := hB.cell 6 _ rfl
  go_wp2_with fail
  refine (rresults_any s d T vt w1 (HS.out _ hA) (HT.out _ hA) HOK.out HPK.out).mono ?_
  rintro e w2 ⟨⟨vm, rfl, hvm⟩, hb⟩
  clear x0 x1 x2 x3 x4 x5 x6
  replace hB := hB.below hb hB.lt
  replace hA := hA.trans (hb.mono hA.size)
  replace hvm := hvm.mono vis_out
  clear hb
  have x0 := hB.cell 0 _ rfl
  have x1 := hB.cell 1 _ rfl
  have x2 := hB.cell 2 _ rfl
  have x3 := hB.cell 3 _ rfl
  have x4 := hB.cell 4 _ rfl
  have x5 := hB.cell 5 _ rfl
  have x6 := hB.cell 6 _ rfl
  go_wp2_with fail
  refine (rlacks_any s d T _ vt vm w2 (HS.out _ hA) (HT.out _ hA) hvm HOK.out HPK.out (tblF_shp _ _ _) (madT_bd HOK.out T)).mono ?_
  rintro e w3 ⟨⟨vl, rfl, hvl⟩, hb⟩
  clear x0 x1 x2 x3 x4 x5 x6
  have HW1 : Hid (w.heap.size ≤ w2.heap.size) := Lib.hid hA.size
  replace hA := hA.trans (hb.mono hA.size)
  have HV := Lib.hid (hvl.mono (vis_up (fun k hk => Nat.le_trans HW1.out hk)))
  clear hb hB hvm hvl
  go_wp2
  go_ret2
  exact ⟨⟨_, by rw [HE.out]; rfl, by rw [HP.out]; exact HV.out⟩, hA⟩

set_option maxHeartbeats 8000000 in
set_option maxRecDepth 100000 in
theorem rCost_any (s : Sn) (d : SA) (T : List (List Int)) (vt : Value) (w : World) (h : SnD w s d) (hT : RRows w vt T) :
    Calls Try.prog 26 #[.agg #[.int .i64 s.days, .slice d.a1 s.arts.length d.c1, .slice d.a2 s.ovens.length d.c2, .slice d.a3 s.mks.length d.c3, .slice d.a4 s.jobs.length d.c4, .slice d.a5 s.cols.length d.c5, .slice d.a6 s.ods.length d.c6], vt] w fun e w' => e = .returned (.tuple #[.int .i64 (costA s T), .int .i64 (keE s T)]) ∧ Below w.heap.size w w' := by
  have hA := below_box w (.cells #[.int .i64 s.days, .slice d.a1 s.arts.length d.c1, .slice d.a2 s.ovens.length d.c2, .slice d.a3 s.mks.length d.c3, .slice d.a4 s.jobs.length d.c4, .slice d.a5 s.cols.length d.c5, .slice d.a6 s.ods.length d.c6] 28)
  have hB := Blk.new w #[.int .i64 s.days, .slice d.a1 s.arts.length d.c1, .slice d.a2 s.ovens.length d.c2, .slice d.a3 s.mks.length d.c3, .slice d.a4 s.jobs.length d.c4, .slice d.a5 s.cols.length d.c5, .slice d.a6 s.ods.length d.c6] 28
  have HS := Lib.hid (fun V (hV : Below w.heap.size w V) => h.mono (ext_of_below hV))
  have HT := Lib.hid (fun V (hV : Below w.heap.size w V) => hT.mono (ext_of_below hV))
  clear h hT
  go_enter Try.func26, Try.ntmps26
  go_upto_region 1 with (fail)
  generalize w.alloc (.cells #[.int .i64 s.days, .slice d.a1 s.arts.length d.c1, .slice d.a2 s.ovens.length d.c2, .slice d.a3 s.mks.length d.c3, .slice d.a4 s.jobs.length d.c4, .slice d.a5 s.cols.length d.c5, .slice d.a6 s.ods.length d.c6] 28) = W at *
  have x0 := hB.cell 0 _ rfl
  have x1 := hB.cell 1 _ rfl
  have x2 := hB.cell 2 _ rfl
  have x3 := hB.cell 3 _ rfl
  have x4 := hB.cell 4 _ rfl
  have x5 := hB.cell 5 _ rfl
  have x6 := hB.cell 6 _ rfl
  go_wp2_with fail
  refine (rkept_any s d T vt W (HS.out _ hA) (HT.out _ hA)).mono ?_
  rintro e w1 ⟨rfl, hb⟩
  clear x0 x1 x2 x3 x4 x5 x6
  replace hB := hB.below hb hB.lt
  replace hA := hA.trans (hb.mono hA.size)
  clear hb
  by_cases hE : keE s T = 0
  case neg =>
    obtain ⟨r, hr⟩ : ∃ r, keE s T = r := ⟨_, rfl⟩
    have hq : (r != 0) = true := by rw [← hr]; simpa using hE
    have HP : Hid (costA s T = 0) := Lib.hid (by unfold costA; rw [if_neg hE])
    have HE := Lib.hid hr
    rw [hr]
    clear hE hr
    go_wp2
    go_ret2
    exact ⟨by rw [HE.out, HP.out]; rfl, hA⟩
  case pos =>
  obtain ⟨hpl, hkb⟩ := keE_ok hE
  obtain ⟨-, ok, pk⟩ := plE_ok hpl
  have HP : Hid (costA s T = costS s T + fineS s (gotS s T)) := Lib.hid (by unfold costA; rw [if_pos hE])
  have HE := Lib.hid hE
  have HOK := Lib.hid ok
  have HPK := Lib.hid pk
  rw [hE]
  clear hE hpl hkb ok pk
  have x0 := hB.cell 0 _ rfl
  have x1 := hB.cell 1 _ rfl
  have x2 := hB.cell 2 _ rfl
  have x3 := hB.cell 3 _ rfl
  have x4 := hB.cell 4 _ rfl
  have x5 := hB.cell 5 _ rfl
  have x6 := hB.cell 6 _ rfl
  go_wp2_with fail
  refine (rcost_any s d T vt w1 (HS.out _ hA) (HT.out _ hA) HOK.out HPK.out).mono ?_
  rintro e w2 ⟨rfl, hb⟩
  clear x0 x1 x2 x3 x4 x5 x6
  replace hA := hA.trans (hb.mono hA.size)
  clear hb hB
  rw [← HP.out]
  go_wp2
  go_ret2
  exact ⟨by rw [HE.out]; rfl, hA⟩
end Go.Proofs.Ytdffhkbncencgaa
