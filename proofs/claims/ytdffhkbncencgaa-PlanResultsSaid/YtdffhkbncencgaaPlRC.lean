/- The specification's All, Check and Shifts; no statement is proved here. -/
import Derived.Test.YtdffhkbncencgaaPlGa
namespace Go.Proofs.Ytdffhkbncencgaa
open Go.RowKit Go.PlainAid
set_option linter.unusedVariables false
set_option linter.unusedSimpArgs false

theorem OutR.rrows {base : Nat} {W : World} {v : Value} {vs : List Value} {L : List (List Int)} (h : OutR base W v vs L) {S : Nat → Prop} (hS : ∀ q, base ≤ q → S q) (hm : L.length ≤ 140737488351232) (hr : ∀ r ∈ L, r.length ≤ 140737488351232 ∧ ∀ x ∈ r, I64 x) : RRows (vis S W) v L := by
  have h' := own_vis h.own (S := S) (fun q hq => hS q ((h.own.lt q hq).1))
  rw [h.len] at h'
  refine own_RSl h' hm fun q cap hv hcell i hi => ?_
  have hiq : i < vs.length := by rw [h.len]; exact hi
  refine ⟨vs[i], ?_, ?_⟩
  · have := hcell i hiq
    rw [Nat.mul_one]
    exact this
  · have hrr := own_vis (h.rows i hiq hi) (S := S) (fun q hq => hS q (((h.rows i hiq hi).lt q hq).1))
    exact own_RInts hrr (hr _ (List.getElem_mem hi)).1 (hr _ (List.getElem_mem hi)).2
theorem shL_row {s : Sn} (ok : OkS s) (k : Nat) : ∀ r ∈ shL (ovAt s k), r.length ≤ 140737488351232 ∧ ∀ x ∈ r, I64 x := fun r hr => by
  refine ⟨?_, fun x hx => by have := shL_bd ok k r hr x hx; unfold I64; omega⟩
  rw [(shL_shp (ovAt s k)).2 r hr]
  have := Nat.le_trans (mksAt_len s k) ok.nm
  exact Nat.le_trans this (by decide)
theorem shL_few {s : Sn} (ok : OkS s) (k : Nat) : (shL (ovAt s k)).length ≤ 531441 := by
  rw [← gat_all ok]
  refine Nat.le_trans (gat_len ok.na k _ []) ?_
  have := Nat.le_trans (mksAt_len s k) ok.nm
  exact Nat.le_trans (Nat.pow_le_pow_right (by decide) this) (by decide)

set_option maxHeartbeats 8000000 in
set_option maxRecDepth 100000 in
theorem rAll_any (s : Sn) (d : SA) (k : Nat) (w : World) (h : SnD w s d) (ok : OkS s) (hk : k < s.ovens.length) : Calls Try.prog 35 #[.agg #[.int .i64 s.days, .slice d.a1 s.arts.length d.c1, .slice d.a2 s.ovens.length d.c2, .slice d.a3 s.mks.length d.c3, .slice d.a4 s.jobs.length d.c4, .slice d.a5 s.cols.length d.c5, .slice d.a6 s.ods.length d.c6], .int .i64 k] w fun e w' => (∃ v, e = .returned v ∧ RRows (vis (w.heap.size ≤ ·) w') v (shL (ovAt s k))) ∧ Below w.heap.size w w' := by
  have hA := below_box w (.cells #[.int .i64 s.days, .slice d.a1 s.arts.length d.c1, .slice d.a2 s.ovens.length d.c2, .slice d.a3 s.mks.length d.c3, .slice d.a4 s.jobs.length d.c4, .slice d.a5 s.cols.length d.c5, .slice d.a6 s.ods.length d.c6] 28)
  have hB := Blk.new w #[.int .i64 s.days, .slice d.a1 s.arts.length d.c1, .slice d.a2 s.ovens.length d.c2, .slice d.a3 s.mks.length d.c3, .slice d.a4 s.jobs.length d.c4, .slice d.a5 s.cols.length d.c5, .slice d.a6 s.ods.length d.c6] 28
  have hS := h.mono (ext_of_below hA)
  have HOK := Lib.hid ok
  have hpow : 9 ^ (mksAt s k).length ≤ 1000000 := Nat.le_trans (Nat.pow_le_pow_right (by decide) (Nat.le_trans (mksAt_len s k) ok.nm)) (by decide)
  clear h
  go_enter Try.func35, Try.ntmps35
  go_upto_region 1 with (fail)
  generalize w.alloc (.cells #[.int .i64 s.days, .slice d.a1 s.arts.length d.c1, .slice d.a2 s.ovens.length d.c2, .slice d.a3 s.mks.length d.c3, .slice d.a4 s.jobs.length d.c4, .slice d.a5 s.cols.length d.c5, .slice d.a6 s.ods.length d.c6] 28) = W at *
  have hG := gathered_any s d k ok hk (mksAt s k).length [] none 0 W.heap.size W (.slice none 0 0) [] [] (hS.mono (visb_all W)) (World.ownsRow_nil _ _ _ _) (fun a ha => by cases ha) (by simp) ⟨World.ownsRow_nil _ _ _ _, rfl, fun i h1 => absurd h1 (by simp)⟩ (Nat.le_refl _) (by simpa using hpow)
  rw [List.nil_append, gat_all ok] at hG
  have x0 := hB.cell 0 _ rfl
  have x1 := hB.cell 1 _ rfl
  have x2 := hB.cell 2 _ rfl
  have x3 := hB.cell 3 _ rfl
  have x4 := hB.cell 4 _ rfl
  have x5 := hB.cell 5 _ rfl
  have x6 := hB.cell 6 _ rfl
  have HG := Lib.hid hG
  clear hG hS hpow
  go_wp2_with fail
  refine HG.out.mono ?_
  rintro e w1 ⟨v, vs, rfl, hout, hg, -⟩
  have HR : Hid (RRows (vis (w.heap.size ≤ ·) w1) v (shL (ovAt s k))) := Lib.hid (hout.rrows (fun q hq => Nat.le_trans hA.size hq) (Nat.le_trans (shL_few HOK.out k) (by decide)) (shL_row HOK.out k))
  have HA := Lib.hid (hA.trans ((grown_belowb hg (fun q e => by cases e) (Nat.le_refl _)).mono hA.size))
  clear hout hg HG hA hB x0 x1 x2 x3 x4 x5 x6
  go_wp2
  go_ret
  exact ⟨⟨_, rfl, HR.out⟩, HA.out⟩

set_option maxHeartbeats 8000000 in
set_option maxRecDepth 100000 in
theorem rCheck_any (s : Sn) (d : SA) (w : World) (h : SnD w s d) : Calls Try.prog 17 #[.agg #[.int .i64 s.days, .slice d.a1 s.arts.length d.c1, .slice d.a2 s.ovens.length d.c2, .slice d.a3 s.mks.length d.c3, .slice d.a4 s.jobs.length d.c4, .slice d.a5 s.cols.length d.c5, .slice d.a6 s.ods.length d.c6]] w fun e w' => e = .returned (.int .i64 (worksE s)) ∧ Below w.heap.size w w' := by
  have hA := below_box w (.cells #[.int .i64 s.days, .slice d.a1 s.arts.length d.c1, .slice d.a2 s.ovens.length d.c2, .slice d.a3 s.mks.length d.c3, .slice d.a4 s.jobs.length d.c4, .slice d.a5 s.cols.length d.c5, .slice d.a6 s.ods.length d.c6] 28)
  have hB := Blk.new w #[.int .i64 s.days, .slice d.a1 s.arts.length d.c1, .slice d.a2 s.ovens.length d.c2, .slice d.a3 s.mks.length d.c3, .slice d.a4 s.jobs.length d.c4, .slice d.a5 s.cols.length d.c5, .slice d.a6 s.ods.length d.c6] 28
  have HS := Lib.hid (fun V (hV : Below w.heap.size w V) => h.mono (ext_of_below hV))
  clear h
  go_enter Try.func17, Try.ntmps17
  go_upto_region 1 with (fail)
  generalize w.alloc (.cells #[.int .i64 s.days, .slice d.a1 s.arts.length d.c1, .slice d.a2 s.ovens.length d.c2, .slice d.a3 s.mks.length d.c3, .slice d.a4 s.jobs.length d.c4, .slice d.a5 s.cols.length d.c5, .slice d.a6 s.ods.length d.c6] 28) = W at *
  have x0 := hB.cell 0 _ rfl
  have x1 := hB.cell 1 _ rfl
  have x2 := hB.cell 2 _ rfl
  have x3 := hB.cell 3 _ rfl
  have x4 := hB.cell 4 _ rfl
  have x5 := hB.cell 5 _ rfl
  have x6 := hB.cell 6 _ rfl
  go_wp2_with fail
  refine (rframe_any s d W (HS.out _ hA)).mono ?_
  rintro e w1 ⟨rfl, hb⟩
  clear x0 x1 x2 x3 x4 x5 x6
  replace hB := hB.below hb hB.lt
  replace hA := hA.trans (hb.mono hA.size)
  clear hb
  by_cases hp : partsE s = 0
  case neg =>
    obtain ⟨r, hr⟩ : ∃ r, partsE s = r := ⟨_, rfl⟩
    have hq : (r != 0) = true := by rw [← hr]; simpa using hp
    have HE : Hid (worksE s = r) := Lib.hid (by unfold worksE; rw [if_neg hp]; exact hr)
    rw [hr]
    clear hp hr
    go_wp2
    go_ret
    exact ⟨ret_int HE.out.symm, hA⟩
  case pos =>
  have ok := partsE_ok hp
  have hW : worksE s = fe (fewF s) 0 s.ovens.length := by unfold worksE; rw [if_pos hp]
  have HE0 : Hid (worksE s = fe (fewF s) 0 (s.ovens.length - 0)) := Lib.hid (by rw [hW, Nat.sub_zero])
  rw [hp]
  have HOK := Lib.hid ok
  have hno := ok.no
  clear hp ok hW
  go_upto_region 5 with (fail)
  go_loopw [4] (fun i wr => ∃ k : Nat, k ≤ s.ovens.length ∧ i = .int .i64 k ∧ Hid (worksE s = fe (fewF s) k (s.ovens.length - k)) ∧ Below w1.heap.size w1 wr) (fun i _ => s.ovens.length - (intOf i).toNat)
  case atStart => exact ⟨0, Nat.zero_le _, rfl, HE0, Below.refl _ _⟩
  case round =>
    obtain ⟨k, hk, rfl, hx, hb⟩ := hrel
    have hE := hA.trans (hb.mono hA.size)
    have hBr := hB.below hb hB.lt
    have x0 := hBr.cell 0 _ rfl
    have x1 := hBr.cell 1 _ rfl
    have x2 := hBr.cell 2 _ rfl
    have x3 := hBr.cell 3 _ rfl
    have x4 := hBr.cell 4 _ rfl
    have x5 := hBr.cell 5 _ rfl
    have x6 := hBr.cell 6 _ rfl
    by_cases hlt : k < s.ovens.length
    · have HF := fe_rel hx hlt
      have j1 : (0 : Int) ≤ (k : Int) := Int.natCast_nonneg _
      have j2 : (k : Int) < (s.ovens.length : Int) := by omega
      have hfew := shL_few HOK.out k
      have hlen : (shL (ovAt s k)).length = (ovAt s k).sh.length := (shL_shp (ovAt s k)).1
      rw [hlen] at hfew
      clear hx
      go_wp2_with fail
      refine (rAll_any s d k wr (HS.out _ hE) HOK.out hlt).mono ?_
      rintro e w2 ⟨⟨v, rfl, hv⟩, hb2⟩
      obtain ⟨av, cv, rfl⟩ := hv.shape
      rw [hlen]
      have hE2 := hE.trans (hb2.mono hE.size)
      have hbn := hb.trans (hb2.mono hb.size)
      clear x0 x1 x2 x3 x4 x5 x6
      clear hv hlen
      have hfe : fewF s k = if 54 < (ovAt s k).sh.length then 9 else 0 := rfl
      rw [hfe] at HF
      generalize (ovAt s k).sh.length = n at *
      have zn := wrap_id ((n : Int) * (n : Int)) (by
        have h1 : (n : Int) * (n : Int) ≤ 531441 * 531441 := Int.mul_le_mul (by omega) (by omega) (by omega) (by omega)
        have h2 : 0 ≤ (n : Int) * (n : Int) := Int.mul_nonneg (by omega) (by omega)
        unfold I64; omega)
      by_cases h54 : 54 < n
      · have hg : (3000 : Int) < (n : Int) * (n : Int) := by
          have : (55 : Int) * 55 ≤ (n : Int) * (n : Int) := Int.mul_le_mul (by omega) (by omega) (by omega) (by omega)
          omega
        have HE := Lib.hid (HF.out.2 9 (by rw [if_pos h54]) (by decide))
        clear HF h54 hfe
        go_wp2
        go_ret
        exact ⟨ret_int HE.out.symm, hE2⟩
      · have hg : ¬ (3000 : Int) < (n : Int) * (n : Int) := by
          have : (n : Int) * (n : Int) ≤ 54 * 54 := Int.mul_le_mul (by omega) (by omega) (by omega) (by omega)
          omega
        have HN := HF.out.1 (by rw [if_neg h54])
        clear HF h54 hfe
        go_wp2
        go_roundw
        case rel => exact ⟨k + 1, by omega, by go_num, HN, hbn⟩
        case measure => simp [intOf]; omega
    · obtain rfl : k = s.ovens.length := by omega
      have aN : ¬ (s.ovens.length : Int) < (s.ovens.length : Int) := by omega
      have HE := Lib.hid (fe_end hx)
      clear hx
      go_wp2
      go_ret
      exact ⟨ret_int HE.out.symm, hE⟩

set_option maxHeartbeats 8000000 in
set_option maxRecDepth 100000 in
theorem rShifts_any (s : Sn) (d : SA) (oi : Int) (w : World) (h : SnD w s d) : Calls Try.prog 13 #[.agg #[.int .i64 s.days, .slice d.a1 s.arts.length d.c1, .slice d.a2 s.ovens.length d.c2, .slice d.a3 s.mks.length d.c3, .slice d.a4 s.jobs.length d.c4, .slice d.a5 s.cols.length d.c5, .slice d.a6 s.ods.length d.c6], .int .i64 oi] w (ShA s oi w) := by
  have hA := below_box w (.cells #[.int .i64 s.days, .slice d.a1 s.arts.length d.c1, .slice d.a2 s.ovens.length d.c2, .slice d.a3 s.mks.length d.c3, .slice d.a4 s.jobs.length d.c4, .slice d.a5 s.cols.length d.c5, .slice d.a6 s.ods.length d.c6] 28)
  have hB := Blk.new w #[.int .i64 s.days, .slice d.a1 s.arts.length d.c1, .slice d.a2 s.ovens.length d.c2, .slice d.a3 s.mks.length d.c3, .slice d.a4 s.jobs.length d.c4, .slice d.a5 s.cols.length d.c5, .slice d.a6 s.ods.length d.c6] 28
  have HS := Lib.hid (fun V (hV : Below w.heap.size w V) => h.mono (ext_of_below hV))
  have lo := h.ovens.len
  clear h
  go_enter Try.func13, Try.ntmps13
  go_upto_region 1 with (fail)
  generalize w.alloc (.cells #[.int .i64 s.days, .slice d.a1 s.arts.length d.c1, .slice d.a2 s.ovens.length d.c2, .slice d.a3 s.mks.length d.c3, .slice d.a4 s.jobs.length d.c4, .slice d.a5 s.cols.length d.c5, .slice d.a6 s.ods.length d.c6] 28) = W at *
  have x0 := hB.cell 0 _ rfl
  have x1 := hB.cell 1 _ rfl
  have x2 := hB.cell 2 _ rfl
  have x3 := hB.cell 3 _ rfl
  have x4 := hB.cell 4 _ rfl
  have x5 := hB.cell 5 _ rfl
  have x6 := hB.cell 6 _ rfl
  go_wp2_with fail
  refine (rCheck_any s d W (HS.out _ hA)).mono ?_
  rintro e w1 ⟨rfl, hb⟩
  clear x0 x1 x2 x3 x4 x5 x6
  replace hB := hB.below hb hB.lt
  replace hA := hA.trans (hb.mono hA.size)
  clear hb
  by_cases hp : worksE s = 0
  case neg =>
    obtain ⟨r, hr⟩ : ∃ r, worksE s = r := ⟨_, rfl⟩
    have hq : (r != 0) = true := by rw [← hr]; simpa using hp
    have HP : Hid (shE s oi = r) := Lib.hid (by unfold shE; rw [if_neg hp]; exact hr)
    have HN : Hid (shA s oi = []) := Lib.hid (by unfold shA; rw [HP.out, if_neg (by rw [← hr]; exact hp)])
    rw [hr]
    clear hp hr
    go_wp2
    go_ret2
    exact ⟨⟨.slice none 0 0, by rw [HP.out]; rfl, by rw [HN.out]; exact nil_RRowsS _⟩, hA⟩
  case pos =>
  have ok := worksE_ok hp
  have HOK := Lib.hid ok
  have HW := Lib.hid hp
  rw [hp]
  have zo : wrap64 ((s.ovens.length : Int) - 1) = (s.ovens.length : Int) - 1 := wrap_id _ (by unfold I64; omega)
  clear hp ok
  have x0 := hB.cell 0 _ rfl
  have x1 := hB.cell 1 _ rfl
  have x2 := hB.cell 2 _ rfl
  have x3 := hB.cell 3 _ rfl
  have x4 := hB.cell 4 _ rfl
  have x5 := hB.cell 5 _ rfl
  have x6 := hB.cell 6 _ rfl
  go_wp2_with fail
  refine (rwithin8_any oi 0 ((s.ovens.length : Int) - 1) _).mono ?_
  rintro e w' ⟨rfl, hw'⟩
  obtain rfl := hw'.symm
  clear hw'
  cases hbt : btw oi 0 ((s.ovens.length : Int) - 1) with
  | false =>
    have HP : Hid (shE s oi = 7) := Lib.hid (by unfold shE; rw [if_pos HW.out, hbt]; rfl)
    have HN : Hid (shA s oi = []) := Lib.hid (by unfold shA; rw [HP.out]; rfl)
    clear hbt
    go_wp2
    go_ret2
    exact ⟨⟨.slice none 0 0, by rw [HP.out]; rfl, by rw [HN.out]; exact nil_RRowsS _⟩, hA⟩
  | true =>
  have hbb := btw_true.1 hbt
  obtain ⟨k, rfl⟩ := Int.eq_ofNat_of_zero_le hbb.1
  have hk : k < s.ovens.length := by omega
  have HP : Hid (shE s (k : Int) = 0) := Lib.hid (by unfold shE; rw [if_pos HW.out, if_pos hbt])
  have HPA : Hid (shA s (k : Int) = shL (ovAt s k)) := Lib.hid (by unfold shA; rw [if_pos HP.out]; rfl)
  clear hbt hbb
  go_wp2_with fail
  refine (rAll_any s d k w1 (HS.out _ hA) HOK.out hk).mono ?_
  rintro e w2 ⟨⟨v, rfl, hv⟩, hb⟩
  have HV := Lib.hid (hv.mono (vis_up (T := (w.heap.size ≤ ·)) (fun q hq => Nat.le_trans hA.size hq)))
  have HA := Lib.hid (hA.trans (hb.mono hA.size))
  clear hv hb hA hB x0 x1 x2 x3 x4 x5 x6
  go_wp2
  go_ret2
  exact ⟨⟨v, by rw [HP.out]; rfl, by rw [HPA.out]; exact HV.out⟩, HA.out⟩
end Go.Proofs.Ytdffhkbncencgaa
