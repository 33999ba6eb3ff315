/- The crew of a plan's day: works.crew; no statement is proved here. -/
import Derived.Test.YtdffhkbncencgaaPlIdx
namespace Go.Proofs.Ytdffhkbncencgaa
open Go.RowKit Go.PlainAid
set_option linter.unusedVariables false
set_option linter.unusedSimpArgs false

/-- what a machine makes on a day of a plan; before the first day: what it stands set for. -/
def planC (s : Sn) (T : List (List Int)) (day : Int) (m : Int) : Int := if day < 0 then (s.mks[m.toNat]?).elim 0 Mk.start else ((T[m.toNat]?).getD []).getD day.toNat 0
def crewS (s : Sn) (T : List (List Int)) (day : Int) (ms : List Int) (c : List Int) : List Int := ms.foldl (fun c m => c.set m.toNat (planC s T day m)) c
theorem crewS_step {s : Sn} {T : List (List Int)} {day : Int} {ms : List Int} {c : List Int} {k : Nat} (h : k < ms.length) : crewS s T day (ms.take (k + 1)) c = (crewS s T day (ms.take k) c).set (ms[k]).toNat (planC s T day ms[k]) := by
  unfold crewS
  rw [List.take_add_one, List.getElem?_eq_getElem h, List.foldl_append]
  rfl
theorem crewS_len (s : Sn) (T : List (List Int)) (day : Int) : ∀ (ms : List Int) (c : List Int), (crewS s T day ms c).length = c.length
  | [], c => rfl
  | m :: ms, c => by
    have := crewS_len s T day ms (c.set m.toNat (planC s T day m))
    unfold crewS at this ⊢
    rw [List.foldl_cons, this, List.length_set]

attribute [local go_sem ↓] ex_ldc ex_stc
set_option maxHeartbeats 4000000 in
set_option maxRecDepth 100000 in
theorem crew_any (s : Sn) (d : SA) (v7 : Value) (lo hi : Int) (am : Option Addr) (cm : Nat) (ms : List Int) (v2 : Value) (vt : Value) (T : List (List Int)) (day : Int) (w : World) (h : SnD w s d) (ok : OkS s) (hr : RInts w (.slice am ms.length cm) ms) (hm : MsOk s ms) (hl6 : ms.length ≤ 6)
    (hT : RRows w vt T) (hTl : T.length = s.mks.length) (hTr : ∀ r ∈ T, (r.length : Int) = s.days) (hd1 : -1 ≤ day) (hd2 : day < s.days) :
    Calls Try.prog 62 #[.agg #[.int .i64 s.days, .slice d.a1 s.arts.length d.c1, .slice d.a2 s.ovens.length d.c2, .slice d.a3 s.mks.length d.c3, .slice d.a4 s.jobs.length d.c4, .slice d.a5 s.cols.length d.c5, .slice d.a6 s.ods.length d.c6, v7], .agg #[.int .i64 lo, .int .i64 hi, .slice am ms.length cm, v2], vt, .int .i64 day] w fun e w' => e = .returned (.agg (crC (crewS s T day ms idleC))) ∧ Below w.heap.size w w' := by
  have hrm := h.mks
  have hnm := ok.nm
  have e0 : (crC [0, 0, 0, 0, 0, 0]) = #[.int .i64 0, .int .i64 0, .int .i64 0, .int .i64 0, .int .i64 0, .int .i64 0] := rfl
  have hA : Below w.heap.size w (((w.alloc (.cells #[.int .i64 s.days, .slice d.a1 s.arts.length d.c1, .slice d.a2 s.ovens.length d.c2, .slice d.a3 s.mks.length d.c3, .slice d.a4 s.jobs.length d.c4, .slice d.a5 s.cols.length d.c5, .slice d.a6 s.ods.length d.c6, v7] 63)).alloc (.cells #[.int .i64 lo, .int .i64 hi, .slice am ms.length cm, v2] 69)).alloc (.cells (crC [0, 0, 0, 0, 0, 0]) 71)) := ((below_box w _).alloc (by simp) _).alloc (by simp; omega) _
  have h0 := ((Blk.new w #[.int .i64 s.days, .slice d.a1 s.arts.length d.c1, .slice d.a2 s.ovens.length d.c2, .slice d.a3 s.mks.length d.c3, .slice d.a4 s.jobs.length d.c4, .slice d.a5 s.cols.length d.c5, .slice d.a6 s.ods.length d.c6, v7] 63).alloc (.cells #[.int .i64 lo, .int .i64 hi, .slice am ms.length cm, v2] 69)).alloc (.cells (crC [0, 0, 0, 0, 0, 0]) 71)
  have h1 := (Blk.new (w.alloc (.cells #[.int .i64 s.days, .slice d.a1 s.arts.length d.c1, .slice d.a2 s.ovens.length d.c2, .slice d.a3 s.mks.length d.c3, .slice d.a4 s.jobs.length d.c4, .slice d.a5 s.cols.length d.c5, .slice d.a6 s.ods.length d.c6, v7] 63)) #[.int .i64 lo, .int .i64 hi, .slice am ms.length cm, v2] 69).alloc (.cells (crC [0, 0, 0, 0, 0, 0]) 71)
  have h2 := Blk.new ((w.alloc (.cells #[.int .i64 s.days, .slice d.a1 s.arts.length d.c1, .slice d.a2 s.ovens.length d.c2, .slice d.a3 s.mks.length d.c3, .slice d.a4 s.jobs.length d.c4, .slice d.a5 s.cols.length d.c5, .slice d.a6 s.ods.length d.c6, v7] 63)).alloc (.cells #[.int .i64 lo, .int .i64 hi, .slice am ms.length cm, v2] 69)) (crC [0, 0, 0, 0, 0, 0]) 71
  simp only [World.size_alloc] at h1 h2
  obtain ⟨at', ct, rfl, -, ⟨-, htm⟩, hlt⟩ := hT
  go_enter Try.func62, Try.ntmps62
  go_wp2_with fail
  rw [e0] at hA h0 h1 h2
  generalize (((w.alloc (.cells #[.int .i64 s.days, .slice d.a1 s.arts.length d.c1, .slice d.a2 s.ovens.length d.c2, .slice d.a3 s.mks.length d.c3, .slice d.a4 s.jobs.length d.c4, .slice d.a5 s.cols.length d.c5, .slice d.a6 s.ods.length d.c6, v7] 63)).alloc (.cells #[.int .i64 lo, .int .i64 hi, .slice am ms.length cm, v2] 69)).alloc (.cells #[.int .i64 0, .int .i64 0, .int .i64 0, .int .i64 0, .int .i64 0, .int .i64 0] 71)) = W at *
  refine (idle_any W).mono ?_
  rintro e W1 ⟨rfl, hb1⟩
  have hA1 := hA.trans (hb1.mono hA.size)
  replace h0 := h0.below hb1 h0.lt
  replace h1 := h1.below hb1 h1.lt
  replace h2 := h2.below hb1 h2.lt
  have h3 := Blk.new W1 (crC [0, 0, 0, 0, 0, 0]) 71
  have hz1 := h2.lt
  replace h0 := h0.alloc (.cells (crC [0, 0, 0, 0, 0, 0]) 71)
  replace h1 := h1.alloc (.cells (crC [0, 0, 0, 0, 0, 0]) 71)
  replace h2 := h2.alloc (.cells (crC [0, 0, 0, 0, 0, 0]) 71)
  have hst := st_blk (cs' := crC idleC) (P := Try.prog) h3 rfl (by rw [sz_crew]; rfl) (crC_one idleC)
  have hB := putC_below (hA1.alloc hA1.size (.cells (crC [0, 0, 0, 0, 0, 0]) 71)) (show w.heap.size ≤ W1.heap.size by omega) (crC idleC)
  replace h0 := blk_sto_other h0 (show W1.heap.size ≠ w.heap.size by omega) (crC idleC)
  replace h1 := blk_sto_other h1 (show W1.heap.size ≠ w.heap.size + 1 by omega) (crC idleC)
  replace h2 := blk_sto_other h2 (show W1.heap.size ≠ w.heap.size + 1 + 1 by omega) (crC idleC)
  replace h3 := blk_sto (cs' := crC idleC) h3 rfl
  rw [e0] at hB h0 h1 h2 h3 hst
  have x2 := h1.cell 2 _ rfl
  have HCC : Hid (crC idleC = crC idleC) := Lib.hid rfl
  clear hA hb1 hA1 h
  generalize hCC : crC idleC = CC at h0 h1 h2 h3 hst hB x2 ⊢
  have HC := Lib.hid hCC
  clear hCC
  go_wp2_with fail
  have hzK : w.heap.size + 1 + 1 < W1.heap.size := hz1
  clear hz1
  generalize hK : W1.heap.size = K at *
  clear hK
  generalize (putC (W1.alloc (.cells #[.int .i64 0, .int .i64 0, .int .i64 0, .int .i64 0, .int .i64 0, .int .i64 0] 71)) K CC) = Y at *
  clear hst
  rw [← HC.out] at h3
  go_loopw [16] (fun i wr => ∃ (k : Nat) (c : List Int), k ≤ ms.length ∧ i = .int .i64 k ∧ Hid (crewS s T day (ms.take k) idleC = c) ∧ Blk wr K (crC c) 71 ∧ Blk wr w.heap.size #[.int .i64 s.days, .slice d.a1 s.arts.length d.c1, .slice d.a2 s.ovens.length d.c2, .slice d.a3 s.mks.length d.c3, .slice d.a4 s.jobs.length d.c4, .slice d.a5 s.cols.length d.c5, .slice d.a6 s.ods.length d.c6, v7] 63 ∧ Blk wr (w.heap.size + 1 + 1) #[.int .i64 0, .int .i64 0, .int .i64 0, .int .i64 0, .int .i64 0, .int .i64 0] 71 ∧ Below w.heap.size w wr) (fun i _ => ms.length - (intOf i).toNat)
  case atStart => exact ⟨0, _, Nat.zero_le _, rfl, Lib.hid (by rw [List.take_zero]; rfl), h3, h0, h2, hB⟩
  case round =>
    obtain ⟨k, c, hk, rfl, hc, hX, hX0, hX2, hb⟩ := hrel
    have hcl : c.length = 6 := by rw [← hc.out, crewS_len]; rfl
    by_cases hlt2 : k < ms.length
    · have hst := crewS_step (s := s) (T := T) (day := day) (c := idleC) hlt2
      rw [hc.out] at hst
      obtain ⟨am', cm', he, -, -, hl⟩ := id hr
      simp only [Value.slice.injEq, true_and] at he
      obtain ⟨rfl, rfl⟩ := he
      obtain ⟨b1, o1, he1, q0, -⟩ := hl k hlt2
      obtain ⟨z0, z1⟩ := hm _ (List.getElem_mem hlt2)
      obtain ⟨n, hn⟩ := Int.eq_ofNat_of_zero_le z0
      rw [hn] at q0 hst z1
      have hn6 : n < 6 := by omega
      have hnl : n < s.mks.length := by omega
      have k0 := ext_of_below hb _ _ q0
      simp only [Nat.mul_one] at k0
      have j1 : (0 : Int) ≤ (k : Int) := Int.natCast_nonneg _
      have j2 : (k : Int) < (ms.length : Int) := by omega
      have j3 : (0 : Int) ≤ (n : Int) := Int.natCast_nonneg _
      have j4 : (n : Int) < 6 := by omega
      have j5 : (n : Int) < (s.mks.length : Int) := by omega
      have c0 := hX.cell n _ (crC_at c hn6)
      have c1 := hX.frozen n
      rw [he1]
      simp only [Int.toNat_natCast] at hst
      obtain ⟨pv, hpv⟩ : ∃ p, planC s T day n = p := ⟨_, rfl⟩
      rw [hpv] at hst
      have HN : Hid (Blk (wr.setCell ⟨K, n, none⟩ (.int .i64 pv)) K (crC (c.set n pv)) 71) := Lib.hid (by rw [← crC_set c hcl hn6]; exact hX.set n _)
      have HN0 := Lib.hid (hX0.other ⟨K, n, none⟩ (.int .i64 pv) (by simp only; omega))
      have HN2 := Lib.hid (hX2.other ⟨K, n, none⟩ (.int .i64 pv) (by simp only; omega))
      have HB := Lib.hid (hb.setCell (p := ⟨K, n, none⟩) (by simp only; omega) (.int .i64 pv))
      have HC2 := Lib.hid hst
      unfold planC at hpv
      simp only [Int.toNat_natCast] at hpv
      by_cases hd0 : day < 0
      · rw [if_pos hd0, List.getElem?_eq_getElem hnl] at hpv
        simp only [Option.elim_some] at hpv
        obtain ⟨a'', c'', he', -, -, hlm⟩ := id hrm
        simp only [Value.slice.injEq, true_and] at he'
        obtain ⟨rfl, rfl⟩ := he'
        obtain ⟨b3, o3, he3, v, ⟨-, -, -, q3⟩, -⟩ := hlm n hnl
        have e1 := hX0.cell 3 _ rfl
        rw [he3] at e1
        have k3 := ext_of_below hb _ _ q3
        rw [hpv] at k3
        simp only at k3
        obtain rfl : day = -1 := by omega
        clear hst hc hX hX0 hX2 hb hl q0 hn z0 z1 hlm hrm q3 h0 h1 h2 h3 hB x2 hr hm hlt
        go_wp2
        go_roundw
        case rel => exact ⟨k + 1, _, by omega, by go_num, HC2, HN.out, HN0.out, HN2.out, HB.out⟩
        case measure => simp [intOf]; omega
      · rw [if_neg hd0] at hpv
        obtain ⟨dn, hdn⟩ := Int.eq_ofNat_of_zero_le (show 0 ≤ day by omega)
        subst hdn
        have hnT : n < T.length := by omega
        obtain ⟨b4, o4, he4, vr, q4, hri⟩ := hlt n hnT
        have hrl := hTr _ (List.getElem_mem hnT)
        rw [List.getElem?_eq_getElem hnT] at hpv
        simp only [Option.getD_some, Int.toNat_natCast] at hpv
        obtain ⟨a5, c5, rfl, -, -, hl5⟩ := hri
        have hdl : dn < (T[n]).length := by omega
        obtain ⟨b5, o5, he5, q5, -⟩ := hl5 dn hdl
        rw [List.getD_eq_getElem?_getD, List.getElem?_eq_getElem hdl, Option.getD_some] at hpv
        rw [hpv] at q5
        have k4 := ext_of_below hb _ _ q4
        have k5 := ext_of_below hb _ _ q5
        simp only [Nat.mul_one] at k4 k5
        subst he4
        rw [he5] at k4
        have j6 : (n : Int) < (T.length : Int) := by omega
        have j7 : (dn : Int) < ((T[n]).length : Int) := by omega
        have j8 : (0 : Int) ≤ (dn : Int) := Int.natCast_nonneg _
        have j9 : ¬ ((dn : Int) < 0) := by omega
        clear hst hc hX hX0 hX2 hb hl q0 hn z0 z1 hrm q4 q5 hl5 h0 h1 h2 h3 hB x2 hr hm hlt hrl hpv
        generalize (T[n]).length = tl at *
        go_wp2
        go_roundw
        case rel => exact ⟨k + 1, _, by omega, by go_num, HC2, HN.out, HN0.out, HN2.out, HB.out⟩
        case measure => simp [intOf]; omega
    · obtain rfl : k = ms.length := by omega
      rw [List.take_length] at hc
      have hld := ld_blk hX Try.underlying71 rfl (by rw [sz_crew]; rfl)
      have hst := st_blk (cs' := crC c) hX2 rfl (by rw [sz_crew]; rfl) (crC_one _)
      have HB := Lib.hid (putC_below hb (show w.heap.size ≤ w.heap.size + 1 + 1 by omega) (crC c))
      have HN := Lib.hid (blk_sto (cs' := crC c) hX2 rfl)
      have HC2 : Hid (crC (crewS s T day ms idleC) = crC c) := Lib.hid (by rw [hc.out])
      clear hc hX hX0 hX2 hb h0 h1 h2 h3 hB x2 HC
      generalize hCC : crC c = C at *
      go_wp2
      exact ⟨rfl, _, res_one (by rfl) rfl (lv_blk HN.out Try.underlying71 rfl (by rw [sz_crew, ← hCC]; rfl)), by rw [HC2.out], HB.out⟩
end Go.Proofs.Ytdffhkbncencgaa
