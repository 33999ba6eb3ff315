/- The law PlanStands: every input; no statement is proved here. -/
import Derived.Test.YtdffhkbncencgaaPlLw
import Derived.Deep.QuietTactic
import Derived.BigQuiet
namespace Go.Proofs.Ytdffhkbncencgaa
open Go.RowKit Go.PlainAid
set_option linter.unusedVariables false
set_option linter.unusedSimpArgs false

set_option maxHeartbeats 16000000 in
set_option maxRecDepth 100000 in
theorem fStandsLaw_any (s : Sn) (d : SA) (x : Ask8) (v0 v1 v3 : Value) (w : World) (h : SnD w s d) (hx : AskC w x v0 v1 v3) :
    Calls Try.prog 5 #[.agg #[.int .i64 s.days, .slice d.a1 s.arts.length d.c1, .slice d.a2 s.ovens.length d.c2, .slice d.a3 s.mks.length d.c3, .slice d.a4 s.jobs.length d.c4, .slice d.a5 s.cols.length d.c5, .slice d.a6 s.ods.length d.c6], .agg #[v0, v1, .int .i64 x.oven, v3]] w (TrueP w) := by
  have hA : Below w.heap.size w ((w.alloc (.cells #[.int .i64 s.days, .slice d.a1 s.arts.length d.c1, .slice d.a2 s.ovens.length d.c2, .slice d.a3 s.mks.length d.c3, .slice d.a4 s.jobs.length d.c4, .slice d.a5 s.cols.length d.c5, .slice d.a6 s.ods.length d.c6] 28)).alloc (.cells #[v0, v1, .int .i64 x.oven, v3] 32)) := (below_box w _).alloc (by simp) _
  have hB := (Blk.new w #[.int .i64 s.days, .slice d.a1 s.arts.length d.c1, .slice d.a2 s.ovens.length d.c2, .slice d.a3 s.mks.length d.c3, .slice d.a4 s.jobs.length d.c4, .slice d.a5 s.cols.length d.c5, .slice d.a6 s.ods.length d.c6] 28).alloc (.cells #[v0, v1, .int .i64 x.oven, v3] 32)
  have hX := Blk.new (w.alloc (.cells #[.int .i64 s.days, .slice d.a1 s.arts.length d.c1, .slice d.a2 s.ovens.length d.c2, .slice d.a3 s.mks.length d.c3, .slice d.a4 s.jobs.length d.c4, .slice d.a5 s.cols.length d.c5, .slice d.a6 s.ods.length d.c6] 28)) #[v0, v1, .int .i64 x.oven, v3] 32
  rw [World.size_alloc] at hX
  have HS := Lib.hid (fun V (hV : Below w.heap.size w V) => h.mono (ext_of_below hV))
  have HX := Lib.hid (fun V (hV : Below w.heap.size w V) => hx.mono (ext_of_below hV))
  clear h hx
  go_enter Try.func5, Try.ntmps5
  go_wp2_with fail
  generalize (w.alloc (.cells #[.int .i64 s.days, .slice d.a1 s.arts.length d.c1, .slice d.a2 s.ovens.length d.c2, .slice d.a3 s.mks.length d.c3, .slice d.a4 s.jobs.length d.c4, .slice d.a5 s.cols.length d.c5, .slice d.a6 s.ods.length d.c6] 28)).alloc _ = W at *
  refine (Great8_any s d W (HS.out _ hA)).mono ?_
  rintro e w1 ⟨⟨b, rfl⟩, hb⟩
  replace hB := hB.below hb hB.lt
  replace hX := hX.below hb hX.lt
  replace hA := hA.trans (hb.mono hA.size)
  clear hb
  cases b with
  | true =>
    clear hB hX
    go_wp2_with fail
    refine (lives_any _).mono ?_
    rintro e wl ⟨rfl, hbl⟩
    have HE := Lib.hid (hA.trans (hbl.mono hA.size))
    clear hbl hA
    go_wp2
    go_ret
    exact ⟨rfl, HE.out⟩
  | false =>
  have x0 := hB.cell 0 _ rfl
  have x1 := hB.cell 1 _ rfl
  have x2 := hB.cell 2 _ rfl
  have x3 := hB.cell 3 _ rfl
  have x4 := hB.cell 4 _ rfl
  have x5 := hB.cell 5 _ rfl
  have x6 := hB.cell 6 _ rfl
  have y0 := hX.cell 0 _ rfl
  have y1 := hX.cell 1 _ rfl
  have y2 := hX.cell 2 _ rfl
  have y3 := hX.cell 3 _ rfl
  go_wp2_with fail
  refine (Wide_any x v0 v1 v3 _ (HX.out _ hA)).mono ?_
  rintro e w2 ⟨⟨b, rfl⟩, hb⟩
  clear x0 x1 x2 x3 x4 x5 x6 y0 y1 y2 y3
  replace hB := hB.below hb hB.lt
  replace hX := hX.below hb hX.lt
  replace hA := hA.trans (hb.mono hA.size)
  clear hb
  cases b with
  | true =>
    clear hB hX
    go_wp2_with fail
    refine (lives_any _).mono ?_
    rintro e wl ⟨rfl, hbl⟩
    have HE := Lib.hid (hA.trans (hbl.mono hA.size))
    clear hbl hA
    go_wp2
    go_ret
    exact ⟨rfl, HE.out⟩
  | false =>
  have hC := Keeps_any s d x.plan v0 _ (HS.out _ hA) (HX.out _ hA).plan
  by_cases hk : keE s x.plan = 0
  case neg =>
    by_cases hp : plE s x.plan = 0
    · have hkp : kpA s x.plan = false := by
        unfold kpA
        unfold keE at hk
        rw [if_pos hp] at hk
        cases hb : keepsB s x.plan
        · simp
        · rw [hb] at hk; simp at hk
      have hkE : keE s x.plan = 8 := by
        unfold keE at hk ⊢
        rw [if_pos hp] at hk ⊢
        split
        · rename_i h1; rw [if_pos h1] at hk; exact absurd rfl hk
        · rfl
      rw [hkp, hp] at hC
      clear hkp hp
      have x0 := hB.cell 0 _ rfl
      have x1 := hB.cell 1 _ rfl
      have x2 := hB.cell 2 _ rfl
      have x3 := hB.cell 3 _ rfl
      have x4 := hB.cell 4 _ rfl
      have x5 := hB.cell 5 _ rfl
      have x6 := hB.cell 6 _ rfl
      have y0 := hX.cell 0 _ rfl
      go_wp2_with fail
      refine hC.mono ?_
      rintro e w3 ⟨rfl, hb⟩
      clear hC
      clear x0 x1 x2 x3 x4 x5 x6 y0
      replace hB := hB.below hb hB.lt
      replace hX := hX.below hb hX.lt
      replace hA := hA.trans (hb.mono hA.size)
      clear hb
      have hP0 : pulA s x.plan = [] := by unfold pulA; rw [if_neg hk]
      have hC := Pulls_any s d x.plan v0 _ (HS.out _ hA) (HX.out _ hA).plan
      unfold PuA at hC
      rw [hkE, hP0] at hC
      clear hP0
      have x0 := hB.cell 0 _ rfl
      have x1 := hB.cell 1 _ rfl
      have x2 := hB.cell 2 _ rfl
      have x3 := hB.cell 3 _ rfl
      have x4 := hB.cell 4 _ rfl
      have x5 := hB.cell 5 _ rfl
      have x6 := hB.cell 6 _ rfl
      have y0 := hX.cell 0 _ rfl
      go_wp2_with fail
      refine hC.mono ?_
      rintro e w4 ⟨⟨v, rfl, hv⟩, hb⟩
      clear hC
      clear x0 x1 x2 x3 x4 x5 x6 y0
      replace hB := hB.below hb hB.lt
      replace hX := hX.below hb hX.lt
      replace hA := hA.trans (hb.mono hA.size)
      clear hb
      obtain ⟨av, cv, rfl⟩ := hv.shape
      clear hv
      simp only [List.length_nil]
      clear hB hX
      go_wp2_with fail
      refine (lives_any _).mono ?_
      rintro e wl ⟨rfl, hbl⟩
      have HE := Lib.hid (hA.trans (hbl.mono hA.size))
      clear hbl hA
      go_wp2
      go_ret
      exact ⟨rfl, HE.out⟩
    · have hkp : kpA s x.plan = false := by unfold kpA; simp [hp]
      have hkE : keE s x.plan = plE s x.plan := by unfold keE; rw [if_neg hp]
      obtain ⟨r, hr⟩ : ∃ r, plE s x.plan = r := ⟨_, rfl⟩
      rw [hr] at hp hkE
      have hr0 : (r != 0) = true := by simpa using hp
      rw [hkp, hr] at hC
      clear hkp hp hr
      have x0 := hB.cell 0 _ rfl
      have x1 := hB.cell 1 _ rfl
      have x2 := hB.cell 2 _ rfl
      have x3 := hB.cell 3 _ rfl
      have x4 := hB.cell 4 _ rfl
      have x5 := hB.cell 5 _ rfl
      have x6 := hB.cell 6 _ rfl
      have y0 := hX.cell 0 _ rfl
      go_wp2_with fail
      refine hC.mono ?_
      rintro e w3 ⟨rfl, hb⟩
      clear hC
      clear x0 x1 x2 x3 x4 x5 x6 y0
      replace hB := hB.below hb hB.lt
      replace hX := hX.below hb hX.lt
      replace hA := hA.trans (hb.mono hA.size)
      clear hb
      have hP0 : pulA s x.plan = [] := by unfold pulA; rw [if_neg hk]
      have hC := Pulls_any s d x.plan v0 _ (HS.out _ hA) (HX.out _ hA).plan
      unfold PuA at hC
      rw [hkE, hP0] at hC
      clear hP0
      have x0 := hB.cell 0 _ rfl
      have x1 := hB.cell 1 _ rfl
      have x2 := hB.cell 2 _ rfl
      have x3 := hB.cell 3 _ rfl
      have x4 := hB.cell 4 _ rfl
      have x5 := hB.cell 5 _ rfl
      have x6 := hB.cell 6 _ rfl
      have y0 := hX.cell 0 _ rfl
      go_wp2_with fail
      refine hC.mono ?_
      rintro e w4 ⟨⟨v, rfl, hv⟩, hb⟩
      clear hC
      clear x0 x1 x2 x3 x4 x5 x6 y0
      replace hB := hB.below hb hB.lt
      replace hX := hX.below hb hX.lt
      replace hA := hA.trans (hb.mono hA.size)
      clear hb
      obtain ⟨av, cv, rfl⟩ := hv.shape
      clear hv
      simp only [List.length_nil]
      clear hB hX
      go_wp2_with fail
      refine (lives_any _).mono ?_
      rintro e wl ⟨rfl, hbl⟩
      have HE := Lib.hid (hA.trans (hbl.mono hA.size))
      clear hbl hA
      go_wp2
      go_ret
      exact ⟨rfl, HE.out⟩
  case pos =>
  obtain ⟨hp, hkb⟩ := keE_ok hk
  obtain ⟨-, ok, pk⟩ := plE_ok hp
  have hkp : kpA s x.plan = true := by unfold kpA; simp [hp, hkb]
  rw [hkp, hp] at hC
  clear hkp hp
  have x0 := hB.cell 0 _ rfl
  have x1 := hB.cell 1 _ rfl
  have x2 := hB.cell 2 _ rfl
  have x3 := hB.cell 3 _ rfl
  have x4 := hB.cell 4 _ rfl
  have x5 := hB.cell 5 _ rfl
  have x6 := hB.cell 6 _ rfl
  have y0 := hX.cell 0 _ rfl
  go_wp2_with fail
  refine hC.mono ?_
  rintro e w3 ⟨rfl, hb⟩
  clear hC
  clear x0 x1 x2 x3 x4 x5 x6 y0
  replace hB := hB.below hb hB.lt
  replace hX := hX.below hb hX.lt
  replace hA := hA.trans (hb.mono hA.size)
  clear hb
  have hP0 : pulA s x.plan = pulK s x.plan (stL s x.plan).length := by unfold pulA; rw [if_pos hk]
  have hsP := (pulS_ent s x.plan).1
  have hC := Pulls_any s d x.plan v0 _ (HS.out _ hA) (HX.out _ hA).plan
  unfold PuA at hC
  rw [hk, hP0] at hC
  clear hP0
  have x0 := hB.cell 0 _ rfl
  have x1 := hB.cell 1 _ rfl
  have x2 := hB.cell 2 _ rfl
  have x3 := hB.cell 3 _ rfl
  have x4 := hB.cell 4 _ rfl
  have x5 := hB.cell 5 _ rfl
  have x6 := hB.cell 6 _ rfl
  have y0 := hX.cell 0 _ rfl
  go_wp2_with fail
  refine hC.mono ?_
  rintro e wt ⟨⟨vp, rfl, hv⟩, hb⟩
  replace hv := hv.mono vis_outL
  clear hC
  clear x0 x1 x2 x3 x4 x5 x6 y0
  replace hB := hB.below hb hB.lt
  replace hX := hX.below hb hX.lt
  replace hA := hA.trans (hb.mono hA.size)
  clear hb
  obtain ⟨ap, cp, rfl⟩ := hv.shape
  rw [hsP.1] at hv ⊢
  have HP := Lib.hid hv
  clear hv
  have hP0 : madA s x.plan = madK s x.plan (stL s x.plan).length := by unfold madA; rw [if_pos hk]
  have hsM := (madS_ent ok x.plan).1
  have hC := Made_any s d x.plan v0 _ (HS.out _ hA) (HX.out _ hA).plan
  unfold MaA at hC
  rw [hk, hP0] at hC
  clear hP0
  have x0 := hB.cell 0 _ rfl
  have x1 := hB.cell 1 _ rfl
  have x2 := hB.cell 2 _ rfl
  have x3 := hB.cell 3 _ rfl
  have x4 := hB.cell 4 _ rfl
  have x5 := hB.cell 5 _ rfl
  have x6 := hB.cell 6 _ rfl
  have y0 := hX.cell 0 _ rfl
  go_wp2_with fail
  refine hC.mono ?_
  rintro e wt ⟨⟨vm, rfl, hv⟩, hb⟩
  replace hv := hv.mono vis_outL
  replace HP := Lib.hid (HP.out.mono (ext_of_below hb))
  clear hC
  clear x0 x1 x2 x3 x4 x5 x6 y0
  replace hB := hB.below hb hB.lt
  replace hX := hX.below hb hX.lt
  replace hA := hA.trans (hb.mono hA.size)
  clear hb
  obtain ⟨am, cm, rfl⟩ := hv.shape
  rw [hsM.1] at hv ⊢
  have HM := Lib.hid hv
  clear hv
  have hP0 : lackA s x.plan = lackL s (gotS s x.plan) := by unfold lackA; rw [if_pos hk]
  have hlL : (lackL s (gotS s x.plan)).length = s.ods.length := lackK_len s _ _
  have hC := Lacks_any s d x.plan v0 _ (HS.out _ hA) (HX.out _ hA).plan
  unfold LkA at hC
  rw [hk, hP0] at hC
  clear hP0
  have x0 := hB.cell 0 _ rfl
  have x1 := hB.cell 1 _ rfl
  have x2 := hB.cell 2 _ rfl
  have x3 := hB.cell 3 _ rfl
  have x4 := hB.cell 4 _ rfl
  have x5 := hB.cell 5 _ rfl
  have x6 := hB.cell 6 _ rfl
  have y0 := hX.cell 0 _ rfl
  go_wp2_with fail
  refine hC.mono ?_
  rintro e w6 ⟨⟨vl, rfl, hv⟩, hb⟩
  replace hv := hv.mono vis_outL
  replace HP := Lib.hid (HP.out.mono (ext_of_below hb))
  replace HM := Lib.hid (HM.out.mono (ext_of_below hb))
  clear hC
  clear x0 x1 x2 x3 x4 x5 x6 y0
  replace hB := hB.below hb hB.lt
  replace hX := hX.below hb hX.lt
  replace hA := hA.trans (hb.mono hA.size)
  clear hb
  obtain ⟨al, cl, rfl⟩ := hv.shape
  rw [hlL] at hv ⊢
  have HL := Lib.hid hv
  have hLB : ∀ k (hk : k < s.ods.length), ∃ u, (lackL s (gotS s x.plan))[k]? = some u ∧ 0 ≤ u ∧ u ≤ s.ods[k].qty := fun k hkk => by
    have h1 := lackL_at ok x.plan hkk
    refine ⟨_, ?_, h1.2⟩
    unfold lackL lackK
    simp [hkk]
  have HLB := Lib.hid hLB
  have HLL := Lib.hid hlL
  have hnd : s.ods.length ≤ 8 := Nat.le_trans ok.nd ok.na
  have hnr : ∀ k (hk : k < s.mks.length), s.mks[k].rates.length = s.arts.length := fun k hkk => (ok.mkr _ (List.getElem_mem hkk)).2.1.1
  have HNR := Lib.hid hnr
  have hna := ok.na
  clear hv hlL hLB hnr
  obtain ⟨D, hD⟩ : ∃ D, s.days.toNat = D := ⟨_, rfl⟩
  have hDd : s.days = (D : Int) := by have := ok.days; omega
  rw [hD] at hsP hsM
  have HSP := Lib.hid hsP
  have HSM := Lib.hid hsM
  have HPL := Lib.hid pk.shp
  rw [hD] at HPL
  have HOK := Lib.hid ok
  have HPK := Lib.hid pk
  have hno := ok.no
  have hnm := ok.nm
  have hDb : D ≤ 14 := by have := ok.days; omega
  have hPB : ∀ k (hk : k < s.ovens.length) j, j < D → s.ovens[k].lo ≤ ent (pulK s x.plan (stL s x.plan).length) k j ∧ ent (pulK s x.plan (stL s x.plan).length) k j ≤ s.ovens[k].hi := fun k hkk j hj => by
    rw [(pulS_ent s x.plan).2 k j hkk (by rw [hD]; exact hj)]
    exact kept_pull ok (keE_ok hk).2 hkk (by rw [hD]; exact hj)
  have HPB := Lib.hid hPB
  have hMB : ∀ n j, n < s.mks.length → j < D → MadP s n (ent x.plan n j) (ent (madK s x.plan (stL s x.plan).length) n j) := fun n j hn hj => by
    have := (madS_ent ok x.plan).2 n j hn (by rw [hD]; exact hj)
    rw [planC_ent] at this
    exact this
  have HMB := Lib.hid hMB
  have hTB : ∀ n j, n < s.mks.length → j < D → -1 ≤ ent x.plan n j ∧ ent x.plan n j < s.arts.length := fun n j hn hj => by
    rw [← planC_ent]
    exact planC_bd ok pk (by omega) (by omega) ⟨by omega, by omega⟩
  have HTB := Lib.hid hTB
  have HD := Lib.hid hD
  clear hsP hsM pk ok hk hD hPB hMB hTB
  obtain ⟨a0, c0, hv0⟩ := (HX.out _ hA).plan.shape
  rw [HPL.out.1] at hv0
  have HT := Lib.hid (HX.out _ hA).plan
  rw [hv0] at HT
  clear hkb
  have x0 := hB.cell 0 _ rfl
  have x1 := hB.cell 1 _ rfl
  have x2 := hB.cell 2 _ rfl
  have x3 := hB.cell 3 _ rfl
  have x4 := hB.cell 4 _ rfl
  have x5 := hB.cell 5 _ rfl
  have x6 := hB.cell 6 _ rfl
  have y0 := hX.cell 0 _ rfl
  rw [hDd] at x0
  rw [hv0] at y0
  have HS6 := Lib.hid (HS.out _ hA)
  have HDd := Lib.hid hDd
  have HA := Lib.hid hA
  clear hDd hv0
  generalize pulK s x.plan (stL s x.plan).length = P at *
  generalize madK s x.plan (stL s x.plan).length = M at *
  generalize lackL s (gotS s x.plan) = L at *
  clear hB hX hA
  go_upto_region 12 with (fail)
  have HX0 := Lib.hid x0
  have HX2 := Lib.hid x2
  have HX3 := Lib.hid x3
  have HX6 := Lib.hid x6
  have HY0 := Lib.hid y0
  have nD : ((D : Int) != (D : Int)) = false := by simp
  clear x0 x1 x2 x3 x4 x5 x6 y0
  go_loopw [13] (fun i wx => ∃ k13 : Nat, k13 ≤ s.ovens.length ∧ i = .int .i64 k13 ∧ Below w6.heap.size w6 wx) (fun i _ => s.ovens.length - (intOf i).toNat)
  case atStart => exact ⟨0, Nat.zero_le _, rfl, Below.refl _ _⟩
  case round =>
    obtain ⟨k13, hk13, rfl, hb⟩ := hrel
    have x0 := ext_of_below hb _ _ HX0.out
    by_cases hlt13 : k13 < s.ovens.length
    · have j13a : (0 : Int) ≤ (k13 : Int) := Int.natCast_nonneg _
      have j13b : (k13 : Int) < (s.ovens.length : Int) := by omega
      obtain ⟨b1, o1, b2, c2, he1, q0, hrP⟩ := rows_row HP.out HSP.out hlt13
      subst he1
      go_upto_region 15 with (fail)
      go_loopw [14] (fun i wx => ∃ k14 : Nat, k14 ≤ D ∧ i = .int .i64 k14 ∧ Below w6.heap.size w6 wx) (fun i _ => D - (intOf i).toNat)
      case atStart => exact ⟨0, Nat.zero_le _, rfl, hb⟩
      case round =>
        obtain ⟨k14, hk14, rfl, hb⟩ := hrel
        have x0 := ext_of_below hb _ _ HX0.out
        have x2 := ext_of_below hb _ _ HX2.out
        by_cases hlt14 : k14 < D
        · have j14a : (0 : Int) ≤ (k14 : Int) := Int.natCast_nonneg _
          have j14b : (k14 : Int) < (D : Int) := by omega
          obtain ⟨b4, o4, he4, r0, -⟩ := ints_ent hrP HSP.out hlt13 hlt14
          subst he4
          have hpb := HPB.out k13 hlt13 k14 hlt14
          obtain ⟨b3, o3, he3, ⟨q1, q2, -⟩⟩ := rsl_at HS6.out.ovens hlt13
          simp only at q1 q2
          replace q0 := ext_of_below hb _ _ q0
          replace q1 := ext_of_below hb _ _ q1
          replace q2 := ext_of_below hb _ _ q2
          replace r0 := ext_of_below hb _ _ r0
          rw [he3] at x2
          generalize ent P k13 k14 = pv at *
          generalize s.ovens[k13] = ov at *
          have n1 : decide (pv < ov.lo) = false := decide_eq_false (by omega)
          have n2 : decide (ov.hi < pv) = false := decide_eq_false (by omega)
          clear hpb he3
          go_wp2_with fail
          go_quiet (fail)
          go_wp2
          go_roundw
          case rel => exact ⟨k14 + 1, by omega, by go_num, below_drewN hb _⟩
          case measure => simp [intOf]; omega
        · have j14c : ¬ (k14 : Int) < (D : Int) := by omega
          replace q0 := ext_of_below hb _ _ q0
          go_wp2_with fail
          go_quiet (fail)
          go_wp2
          go_roundw
          case rel => exact ⟨k13 + 1, by omega, by go_num, below_drewN hb _⟩
          case measure => simp [intOf]; omega
    · have j13c : ¬ (k13 : Int) < (s.ovens.length : Int) := by omega
      go_upto_region 22 with (fail)
      go_loopw [15] (fun i wx => ∃ k15 : Nat, k15 ≤ s.mks.length ∧ i = .int .i64 k15 ∧ Below w6.heap.size w6 wx) (fun i _ => s.mks.length - (intOf i).toNat)
      case atStart => exact ⟨0, Nat.zero_le _, rfl, hb⟩
      case round =>
        obtain ⟨k15, hk15, rfl, hb⟩ := hrel
        have x0 := ext_of_below hb _ _ HX0.out
        by_cases hlt15 : k15 < s.mks.length
        · have j15a : (0 : Int) ≤ (k15 : Int) := Int.natCast_nonneg _
          have j15b : (k15 : Int) < (s.mks.length : Int) := by omega
          obtain ⟨b1, o1, b2, c2, he1, q0, hrM⟩ := rows_row HM.out HSM.out hlt15
          subst he1
          obtain ⟨b8, o8, b9, c9, he8, p0, hrT⟩ := rows_row HT.out HPL.out hlt15
          subst he8
          have q5 := ext_of_below hb _ _ q0
          go_wp2_with fail
          go_quiet (fail)
          go_upto_region 27 with (fail)
          clear q5
          go_loopw [16] (fun i wx => ∃ k16 : Nat, k16 ≤ D ∧ i = .int .i64 k16 ∧ Below w6.heap.size w6 wx) (fun i _ => D - (intOf i).toNat)
          case atStart => exact ⟨0, Nat.zero_le _, rfl, below_drewN hb _⟩
          case round =>
            obtain ⟨k16, hk16, rfl, hb⟩ := hrel
            have x0 := ext_of_below hb _ _ HX0.out
            have x3 := ext_of_below hb _ _ HX3.out
            have y0 := ext_of_below hb _ _ HY0.out
            by_cases hlt16 : k16 < D
            · have j16a : (0 : Int) ≤ (k16 : Int) := Int.natCast_nonneg _
              have j16b : (k16 : Int) < (D : Int) := by omega
              obtain ⟨b4, o4, he4, r0, -⟩ := ints_ent hrM HSM.out hlt15 hlt16
              subst he4
              obtain ⟨b6, o6, he6, r1, -⟩ := ints_ent hrT HPL.out hlt15 hlt16
              subst he6
              obtain ⟨b3, o3, he3, v5, ⟨q1, q2, q3, q4⟩, -, hrR, -⟩ := rsl_at HS6.out.mks hlt15
              obtain ⟨ar, cr, rfl⟩ := hrR.shape
              simp only at q1 q2 q3 q4
              rw [he3] at x3
              replace q0 := ext_of_below hb _ _ q0
              replace p0 := ext_of_below hb _ _ p0
              replace r0 := ext_of_below hb _ _ r0
              replace r1 := ext_of_below hb _ _ r1
              replace q2 := ext_of_below hb _ _ q2
              obtain ⟨m0, m1, m2⟩ := HMB.out k15 k16 hlt15 hlt16
              have hab := HTB.out k15 k16 hlt15 hlt16
              clear q1 q3 q4 he3
              by_cases ha : ent x.plan k15 k16 = -1
              · have m3 := m1 ha
                rw [m3] at r0
                rw [ha] at r1
                have n1 : decide ((0 : Int) < 0) = false := by decide
                have n2 : decide ((-1 : Int) < 0) = true := by decide
                have n3 : ((0 : Int) != 0) = false := by decide
                have n4 : decide ((0 : Int) ≤ -1) = false := by decide
                clear m0 m1 m2 m3 ha hab hrR q2 x3
                go_wp2_with fail
                go_quiet (fail)
                go_wp2
                go_roundw
                case rel => exact ⟨k16 + 1, by omega, by go_num, below_drewN hb _⟩
                case measure => simp [intOf]; omega
              · have m3 := m2 ha
                obtain ⟨an, han⟩ : ∃ an : Nat, ent x.plan k15 k16 = (an : Int) := ⟨(ent x.plan k15 k16).toNat, by omega⟩
                rw [han] at r1 m3 hab
                have hal : an < s.mks[k15].rates.length := by rw [HNR.out k15 hlt15]; omega
                rw [rate_at hlt15 hal] at m3
                obtain ⟨b7, o7, he7, r2, -⟩ := ints_at hrR hal
                rw [he7] at q2
                replace r2 := ext_of_below hb _ _ r2
                have a1 : (0 : Int) ≤ (an : Int) := Int.natCast_nonneg _
                have a2 : (an : Int) < (s.mks[k15].rates.length : Int) := by omega
                generalize s.mks[k15].rates[an] = rv at *
                generalize s.mks[k15].rates.length = rl at *
                generalize ent M k15 k16 = mv at *
                have n1 : decide (mv < 0) = false := decide_eq_false (by omega)
                have n2 : decide ((an : Int) < 0) = false := decide_eq_false (by omega)
                have n4 : decide ((0 : Int) ≤ (an : Int)) = true := decide_eq_true (by omega)
                have n5 : decide (rv < mv) = false := decide_eq_false (by omega)
                clear m0 m1 m2 m3 ha hab hrR han hal he7
                go_wp2_with fail
                go_quiet (fail)
                go_wp2
                go_roundw
                case rel => exact ⟨k16 + 1, by omega, by go_num, below_drewN hb _⟩
                case measure => simp [intOf]; omega
            · have j16c : ¬ (k16 : Int) < (D : Int) := by omega
              go_wp2
              go_roundw
              case rel => exact ⟨k15 + 1, by omega, by go_num, hb⟩
              case measure => simp [intOf]; omega
        · have j15c : ¬ (k15 : Int) < (s.mks.length : Int) := by omega
          go_upto_region 33 with (fail)
          go_loopw [18] (fun i wx => ∃ k18 : Nat, k18 ≤ s.ods.length ∧ i = .int .i64 k18 ∧ Below w6.heap.size w6 wx) (fun i _ => s.ods.length - (intOf i).toNat)
          case atStart => exact ⟨0, Nat.zero_le _, rfl, hb⟩
          case round =>
            obtain ⟨k18, hk18, rfl, hb⟩ := hrel
            have x6 := ext_of_below hb _ _ HX6.out
            by_cases hlt18 : k18 < s.ods.length
            · have j18a : (0 : Int) ≤ (k18 : Int) := Int.natCast_nonneg _
              have j18b : (k18 : Int) < (s.ods.length : Int) := by omega
              obtain ⟨b1, o1, he1, q0, -⟩ := rsl_at HL.out (show k18 < L.length by rw [HLL.out]; exact hlt18)
              simp only [Nat.mul_one] at q0
              subst he1
              obtain ⟨u, hu, hu0, hu1⟩ := HLB.out k18 hlt18
              have hu2 : L[k18]'(by rw [HLL.out]; exact hlt18) = u := by
                have := (List.getElem?_eq_some_iff.1 hu).2
                exact this
              rw [hu2] at q0
              obtain ⟨b3, o3, he3, ⟨q1, q2, q3, q4⟩, -⟩ := rsl_at HS6.out.ods hlt18
              simp only at q1 q2 q3 q4
              replace q0 := ext_of_below hb _ _ q0
              replace q2 := ext_of_below hb _ _ q2
              rw [he3] at x6
              clear hu hu2 q1 q3 q4
              generalize s.ods[k18] = od at *
              have n1 : decide (u < 0) = false := decide_eq_false (by omega)
              have n2 : decide (od.qty < u) = false := decide_eq_false (by omega)
              clear hu0 hu1 he3
              go_wp2_with fail
              go_quiet (fail)
              go_wp2
              go_roundw
              case rel => exact ⟨k18 + 1, by omega, by go_num, below_drewN hb _⟩
              case measure => simp [intOf]; omega
            · have j18c : ¬ (k18 : Int) < (s.ods.length : Int) := by omega
              go_upto_region 37 with (fail)
              have HE0 := Lib.hid (HA.out.trans (hb.mono HA.out.size))
              clear x6 hb
              go_wp2_with fail
              refine (lives_any _).mono ?_
              rintro e wl ⟨rfl, hbl⟩
              have HE := Lib.hid (HE0.out.trans (hbl.mono HE0.out.size))
              clear hbl
              go_wp2
              go_ret
              exact ⟨rfl, HE.out⟩
end Go.Proofs.Ytdffhkbncencgaa
