/- The law PlanDearer: every input; no statement is proved here. -/
import Derived.Test.YtdffhkbncencgaaPlDeA
import Derived.Test.YtdffhkbncencgaaPlEx
import Derived.Test.YtdffhkbncencgaaPlGrt
import Derived.Deep.QuietTactic
import Derived.BigQuiet
import Derived.Deep.CutRange
import Derived.StillTailTactics
namespace Go.Proofs.Ytdffhkbncencgaa
open Go.RowKit Go.PlainAid
set_option linter.unusedVariables false
set_option linter.unusedSimpArgs false

theorem two_boxes (w : World) (cs : Array Value) (t : TypeId) : Blk ((w.alloc (.cells cs t)).alloc (.cells cs t)).drew w.heap.size cs t ∧ Blk ((w.alloc (.cells cs t)).alloc (.cells cs t)).drew (w.heap.size + 1) cs t ∧ Below w.heap.size w ((w.alloc (.cells cs t)).alloc (.cells cs t)).drew := by
  refine ⟨(Blk.new w cs t).alloc _, ?_, ((below_box w _).alloc (by simp) _).drew⟩
  have := Blk.new (w.alloc (.cells cs t)) cs t
  rw [World.size_alloc] at this
  exact this
theorem min_ifC (a : Int) : (if a < 1000000 then a else 1000000) = min 1000000 a := by rw [Int.min_def]; split <;> split <;> omega
theorem ord_ne : (55 : TypeId) ≠ 28 := by decide
set_option maxHeartbeats 16000000 in
set_option maxRecDepth 100000 in
theorem fDearerLaw_any (s : Sn) (d : SA) (x : Ask8) (v0 v1 v3 : Value) (w : World) (h : SnD w s d) (hx : AskC w x v0 v1 v3) :
    Calls Try.prog 6 #[.agg #[.int .i64 s.days, .slice d.a1 s.arts.length d.c1, .slice d.a2 s.ovens.length d.c2, .slice d.a3 s.mks.length d.c3, .slice d.a4 s.jobs.length d.c4, .slice d.a5 s.cols.length d.c5, .slice d.a6 s.ods.length d.c6], .agg #[v0, v1, .int .i64 x.oven, v3]] w (TrueP w) := by
  have hA : Below w.heap.size w ((w.alloc (.cells #[.int .i64 s.days, .slice d.a1 s.arts.length d.c1, .slice d.a2 s.ovens.length d.c2, .slice d.a3 s.mks.length d.c3, .slice d.a4 s.jobs.length d.c4, .slice d.a5 s.cols.length d.c5, .slice d.a6 s.ods.length d.c6] 28)).alloc (.cells #[v0, v1, .int .i64 x.oven, v3] 32)) := (below_box w _).alloc (by simp) _
  have hB := (Blk.new w #[.int .i64 s.days, .slice d.a1 s.arts.length d.c1, .slice d.a2 s.ovens.length d.c2, .slice d.a3 s.mks.length d.c3, .slice d.a4 s.jobs.length d.c4, .slice d.a5 s.cols.length d.c5, .slice d.a6 s.ods.length d.c6] 28).alloc (.cells #[v0, v1, .int .i64 x.oven, v3] 32)
  have hX := Blk.new (w.alloc (.cells #[.int .i64 s.days, .slice d.a1 s.arts.length d.c1, .slice d.a2 s.ovens.length d.c2, .slice d.a3 s.mks.length d.c3, .slice d.a4 s.jobs.length d.c4, .slice d.a5 s.cols.length d.c5, .slice d.a6 s.ods.length d.c6] 28)) #[v0, v1, .int .i64 x.oven, v3] 32
  rw [World.size_alloc] at hX
  have HS := Lib.hid (fun V (hV : Below w.heap.size w V) => h.mono (ext_of_below hV))
  have HX := Lib.hid (fun V (hV : Below w.heap.size w V) => hx.mono (ext_of_below hV))
  clear h hx
  go_enter Try.func6, Try.ntmps6
  go_wp2_with fail
  generalize (w.alloc (.cells #[.int .i64 s.days, .slice d.a1 s.arts.length d.c1, .slice d.a2 s.ovens.length d.c2, .slice d.a3 s.mks.length d.c3, .slice d.a4 s.jobs.length d.c4, .slice d.a5 s.cols.length d.c5, .slice d.a6 s.ods.length d.c6] 28)).alloc _ = W at *
  refine (Great8_any s d W (HS.out _ hA)).mono ?_
  rintro e w1 ⟨⟨b, rfl⟩, hb⟩
  replace hB := hB.below hb hB.lt
  replace hX := hX.below hb hX.lt
  replace hA := hA.trans (hb.mono hA.size)
  clear hb
  cases b with
  | true =>
    clear hB hX
    go_wp2_with fail
    refine (lives_any _).mono ?_
    rintro e wl ⟨rfl, hbl⟩
    have HE := Lib.hid (hA.trans (hbl.mono hA.size))
    clear hbl hA
    go_wp2
    go_ret
    exact ⟨rfl, HE.out⟩
  | false =>
  have x0 := hB.cell 0 _ rfl
  have x1 := hB.cell 1 _ rfl
  have x2 := hB.cell 2 _ rfl
  have x3 := hB.cell 3 _ rfl
  have x4 := hB.cell 4 _ rfl
  have x5 := hB.cell 5 _ rfl
  have x6 := hB.cell 6 _ rfl
  have y0 := hX.cell 0 _ rfl
  have y1 := hX.cell 1 _ rfl
  have y2 := hX.cell 2 _ rfl
  have y3 := hX.cell 3 _ rfl
  go_wp2_with fail
  refine (Wide_any x v0 v1 v3 _ (HX.out _ hA)).mono ?_
  rintro e w2 ⟨⟨b, rfl⟩, hb⟩
  clear x0 x1 x2 x3 x4 x5 x6 y0 y1 y2 y3
  replace hB := hB.below hb hB.lt
  replace hX := hX.below hb hX.lt
  replace hA := hA.trans (hb.mono hA.size)
  clear hb
  cases b with
  | true =>
    clear hB hX
    go_wp2_with fail
    refine (lives_any _).mono ?_
    rintro e wl ⟨rfl, hbl⟩
    have HE := Lib.hid (hA.trans (hbl.mono hA.size))
    clear hbl hA
    go_wp2
    go_ret
    exact ⟨rfl, HE.out⟩
  | false =>
  have hC := Cost_any s d x.plan v0 _ (HS.out _ hA) (HX.out _ hA).plan
  by_cases hk : keE s x.plan = 0
  case neg =>
    obtain ⟨r, hkE⟩ : ∃ r, keE s x.plan = r := ⟨_, rfl⟩
    have hr0 : (r != 0) = true := by rw [hkE] at hk; simpa using hk
    rw [hkE] at hC
    generalize costA s x.plan = n0 at *
    have x0 := hB.cell 0 _ rfl
    have x1 := hB.cell 1 _ rfl
    have x2 := hB.cell 2 _ rfl
    have x3 := hB.cell 3 _ rfl
    have x4 := hB.cell 4 _ rfl
    have x5 := hB.cell 5 _ rfl
    have x6 := hB.cell 6 _ rfl
    have y0 := hX.cell 0 _ rfl
    go_wp2_with fail
    refine hC.mono ?_
    rintro e w3 ⟨rfl, hb⟩
    clear hC
    clear x0 x1 x2 x3 x4 x5 x6 y0
    replace hB := hB.below hb hB.lt
    replace hX := hX.below hb hX.lt
    replace hA := hA.trans (hb.mono hA.size)
    clear hb
    have hP0 : lackA s x.plan = [] := by unfold lackA; rw [if_neg hk]
    have hC := Lacks_any s d x.plan v0 _ (HS.out _ hA) (HX.out _ hA).plan
    unfold LkA at hC
    rw [hkE, hP0] at hC
    clear hP0
    have x0 := hB.cell 0 _ rfl
    have x1 := hB.cell 1 _ rfl
    have x2 := hB.cell 2 _ rfl
    have x3 := hB.cell 3 _ rfl
    have x4 := hB.cell 4 _ rfl
    have x5 := hB.cell 5 _ rfl
    have x6 := hB.cell 6 _ rfl
    have y0 := hX.cell 0 _ rfl
    go_wp2_with fail
    refine hC.mono ?_
    rintro e w4 ⟨⟨v, rfl, hv⟩, hb⟩
    clear hC
    clear x0 x1 x2 x3 x4 x5 x6 y0
    replace hB := hB.below hb hB.lt
    replace hX := hX.below hb hX.lt
    replace hA := hA.trans (hb.mono hA.size)
    clear hb
    clear hv
    clear hB hX
    go_wp2_with fail
    refine (lives_any _).mono ?_
    rintro e wl ⟨rfl, hbl⟩
    have HE := Lib.hid (hA.trans (hbl.mono hA.size))
    clear hbl hA
    go_wp2
    go_ret
    exact ⟨rfl, HE.out⟩
  case pos =>
  obtain ⟨hp, -⟩ := keE_ok hk
  obtain ⟨-, ok, -⟩ := plE_ok hp
  rw [hk] at hC
  have hDC := dear_cost (chgQ_up ok x.prices) hk
  have hDP := dear_cost (chgP_up ok x.prices) hk
  have hDL := dear_lack (chgQ_up ok x.prices) hk
  have hkQ := keE_up (chgQ_up ok x.prices) hk
  have hkP := keE_up (chgP_up ok x.prices) hk
  generalize costA s x.plan = n0 at *
  have HDC := Lib.hid hDC
  have HDP := Lib.hid hDP
  have HDL := Lib.hid hDL
  have HKQ := Lib.hid hkQ
  have HKP := Lib.hid hkP
  clear hDC hDP hDL hkQ hkP hp
  have x0 := hB.cell 0 _ rfl
  have x1 := hB.cell 1 _ rfl
  have x2 := hB.cell 2 _ rfl
  have x3 := hB.cell 3 _ rfl
  have x4 := hB.cell 4 _ rfl
  have x5 := hB.cell 5 _ rfl
  have x6 := hB.cell 6 _ rfl
  have y0 := hX.cell 0 _ rfl
  go_wp2_with fail
  refine hC.mono ?_
  rintro e w3 ⟨rfl, hb⟩
  clear hC
  clear x0 x1 x2 x3 x4 x5 x6 y0
  replace hB := hB.below hb hB.lt
  replace hX := hX.below hb hX.lt
  replace hA := hA.trans (hb.mono hA.size)
  clear hb
  have hC := Lacks_any s d x.plan v0 _ (HS.out _ hA) (HX.out _ hA).plan
  unfold LkA at hC
  rw [hk] at hC
  have x0 := hB.cell 0 _ rfl
  have x1 := hB.cell 1 _ rfl
  have x2 := hB.cell 2 _ rfl
  have x3 := hB.cell 3 _ rfl
  have x4 := hB.cell 4 _ rfl
  have x5 := hB.cell 5 _ rfl
  have x6 := hB.cell 6 _ rfl
  have y0 := hX.cell 0 _ rfl
  go_wp2_with fail
  refine hC.mono ?_
  rintro e w4 ⟨⟨v, rfl, hv⟩, hb⟩
  clear hC
  clear x0 x1 x2 x3 x4 x5 x6 y0
  replace hB := hB.below hb hB.lt
  replace hX := hX.below hb hX.lt
  replace hA := hA.trans (hb.mono hA.size)
  clear hb
  replace hv := hv.mono vis_outL
  obtain ⟨al, cl, rfl⟩ := hv.shape
  rw [HDL.out.2.1] at hv ⊢
  have HL := Lib.hid hv
  have HOK := Lib.hid ok
  have hnd : s.ods.length ≤ 8 := Nat.le_trans ok.nd ok.na
  clear hv hk ok
  have HAB := Lib.hid hA
  have HB := Lib.hid hB
  have HXB := Lib.hid hX
  have x0 := hB.cell 0 _ rfl
  have x1 := hB.cell 1 _ rfl
  have x2 := hB.cell 2 _ rfl
  have x3 := hB.cell 3 _ rfl
  have x4 := hB.cell 4 _ rfl
  have x5 := hB.cell 5 _ rfl
  have x6 := hB.cell 6 _ rfl
  clear hA hB hX
  go_upto_region 7 with (fail)
  go_cut [9, 10] from 51 to 52 (fun u v wx => ∃ p q, u = .pointer (some ⟨p, 0, none⟩) ∧ v = .pointer (some ⟨q, 0, none⟩) ∧ p ≠ q ∧ w4.heap.size ≤ p ∧ w4.heap.size ≤ q ∧ Blk wx p #[.int .i64 s.days, .slice d.a1 s.arts.length d.c1, .slice d.a2 s.ovens.length d.c2, .slice d.a3 s.mks.length d.c3, .slice d.a4 s.jobs.length d.c4, .slice d.a5 s.cols.length d.c5, .slice d.a6 s.ods.length d.c6] 28 ∧ Blk wx q #[.int .i64 s.days, .slice d.a1 s.arts.length d.c1, .slice d.a2 s.ovens.length d.c2, .slice d.a3 s.mks.length d.c3, .slice d.a4 s.jobs.length d.c4, .slice d.a5 s.cols.length d.c5, .slice d.a6 s.ods.length d.c6] 28 ∧ Below w4.heap.size w4 wx)
  case first =>
    clear HDC HDP HDL HKQ HKP HL HOK
    have hlt := HB.out.lt
    go_region
    · go_wp2_with fail
      go_meet
      exact ⟨_, _, rfl, rfl, by omega, by omega, by omega, (two_boxes w4 _ _).1, (two_boxes w4 _ _).2.1, (two_boxes w4 _ _).2.2⟩
    · go_wp2_with fail
      go_meet
      exact ⟨_, _, rfl, rfl, by omega, by omega, by omega, (two_boxes w4 _ _).2.1, (two_boxes w4 _ _).1, (two_boxes w4 _ _).2.2⟩
  case rest =>
  obtain ⟨p, q, rfl, rfl, hpq, hp4, hq4, hP, hQ, hb⟩ := hcut
  have HX6 := Lib.hid x6
  clear x0 x1 x2 x3 x4 x5 x6
  have HY0 := Lib.hid (HXB.out.cell 0 _ rfl)
  obtain ⟨a3, c3, hv3⟩ := (HX.out _ HAB.out).prices.shape
  have HPR := Lib.hid (HX.out _ HAB.out).prices
  have hy3 := HXB.out.cell 3 _ rfl
  rw [hv3] at HPR
  have HY3 : Hid (w4.cell? ⟨w.heap.size + 1, 3, none⟩ = some (.slice a3 x.prices.length c3)) := Lib.hid (by rw [← hv3]; exact hy3)
  clear hy3 hv3
  have hOD := (HS.out _ (HAB.out.trans (hb.mono HAB.out.size))).ods
  have x6 := ext_of_below hb _ _ HX6.out
  have hwc := hb.size
  have HWC := Lib.hid hwc
  go_upto_region 9 with (at_builtin; refine wpList_append_ods rfl _ _ rfl d.a6 s.ods.length d.c6 s.ods rfl rfl hOD (by omega) ?_; intro a9 c9 w9 hown9 hgr9; have hP9 := hP.grown hgr9 (by simp); have z9 := hP9.cell 6 _ rfl; have f9 := hP9.frozen 6)
  clear x6 hOD z9 f9
  have hP10 : Blk (w9.setCell ⟨p, 6, none⟩ (.slice a9 s.ods.length c9)) p #[.int .i64 s.days, .slice d.a1 s.arts.length d.c1, .slice d.a2 s.ovens.length d.c2, .slice d.a3 s.mks.length d.c3, .slice d.a4 s.jobs.length d.c4, .slice d.a5 s.cols.length d.c5, .slice a9 s.ods.length c9] 28 := by simpa using hP9.set 6 (.slice a9 s.ods.length c9)
  have hQ10 := (hQ.grown hgr9 (by simp)).other ⟨p, 6, none⟩ (.slice a9 s.ods.length c9) (by simp only; omega)
  have hown10 := own_othr hown9 ⟨p, 6, none⟩ (.slice a9 s.ods.length c9) (own_neq hown9 hP9 ord_ne)
  have hb10 := (hb.grown hgr9 hwc (fun g hg => by cases hg)).setCell (p := ⟨p, 6, none⟩) hp4 (.slice a9 s.ods.length c9)
  clear hP hQ hP9 hown9 hgr9 hb hwc
  generalize w9.setCell ⟨p, 6, none⟩ (.slice a9 s.ods.length c9) = wd at *
  have hOD := (HS.out _ (HAB.out.trans (hb10.mono HAB.out.size))).ods
  have x6 := ext_of_below hb10 _ _ HX6.out
  have hwd := hb10.size
  go_upto_region 11 with (at_builtin; refine wpList_append_ods rfl _ _ rfl d.a6 s.ods.length d.c6 s.ods rfl rfl hOD (by omega) ?_; intro a8 c8 w8 hown8 hgr8; have hQ8 := hQ10.grown hgr8 (by simp); have z8 := hQ8.cell 6 _ rfl; have f8 := hQ8.frozen 6)
  clear x6 hOD z8 f8
  have hQ11 : Blk (w8.setCell ⟨q, 6, none⟩ (.slice a8 s.ods.length c8)) q #[.int .i64 s.days, .slice d.a1 s.arts.length d.c1, .slice d.a2 s.ovens.length d.c2, .slice d.a3 s.mks.length d.c3, .slice d.a4 s.jobs.length d.c4, .slice d.a5 s.cols.length d.c5, .slice a8 s.ods.length c8] 28 := by simpa using hQ8.set 6 (.slice a8 s.ods.length c8)
  have hP11 := (hP10.grown hgr8 (by simp)).other ⟨q, 6, none⟩ (.slice a8 s.ods.length c8) (by simp only; omega)
  have hownP := own_othr hown8 ⟨q, 6, none⟩ (.slice a8 s.ods.length c8) (own_neq hown8 hQ8 ord_ne)
  have hog := own_grown hown10 hgr8 (fun r hr => by cases hr)
  have hownQ := own_othr hog ⟨q, 6, none⟩ (.slice a8 s.ods.length c8) (own_neq hog hQ8 ord_ne)
  have hb11 := (hb10.grown hgr8 hwd (fun g hg => by cases hg)).setCell (p := ⟨q, 6, none⟩) hq4 (.slice a8 s.ods.length c8)
  have HLT := Lib.hid (own_lt hown10)
  have HBQ := Lib.hid hwd
  clear hP10 hQ10 hown10 hog hown8 hgr8 hb10 hQ8
  generalize w8.setCell ⟨q, 6, none⟩ (.slice a8 s.ods.length c8) = we at *
  go_loopw [11] (fun i wx => ∃ k11 : Nat, k11 ≤ s.ods.length ∧ i = .int .i64 k11 ∧ Blk wx p #[.int .i64 s.days, .slice d.a1 s.arts.length d.c1, .slice d.a2 s.ovens.length d.c2, .slice d.a3 s.mks.length d.c3, .slice d.a4 s.jobs.length d.c4, .slice d.a5 s.cols.length d.c5, .slice a9 s.ods.length c9] 28 ∧ Blk wx q #[.int .i64 s.days, .slice d.a1 s.arts.length d.c1, .slice d.a2 s.ovens.length d.c2, .slice d.a3 s.mks.length d.c3, .slice d.a4 s.jobs.length d.c4, .slice d.a5 s.cols.length d.c5, .slice a8 s.ods.length c8] 28 ∧ Hid (wx.ownsRow wc.heap.size 55 4 (.slice a9 s.ods.length c9) s.ods.length (odsL (chg odQ x.prices s.ods k11))) ∧ Hid (wx.ownsRow wd.heap.size 55 4 (.slice a8 s.ods.length c8) s.ods.length (odsL (chg odP x.prices s.ods k11))) ∧ Below w4.heap.size w4 wx) (fun i _ => s.ods.length - (intOf i).toNat)
  case atStart => exact ⟨0, Nat.zero_le _, rfl, hP11, hQ11, Lib.hid (by rw [chg_zero]; exact hownQ), Lib.hid (by rw [chg_zero]; exact hownP), hb11⟩
  case round =>
    obtain ⟨k11, hk11, rfl, hP, hQ, hoQ, hoP, hb⟩ := hrel
    clear hP11 hQ11 hownQ hownP hb11
    have x6 := ext_of_below hb _ _ HX6.out
    by_cases hlt11 : k11 < s.ods.length
    case neg =>
      obtain rfl : k11 = s.ods.length := by omega
      have hOK := HOK.out
      have hOD := (HS.out _ HAB.out)
      have hIQ : ∀ o ∈ chg odQ x.prices s.ods s.ods.length, I64 o.art ∧ I64 o.qty ∧ I64 o.due ∧ I64 o.pen := fun o ho => by
        obtain ⟨i, hi, rfl⟩ := List.getElem_of_mem ho
        have hi2 : i < s.ods.length := by rw [chg_len] at hi; exact hi
        obtain ⟨⟨e1, e2⟩, e3, e4⟩ := (chgQ_up hOK x.prices).at' i hi hi2
        have h3 := hOK.od _ (List.getElem_mem hi2)
        have := hOK.days
        have := hOK.na
        unfold I64
        omega
      have hIP : ∀ o ∈ chg odP x.prices s.ods s.ods.length, I64 o.art ∧ I64 o.qty ∧ I64 o.due ∧ I64 o.pen := fun o ho => by
        obtain ⟨i, hi, rfl⟩ := List.getElem_of_mem ho
        have hi2 : i < s.ods.length := by rw [chg_len] at hi; exact hi
        obtain ⟨⟨e1, e2⟩, e3, e4⟩ := (chgP_up hOK x.prices).at' i hi hi2
        have h3 := hOK.od _ (List.getElem_mem hi2)
        have := hOK.days
        have := hOK.na
        unfold I64
        omega
      have hlQ := chg_len odQ x.prices s.ods s.ods.length
      have hlP := chg_len odP x.prices s.ods s.ods.length
      have hRQ := own_ROds (w := wr) (v := .slice a9 s.ods.length c9) (l := chg odQ x.prices s.ods s.ods.length) (by rw [hlQ]; exact hoQ.out) (by omega) hIQ
      have hRP := own_ROds (w := wr) (v := .slice a8 s.ods.length c8) (l := chg odP x.prices s.ods s.ods.length) (by rw [hlP]; exact hoP.out) (by omega) hIP
      have HDQ : Hid (∀ V, Below wr.heap.size wr V → SnD V (withO s (chg odQ x.prices s.ods s.ods.length)) { d with a6 := a9, c6 := c9 }) := Lib.hid (fun V hV => by
        have h1 := HS.out V (HAB.out.trans ((hb.trans (hV.mono hb.size)).mono HAB.out.size))
        exact ⟨h1.arts, h1.ovens, h1.mks, h1.jobs, h1.cols, by rw [show (withO s (chg odQ x.prices s.ods s.ods.length)).ods = chg odQ x.prices s.ods s.ods.length from rfl, hlQ]; exact hRQ.mono (ext_of_below hV), h1.days⟩)
      have HDPs : Hid (∀ V, Below wr.heap.size wr V → SnD V (withO s (chg odP x.prices s.ods s.ods.length)) { d with a6 := a8, c6 := c8 }) := Lib.hid (fun V hV => by
        have h1 := HS.out V (HAB.out.trans ((hb.trans (hV.mono hb.size)).mono HAB.out.size))
        exact ⟨h1.arts, h1.ovens, h1.mks, h1.jobs, h1.cols, by rw [show (withO s (chg odP x.prices s.ods s.ods.length)).ods = chg odP x.prices s.ods s.ods.length from rfl, hlP]; exact hRP.mono (ext_of_below hV), h1.days⟩)
      have hcQ : ∀ V, Below wr.heap.size wr V → Calls Try.prog 25 #[.agg #[.int .i64 s.days, .slice d.a1 s.arts.length d.c1, .slice d.a2 s.ovens.length d.c2, .slice d.a3 s.mks.length d.c3, .slice d.a4 s.jobs.length d.c4, .slice d.a5 s.cols.length d.c5, .slice a9 s.ods.length c9], v0] V fun e w' => e = .returned (.tuple #[.int .i64 (costA (withO s (chg odQ x.prices s.ods s.ods.length)) x.plan), .int .i64 0]) ∧ Below V.heap.size V w' := fun V hV => by
        have := Cost_any _ _ x.plan v0 V (HDQ.out V hV) (HX.out _ (HAB.out.trans ((hb.trans (hV.mono hb.size)).mono HAB.out.size))).plan
        rw [HKQ.out, show (withO s (chg odQ x.prices s.ods s.ods.length)).ods.length = s.ods.length from hlQ] at this
        exact this
      have hlkQ : ∀ V, Below wr.heap.size wr V → Calls Try.prog 23 #[.agg #[.int .i64 s.days, .slice d.a1 s.arts.length d.c1, .slice d.a2 s.ovens.length d.c2, .slice d.a3 s.mks.length d.c3, .slice d.a4 s.jobs.length d.c4, .slice d.a5 s.cols.length d.c5, .slice a9 s.ods.length c9], v0] V fun e w' => (∃ v, e = .returned (.tuple #[v, .int .i64 0]) ∧ RInts (vis (V.heap.size ≤ ·) w') v (lackA (withO s (chg odQ x.prices s.ods s.ods.length)) x.plan)) ∧ Below V.heap.size V w' := fun V hV => by
        have := Lacks_any _ _ x.plan v0 V (HDQ.out V hV) (HX.out _ (HAB.out.trans ((hb.trans (hV.mono hb.size)).mono HAB.out.size))).plan
        unfold LkA at this
        rw [HKQ.out, show (withO s (chg odQ x.prices s.ods s.ods.length)).ods.length = s.ods.length from hlQ] at this
        exact this
      have hcP : ∀ V, Below wr.heap.size wr V → Calls Try.prog 25 #[.agg #[.int .i64 s.days, .slice d.a1 s.arts.length d.c1, .slice d.a2 s.ovens.length d.c2, .slice d.a3 s.mks.length d.c3, .slice d.a4 s.jobs.length d.c4, .slice d.a5 s.cols.length d.c5, .slice a8 s.ods.length c8], v0] V fun e w' => e = .returned (.tuple #[.int .i64 (costA (withO s (chg odP x.prices s.ods s.ods.length)) x.plan), .int .i64 0]) ∧ Below V.heap.size V w' := fun V hV => by
        have := Cost_any _ _ x.plan v0 V (HDPs.out V hV) (HX.out _ (HAB.out.trans ((hb.trans (hV.mono hb.size)).mono HAB.out.size))).plan
        rw [HKP.out, show (withO s (chg odP x.prices s.ods s.ods.length)).ods.length = s.ods.length from hlP] at this
        exact this
      have HCQ := Lib.hid hcQ
      have HLKQ := Lib.hid hlkQ
      have HCP := Lib.hid hcP
      have hnc := HDC.out
      have hnp := HDP.out
      clear hcQ hlkQ hcP hRQ hRP hIQ hIP HDQ HDPs hoQ hoP hOK hOD hlQ hlP HDC HDP
      generalize costA (withO s (chg odQ x.prices s.ods s.ods.length)) x.plan = m0 at *
      generalize costA (withO s (chg odP x.prices s.ods s.ods.length)) x.plan = d0 at *
      obtain ⟨w0, rfl⟩ : ∃ W, W = wr := ⟨_, rfl⟩
      have HB0 := Lib.hid hb
      have HC1 := HCQ.out _ (Below.refl _ _)
      go_upto_region 18 with (fail)
      have z0 := hP.cell 0 _ rfl
      have z1 := hP.cell 1 _ rfl
      have z2 := hP.cell 2 _ rfl
      have z3 := hP.cell 3 _ rfl
      have z4 := hP.cell 4 _ rfl
      have z5 := hP.cell 5 _ rfl
      have z6 := hP.cell 6 _ rfl
      have y0 := ext_of_below hb _ _ HY0.out
      go_wp2_with fail
      refine HC1.mono ?_
      rintro e w5 ⟨rfl, hb5⟩
      clear HC1 x6
      clear z0 z1 z2 z3 z4 z5 z6 y0
      replace hP := hP.below hb5 hP.lt
      replace hQ := hQ.below hb5 hQ.lt
      replace hb := hb.trans (hb5.mono hb.size)
      have HC2 := HLKQ.out _ hb5
      have z0 := hP.cell 0 _ rfl
      have z1 := hP.cell 1 _ rfl
      have z2 := hP.cell 2 _ rfl
      have z3 := hP.cell 3 _ rfl
      have z4 := hP.cell 4 _ rfl
      have z5 := hP.cell 5 _ rfl
      have z6 := hP.cell 6 _ rfl
      have y0 := ext_of_below hb _ _ HY0.out
      go_wp2_with fail
      refine HC2.mono ?_
      rintro e w6 ⟨⟨v, rfl, hv⟩, hb6⟩
      clear HC2
      clear z0 z1 z2 z3 z4 z5 z6 y0
      replace hv := hv.mono vis_outL
      obtain ⟨ak, ck, rfl⟩ := hv.shape
      rw [HDL.out.1] at hv ⊢
      have HK := Lib.hid hv
      clear hv
      replace hQ := hQ.below hb6 hQ.lt
      replace hb := hb.trans (hb6.mono hb.size)
      have hb56 := hb5.trans (hb6.mono hb5.size)
      have HC3 := HCP.out _ hb56
      clear hP hb5 hb56
      have z0 := hQ.cell 0 _ rfl
      have z1 := hQ.cell 1 _ rfl
      have z2 := hQ.cell 2 _ rfl
      have z3 := hQ.cell 3 _ rfl
      have z4 := hQ.cell 4 _ rfl
      have z5 := hQ.cell 5 _ rfl
      have z6 := hQ.cell 6 _ rfl
      have y0 := ext_of_below hb _ _ HY0.out
      go_wp2_with fail
      refine HC3.mono ?_
      rintro e w7 ⟨rfl, hb7⟩
      clear HC3
      clear z0 z1 z2 z3 z4 z5 z6 y0
      replace hb := hb.trans (hb7.mono hb.size)
      have HK7 := Lib.hid (HK.out.mono (ext_of_below hb7))
      have HL7 := Lib.hid (HL.out.mono (ext_of_below hb))
      clear hb6 hb7 hQ HK HL
      have n1 : ¬ m0 < n0 := by omega
      have n2 : ¬ d0 < n0 := by omega
      have n3 : decide (m0 < n0) = false := decide_eq_false n1
      have n4 : decide (d0 < n0) = false := decide_eq_false n2
      have HE7 := Lib.hid (HAB.out.trans (hb.mono HAB.out.size))
      clear hb
      go_upto_region 24 with (fail)
      go_loopw [17] (fun i wx => ∃ k17 : Nat, k17 ≤ s.ods.length ∧ i = .int .i64 k17 ∧ Below w7.heap.size w7 wx) (fun i _ => s.ods.length - (intOf i).toNat)
      case atStart => exact ⟨0, Nat.zero_le _, rfl, Below.refl _ _⟩
      case round =>
        obtain ⟨k17, hk17, rfl, hb⟩ := hrel
        by_cases hlt17 : k17 < s.ods.length
        · obtain ⟨la, lb, ea, eb, hab⟩ := HDL.out.2.2 k17 hlt17
          obtain ⟨b1, o1, e1, q1, -⟩ := ints_at HL7.out (show k17 < (lackA s x.plan).length by rw [HDL.out.2.1]; exact hlt17)
          obtain ⟨b2, o2, e2, q2, -⟩ := ints_at HK7.out (show k17 < (lackA (withO s (chg odQ x.prices s.ods s.ods.length)) x.plan).length by rw [HDL.out.1]; exact hlt17)
          rw [(List.getElem?_eq_some_iff.1 ea).2] at q1
          rw [(List.getElem?_eq_some_iff.1 eb).2] at q2
          subst e1
          subst e2
          replace q1 := ext_of_below hb _ _ q1
          replace q2 := ext_of_below hb _ _ q2
          have ja : (0 : Int) ≤ (k17 : Int) := Int.natCast_nonneg _
          have jb : (k17 : Int) < (s.ods.length : Int) := by omega
          have n5 : decide (lb < la) = false := decide_eq_false (by omega)
          clear ea eb hab
          go_wp2_with fail
          go_quiet (fail)
          go_wp2
          go_roundw
          case rel => exact ⟨k17 + 1, by omega, by go_num, below_drewN hb _⟩
          case measure => simp [intOf]; omega
        · have jc : ¬ (k17 : Int) < (s.ods.length : Int) := by omega
          have HE0 := Lib.hid (HE7.out.trans (hb.mono HE7.out.size))
          clear hb
          go_upto_region 28 with (fail)
          go_wp2_with fail
          refine (lives_any _).mono ?_
          rintro e wl ⟨rfl, hbl⟩
          have HE := Lib.hid (HE0.out.trans (hbl.mono HE0.out.size))
          clear hbl
          go_wp2
          go_ret
          exact ⟨rfl, HE.out⟩
    case pos =>
    have j11a : (0 : Int) ≤ (k11 : Int) := Int.natCast_nonneg _
    have j11b : (k11 : Int) < (s.ods.length : Int) := by omega
    have y3 := ext_of_below hb _ _ HY3.out
    have hg9 := hoQ.out
    have hg8 := hoP.out
    obtain ⟨g9, cq, e9⟩ := own_slice hg9 (by omega)
    obtain ⟨g8, cp, e8⟩ := own_slice hg8 (by omega)
    simp only [Value.slice.injEq] at e9 e8
    obtain ⟨rfl, -, rfl⟩ := e9
    obtain ⟨rfl, -, rfl⟩ := e8
    have hodk := HOK.out.od _ (List.getElem_mem hlt11)
    have hub := upI_bd x.prices k11
    have eQ : (chg odQ x.prices s.ods k11)[k11]'(by rw [chg_len]; exact hlt11) = s.ods[k11] := by rw [chg_get odQ x.prices s.ods k11 hlt11, if_neg (Nat.lt_irrefl _)]
    have eP : (chg odP x.prices s.ods k11)[k11]'(by rw [chg_len]; exact hlt11) = s.ods[k11] := by rw [chg_get odP x.prices s.ods k11 hlt11, if_neg (Nat.lt_irrefl _)]
    obtain ⟨q1, f1⟩ := own_od hg9 (i := k11) (by rw [chg_len]; exact hlt11) (chg_len _ _ _ _) (j := 1) (by omega) (u := .int .i64 s.ods[k11].qty) (y := undef) (by rw [eQ]; rfl)
    have z9 := hP.cell 6 _ rfl
    obtain ⟨qv, hqv⟩ : ∃ v, (s.ods[k11]).qty = v := ⟨_, rfl⟩
    obtain ⟨pv, hpv⟩ : ∃ v, (s.ods[k11]).pen = v := ⟨_, rfl⟩
    rw [hqv] at q1 hodk
    rw [hpv] at hodk
    have hyQ := chg_step odQ x.prices s.ods hlt11
    have hyP := chg_step odP x.prices s.ods hlt11
    have hsQ := hyQ
    have hsP := hyP
    have hn9p : (Value.slice (some ⟨g9, 0, none⟩) s.ods.length c9).ownBlock ≠ some p := own_neq hg9 hP ord_ne
    have hn9q : (Value.slice (some ⟨g9, 0, none⟩) s.ods.length c9).ownBlock ≠ some q := own_neq hg9 hQ ord_ne
    have hn8p : (Value.slice (some ⟨g8, 0, none⟩) s.ods.length c8).ownBlock ≠ some p := own_neq hg8 hP ord_ne
    have hn8q : (Value.slice (some ⟨g8, 0, none⟩) s.ods.length c8).ownBlock ≠ some q := own_neq hg8 hQ ord_ne
    have hl9 := HLT.out g9 rfl
    have hl8 := (hg8.lt g8 rfl).1
    have hn89 : (Value.slice (some ⟨g8, 0, none⟩) s.ods.length c8).ownBlock ≠ some g9 := fun e => by have := Option.some.inj (show some g8 = some g9 from e); omega
    have hn98 : (Value.slice (some ⟨g9, 0, none⟩) s.ods.length c9).ownBlock ≠ some g8 := fun e => by have := Option.some.inj (show some g9 = some g8 from e); omega
    have hw9 : w4.heap.size ≤ g9 := Nat.le_trans HWC.out (hg9.lt g9 rfl).1
    have hw8 : w4.heap.size ≤ g8 := Nat.le_trans HBQ.out hl8
    by_cases hkp : k11 < x.prices.length
    case neg =>
      have hU : upI x.prices k11 = 1 := by unfold upI; rw [List.getElem?_eq_none (by omega)]
      have jc : ¬ (k11 : Int) < (x.prices.length : Int) := by omega
      have zq := wrap_id (qv + 1) (by unfold I64; omega)
      have zp := wrap_id (pv + 1) (by unfold I64; omega)
      try rw [hU] at hyQ hyP hsQ hsP
      have hyQ2 : odL (odQ s.ods[k11] 1) = (odL ((chg odQ x.prices s.ods k11)[k11]'(by rw [chg_len]; exact hlt11))).set 1 (.int .i64 (if qv + 1 < 1000000 then qv + 1 else 1000000)) := by rw [eQ, min_ifC, ← hqv]; rfl
      have hyP2 : odL (odP s.ods[k11] 1) = (odL ((chg odP x.prices s.ods k11)[k11]'(by rw [chg_len]; exact hlt11))).set 3 (.int .i64 (if pv + 1 < 1000000 then pv + 1 else 1000000)) := by rw [eP, min_ifC, ← hpv]; rfl
      have hP1 : Blk ((wr.setCell ⟨g9, k11 * 4 + 1, none⟩ (.int .i64 (if qv + 1 < 1000000 then qv + 1 else 1000000))).drew) p #[.int .i64 s.days, .slice d.a1 s.arts.length d.c1, .slice d.a2 s.ovens.length d.c2, .slice d.a3 s.mks.length d.c3, .slice d.a4 s.jobs.length d.c4, .slice d.a5 s.cols.length d.c5, .slice (some ⟨g9, 0, none⟩) s.ods.length c9] 28 := hP.other ⟨g9, k11 * 4 + 1, none⟩ (.int .i64 (if qv + 1 < 1000000 then qv + 1 else 1000000)) (fun e => hn9p (by rw [← e]; rfl))
      have hQ1 : Blk ((wr.setCell ⟨g9, k11 * 4 + 1, none⟩ (.int .i64 (if qv + 1 < 1000000 then qv + 1 else 1000000))).drew) q #[.int .i64 s.days, .slice d.a1 s.arts.length d.c1, .slice d.a2 s.ovens.length d.c2, .slice d.a3 s.mks.length d.c3, .slice d.a4 s.jobs.length d.c4, .slice d.a5 s.cols.length d.c5, .slice (some ⟨g8, 0, none⟩) s.ods.length c8] 28 := hQ.other ⟨g9, k11 * 4 + 1, none⟩ (.int .i64 (if qv + 1 < 1000000 then qv + 1 else 1000000)) (fun e => hn9q (by rw [← e]; rfl))
      have hoQ1 : ((wr.setCell ⟨g9, k11 * 4 + 1, none⟩ (.int .i64 (if qv + 1 < 1000000 then qv + 1 else 1000000))).drew).ownsRow wc.heap.size 55 4 (.slice (some ⟨g9, 0, none⟩) s.ods.length c9) s.ods.length (odsL (chg odQ x.prices s.ods (k11 + 1))) := by
        have := own_od_set hg9 (i := k11) (by rw [chg_len]; exact hlt11) (j := 1) (by omega) hyQ2
        rw [hsQ] at this
        exact this
      have hoP1 : ((wr.setCell ⟨g9, k11 * 4 + 1, none⟩ (.int .i64 (if qv + 1 < 1000000 then qv + 1 else 1000000))).drew).ownsRow wd.heap.size 55 4 (.slice (some ⟨g8, 0, none⟩) s.ods.length c8) s.ods.length (odsL (chg odP x.prices s.ods k11)) := own_othr hg8 ⟨g9, k11 * 4 + 1, none⟩ (.int .i64 (if qv + 1 < 1000000 then qv + 1 else 1000000)) hn89
      have hb1 : Below w4.heap.size w4 ((wr.setCell ⟨g9, k11 * 4 + 1, none⟩ (.int .i64 (if qv + 1 < 1000000 then qv + 1 else 1000000))).drew) := (hb.setCell (p := ⟨g9, k11 * 4 + 1, none⟩) hw9 (.int .i64 (if qv + 1 < 1000000 then qv + 1 else 1000000))).drew
      go_upto_region 16 with (fail)
      go_still_tail 14, (by kernel_rfl)
      go_upto_region 17 with (fail)
      clear hP hQ hoQ hoP hb hg9 hg8 q1 f1 z9 x6 y3
      generalize (wr.setCell ⟨g9, k11 * 4 + 1, none⟩ (.int .i64 (if qv + 1 < 1000000 then qv + 1 else 1000000))).drew = wx at *
      obtain ⟨q2, f2⟩ := own_od hoP1 (i := k11) (by rw [chg_len]; exact hlt11) (chg_len _ _ _ _) (j := 3) (by omega) (u := .int .i64 pv) (y := undef) (by rw [eP, ← hpv]; rfl)
      have z8 := hQ1.cell 6 _ rfl
      have hP2 : Blk ((wx.setCell ⟨g8, k11 * 4 + 3, none⟩ (.int .i64 (if pv + 1 < 1000000 then pv + 1 else 1000000))).drew) p #[.int .i64 s.days, .slice d.a1 s.arts.length d.c1, .slice d.a2 s.ovens.length d.c2, .slice d.a3 s.mks.length d.c3, .slice d.a4 s.jobs.length d.c4, .slice d.a5 s.cols.length d.c5, .slice (some ⟨g9, 0, none⟩) s.ods.length c9] 28 := hP1.other ⟨g8, k11 * 4 + 3, none⟩ (.int .i64 (if pv + 1 < 1000000 then pv + 1 else 1000000)) (fun e => hn8p (by rw [← e]; rfl))
      have hQ2 : Blk ((wx.setCell ⟨g8, k11 * 4 + 3, none⟩ (.int .i64 (if pv + 1 < 1000000 then pv + 1 else 1000000))).drew) q #[.int .i64 s.days, .slice d.a1 s.arts.length d.c1, .slice d.a2 s.ovens.length d.c2, .slice d.a3 s.mks.length d.c3, .slice d.a4 s.jobs.length d.c4, .slice d.a5 s.cols.length d.c5, .slice (some ⟨g8, 0, none⟩) s.ods.length c8] 28 := hQ1.other ⟨g8, k11 * 4 + 3, none⟩ (.int .i64 (if pv + 1 < 1000000 then pv + 1 else 1000000)) (fun e => hn8q (by rw [← e]; rfl))
      have hoP2 : ((wx.setCell ⟨g8, k11 * 4 + 3, none⟩ (.int .i64 (if pv + 1 < 1000000 then pv + 1 else 1000000))).drew).ownsRow wd.heap.size 55 4 (.slice (some ⟨g8, 0, none⟩) s.ods.length c8) s.ods.length (odsL (chg odP x.prices s.ods (k11 + 1))) := by
        have := own_od_set hoP1 (i := k11) (by rw [chg_len]; exact hlt11) (j := 3) (by omega) hyP2
        rw [hsP] at this
        exact this
      have hoQ2 : ((wx.setCell ⟨g8, k11 * 4 + 3, none⟩ (.int .i64 (if pv + 1 < 1000000 then pv + 1 else 1000000))).drew).ownsRow wc.heap.size 55 4 (.slice (some ⟨g9, 0, none⟩) s.ods.length c9) s.ods.length (odsL (chg odQ x.prices s.ods (k11 + 1))) := own_othr hoQ1 ⟨g8, k11 * 4 + 3, none⟩ (.int .i64 (if pv + 1 < 1000000 then pv + 1 else 1000000)) hn98
      have hb2 : Below w4.heap.size w4 ((wx.setCell ⟨g8, k11 * 4 + 3, none⟩ (.int .i64 (if pv + 1 < 1000000 then pv + 1 else 1000000))).drew) := (hb1.setCell (p := ⟨g8, k11 * 4 + 3, none⟩) hw8 (.int .i64 (if pv + 1 < 1000000 then pv + 1 else 1000000))).drew
      have HREL := Lib.hid (And.intro hP2 (And.intro hQ2 (And.intro hoQ2 (And.intro hoP2 hb2))))
      clear hP1 hQ1 hoQ1 hoP1 hb1 hP2 hQ2 hoP2 hoQ2 hb2 hyQ2 hyP2 eQ eP hyQ hyP hsQ hsP hn9p hn9q hn8p hn8q hn89 hn98 hodk hub
      go_still_tail 14, (by kernel_rfl)
      go_wp2
      go_roundw
      case rel => exact ⟨k11 + 1, by omega, by go_num, HREL.out.1, HREL.out.2.1, Lib.hid HREL.out.2.2.1, Lib.hid HREL.out.2.2.2.1, HREL.out.2.2.2.2⟩
      case measure => simp [intOf]; omega
    case pos =>
      obtain ⟨b5, o5, e5, y5, -⟩ := ints_at HPR.out hkp
      subst e5
      replace y5 := ext_of_below hb _ _ y5
      have hU0 : upI x.prices k11 = max 0 ((x.prices[k11]).tmod 1000) := by unfold upI; rw [List.getElem?_eq_getElem hkp]
      have ja : (0 : Int) ≤ (k11 : Int) := Int.natCast_nonneg _
      have jb : (k11 : Int) < (x.prices.length : Int) := by omega
      go_upto_region 16 with (fail)
      clear y5
      rw [show (if 0 < (x.prices[k11]).tmod 1000 then (x.prices[k11]).tmod 1000 else 0) = upI x.prices k11 by rw [hU0, Int.max_def]; split <;> split <;> omega]
      clear hU0
      generalize hU : upI x.prices k11 = t at *
      have zq := wrap_id (qv + t) (by unfold I64; omega)
      have zp := wrap_id (pv + t) (by unfold I64; omega)
      try rw [hU] at hyQ hyP hsQ hsP
      have hyQ2 : odL (odQ s.ods[k11] t) = (odL ((chg odQ x.prices s.ods k11)[k11]'(by rw [chg_len]; exact hlt11))).set 1 (.int .i64 (if qv + t < 1000000 then qv + t else 1000000)) := by rw [eQ, min_ifC, ← hqv]; rfl
      have hyP2 : odL (odP s.ods[k11] t) = (odL ((chg odP x.prices s.ods k11)[k11]'(by rw [chg_len]; exact hlt11))).set 3 (.int .i64 (if pv + t < 1000000 then pv + t else 1000000)) := by rw [eP, min_ifC, ← hpv]; rfl
      have hP1 : Blk ((wr.setCell ⟨g9, k11 * 4 + 1, none⟩ (.int .i64 (if qv + t < 1000000 then qv + t else 1000000))).drew) p #[.int .i64 s.days, .slice d.a1 s.arts.length d.c1, .slice d.a2 s.ovens.length d.c2, .slice d.a3 s.mks.length d.c3, .slice d.a4 s.jobs.length d.c4, .slice d.a5 s.cols.length d.c5, .slice (some ⟨g9, 0, none⟩) s.ods.length c9] 28 := hP.other ⟨g9, k11 * 4 + 1, none⟩ (.int .i64 (if qv + t < 1000000 then qv + t else 1000000)) (fun e => hn9p (by rw [← e]; rfl))
      have hQ1 : Blk ((wr.setCell ⟨g9, k11 * 4 + 1, none⟩ (.int .i64 (if qv + t < 1000000 then qv + t else 1000000))).drew) q #[.int .i64 s.days, .slice d.a1 s.arts.length d.c1, .slice d.a2 s.ovens.length d.c2, .slice d.a3 s.mks.length d.c3, .slice d.a4 s.jobs.length d.c4, .slice d.a5 s.cols.length d.c5, .slice (some ⟨g8, 0, none⟩) s.ods.length c8] 28 := hQ.other ⟨g9, k11 * 4 + 1, none⟩ (.int .i64 (if qv + t < 1000000 then qv + t else 1000000)) (fun e => hn9q (by rw [← e]; rfl))
      have hoQ1 : ((wr.setCell ⟨g9, k11 * 4 + 1, none⟩ (.int .i64 (if qv + t < 1000000 then qv + t else 1000000))).drew).ownsRow wc.heap.size 55 4 (.slice (some ⟨g9, 0, none⟩) s.ods.length c9) s.ods.length (odsL (chg odQ x.prices s.ods (k11 + 1))) := by
        have := own_od_set hg9 (i := k11) (by rw [chg_len]; exact hlt11) (j := 1) (by omega) hyQ2
        rw [hsQ] at this
        exact this
      have hoP1 : ((wr.setCell ⟨g9, k11 * 4 + 1, none⟩ (.int .i64 (if qv + t < 1000000 then qv + t else 1000000))).drew).ownsRow wd.heap.size 55 4 (.slice (some ⟨g8, 0, none⟩) s.ods.length c8) s.ods.length (odsL (chg odP x.prices s.ods k11)) := own_othr hg8 ⟨g9, k11 * 4 + 1, none⟩ (.int .i64 (if qv + t < 1000000 then qv + t else 1000000)) hn89
      have hb1 : Below w4.heap.size w4 ((wr.setCell ⟨g9, k11 * 4 + 1, none⟩ (.int .i64 (if qv + t < 1000000 then qv + t else 1000000))).drew) := (hb.setCell (p := ⟨g9, k11 * 4 + 1, none⟩) hw9 (.int .i64 (if qv + t < 1000000 then qv + t else 1000000))).drew
      go_upto_region 16 with (fail)
      go_still_tail 14, (by kernel_rfl)
      go_upto_region 17 with (fail)
      clear hP hQ hoQ hoP hb hg9 hg8 q1 f1 z9 x6 y3
      generalize (wr.setCell ⟨g9, k11 * 4 + 1, none⟩ (.int .i64 (if qv + t < 1000000 then qv + t else 1000000))).drew = wx at *
      obtain ⟨q2, f2⟩ := own_od hoP1 (i := k11) (by rw [chg_len]; exact hlt11) (chg_len _ _ _ _) (j := 3) (by omega) (u := .int .i64 pv) (y := undef) (by rw [eP, ← hpv]; rfl)
      have z8 := hQ1.cell 6 _ rfl
      have hP2 : Blk ((wx.setCell ⟨g8, k11 * 4 + 3, none⟩ (.int .i64 (if pv + t < 1000000 then pv + t else 1000000))).drew) p #[.int .i64 s.days, .slice d.a1 s.arts.length d.c1, .slice d.a2 s.ovens.length d.c2, .slice d.a3 s.mks.length d.c3, .slice d.a4 s.jobs.length d.c4, .slice d.a5 s.cols.length d.c5, .slice (some ⟨g9, 0, none⟩) s.ods.length c9] 28 := hP1.other ⟨g8, k11 * 4 + 3, none⟩ (.int .i64 (if pv + t < 1000000 then pv + t else 1000000)) (fun e => hn8p (by rw [← e]; rfl))
      have hQ2 : Blk ((wx.setCell ⟨g8, k11 * 4 + 3, none⟩ (.int .i64 (if pv + t < 1000000 then pv + t else 1000000))).drew) q #[.int .i64 s.days, .slice d.a1 s.arts.length d.c1, .slice d.a2 s.ovens.length d.c2, .slice d.a3 s.mks.length d.c3, .slice d.a4 s.jobs.length d.c4, .slice d.a5 s.cols.length d.c5, .slice (some ⟨g8, 0, none⟩) s.ods.length c8] 28 := hQ1.other ⟨g8, k11 * 4 + 3, none⟩ (.int .i64 (if pv + t < 1000000 then pv + t else 1000000)) (fun e => hn8q (by rw [← e]; rfl))
      have hoP2 : ((wx.setCell ⟨g8, k11 * 4 + 3, none⟩ (.int .i64 (if pv + t < 1000000 then pv + t else 1000000))).drew).ownsRow wd.heap.size 55 4 (.slice (some ⟨g8, 0, none⟩) s.ods.length c8) s.ods.length (odsL (chg odP x.prices s.ods (k11 + 1))) := by
        have := own_od_set hoP1 (i := k11) (by rw [chg_len]; exact hlt11) (j := 3) (by omega) hyP2
        rw [hsP] at this
        exact this
      have hoQ2 : ((wx.setCell ⟨g8, k11 * 4 + 3, none⟩ (.int .i64 (if pv + t < 1000000 then pv + t else 1000000))).drew).ownsRow wc.heap.size 55 4 (.slice (some ⟨g9, 0, none⟩) s.ods.length c9) s.ods.length (odsL (chg odQ x.prices s.ods (k11 + 1))) := own_othr hoQ1 ⟨g8, k11 * 4 + 3, none⟩ (.int .i64 (if pv + t < 1000000 then pv + t else 1000000)) hn98
      have hb2 : Below w4.heap.size w4 ((wx.setCell ⟨g8, k11 * 4 + 3, none⟩ (.int .i64 (if pv + t < 1000000 then pv + t else 1000000))).drew) := (hb1.setCell (p := ⟨g8, k11 * 4 + 3, none⟩) hw8 (.int .i64 (if pv + t < 1000000 then pv + t else 1000000))).drew
      have HREL := Lib.hid (And.intro hP2 (And.intro hQ2 (And.intro hoQ2 (And.intro hoP2 hb2))))
      clear hP1 hQ1 hoQ1 hoP1 hb1 hP2 hQ2 hoP2 hoQ2 hb2 hyQ2 hyP2 eQ eP hyQ hyP hsQ hsP hn9p hn9q hn8p hn8q hn89 hn98 hodk hub
      go_still_tail 14, (by kernel_rfl)
      go_wp2
      go_roundw
      case rel => exact ⟨k11 + 1, by omega, by go_num, HREL.out.1, HREL.out.2.1, Lib.hid HREL.out.2.2.1, Lib.hid HREL.out.2.2.2.1, HREL.out.2.2.2.2⟩
      case measure => simp [intOf]; omega
end Go.Proofs.Ytdffhkbncencgaa
