/- The law PlanResults: every input; no statement is proved here. -/
import Derived.Test.YtdffhkbncencgaaPlRe
import Derived.Test.YtdffhkbncencgaaPlChk
import Derived.Test.YtdffhkbncencgaaPlEx
import Derived.Test.YtdffhkbncencgaaPlGrt
import Derived.Deep.QuietTactic
import Derived.BigQuiet
namespace Go.Proofs.Ytdffhkbncencgaa
open Go.RowKit Go.PlainAid
set_option linter.unusedVariables false
set_option linter.unusedSimpArgs false

set_option maxHeartbeats 16000000 in
set_option maxRecDepth 100000 in
theorem fResultsLaw_any (s : Sn) (d : SA) (x : Ask8) (v0 v1 v3 : Value) (w : World) (h : SnD w s d) (hx : AskC w x v0 v1 v3) :
    Calls Try.prog 4 #[.agg #[.int .i64 s.days, .slice d.a1 s.arts.length d.c1, .slice d.a2 s.ovens.length d.c2, .slice d.a3 s.mks.length d.c3, .slice d.a4 s.jobs.length d.c4, .slice d.a5 s.cols.length d.c5, .slice d.a6 s.ods.length d.c6], .agg #[v0, v1, .int .i64 x.oven, v3]] w (TrueP w) := by
  have hA : Below w.heap.size w ((w.alloc (.cells #[.int .i64 s.days, .slice d.a1 s.arts.length d.c1, .slice d.a2 s.ovens.length d.c2, .slice d.a3 s.mks.length d.c3, .slice d.a4 s.jobs.length d.c4, .slice d.a5 s.cols.length d.c5, .slice d.a6 s.ods.length d.c6] 28)).alloc (.cells #[v0, v1, .int .i64 x.oven, v3] 32)) := (below_box w _).alloc (by simp) _
  have hB := (Blk.new w #[.int .i64 s.days, .slice d.a1 s.arts.length d.c1, .slice d.a2 s.ovens.length d.c2, .slice d.a3 s.mks.length d.c3, .slice d.a4 s.jobs.length d.c4, .slice d.a5 s.cols.length d.c5, .slice d.a6 s.ods.length d.c6] 28).alloc (.cells #[v0, v1, .int .i64 x.oven, v3] 32)
  have hX := Blk.new (w.alloc (.cells #[.int .i64 s.days, .slice d.a1 s.arts.length d.c1, .slice d.a2 s.ovens.length d.c2, .slice d.a3 s.mks.length d.c3, .slice d.a4 s.jobs.length d.c4, .slice d.a5 s.cols.length d.c5, .slice d.a6 s.ods.length d.c6] 28)) #[v0, v1, .int .i64 x.oven, v3] 32
  rw [World.size_alloc] at hX
  have HS := Lib.hid (fun V (hV : Below w.heap.size w V) => h.mono (ext_of_below hV))
  have HX := Lib.hid (fun V (hV : Below w.heap.size w V) => hx.mono (ext_of_below hV))
  clear h hx
  go_enter Try.func4, Try.ntmps4
  go_wp2_with fail
  generalize (w.alloc (.cells #[.int .i64 s.days, .slice d.a1 s.arts.length d.c1, .slice d.a2 s.ovens.length d.c2, .slice d.a3 s.mks.length d.c3, .slice d.a4 s.jobs.length d.c4, .slice d.a5 s.cols.length d.c5, .slice d.a6 s.ods.length d.c6] 28)).alloc _ = W at *
  refine (Great8_any s d W (HS.out _ hA)).mono ?_
  rintro e w1 ⟨⟨b, rfl⟩, hb⟩
  replace hB := hB.below hb hB.lt
  replace hX := hX.below hb hX.lt
  replace hA := hA.trans (hb.mono hA.size)
  clear hb
  cases b with
  | true =>
    clear hB hX
    go_wp2_with fail
    refine (lives_any _).mono ?_
    rintro e wl ⟨rfl, hbl⟩
    have HE := Lib.hid (hA.trans (hbl.mono hA.size))
    clear hbl hA
    go_wp2
    go_ret
    exact ⟨rfl, HE.out⟩
  | false =>
  have x0 := hB.cell 0 _ rfl
  have x1 := hB.cell 1 _ rfl
  have x2 := hB.cell 2 _ rfl
  have x3 := hB.cell 3 _ rfl
  have x4 := hB.cell 4 _ rfl
  have x5 := hB.cell 5 _ rfl
  have x6 := hB.cell 6 _ rfl
  have y0 := hX.cell 0 _ rfl
  have y1 := hX.cell 1 _ rfl
  have y2 := hX.cell 2 _ rfl
  have y3 := hX.cell 3 _ rfl
  go_wp2_with fail
  refine (Wide_any x v0 v1 v3 _ (HX.out _ hA)).mono ?_
  rintro e w2 ⟨⟨b, rfl⟩, hb⟩
  clear x0 x1 x2 x3 x4 x5 x6 y0 y1 y2 y3
  replace hB := hB.below hb hB.lt
  replace hX := hX.below hb hX.lt
  replace hA := hA.trans (hb.mono hA.size)
  clear hb
  cases b with
  | true =>
    clear hB hX
    go_wp2_with fail
    refine (lives_any _).mono ?_
    rintro e wl ⟨rfl, hbl⟩
    have HE := Lib.hid (hA.trans (hbl.mono hA.size))
    clear hbl hA
    go_wp2
    go_ret
    exact ⟨rfl, HE.out⟩
  | false =>
  obtain ⟨E, hE⟩ : ∃ r, keE s x.plan = r := ⟨_, rfl⟩
  obtain ⟨PT, hP⟩ : ∃ r, pulA s x.plan = r := ⟨_, rfl⟩
  obtain ⟨MT, hM⟩ : ∃ r, madA s x.plan = r := ⟨_, rfl⟩
  obtain ⟨LT, hL⟩ : ∃ r, lackA s x.plan = r := ⟨_, rfl⟩
  obtain ⟨CT, hC0⟩ : ∃ r, costA s x.plan = r := ⟨_, rfl⟩
  have HE := Lib.hid hE
  have HP := Lib.hid hP
  have HM := Lib.hid hM
  have HL := Lib.hid hL
  have HC := Lib.hid hC0
  clear hE hP hM hL hC0
  have q0 : (E != E) = false := by simp
  have q1 : (E == E) = true := beq_self_eq_true E
  have q2 : (CT == CT) = true := beq_self_eq_true CT
  have hC := Pulls_any s d x.plan v0 _ (HS.out _ hA) (HX.out _ hA).plan
  unfold PuA at hC
  rw [HE.out, HP.out] at hC
  have x0 := hB.cell 0 _ rfl
  have x1 := hB.cell 1 _ rfl
  have x2 := hB.cell 2 _ rfl
  have x3 := hB.cell 3 _ rfl
  have x4 := hB.cell 4 _ rfl
  have x5 := hB.cell 5 _ rfl
  have x6 := hB.cell 6 _ rfl
  have y0 := hX.cell 0 _ rfl
  go_wp2_with fail
  refine hC.mono ?_
  rintro e wu ⟨⟨vp, rfl, hv⟩, hb⟩
  have HVp := Lib.hid (hv.mono vis_out)
  clear hC hv
  clear x0 x1 x2 x3 x4 x5 x6 y0
  replace hB := hB.below hb hB.lt
  replace hX := hX.below hb hX.lt
  replace hA := hA.trans (hb.mono hA.size)
  clear hb
  have hC := rPulls_any s d x.plan v0 _ (HS.out _ hA) (HX.out _ hA).plan
  unfold PuA at hC
  rw [HE.out, HP.out] at hC
  have x0 := hB.cell 0 _ rfl
  have x1 := hB.cell 1 _ rfl
  have x2 := hB.cell 2 _ rfl
  have x3 := hB.cell 3 _ rfl
  have x4 := hB.cell 4 _ rfl
  have x5 := hB.cell 5 _ rfl
  have x6 := hB.cell 6 _ rfl
  have y0 := hX.cell 0 _ rfl
  go_wp2_with fail
  refine hC.mono ?_
  rintro e wu ⟨⟨vq, rfl, hv⟩, hb⟩
  replace HVp := Lib.hid (HVp.out.mono (ext_of_below hb))
  have HVq := Lib.hid (hv.mono vis_out)
  clear hC hv
  clear x0 x1 x2 x3 x4 x5 x6 y0
  replace hB := hB.below hb hB.lt
  replace hX := hX.below hb hX.lt
  replace hA := hA.trans (hb.mono hA.size)
  clear hb
  go_wp2_with fail
  refine (sameLists_any _ _ _ _ _ HVp.out HVq.out).mono ?_
  rintro e wz ⟨rfl, n, rfl⟩
  rw [decide_eq_true rfl]
  have hb : Below wu.heap.size wu (wu.drewN n) := below_drewN (Below.refl _ _) n
  replace hB := hB.below hb hB.lt
  replace hX := hX.below hb hX.lt
  replace hA := hA.trans (hb.mono hA.size)
  clear hb
  generalize wu.drewN n = wu at *
  clear HVp HVq
  have hC := Made_any s d x.plan v0 _ (HS.out _ hA) (HX.out _ hA).plan
  unfold MaA at hC
  rw [HE.out, HM.out] at hC
  have x0 := hB.cell 0 _ rfl
  have x1 := hB.cell 1 _ rfl
  have x2 := hB.cell 2 _ rfl
  have x3 := hB.cell 3 _ rfl
  have x4 := hB.cell 4 _ rfl
  have x5 := hB.cell 5 _ rfl
  have x6 := hB.cell 6 _ rfl
  have y0 := hX.cell 0 _ rfl
  go_wp2_with fail
  refine hC.mono ?_
  rintro e wu ⟨⟨vp, rfl, hv⟩, hb⟩
  have HVp := Lib.hid (hv.mono vis_out)
  clear hC hv
  clear x0 x1 x2 x3 x4 x5 x6 y0
  replace hB := hB.below hb hB.lt
  replace hX := hX.below hb hX.lt
  replace hA := hA.trans (hb.mono hA.size)
  clear hb
  have hC := rMade_any s d x.plan v0 _ (HS.out _ hA) (HX.out _ hA).plan
  unfold MaA at hC
  rw [HE.out, HM.out] at hC
  have x0 := hB.cell 0 _ rfl
  have x1 := hB.cell 1 _ rfl
  have x2 := hB.cell 2 _ rfl
  have x3 := hB.cell 3 _ rfl
  have x4 := hB.cell 4 _ rfl
  have x5 := hB.cell 5 _ rfl
  have x6 := hB.cell 6 _ rfl
  have y0 := hX.cell 0 _ rfl
  go_wp2_with fail
  refine hC.mono ?_
  rintro e wu ⟨⟨vq, rfl, hv⟩, hb⟩
  replace HVp := Lib.hid (HVp.out.mono (ext_of_below hb))
  have HVq := Lib.hid (hv.mono vis_out)
  clear hC hv
  clear x0 x1 x2 x3 x4 x5 x6 y0
  replace hB := hB.below hb hB.lt
  replace hX := hX.below hb hX.lt
  replace hA := hA.trans (hb.mono hA.size)
  clear hb
  go_wp2_with fail
  refine (sameLists_any _ _ _ _ _ HVp.out HVq.out).mono ?_
  rintro e wz ⟨rfl, n, rfl⟩
  rw [decide_eq_true rfl]
  have hb : Below wu.heap.size wu (wu.drewN n) := below_drewN (Below.refl _ _) n
  replace hB := hB.below hb hB.lt
  replace hX := hX.below hb hX.lt
  replace hA := hA.trans (hb.mono hA.size)
  clear hb
  generalize wu.drewN n = wu at *
  clear HVp HVq
  have hC := Lacks_any s d x.plan v0 _ (HS.out _ hA) (HX.out _ hA).plan
  unfold LkA at hC
  rw [HE.out, HL.out] at hC
  have x0 := hB.cell 0 _ rfl
  have x1 := hB.cell 1 _ rfl
  have x2 := hB.cell 2 _ rfl
  have x3 := hB.cell 3 _ rfl
  have x4 := hB.cell 4 _ rfl
  have x5 := hB.cell 5 _ rfl
  have x6 := hB.cell 6 _ rfl
  have y0 := hX.cell 0 _ rfl
  go_wp2_with fail
  refine hC.mono ?_
  rintro e wu ⟨⟨vp, rfl, hv⟩, hb⟩
  have HVp := Lib.hid (hv.mono vis_out)
  clear hC hv
  clear x0 x1 x2 x3 x4 x5 x6 y0
  replace hB := hB.below hb hB.lt
  replace hX := hX.below hb hX.lt
  replace hA := hA.trans (hb.mono hA.size)
  clear hb
  have hC := rLacks_any s d x.plan v0 _ (HS.out _ hA) (HX.out _ hA).plan
  unfold LkA at hC
  rw [HE.out, HL.out] at hC
  have x0 := hB.cell 0 _ rfl
  have x1 := hB.cell 1 _ rfl
  have x2 := hB.cell 2 _ rfl
  have x3 := hB.cell 3 _ rfl
  have x4 := hB.cell 4 _ rfl
  have x5 := hB.cell 5 _ rfl
  have x6 := hB.cell 6 _ rfl
  have y0 := hX.cell 0 _ rfl
  go_wp2_with fail
  refine hC.mono ?_
  rintro e wu ⟨⟨vq, rfl, hv⟩, hb⟩
  replace HVp := Lib.hid (HVp.out.mono (ext_of_below hb))
  have HVq := Lib.hid (hv.mono vis_out)
  clear hC hv
  clear x0 x1 x2 x3 x4 x5 x6 y0
  replace hB := hB.below hb hB.lt
  replace hX := hX.below hb hX.lt
  replace hA := hA.trans (hb.mono hA.size)
  clear hb
  have hC := Cost_any s d x.plan v0 _ (HS.out _ hA) (HX.out _ hA).plan
  rw [HE.out, HC.out] at hC
  have x0 := hB.cell 0 _ rfl
  have x1 := hB.cell 1 _ rfl
  have x2 := hB.cell 2 _ rfl
  have x3 := hB.cell 3 _ rfl
  have x4 := hB.cell 4 _ rfl
  have x5 := hB.cell 5 _ rfl
  have x6 := hB.cell 6 _ rfl
  have y0 := hX.cell 0 _ rfl
  go_wp2_with fail
  refine hC.mono ?_
  rintro e wu ⟨rfl, hb⟩
  replace HVp := Lib.hid (HVp.out.mono (ext_of_below hb))
  replace HVq := Lib.hid (HVq.out.mono (ext_of_below hb))
  clear hC
  clear x0 x1 x2 x3 x4 x5 x6 y0
  replace hB := hB.below hb hB.lt
  replace hX := hX.below hb hX.lt
  replace hA := hA.trans (hb.mono hA.size)
  clear hb
  have hC := rCost_any s d x.plan v0 _ (HS.out _ hA) (HX.out _ hA).plan
  rw [HE.out, HC.out] at hC
  have x0 := hB.cell 0 _ rfl
  have x1 := hB.cell 1 _ rfl
  have x2 := hB.cell 2 _ rfl
  have x3 := hB.cell 3 _ rfl
  have x4 := hB.cell 4 _ rfl
  have x5 := hB.cell 5 _ rfl
  have x6 := hB.cell 6 _ rfl
  have y0 := hX.cell 0 _ rfl
  go_wp2_with fail
  refine hC.mono ?_
  rintro e wu ⟨rfl, hb⟩
  replace HVp := Lib.hid (HVp.out.mono (ext_of_below hb))
  replace HVq := Lib.hid (HVq.out.mono (ext_of_below hb))
  clear hC
  clear x0 x1 x2 x3 x4 x5 x6 y0
  replace hB := hB.below hb hB.lt
  replace hX := hX.below hb hX.lt
  replace hA := hA.trans (hb.mono hA.size)
  clear hb
  clear hX hB
  go_wp2_with fail
  refine (sameInts_any _ _ _ _ _ HVp.out HVq.out).mono ?_
  rintro e wz ⟨rfl, n, rfl⟩
  rw [decide_eq_true rfl]
  have hb : Below wu.heap.size wu (wu.drewN n) := below_drewN (Below.refl _ _) n
  replace hA := hA.trans (hb.mono hA.size)
  clear hb
  generalize wu.drewN n = wu at *
  clear HVp HVq
  go_wp2_with fail
  refine (lives_any _).mono ?_
  rintro e wl ⟨rfl, hbl⟩
  have HEE := Lib.hid (hA.trans (hbl.mono hA.size))
  clear hbl hA
  go_wp2
  go_ret
  exact ⟨rfl, HEE.out⟩
end Go.Proofs.Ytdffhkbncencgaa
