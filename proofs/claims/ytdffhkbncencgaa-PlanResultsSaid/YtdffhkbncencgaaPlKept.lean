/- The works of a season that a plan keeps: kept; no statement is proved here. -/
import Derived.Test.YtdffhkbncencgaaPlPlan
namespace Go.Proofs.Ytdffhkbncencgaa
open Go.RowKit Go.PlainAid
set_option linter.unusedVariables false
set_option linter.unusedSimpArgs false

/-- the first error of a season, or of a plan that shall keep it. -/
def keE (s : Sn) (T : List (List Int)) : Int := if plE s T = 0 then (if keepsB s T = true then 0 else 8) else plE s T
theorem keE_ok {s : Sn} {T : List (List Int)} (h : keE s T = 0) : plE s T = 0 ∧ keepsB s T = true := by
  unfold keE at h
  split at h
  · rename_i h1
    split at h
    · rename_i h2; exact ⟨h1, h2⟩
    · cases h
  · rename_i h1; exact absurd h h1
def KeA (s : Sn) (d : SA) (T : List (List Int)) (w : World) (e : Ending) (w' : World) : Prop := ((keE s T ≠ 0 ∧ e = .returned (.tuple #[.agg #[.int .i64 0, .slice none 0 0, .slice none 0 0, .slice none 0 0, .slice none 0 0, .slice none 0 0, .slice none 0 0, .slice none 0 0], .int .i64 (keE s T)])) ∨ (keE s T = 0 ∧ ∃ v7, e = .returned (.tuple #[.agg #[.int .i64 s.days, .slice d.a1 s.arts.length d.c1, .slice d.a2 s.ovens.length d.c2, .slice d.a3 s.mks.length d.c3, .slice d.a4 s.jobs.length d.c4, .slice d.a5 s.cols.length d.c5, .slice d.a6 s.ods.length d.c6, v7], .int .i64 0]) ∧ ROvns (vis (w.heap.size ≤ ·) w') v7 (ovL s))) ∧ Below w.heap.size w w'

set_option maxHeartbeats 4000000 in
set_option maxRecDepth 100000 in
theorem kept_any (s : Sn) (d : SA) (T : List (List Int)) (vt : Value) (w : World) (h : SnD w s d) (hT : RRows w vt T) : Calls Try.prog 41 #[.agg #[.int .i64 s.days, .slice d.a1 s.arts.length d.c1, .slice d.a2 s.ovens.length d.c2, .slice d.a3 s.mks.length d.c3, .slice d.a4 s.jobs.length d.c4, .slice d.a5 s.cols.length d.c5, .slice d.a6 s.ods.length d.c6], vt] w (KeA s d T w) := by
  have hA : Below w.heap.size w ((w.alloc (.cells #[.int .i64 s.days, .slice d.a1 s.arts.length d.c1, .slice d.a2 s.ovens.length d.c2, .slice d.a3 s.mks.length d.c3, .slice d.a4 s.jobs.length d.c4, .slice d.a5 s.cols.length d.c5, .slice d.a6 s.ods.length d.c6] 28)).alloc (.cells #[.int .i64 0, .slice none 0 0, .slice none 0 0, .slice none 0 0, .slice none 0 0, .slice none 0 0, .slice none 0 0, .slice none 0 0] 63)) := (below_box w _).alloc (by simp) _
  have h0 := (Blk.new w #[.int .i64 s.days, .slice d.a1 s.arts.length d.c1, .slice d.a2 s.ovens.length d.c2, .slice d.a3 s.mks.length d.c3, .slice d.a4 s.jobs.length d.c4, .slice d.a5 s.cols.length d.c5, .slice d.a6 s.ods.length d.c6] 28).alloc (.cells #[.int .i64 0, .slice none 0 0, .slice none 0 0, .slice none 0 0, .slice none 0 0, .slice none 0 0, .slice none 0 0, .slice none 0 0] 63)
  have h1 := Blk.new (w.alloc (.cells #[.int .i64 s.days, .slice d.a1 s.arts.length d.c1, .slice d.a2 s.ovens.length d.c2, .slice d.a3 s.mks.length d.c3, .slice d.a4 s.jobs.length d.c4, .slice d.a5 s.cols.length d.c5, .slice d.a6 s.ods.length d.c6] 28)) #[.int .i64 0, .slice none 0 0, .slice none 0 0, .slice none 0 0, .slice none 0 0, .slice none 0 0, .slice none 0 0, .slice none 0 0] 63
  simp only [World.size_alloc] at h1
  go_enter Try.func41, Try.ntmps41
  go_wp2_with fail
  generalize hWe : ((w.alloc (.cells #[.int .i64 s.days, .slice d.a1 s.arts.length d.c1, .slice d.a2 s.ovens.length d.c2, .slice d.a3 s.mks.length d.c3, .slice d.a4 s.jobs.length d.c4, .slice d.a5 s.cols.length d.c5, .slice d.a6 s.ods.length d.c6] 28)).alloc (.cells #[.int .i64 0, .slice none 0 0, .slice none 0 0, .slice none 0 0, .slice none 0 0, .slice none 0 0, .slice none 0 0, .slice none 0 0] 63)) = W at *
  refine (planned_any s d T vt W (h.mono (ext_of_below hA)) (hT.mono (ext_of_below hA))).mono ?_
  rintro e W1 ⟨hr, hb1⟩
  have hA1 := hA.trans (hb1.mono hA.size)
  replace h0 := h0.below hb1 h0.lt
  replace h1 := h1.below hb1 h1.lt
  have hz1 := h1.lt
  have hz2 := hA.size
  rcases hr with ⟨hE, rfl⟩ | ⟨hE, v7, rfl, ho⟩
  · have HP : Hid (keE s T = plE s T) := Lib.hid (by unfold keE; rw [if_neg hE])
    generalize plE s T = r at *
    have hr : (r != 0) = true := by simpa using hE
    have g1 := h1.alloc (.cells #[.int .i64 0, .slice none 0 0, .slice none 0 0, .slice none 0 0, .slice none 0 0, .slice none 0 0, .slice none 0 0, .slice none 0 0] 63)
    have z0 := g1.cell 0 _ rfl
    have zf0 := g1.frozen 0
    have z1 := g1.cell 1 _ rfl
    have zf1 := g1.frozen 1
    have z2 := g1.cell 2 _ rfl
    have zf2 := g1.frozen 2
    have z3 := g1.cell 3 _ rfl
    have zf3 := g1.frozen 3
    have z4 := g1.cell 4 _ rfl
    have zf4 := g1.frozen 4
    have z5 := g1.cell 5 _ rfl
    have zf5 := g1.frozen 5
    have z6 := g1.cell 6 _ rfl
    have zf6 := g1.frozen 6
    have z7 := g1.cell 7 _ rfl
    have zf7 := g1.frozen 7
    have HB2 := Lib.hid (putC_below (hA1.alloc hA1.size (.cells #[.int .i64 0, .slice none 0 0, .slice none 0 0, .slice none 0 0, .slice none 0 0, .slice none 0 0, .slice none 0 0, .slice none 0 0] 63)) (show w.heap.size ≤ w.heap.size + 1 by omega) #[.int .i64 0, .slice none 0 0, .slice none 0 0, .slice none 0 0, .slice none 0 0, .slice none 0 0, .slice none 0 0, .slice none 0 0])
    have HN := Lib.hid (blk_sto (cs' := #[.int .i64 0, .slice none 0 0, .slice none 0 0, .slice none 0 0, .slice none 0 0, .slice none 0 0, .slice none 0 0, .slice none 0 0]) g1 rfl)
    have HR := Lib.hid hE
    clear h hT hb1 hA h0 h1 hA1 g1 hE hWe
    go_upto_region 3 with (fail)
    clear hz1 hz2
    generalize (W1.alloc (.cells #[.int .i64 0, .slice none 0 0, .slice none 0 0, .slice none 0 0, .slice none 0 0, .slice none 0 0, .slice none 0 0, .slice none 0 0] 63)) = Y at *
    go_wp2
    exact ⟨rfl, _, res_two (by rfl) rfl (lv_blk HN.out Try.underlying63 rfl (by rw [sz_works]; rfl)), .inl ⟨by rw [HP.out]; exact HR.out, by rw [HP.out]; rfl⟩, HB2.out⟩
  · obtain ⟨a7, c7, rfl⟩ := ho.shape
    have hW2 : W.heap.size = w.heap.size + 1 + 1 := by
      rw [← hWe]; simp
    rw [hW2] at ho
    obtain ⟨hE0, ok, pk⟩ := plE_ok hE
    have HO := Lib.hid (ho.mono (vis_below (below_box W1 (.cells #[.int .i64 s.days, .slice d.a1 s.arts.length d.c1, .slice d.a2 s.ovens.length d.c2, .slice d.a3 s.mks.length d.c3, .slice d.a4 s.jobs.length d.c4, .slice d.a5 s.cols.length d.c5, .slice d.a6 s.ods.length d.c6, .slice a7 (ovL s).length c7] 63))))
    have g1 := h1.alloc (.cells #[.int .i64 s.days, .slice d.a1 s.arts.length d.c1, .slice d.a2 s.ovens.length d.c2, .slice d.a3 s.mks.length d.c3, .slice d.a4 s.jobs.length d.c4, .slice d.a5 s.cols.length d.c5, .slice d.a6 s.ods.length d.c6, .slice a7 (ovL s).length c7] 63)
    have g2 := Blk.new W1 #[.int .i64 s.days, .slice d.a1 s.arts.length d.c1, .slice d.a2 s.ovens.length d.c2, .slice d.a3 s.mks.length d.c3, .slice d.a4 s.jobs.length d.c4, .slice d.a5 s.cols.length d.c5, .slice d.a6 s.ods.length d.c6, .slice a7 (ovL s).length c7] 63
    have gA := hA1.alloc hA1.size (.cells #[.int .i64 s.days, .slice d.a1 s.arts.length d.c1, .slice d.a2 s.ovens.length d.c2, .slice d.a3 s.mks.length d.c3, .slice d.a4 s.jobs.length d.c4, .slice d.a5 s.cols.length d.c5, .slice d.a6 s.ods.length d.c6, .slice a7 (ovL s).length c7] 63)
    have hEx := ext_of_below gA
    have hKp := keeps_any s d (.slice a7 (ovL s).length c7) T vt _ (h.mono hEx) ok (HO.out.mono vis_out) (hT.mono hEx) pk
    have HE := Lib.hid hE
    have x0 := g2.cell 0 _ rfl
    have xf0 := g2.frozen 0
    have x1 := g2.cell 1 _ rfl
    have xf1 := g2.frozen 1
    have x2 := g2.cell 2 _ rfl
    have xf2 := g2.frozen 2
    have x3 := g2.cell 3 _ rfl
    have xf3 := g2.frozen 3
    have x4 := g2.cell 4 _ rfl
    have xf4 := g2.frozen 4
    have x5 := g2.cell 5 _ rfl
    have xf5 := g2.frozen 5
    have x6 := g2.cell 6 _ rfl
    have xf6 := g2.frozen 6
    have x7 := g2.cell 7 _ rfl
    have xf7 := g2.frozen 7
    clear hb1 hA h0 h1 hA1 ho hE hE0 h hT hEx ok pk
    generalize hn7 : (ovL s).length = n7 at *
    clear hn7
    go_upto_region 4 with (fail)
    clear hW2 hWe
    generalize hB : W1.heap.size = B at *
    generalize (W1.alloc (.cells #[.int .i64 s.days, .slice d.a1 s.arts.length d.c1, .slice d.a2 s.ovens.length d.c2, .slice d.a3 s.mks.length d.c3, .slice d.a4 s.jobs.length d.c4, .slice d.a5 s.cols.length d.c5, .slice d.a6 s.ods.length d.c6, .slice a7 n7 c7] 63)) = Y at *
    clear hB
    go_wp2_with fail
    refine hKp.mono ?_
    rintro e W2 ⟨rfl, hb2⟩
    have hz3 := gA.size
    have k1 := g1.below hb2 g1.lt
    have k2 := g2.below hb2 g2.lt
    have kA := gA.trans (hb2.mono gA.size)
    have kO := Lib.hid (HO.out.mono (vis_below hb2))
    clear x0 xf0 x1 xf1 x2 xf2 x3 xf3 x4 xf4 x5 xf5 x6 xf6 x7 xf7 hKp g1 g2 gA HO hb2
    cases hk : keepsB s T with
    | false =>
      have HP : Hid (keE s T = 8) := Lib.hid (by unfold keE; rw [if_pos HE.out, if_neg (by rw [hk]; decide)])
      have HB2 := Lib.hid (putC_below kA (show w.heap.size ≤ w.heap.size + 1 by omega) #[.int .i64 0, .slice none 0 0, .slice none 0 0, .slice none 0 0, .slice none 0 0, .slice none 0 0, .slice none 0 0, .slice none 0 0])
      have HN := Lib.hid (blk_sto (cs' := #[.int .i64 0, .slice none 0 0, .slice none 0 0, .slice none 0 0, .slice none 0 0, .slice none 0 0, .slice none 0 0, .slice none 0 0]) k1 rfl)
      have z0 := k1.cell 0 _ rfl
      have zf0 := k1.frozen 0
      have z1 := k1.cell 1 _ rfl
      have zf1 := k1.frozen 1
      have z2 := k1.cell 2 _ rfl
      have zf2 := k1.frozen 2
      have z3 := k1.cell 3 _ rfl
      have zf3 := k1.frozen 3
      have z4 := k1.cell 4 _ rfl
      have zf4 := k1.frozen 4
      have z5 := k1.cell 5 _ rfl
      have zf5 := k1.frozen 5
      have z6 := k1.cell 6 _ rfl
      have zf6 := k1.frozen 6
      have z7 := k1.cell 7 _ rfl
      have zf7 := k1.frozen 7
      clear k1 k2 kA kO hk hz1 hz2 hz3
      go_wp2
      exact ⟨rfl, _, res_two (by rfl) rfl (lv_blk HN.out Try.underlying63 rfl (by rw [sz_works]; rfl)), .inl ⟨by rw [HP.out]; decide, by rw [HP.out]; rfl⟩, HB2.out⟩
    | true =>
      have HP : Hid (keE s T = 0) := Lib.hid (by unfold keE; rw [if_pos HE.out, if_pos hk])
      have HB2 := Lib.hid (putC_below kA (show w.heap.size ≤ w.heap.size + 1 by omega) #[.int .i64 s.days, .slice d.a1 s.arts.length d.c1, .slice d.a2 s.ovens.length d.c2, .slice d.a3 s.mks.length d.c3, .slice d.a4 s.jobs.length d.c4, .slice d.a5 s.cols.length d.c5, .slice d.a6 s.ods.length d.c6, .slice a7 n7 c7])
      have HN := Lib.hid (blk_sto (cs' := #[.int .i64 s.days, .slice d.a1 s.arts.length d.c1, .slice d.a2 s.ovens.length d.c2, .slice d.a3 s.mks.length d.c3, .slice d.a4 s.jobs.length d.c4, .slice d.a5 s.cols.length d.c5, .slice d.a6 s.ods.length d.c6, .slice a7 n7 c7]) k1 rfl)
      have HO3 := Lib.hid ((kO.out.mono (vis_putC (show ¬ (w.heap.size + 1 + 1 ≤ w.heap.size + 1) by omega) #[.int .i64 s.days, .slice d.a1 s.arts.length d.c1, .slice d.a2 s.ovens.length d.c2, .slice d.a3 s.mks.length d.c3, .slice d.a4 s.jobs.length d.c4, .slice d.a5 s.cols.length d.c5, .slice d.a6 s.ods.length d.c6, .slice a7 n7 c7])).mono (vis_up (T := (w.heap.size ≤ ·)) (fun q hq => by omega)))
      have z0 := k1.cell 0 _ rfl
      have zf0 := k1.frozen 0
      have z1 := k1.cell 1 _ rfl
      have zf1 := k1.frozen 1
      have z2 := k1.cell 2 _ rfl
      have zf2 := k1.frozen 2
      have z3 := k1.cell 3 _ rfl
      have zf3 := k1.frozen 3
      have z4 := k1.cell 4 _ rfl
      have zf4 := k1.frozen 4
      have z5 := k1.cell 5 _ rfl
      have zf5 := k1.frozen 5
      have z6 := k1.cell 6 _ rfl
      have zf6 := k1.frozen 6
      have z7 := k1.cell 7 _ rfl
      have zf7 := k1.frozen 7
      have x0 := k2.cell 0 _ rfl
      have xf0 := k2.frozen 0
      have x1 := k2.cell 1 _ rfl
      have xf1 := k2.frozen 1
      have x2 := k2.cell 2 _ rfl
      have xf2 := k2.frozen 2
      have x3 := k2.cell 3 _ rfl
      have xf3 := k2.frozen 3
      have x4 := k2.cell 4 _ rfl
      have xf4 := k2.frozen 4
      have x5 := k2.cell 5 _ rfl
      have xf5 := k2.frozen 5
      have x6 := k2.cell 6 _ rfl
      have xf6 := k2.frozen 6
      have x7 := k2.cell 7 _ rfl
      have xf7 := k2.frozen 7
      clear k1 k2 kA kO hk hz1 hz2 hz3
      go_wp2
      exact ⟨rfl, _, res_two (by rfl) rfl (lv_blk HN.out Try.underlying63 rfl (by rw [sz_works]; rfl)), .inr ⟨HP.out, _, rfl, HO3.out⟩, HB2.out⟩
end Go.Proofs.Ytdffhkbncencgaa
