/- What a plan costs, what lacks, whether it keeps: plan.Cost, plan.Lacks, plan.Keeps; no statement is proved here. -/
import Derived.Test.YtdffhkbncencgaaPlAcc
import Derived.Test.YtdffhkbncencgaaPlKept
import Derived.Test.YtdffhkbncencgaaPlLack
namespace Go.Proofs.Ytdffhkbncencgaa
open Go.RowKit Go.PlainAid
set_option linter.unusedVariables false
set_option linter.unusedSimpArgs false

def costA (s : Sn) (T : List (List Int)) : Int := if keE s T = 0 then costS s T + fineS s (gotS s T) else 0
def lackA (s : Sn) (T : List (List Int)) : List Int := if keE s T = 0 then lackL s (gotS s T) else []
theorem gotS_ok {s : Sn} (ok : OkS s) (T : List (List Int)) : (gotS s T).length = 8 ∧ ∀ i, i < 8 → 0 ≤ g (gotS s T) i ∧ g (gotS s T) i ≤ 1000000000000 := by
  have h := gotK_bd ok T (stL s T).length (Nat.le_refl _)
  have h2 := stL_few ok T
  exact ⟨h.1, fun i hi => by have := h.2 i hi; unfold gotS; omega⟩
theorem costS_bd {s : Sn} (ok : OkS s) (T : List (List Int)) : 0 ≤ costS s T ∧ costS s T ≤ 300000000 := by
  have h := costK_bd ok T (stL s T).length (Nat.le_refl _)
  have h2 := stL_few ok T
  unfold costS; omega
theorem fineS_bd {s : Sn} (ok : OkS s) (T : List (List Int)) : 0 ≤ fineS s (gotS s T) ∧ fineS s (gotS s T) ≤ 8000000000000 := by
  have h := fineK_bd ok (fun i hi => ((gotS_ok ok T).2 i hi).1) s.ods.length (by have := ok.nd; have := ok.na; omega)
  have h2 : s.ods.length ≤ 8 := by have := ok.nd; have := ok.na; omega
  unfold fineS; omega
theorem nil_RInts (w : World) : RInts w (.slice none 0 0) [] := ⟨none, 0, rfl, Nat.le_refl _, ⟨by omega, by simp⟩, fun i hi => by simp at hi⟩
def LkA (s : Sn) (T : List (List Int)) (w : World) (e : Ending) (w' : World) : Prop := (∃ v, e = .returned (.tuple #[v, .int .i64 (keE s T)]) ∧ RInts (vis (w.heap.size ≤ ·) w') v (lackA s T)) ∧ Below w.heap.size w w'

attribute [local go_sem ↓] ex_ldw ex_ldn ex_stn
set_option maxHeartbeats 4000000 in
set_option maxRecDepth 100000 in
theorem Cost_any (s : Sn) (d : SA) (T : List (List Int)) (vt : Value) (w : World) (h : SnD w s d) (hT : RRows w vt T) : Calls Try.prog 25 #[.agg #[.int .i64 s.days, .slice d.a1 s.arts.length d.c1, .slice d.a2 s.ovens.length d.c2, .slice d.a3 s.mks.length d.c3, .slice d.a4 s.jobs.length d.c4, .slice d.a5 s.cols.length d.c5, .slice d.a6 s.ods.length d.c6], vt] w fun e w' => e = .returned (.tuple #[.int .i64 (costA s T), .int .i64 (keE s T)]) ∧ Below w.heap.size w w' := by
  have hA := below_box w (.cells #[.int .i64 s.days, .slice d.a1 s.arts.length d.c1, .slice d.a2 s.ovens.length d.c2, .slice d.a3 s.mks.length d.c3, .slice d.a4 s.jobs.length d.c4, .slice d.a5 s.cols.length d.c5, .slice d.a6 s.ods.length d.c6] 28)
  have h0 := Blk.new w #[.int .i64 s.days, .slice d.a1 s.arts.length d.c1, .slice d.a2 s.ovens.length d.c2, .slice d.a3 s.mks.length d.c3, .slice d.a4 s.jobs.length d.c4, .slice d.a5 s.cols.length d.c5, .slice d.a6 s.ods.length d.c6] 28
  go_enter Try.func25, Try.ntmps25
  go_wp2_with fail
  generalize hWe : w.alloc (.cells #[.int .i64 s.days, .slice d.a1 s.arts.length d.c1, .slice d.a2 s.ovens.length d.c2, .slice d.a3 s.mks.length d.c3, .slice d.a4 s.jobs.length d.c4, .slice d.a5 s.cols.length d.c5, .slice d.a6 s.ods.length d.c6] 28) = W at *
  refine (kept_any s d T vt W (h.mono (ext_of_below hA)) (hT.mono (ext_of_below hA))).mono ?_
  rintro e W1 ⟨hr, hb1⟩
  have hA1 := hA.trans (hb1.mono hA.size)
  have hz1 := h0.lt
  rcases hr with ⟨hE, rfl⟩ | ⟨hE, v7, rfl, ho⟩
  · have HP : Hid (costA s T = 0) := Lib.hid (by unfold costA; rw [if_neg hE])
    obtain ⟨r, hrr⟩ : ∃ r, keE s T = r := ⟨_, rfl⟩
    rw [hrr] at hE ⊢
    have HRR := Lib.hid hrr
    have hr : (r != 0) = true := by simpa using hE
    have HB2 := Lib.hid (hA1.alloc hA1.size (.cells #[.int .i64 0, .slice none 0 0, .slice none 0 0, .slice none 0 0, .slice none 0 0, .slice none 0 0, .slice none 0 0, .slice none 0 0] 63))
    clear h hT hb1 hA h0 hA1 hE hWe hrr
    go_wp2
    go_ret2
    exact ⟨by rw [HP.out, HRR.out]; rfl, HB2.out⟩
  · obtain ⟨hp, hkb⟩ := keE_ok hE
    obtain ⟨-, ok, pk⟩ := plE_ok hp
    obtain ⟨a7, c7, rfl⟩ := ho.shape
    have HO := Lib.hid (ho.mono (vis_below (below_box W1 (.cells #[.int .i64 s.days, .slice d.a1 s.arts.length d.c1, .slice d.a2 s.ovens.length d.c2, .slice d.a3 s.mks.length d.c3, .slice d.a4 s.jobs.length d.c4, .slice d.a5 s.cols.length d.c5, .slice d.a6 s.ods.length d.c6, .slice a7 (ovL s).length c7] 63))))
    have g2 := Blk.new W1 #[.int .i64 s.days, .slice d.a1 s.arts.length d.c1, .slice d.a2 s.ovens.length d.c2, .slice d.a3 s.mks.length d.c3, .slice d.a4 s.jobs.length d.c4, .slice d.a5 s.cols.length d.c5, .slice d.a6 s.ods.length d.c6, .slice a7 (ovL s).length c7] 63
    have gA := hA1.alloc hA1.size (.cells #[.int .i64 s.days, .slice d.a1 s.arts.length d.c1, .slice d.a2 s.ovens.length d.c2, .slice d.a3 s.mks.length d.c3, .slice d.a4 s.jobs.length d.c4, .slice d.a5 s.cols.length d.c5, .slice d.a6 s.ods.length d.c6, .slice a7 (ovL s).length c7] 63)
    have hEx := ext_of_below gA
    have hAc := account_any s d (.slice a7 (ovL s).length c7) vt T _ (h.mono hEx) ok (HO.out.mono vis_out) (hT.mono hEx) pk
    have hgo := gotS_ok ok T
    have hcb := costS_bd ok T
    have hfb := fineS_bd ok T
    have HE := Lib.hid hE
    have hldw := ld_blk (P := Try.prog) g2 Try.underlying63 rfl (by rw [sz_works]; rfl)
    clear hb1 hA h0 hA1 ho hT hE hp hkb pk
    generalize hn7 : (ovL s).length = n7 at *
    clear hn7
    go_upto_region 4 with (fail)
    clear hWe
    generalize hB : W1.heap.size = B at *
    generalize (W1.alloc (.cells #[.int .i64 s.days, .slice d.a1 s.arts.length d.c1, .slice d.a2 s.ovens.length d.c2, .slice d.a3 s.mks.length d.c3, .slice d.a4 s.jobs.length d.c4, .slice d.a5 s.cols.length d.c5, .slice d.a6 s.ods.length d.c6, .slice a7 n7 c7] 63)) = Y at *
    clear hB
    go_wp2_with fail
    refine hAc.mono ?_
    rintro e W2 ⟨rfl, hb2⟩
    have k2 := g2.below hb2 g2.lt
    have kA := gA.trans (hb2.mono gA.size)
    have h3 := Blk.new W2 #[.int .i64 0, .int .i64 0, .int .i64 0, .int .i64 0, .int .i64 0, .int .i64 0, .int .i64 0, .int .i64 0] 92
    have hst := st_blk (cs' := cnC (gotS s T)) (P := Try.prog) h3 rfl (by rw [sz_counts]; rfl) (cnC_one _)
    have m2 := blk_sto_other (k2.alloc (.cells #[.int .i64 0, .int .i64 0, .int .i64 0, .int .i64 0, .int .i64 0, .int .i64 0, .int .i64 0, .int .i64 0] 92)) (show W2.heap.size ≠ B by have := k2.lt; omega) (cnC (gotS s T))
    have m3 := blk_sto (cs' := cnC (gotS s T)) h3 rfl
    have mA := putC_below (kA.alloc kA.size (.cells #[.int .i64 0, .int .i64 0, .int .i64 0, .int .i64 0, .int .i64 0, .int .i64 0, .int .i64 0, .int .i64 0] 92)) (show w.heap.size ≤ W2.heap.size by have := kA.size; omega) (cnC (gotS s T))
    have mVB : Below W2.heap.size W2 (putC (W2.alloc (.cells #[.int .i64 0, .int .i64 0, .int .i64 0, .int .i64 0, .int .i64 0, .int .i64 0, .int .i64 0, .int .i64 0] 92)) W2.heap.size (cnC (gotS s T))) := putC_below (below_box W2 _) (Nat.le_refl _) _
    have HEXV := Lib.hid hEx
    clear hAc hldw g2 gA HO hb2 k2 kA h3
    generalize hG : gotS s T = G at *
    have HG := Lib.hid hG
    clear hG
    generalize hNC : cnC G = NC at *
    have HNC := Lib.hid hNC
    clear hNC
    go_upto_region 5 with (fail)
    generalize hQ : W2.heap.size = Q at *
    generalize putC (W2.alloc (.cells #[.int .i64 0, .int .i64 0, .int .i64 0, .int .i64 0, .int .i64 0, .int .i64 0, .int .i64 0, .int .i64 0] 92)) Q NC = Y2 at *
    clear hst hQ mVB
    have hldw := ld_blk (P := Try.prog) m2 Try.underlying63 rfl (by rw [sz_works]; rfl)
    have hldn := ld_blk (P := Try.prog) m3 Try.underlying92 rfl (by rw [sz_counts, ← HNC.out]; rfl)
    have hEx2 := ext_of_below mA
    have hF := fines_any s d (.slice a7 n7 c7) G Y2 (h.mono hEx2) ok hgo.1 hgo.2
    rw [HNC.out] at hF
    have z1 : wrap64 (costS s T + fineS s G) = costS s T + fineS s G := wrap_id _ (by unfold I64; omega)
    clear h hgo hEx hEx2 m2 m3 ok
    go_wp2_with fail
    refine hF.mono ?_
    rintro e W3 ⟨rfl, hb3⟩
    have HB3 := Lib.hid (mA.trans (hb3.mono mA.size))
    clear hF hldw hldn hb3 mA
    have HP : Hid (costA s T = costS s T + fineS s G) := Lib.hid (by unfold costA; rw [if_pos HE.out, HG.out])
    generalize costS s T = x at *
    generalize fineS s G = y at *
    go_wp2
    go_ret2
    exact ⟨by rw [HP.out, HE.out]; rfl, HB3.out⟩
set_option maxHeartbeats 4000000 in
set_option maxRecDepth 100000 in
theorem Lacks_any (s : Sn) (d : SA) (T : List (List Int)) (vt : Value) (w : World) (h : SnD w s d) (hT : RRows w vt T) : Calls Try.prog 23 #[.agg #[.int .i64 s.days, .slice d.a1 s.arts.length d.c1, .slice d.a2 s.ovens.length d.c2, .slice d.a3 s.mks.length d.c3, .slice d.a4 s.jobs.length d.c4, .slice d.a5 s.cols.length d.c5, .slice d.a6 s.ods.length d.c6], vt] w (LkA s T w) := by
  have hA := below_box w (.cells #[.int .i64 s.days, .slice d.a1 s.arts.length d.c1, .slice d.a2 s.ovens.length d.c2, .slice d.a3 s.mks.length d.c3, .slice d.a4 s.jobs.length d.c4, .slice d.a5 s.cols.length d.c5, .slice d.a6 s.ods.length d.c6] 28)
  have h0 := Blk.new w #[.int .i64 s.days, .slice d.a1 s.arts.length d.c1, .slice d.a2 s.ovens.length d.c2, .slice d.a3 s.mks.length d.c3, .slice d.a4 s.jobs.length d.c4, .slice d.a5 s.cols.length d.c5, .slice d.a6 s.ods.length d.c6] 28
  go_enter Try.func23, Try.ntmps23
  go_wp2_with fail
  generalize hWe : w.alloc (.cells #[.int .i64 s.days, .slice d.a1 s.arts.length d.c1, .slice d.a2 s.ovens.length d.c2, .slice d.a3 s.mks.length d.c3, .slice d.a4 s.jobs.length d.c4, .slice d.a5 s.cols.length d.c5, .slice d.a6 s.ods.length d.c6] 28) = W at *
  refine (kept_any s d T vt W (h.mono (ext_of_below hA)) (hT.mono (ext_of_below hA))).mono ?_
  rintro e W1 ⟨hr, hb1⟩
  have hA1 := hA.trans (hb1.mono hA.size)
  have hz1 := h0.lt
  rcases hr with ⟨hE, rfl⟩ | ⟨hE, v7, rfl, ho⟩
  · have HP : Hid (lackA s T = []) := Lib.hid (by unfold lackA; rw [if_neg hE])
    have HK : Hid (keE s T = keE s T) := Lib.hid rfl
    obtain ⟨r, hrr⟩ : ∃ r, keE s T = r := ⟨_, rfl⟩
    rw [hrr] at hE ⊢
    have HRR := Lib.hid hrr
    have hr : (r != 0) = true := by simpa using hE
    have HB2 := Lib.hid (hA1.alloc hA1.size (.cells #[.int .i64 0, .slice none 0 0, .slice none 0 0, .slice none 0 0, .slice none 0 0, .slice none 0 0, .slice none 0 0, .slice none 0 0] 63))
    clear h hT hb1 hA h0 hA1 hE hWe hrr
    go_wp2
    go_ret2
    exact ⟨⟨.slice none 0 0, by rw [HRR.out]; rfl, by rw [HP.out]; exact nil_RInts _⟩, HB2.out⟩
  · obtain ⟨hp, hkb⟩ := keE_ok hE
    obtain ⟨-, ok, pk⟩ := plE_ok hp
    obtain ⟨a7, c7, rfl⟩ := ho.shape
    have HO := Lib.hid (ho.mono (vis_below (below_box W1 (.cells #[.int .i64 s.days, .slice d.a1 s.arts.length d.c1, .slice d.a2 s.ovens.length d.c2, .slice d.a3 s.mks.length d.c3, .slice d.a4 s.jobs.length d.c4, .slice d.a5 s.cols.length d.c5, .slice d.a6 s.ods.length d.c6, .slice a7 (ovL s).length c7] 63))))
    have g2 := Blk.new W1 #[.int .i64 s.days, .slice d.a1 s.arts.length d.c1, .slice d.a2 s.ovens.length d.c2, .slice d.a3 s.mks.length d.c3, .slice d.a4 s.jobs.length d.c4, .slice d.a5 s.cols.length d.c5, .slice d.a6 s.ods.length d.c6, .slice a7 (ovL s).length c7] 63
    have gA := hA1.alloc hA1.size (.cells #[.int .i64 s.days, .slice d.a1 s.arts.length d.c1, .slice d.a2 s.ovens.length d.c2, .slice d.a3 s.mks.length d.c3, .slice d.a4 s.jobs.length d.c4, .slice d.a5 s.cols.length d.c5, .slice d.a6 s.ods.length d.c6, .slice a7 (ovL s).length c7] 63)
    have hEx := ext_of_below gA
    have hAc := account_any s d (.slice a7 (ovL s).length c7) vt T _ (h.mono hEx) ok (HO.out.mono vis_out) (hT.mono hEx) pk
    have hgo := gotS_ok ok T
    have hcb := costS_bd ok T
    have hfb := fineS_bd ok T
    have HE := Lib.hid hE
    have hldw := ld_blk (P := Try.prog) g2 Try.underlying63 rfl (by rw [sz_works]; rfl)
    clear hb1 hA h0 hA1 ho hT hE hp hkb pk
    generalize hn7 : (ovL s).length = n7 at *
    clear hn7
    go_upto_region 4 with (fail)
    clear hWe
    generalize hB : W1.heap.size = B at *
    generalize (W1.alloc (.cells #[.int .i64 s.days, .slice d.a1 s.arts.length d.c1, .slice d.a2 s.ovens.length d.c2, .slice d.a3 s.mks.length d.c3, .slice d.a4 s.jobs.length d.c4, .slice d.a5 s.cols.length d.c5, .slice d.a6 s.ods.length d.c6, .slice a7 n7 c7] 63)) = Y at *
    clear hB
    go_wp2_with fail
    refine hAc.mono ?_
    rintro e W2 ⟨rfl, hb2⟩
    have k2 := g2.below hb2 g2.lt
    have kA := gA.trans (hb2.mono gA.size)
    have h3 := Blk.new W2 #[.int .i64 0, .int .i64 0, .int .i64 0, .int .i64 0, .int .i64 0, .int .i64 0, .int .i64 0, .int .i64 0] 92
    have hst := st_blk (cs' := cnC (gotS s T)) (P := Try.prog) h3 rfl (by rw [sz_counts]; rfl) (cnC_one _)
    have m2 := blk_sto_other (k2.alloc (.cells #[.int .i64 0, .int .i64 0, .int .i64 0, .int .i64 0, .int .i64 0, .int .i64 0, .int .i64 0, .int .i64 0] 92)) (show W2.heap.size ≠ B by have := k2.lt; omega) (cnC (gotS s T))
    have m3 := blk_sto (cs' := cnC (gotS s T)) h3 rfl
    have mA := putC_below (kA.alloc kA.size (.cells #[.int .i64 0, .int .i64 0, .int .i64 0, .int .i64 0, .int .i64 0, .int .i64 0, .int .i64 0, .int .i64 0] 92)) (show w.heap.size ≤ W2.heap.size by have := kA.size; omega) (cnC (gotS s T))
    have mVB : Below W2.heap.size W2 (putC (W2.alloc (.cells #[.int .i64 0, .int .i64 0, .int .i64 0, .int .i64 0, .int .i64 0, .int .i64 0, .int .i64 0, .int .i64 0] 92)) W2.heap.size (cnC (gotS s T))) := putC_below (below_box W2 _) (Nat.le_refl _) _
    have HEXV := Lib.hid hEx
    clear hAc hldw g2 gA HO hb2 k2 kA h3
    generalize hG : gotS s T = G at *
    have HG := Lib.hid hG
    clear hG
    generalize hNC : cnC G = NC at *
    have HNC := Lib.hid hNC
    clear hNC
    go_upto_region 5 with (fail)
    generalize hQ : W2.heap.size = Q at *
    generalize putC (W2.alloc (.cells #[.int .i64 0, .int .i64 0, .int .i64 0, .int .i64 0, .int .i64 0, .int .i64 0, .int .i64 0, .int .i64 0] 92)) Q NC = Y2 at *
    clear hst hQ mVB
    have hldw := ld_blk (P := Try.prog) m2 Try.underlying63 rfl (by rw [sz_works]; rfl)
    have hldn := ld_blk (P := Try.prog) m3 Try.underlying92 rfl (by rw [sz_counts, ← HNC.out]; rfl)
    have hEx2 := ext_of_below mA
    have hF := lacks_any s d (.slice a7 n7 c7) G Y2 (h.mono hEx2) ok hgo.1 hgo.2
    rw [HNC.out] at hF
    clear h hgo hcb hfb hEx hEx2 m2 m3 ok
    have hYs := mA.size
    go_wp2_with fail
    refine hF.mono ?_
    rintro e W3 ⟨⟨v, rfl, hv⟩, hb3⟩
    have HB3 := Lib.hid (mA.trans (hb3.mono mA.size))
    have HV := Lib.hid (hv.mono (vis_up (T := (w.heap.size ≤ ·)) (fun q hq => by omega)))
    clear hF hldw hldn hb3 mA hv hYs
    have HP : Hid (lackA s T = lackL s G) := Lib.hid (by unfold lackA; rw [if_pos HE.out, HG.out])
    go_wp2
    go_ret2
    exact ⟨⟨v, by rw [HE.out]; rfl, by rw [HP.out]; exact HV.out⟩, HB3.out⟩
def kpA (s : Sn) (T : List (List Int)) : Bool := decide (plE s T = 0) && keepsB s T
set_option maxHeartbeats 4000000 in
set_option maxRecDepth 100000 in
theorem Keeps_any (s : Sn) (d : SA) (T : List (List Int)) (vt : Value) (w : World) (h : SnD w s d) (hT : RRows w vt T) : Calls Try.prog 14 #[.agg #[.int .i64 s.days, .slice d.a1 s.arts.length d.c1, .slice d.a2 s.ovens.length d.c2, .slice d.a3 s.mks.length d.c3, .slice d.a4 s.jobs.length d.c4, .slice d.a5 s.cols.length d.c5, .slice d.a6 s.ods.length d.c6], vt] w fun e w' => e = .returned (.tuple #[.bool (kpA s T), .int .i64 (plE s T)]) ∧ Below w.heap.size w w' := by
  have hA := below_box w (.cells #[.int .i64 s.days, .slice d.a1 s.arts.length d.c1, .slice d.a2 s.ovens.length d.c2, .slice d.a3 s.mks.length d.c3, .slice d.a4 s.jobs.length d.c4, .slice d.a5 s.cols.length d.c5, .slice d.a6 s.ods.length d.c6] 28)
  have h0 := Blk.new w #[.int .i64 s.days, .slice d.a1 s.arts.length d.c1, .slice d.a2 s.ovens.length d.c2, .slice d.a3 s.mks.length d.c3, .slice d.a4 s.jobs.length d.c4, .slice d.a5 s.cols.length d.c5, .slice d.a6 s.ods.length d.c6] 28
  go_enter Try.func14, Try.ntmps14
  go_wp2_with fail
  generalize hWe : w.alloc (.cells #[.int .i64 s.days, .slice d.a1 s.arts.length d.c1, .slice d.a2 s.ovens.length d.c2, .slice d.a3 s.mks.length d.c3, .slice d.a4 s.jobs.length d.c4, .slice d.a5 s.cols.length d.c5, .slice d.a6 s.ods.length d.c6] 28) = W at *
  refine (planned_any s d T vt W (h.mono (ext_of_below hA)) (hT.mono (ext_of_below hA))).mono ?_
  rintro e W1 ⟨hr, hb1⟩
  have hA1 := hA.trans (hb1.mono hA.size)
  have hz1 := h0.lt
  rcases hr with ⟨hE, rfl⟩ | ⟨hE, v7, rfl, ho⟩
  · have HP : Hid (kpA s T = false) := Lib.hid (by unfold kpA; rw [decide_eq_false hE]; rfl)
    obtain ⟨r, hrr⟩ : ∃ r, plE s T = r := ⟨_, rfl⟩
    rw [hrr] at hE ⊢
    have HRR := Lib.hid hrr
    have hr : (r != 0) = true := by simpa using hE
    have HB2 := Lib.hid (hA1.alloc hA1.size (.cells #[.int .i64 0, .slice none 0 0, .slice none 0 0, .slice none 0 0, .slice none 0 0, .slice none 0 0, .slice none 0 0, .slice none 0 0] 63))
    clear h hT hb1 hA h0 hA1 hE hWe hrr
    go_wp2
    go_ret2
    exact ⟨by rw [HP.out, HRR.out]; rfl, HB2.out⟩
  · obtain ⟨-, ok, pk⟩ := plE_ok hE
    obtain ⟨a7, c7, rfl⟩ := ho.shape
    have HO := Lib.hid (ho.mono (vis_below (below_box W1 (.cells #[.int .i64 s.days, .slice d.a1 s.arts.length d.c1, .slice d.a2 s.ovens.length d.c2, .slice d.a3 s.mks.length d.c3, .slice d.a4 s.jobs.length d.c4, .slice d.a5 s.cols.length d.c5, .slice d.a6 s.ods.length d.c6, .slice a7 (ovL s).length c7] 63))))
    have g2 := Blk.new W1 #[.int .i64 s.days, .slice d.a1 s.arts.length d.c1, .slice d.a2 s.ovens.length d.c2, .slice d.a3 s.mks.length d.c3, .slice d.a4 s.jobs.length d.c4, .slice d.a5 s.cols.length d.c5, .slice d.a6 s.ods.length d.c6, .slice a7 (ovL s).length c7] 63
    have gA := hA1.alloc hA1.size (.cells #[.int .i64 s.days, .slice d.a1 s.arts.length d.c1, .slice d.a2 s.ovens.length d.c2, .slice d.a3 s.mks.length d.c3, .slice d.a4 s.jobs.length d.c4, .slice d.a5 s.cols.length d.c5, .slice d.a6 s.ods.length d.c6, .slice a7 (ovL s).length c7] 63)
    have hEx := ext_of_below gA
    have hAc := keeps_any s d (.slice a7 (ovL s).length c7) T vt _ (h.mono hEx) ok (HO.out.mono vis_out) (hT.mono hEx) pk
    have HE := Lib.hid hE
    have hldw := ld_blk (P := Try.prog) g2 Try.underlying63 rfl (by rw [sz_works]; rfl)
    have HP : Hid (kpA s T = keepsB s T) := Lib.hid (by unfold kpA; rw [decide_eq_true hE]; rfl)
    clear hb1 hA h0 hA1 ho hT hE pk hEx h
    generalize hn7 : (ovL s).length = n7 at *
    clear hn7
    go_upto_region 4 with (fail)
    generalize hB : W1.heap.size = B at *
    generalize (W1.alloc (.cells #[.int .i64 s.days, .slice d.a1 s.arts.length d.c1, .slice d.a2 s.ovens.length d.c2, .slice d.a3 s.mks.length d.c3, .slice d.a4 s.jobs.length d.c4, .slice d.a5 s.cols.length d.c5, .slice d.a6 s.ods.length d.c6, .slice a7 n7 c7] 63)) = Y at *
    clear hB hWe
    go_wp2_with fail
    refine hAc.mono ?_
    rintro e W2 ⟨rfl, hb2⟩
    have HB3 := Lib.hid (gA.trans (hb2.mono gA.size))
    clear hAc hldw g2 gA HO hb2
    generalize keepsB s T = kb at *
    go_wp2
    go_ret2
    exact ⟨by rw [HP.out, HE.out]; rfl, HB3.out⟩
end Go.Proofs.Ytdffhkbncencgaa
