/- The specification's words for shifts: At, colour, pull; no statement is proved here. -/
import Derived.Test.YtdffhkbncencgaaPlRF
import Derived.Test.YtdffhkbncencgaaPlStM
import Derived.Deep.OwnRows
import Derived.Deep.AppendLies
namespace Go.Proofs.Ytdffhkbncencgaa
open Go.RowKit Go.PlainAid
set_option linter.unusedVariables false
set_option linter.unusedSimpArgs false

/-- the colour of the first article of a shift. -/
def colL (s : Sn) : List Int → Int
  | [] => -1
  | a :: l => if a < 0 then colL s l else colr s a
theorem colL_at {s : Sn} {l : List Int} {k : Nat} (h : k < l.length) : colL s (l.drop k) = if l[k] < 0 then colL s (l.drop (k + 1)) else colr s l[k] := by rw [List.drop_eq_getElem_cons h]; rfl
/-- what a place of a shift weighs. -/
def addL (s : Sn) (ms l : List Int) (i : Nat) : Int := if l.getD i 0 < 0 then 0 else rate s (ms.getD i 0) (l.getD i 0) * wgt s (l.getD i 0)
def sumL (s : Sn) (ms l : List Int) (k : Nat) : Int := ((List.range k).map (addL s ms l)).sum
theorem sumL_step (s : Sn) (ms l : List Int) (k : Nat) : sumL s ms l (k + 1) = sumL s ms l k + addL s ms l k := by
  unfold sumL; rw [List.range_succ, List.map_append, List.sum_append]; simp
theorem addL_bd {s : Sn} (ok : OkS s) (ms l : List Int) (i : Nat) : 0 ≤ addL s ms l i ∧ addL s ms l i ≤ 100000000000 := by
  unfold addL
  split
  · omega
  · have h1 := rate_bd ok (ms.getD i 0) (l.getD i 0)
    have h2 := wgt_bd ok (l.getD i 0)
    exact ⟨Int.mul_nonneg h1.1 h2.1, Int.le_trans (Int.mul_le_mul h1.2 h2.2 h2.1 (by omega)) (by omega)⟩
theorem sumL_bd {s : Sn} (ok : OkS s) (ms l : List Int) : ∀ k, 0 ≤ sumL s ms l k ∧ sumL s ms l k ≤ 100000000000 * k
  | 0 => by simp [sumL]
  | k + 1 => by
    have h1 := sumL_bd ok ms l k
    have h2 := addL_bd ok ms l k
    rw [sumL_step]; omega
/-- a shift whose places hold articles, or none. -/
def ShOk (s : Sn) (l : List Int) : Prop := ∀ a ∈ l, -1 ≤ a ∧ a < s.arts.length

set_option maxHeartbeats 4000000 in
set_option maxRecDepth 100000 in
theorem rAt_any (s : Sn) (d : SA) (o : Int) (w : World) (h : SnD w s d) (hnm : s.mks.length ≤ 6) :
    Calls Try.prog 47 #[.agg #[.int .i64 s.days, .slice d.a1 s.arts.length d.c1, .slice d.a2 s.ovens.length d.c2, .slice d.a3 s.mks.length d.c3, .slice d.a4 s.jobs.length d.c4, .slice d.a5 s.cols.length d.c5, .slice d.a6 s.ods.length d.c6], .int .i64 o] w fun e w' => (∃ v, e = .returned v ∧ RInts (vis (w.heap.size ≤ ·) w') v (mksAt s o)) ∧ Below w.heap.size w w' := by
  obtain ⟨ii, hi, hzz⟩ := Option.map_eq_some_iff.1 info_int
  obtain ⟨hz0, hz1⟩ := Prod.mk.inj hzz
  obtain ⟨hz1, hz2⟩ := Prod.mk.inj hz1
  clear hzz
  have HRM := Lib.hid h.mks
  have hA := below_box w (.cells #[.int .i64 s.days, .slice d.a1 s.arts.length d.c1, .slice d.a2 s.ovens.length d.c2, .slice d.a3 s.mks.length d.c3, .slice d.a4 s.jobs.length d.c4, .slice d.a5 s.cols.length d.c5, .slice d.a6 s.ods.length d.c6] 28)
  have hB := Blk.new w #[.int .i64 s.days, .slice d.a1 s.arts.length d.c1, .slice d.a2 s.ovens.length d.c2, .slice d.a3 s.mks.length d.c3, .slice d.a4 s.jobs.length d.c4, .slice d.a5 s.cols.length d.c5, .slice d.a6 s.ods.length d.c6] 28
  clear h
  go_enter Try.func47, Try.ntmps47
  go_upto_region 3 with (fail)
  generalize w.alloc (.cells #[.int .i64 s.days, .slice d.a1 s.arts.length d.c1, .slice d.a2 s.ovens.length d.c2, .slice d.a3 s.mks.length d.c3, .slice d.a4 s.jobs.length d.c4, .slice d.a5 s.cols.length d.c5, .slice d.a6 s.ods.length d.c6] 28) = W at *
  have hWs := hB.lt
  go_loopw [5, 6] (fun v i wr => ∃ (k : Nat) (l : List Int), k ≤ s.mks.length ∧ i = .int .i64 k ∧ Hid (l = atTo s o k) ∧ wr.ownsRow W.heap.size 3 1 v l.length (l.map (Value.int .i64)) ∧ Below W.heap.size W wr) (fun _ i _ => s.mks.length - (intOf i).toNat)
  case atStart => exact ⟨0, [], Nat.zero_le _, rfl, Lib.hid rfl, World.ownsRow_nil _ _ _ _, Below.refl _ _⟩
  case round =>
    obtain ⟨k, l, hk, rfl, hx, hown, hb⟩ := hrel
    have hE := hA.trans (hb.mono (by omega))
    have hsz := hb.size
    have x3 := (hB.below hb hB.lt).cell 3 _ rfl
    have hll : l.length ≤ 6 := by rw [hx.out]; exact Nat.le_trans (atTo_len _ _ _) (by omega)
    by_cases hlt : k < s.mks.length
    · have hst := atTo_step (o := o) hlt
      obtain ⟨b1, o1, he1, v1, ⟨q0, -, -, -⟩, -⟩ := rsl_at HRM.out hlt
      replace q0 := ext_of_below hE _ _ q0
      have j1 : (0 : Int) ≤ (k : Int) := Int.natCast_nonneg _
      have j2 : (k : Int) < (s.mks.length : Int) := by omega
      rw [he1] at x3
      clear he1
      generalize s.mks[k] = x at *
      by_cases hxo : x.oven = o
      · have hq : (x.oven == o) = true := beq_iff_eq.2 hxo
        have HX : Hid (l ++ [(k : Int)] = atTo s o (k + 1)) := Lib.hid (by rw [hst, if_pos hxo, hx.out])
        clear hst hx hxo
        have hown2 := hown.alloc (.cells #[.int .i64 k] 3)
        have hlt4 : ∀ q, u5.ownBlock = some q → W.heap.size ≤ q := fun q hq => (hown.lt q hq).1
        have HB2 := Lib.hid (hb.alloc (by omega) (.cells #[.int .i64 k] 3))
        clear hown hb hE
        go_wp2_with (at_builtin; refine wpList_append_lies _ rfl _ _ 30 rfl W.heap.size 3 ii (.int .i64 0) 1 8 Try.underlying30 hi hz0 hz1 hz2 rfl (by decide) _ l.length _ rfl hown2 ⟨wr.heap.size, 0, none⟩ 1 1 [.int .i64 k] rfl rfl (by have := cell_one_new wr (.int .i64 k) 3; simpa using this) (by simp [Value.oneCell']) (by omega) (by unfold maxLen; omega) (by omega) (by simp; omega) _ rfl ?_; intro g6 k6 w6 hown6 hgrow6 hat6 hlt6)
        have hb7 := HB2.out.grown hgrow6 (by simp; omega) (fun q hq => hlt4 q hq)
        have hownF : w6.ownsRow W.heap.size 3 1 (.slice (some ⟨g6, 0, none⟩) (l.length + 1) k6) (l ++ [(k : Int)]).length ((l ++ [(k : Int)]).map (Value.int .i64)) := by simpa using hown6
        clear hown6 hown2 hgrow6 hat6 HB2
        go_roundw
        case rel => exact ⟨k + 1, _, by omega, by go_num, HX, by simpa using hownF, hb7⟩
        case measure => simp [intOf]; omega
      · have hq : (x.oven == o) = false := by rw [beq_eq_false_iff_ne]; exact hxo
        have HX : Hid (l = atTo s o (k + 1)) := Lib.hid (by rw [hst, if_neg hxo, List.append_nil, hx.out])
        clear hst hx hxo hE
        go_wp2
        go_roundw
        case rel => exact ⟨k + 1, l, by omega, by go_num, HX, hown, hb⟩
        case measure => simp [intOf]; omega
    · obtain rfl : k = s.mks.length := by omega
      have aN : ¬ (s.mks.length : Int) < (s.mks.length : Int) := by omega
      have HX : Hid (l = mksAt s o) := hx
      have HR : Hid (RInts (vis (w.heap.size ≤ ·) wr) u5 (mksAt s o)) := Lib.hid (by
        rw [← HX.out]
        refine own_RInts (own_vis hown (fun q hq => by have := (hown.lt q hq).1; omega)) (by omega) (fun y hy => ?_)
        rw [HX.out] at hy
        have := mksAt_ok s o y hy
        unfold I64; omega)
      clear hx HX hown
      go_wp2
      go_ret
      exact ⟨⟨_, rfl, HR.out⟩, hE⟩

set_option maxHeartbeats 4000000 in
set_option maxRecDepth 100000 in
theorem rcol_any (s : Sn) (d : SA) (l : List Int) (al : Option Addr) (cl : Nat) (w : World) (h : SnD w s d) (hl : RInts w (.slice al l.length cl) l) (hs : ShOk s l) :
    Calls Try.prog 83 #[.agg #[.int .i64 s.days, .slice d.a1 s.arts.length d.c1, .slice d.a2 s.ovens.length d.c2, .slice d.a3 s.mks.length d.c3, .slice d.a4 s.jobs.length d.c4, .slice d.a5 s.cols.length d.c5, .slice d.a6 s.ods.length d.c6], .slice al l.length cl] w fun e w' => e = .returned (.int .i64 (colL s l)) ∧ Below w.heap.size w w' := by
  have HRA := Lib.hid h.arts
  have HL := Lib.hid hl
  have hA := below_box w (.cells #[.int .i64 s.days, .slice d.a1 s.arts.length d.c1, .slice d.a2 s.ovens.length d.c2, .slice d.a3 s.mks.length d.c3, .slice d.a4 s.jobs.length d.c4, .slice d.a5 s.cols.length d.c5, .slice d.a6 s.ods.length d.c6] 28)
  have hB := Blk.new w #[.int .i64 s.days, .slice d.a1 s.arts.length d.c1, .slice d.a2 s.ovens.length d.c2, .slice d.a3 s.mks.length d.c3, .slice d.a4 s.jobs.length d.c4, .slice d.a5 s.cols.length d.c5, .slice d.a6 s.ods.length d.c6] 28
  have hll := hl.len
  clear h hl
  go_enter Try.func83, Try.ntmps83
  go_upto_region 2 with (fail)
  generalize w.alloc (.cells #[.int .i64 s.days, .slice d.a1 s.arts.length d.c1, .slice d.a2 s.ovens.length d.c2, .slice d.a3 s.mks.length d.c3, .slice d.a4 s.jobs.length d.c4, .slice d.a5 s.cols.length d.c5, .slice d.a6 s.ods.length d.c6] 28) = W at *
  go_loopw [5] (fun i wr => ∃ k : Nat, k ≤ l.length ∧ i = .int .i64 k ∧ Hid (colL s l = colL s (l.drop k)) ∧ wr = W) (fun i _ => l.length - (intOf i).toNat)
  case atStart => exact ⟨0, Nat.zero_le _, rfl, Lib.hid (by simp), rfl⟩
  case round =>
    obtain ⟨k, hk, rfl, hx, rfl⟩ := hrel
    by_cases hlt : k < l.length
    · obtain ⟨b2, o2, he2, r0, -⟩ := ints_at HL.out hlt
      subst he2
      replace r0 := ext_of_below hA _ _ r0
      have j1 : (0 : Int) ≤ (k : Int) := Int.natCast_nonneg _
      have j2 : (k : Int) < (l.length : Int) := by omega
      have hst := colL_at (s := s) hlt
      rw [← hx.out] at hst
      have hbd := hs _ (List.getElem_mem hlt)
      generalize l[k] = a at *
      by_cases ha : a < 0
      · rw [if_pos ha] at hst
        have HX := Lib.hid hst
        have n1 : ¬ (0 : Int) ≤ a := by omega
        clear hst hx hbd
        go_wp2
        go_roundw
        case rel => exact ⟨k + 1, by omega, by go_num, HX, by trivial⟩
        case measure => simp [intOf]; omega
      · obtain ⟨an, rfl⟩ := Int.eq_ofNat_of_zero_le (show 0 ≤ a by omega)
        have hal : an < s.arts.length := by omega
        rw [if_neg ha] at hst
        obtain ⟨b3, o3, he3, ⟨-, q1, -⟩, -⟩ := rsl_at HRA.out hal
        simp only at q1
        replace q1 := ext_of_below hA _ _ q1
        have hcv : colr s (an : Int) = (s.arts[an]).col := by unfold colr; simp [List.getElem?_eq_getElem hal]
        rw [hcv] at hst
        have x1 := hB.cell 1 _ rfl
        rw [he3] at x1
        have HX := Lib.hid hst
        have n1 : (0 : Int) ≤ (an : Int) := Int.natCast_nonneg _
        have n2 : (an : Int) < (s.arts.length : Int) := by omega
        clear hst hx hcv he3 hbd ha
        generalize (s.arts[an]).col = cv at *
        have HA := Lib.hid hA
        go_wp2_with fail
        go_quiet (fail)
        go_wp2
        go_ret
        exact ⟨ret_int HX.out.symm, below_drewN HA.out _⟩
    · obtain rfl : k = l.length := by omega
      have aN : ¬ (l.length : Int) < (l.length : Int) := by omega
      have HX : Hid (colL s l = -1) := Lib.hid (by rw [hx.out, List.drop_length]; rfl)
      clear hx
      go_wp2
      go_ret
      exact ⟨ret_int HX.out.symm, hA⟩

set_option maxHeartbeats 8000000 in
set_option maxRecDepth 100000 in
theorem rpull_any (s : Sn) (d : SA) (ms l : List Int) (am al : Option Addr) (cm cl : Nat) (w : World) (h : SnD w s d) (ok : OkS s) (hm : RInts w (.slice am ms.length cm) ms) (hl : RInts w (.slice al l.length cl) l) (hs : ShOk s l) (hms : MsOk s ms) (hlen : l.length ≤ ms.length) (h6 : l.length ≤ 6) :
    Calls Try.prog 46 #[.agg #[.int .i64 s.days, .slice d.a1 s.arts.length d.c1, .slice d.a2 s.ovens.length d.c2, .slice d.a3 s.mks.length d.c3, .slice d.a4 s.jobs.length d.c4, .slice d.a5 s.cols.length d.c5, .slice d.a6 s.ods.length d.c6], .slice am ms.length cm, .slice al l.length cl] w fun e w' => e = .returned (.int .i64 (sumL s ms l l.length / 10000)) ∧ Below w.heap.size w w' := by
  have HS := Lib.hid h
  have HL := Lib.hid hl
  have HM := Lib.hid hm
  have HOK := Lib.hid ok
  have hA := below_box w (.cells #[.int .i64 s.days, .slice d.a1 s.arts.length d.c1, .slice d.a2 s.ovens.length d.c2, .slice d.a3 s.mks.length d.c3, .slice d.a4 s.jobs.length d.c4, .slice d.a5 s.cols.length d.c5, .slice d.a6 s.ods.length d.c6] 28)
  have hB := Blk.new w #[.int .i64 s.days, .slice d.a1 s.arts.length d.c1, .slice d.a2 s.ovens.length d.c2, .slice d.a3 s.mks.length d.c3, .slice d.a4 s.jobs.length d.c4, .slice d.a5 s.cols.length d.c5, .slice d.a6 s.ods.length d.c6] 28
  have hnm := ok.nm
  have hna := ok.na
  clear h hl hm ok
  go_enter Try.func46, Try.ntmps46
  go_upto_region 3 with (fail)
  generalize w.alloc (.cells #[.int .i64 s.days, .slice d.a1 s.arts.length d.c1, .slice d.a2 s.ovens.length d.c2, .slice d.a3 s.mks.length d.c3, .slice d.a4 s.jobs.length d.c4, .slice d.a5 s.cols.length d.c5, .slice d.a6 s.ods.length d.c6] 28) = W at *
  go_loopw [7, 8] (fun v i wr => ∃ k : Nat, k ≤ l.length ∧ i = .int .i64 k ∧ v = .int .i64 (sumL s ms l k) ∧ Below W.heap.size W wr) (fun _ i _ => l.length - (intOf i).toNat)
  case atStart => exact ⟨0, Nat.zero_le _, rfl, by simp [sumL], Below.refl _ _⟩
  case round =>
    obtain ⟨k, hk, rfl, rfl, hb⟩ := hrel
    have hE := hA.trans (hb.mono hA.size)
    by_cases hlt : k < l.length
    · have hkm : k < ms.length := by omega
      obtain ⟨b2, o2, he2, r0, -⟩ := ints_at HL.out hlt
      obtain ⟨b1, o1, he1, r1, -⟩ := ints_at HM.out hkm
      subst he2
      subst he1
      replace r0 := ext_of_below hE _ _ r0
      replace r1 := ext_of_below hE _ _ r1
      have j1 : (0 : Int) ≤ (k : Int) := Int.natCast_nonneg _
      have j2 : (k : Int) < (l.length : Int) := by omega
      have j3 : (k : Int) < (ms.length : Int) := by omega
      have hst := sumL_step s ms l k
      have hsb := sumL_bd HOK.out ms l k
      have hab := addL_bd HOK.out ms l k
      have hbd := hs _ (List.getElem_mem hlt)
      have hmb := hms _ (List.getElem_mem hkm)
      have hai : addL s ms l k = if l[k] < 0 then 0 else rate s ms[k] l[k] * wgt s l[k] := by unfold addL; rw [getD_at hlt, getD_at hkm]
      rw [hai] at hab hst
      generalize l[k] = a at *
      generalize ms[k] = m at *
      obtain ⟨mn, rfl⟩ := Int.eq_ofNat_of_zero_le hmb.1
      have hml : mn < s.mks.length := by omega
      by_cases ha : a < 0
      · rw [if_pos ha, Int.add_zero] at hst
        have HX : Hid (Value.int .i64 (sumL s ms l k) = .int .i64 (sumL s ms l (k + 1))) := Lib.hid (by rw [hst])
        have n1 : ¬ (0 : Int) ≤ a := by omega
        clear hst hab hai hbd hsb
        generalize sumL s ms l k = sv at *
        go_wp2
        go_roundw
        case rel => exact ⟨k + 1, by omega, by go_num, HX.out, hb⟩
        case measure => simp [intOf]; omega
      · obtain ⟨an, rfl⟩ := Int.eq_ofNat_of_zero_le (show 0 ≤ a by omega)
        have hal : an < s.arts.length := by omega
        have hrl : an < s.mks[mn].rates.length := by rw [(HOK.out.mkr _ (List.getElem_mem hml)).2.1.1]; exact hal
        rw [if_neg ha, rate_at hml hrl, wgt_at hal] at hst hab
        obtain ⟨b3, o3, he3, ⟨-, -, q2⟩, -⟩ := rsl_at HS.out.arts hal
        obtain ⟨b4, o4, he4, v4, ⟨-, p1, -, -⟩, -, hri, -⟩ := rsl_at HS.out.mks hml
        obtain ⟨ar, cr, rfl⟩ := hri.shape
        obtain ⟨b5, o5, he5, t0, -⟩ := ints_at hri hrl
        subst he5
        simp only at q2 p1
        replace q2 := ext_of_below hE _ _ q2
        replace p1 := ext_of_below hE _ _ p1
        replace t0 := ext_of_below hE _ _ t0
        have x1 := (hB.below hb hB.lt).cell 1 _ rfl
        have x3 := (hB.below hb hB.lt).cell 3 _ rfl
        rw [he3] at x1
        rw [he4] at x3
        have HX : Hid (Value.int .i64 (sumL s ms l k + s.mks[mn].rates[an] * s.arts[an].wt) = .int .i64 (sumL s ms l (k + 1))) := Lib.hid (by rw [hst])
        have n1 : (0 : Int) ≤ (an : Int) := Int.natCast_nonneg _
        have n2 : (an : Int) < (s.arts.length : Int) := by omega
        have n3 : (0 : Int) ≤ (mn : Int) := Int.natCast_nonneg _
        have n4 : (mn : Int) < (s.mks.length : Int) := by omega
        have n5 : (an : Int) < (s.mks[mn].rates.length : Int) := by omega
        clear hst hai he3 he4 hbd hmb ha hri
        generalize s.mks[mn].rates[an] = rv at *
        generalize s.mks[mn].rates.length = rl at *
        generalize s.arts[an].wt = wv at *
        generalize sumL s ms l k = sv at *
        have z1 := wrap_id (rv * wv) (by unfold I64; omega)
        have z2 := wrap_id (sv + rv * wv) (by unfold I64; omega)
        clear hab hsb hrl hal hml
        go_wp2_with fail
        go_quiet (fail)
        go_wp2
        go_roundw
        case rel => exact ⟨k + 1, by omega, by go_num, by rw [z2]; exact HX.out, below_drewN hb _⟩
        case measure => simp [intOf]; omega
    · obtain rfl : k = l.length := by omega
      have aN : ¬ (l.length : Int) < (l.length : Int) := by omega
      have hsb := sumL_bd HOK.out ms l l.length
      obtain ⟨sv, hsv⟩ : ∃ v, sumL s ms l l.length = v := ⟨_, rfl⟩
      rw [hsv] at hsb ⊢
      have HSV := Lib.hid hsv
      clear hsv
      have zt : sv.tdiv 10000 = sv / 10000 := Int.tdiv_eq_ediv_of_nonneg hsb.1
      have zw := wrap_id (sv / 10000) (by unfold I64; omega)
      have HZ : Hid (wrap64 (sv.tdiv 10000) = sv / 10000 ∧ sv.tdiv 10000 = sv / 10000) := Lib.hid ⟨by rw [zt, zw], zt⟩
      clear zt zw hb
      go_wp2
      go_ret
      exact ⟨ret_int (by rw [HSV.out]), hE⟩
end Go.Proofs.Ytdffhkbncencgaa

namespace Go.Proofs.Ytdffhkbncencgaa
open Go.RowKit Go.PlainAid
set_option linter.unusedVariables false
set_option linter.unusedSimpArgs false

def placeB (s : Sn) (ms : List Int) (c : Int) (l : List Int) (i : Nat) : Bool := decide (l.getD i 0 < 0) || (!decide (rate s (ms.getD i 0) (l.getD i 0) = 0) && decide (colr s (l.getD i 0) = c))
def mayL (s : Sn) (k : Nat) (l : List Int) : Bool := (List.range l.length).all (placeB s (mksAt s k) (colL s l) l) && btw (sumL s (mksAt s k) l l.length / 10000) (ovAt s k).x.lo (ovAt s k).x.hi
theorem all_step {n : Nat} {p : Nat → Bool} : (List.range (n + 1)).all p = ((List.range n).all p && p n) := by rw [List.range_succ, List.all_append]; simp
theorem all_bad {n k : Nat} {p : Nat → Bool} (h : k < n) (hp : p k = false) : (List.range n).all p = false := by
  rw [List.all_eq_false]
  exact ⟨k, List.mem_range.2 h, by rw [hp]; decide⟩
theorem colr_at8 {s : Sn} {an : Nat} (h : an < s.arts.length) : colr s (an : Int) = (s.arts[an]).col := by unfold colr; simp [List.getElem?_eq_getElem h]

set_option maxHeartbeats 16000000 in
set_option maxRecDepth 100000 in
theorem rmay_any (s : Sn) (d : SA) (k : Nat) (l : List Int) (al : Option Addr) (cl : Nat) (w : World) (h : SnD w s d) (ok : OkS s) (hk : k < s.ovens.length) (hl : RInts w (.slice al l.length cl) l) (hs : ShOk s l) (hlen : l.length = (mksAt s k).length) :
    Calls Try.prog 63 #[.agg #[.int .i64 s.days, .slice d.a1 s.arts.length d.c1, .slice d.a2 s.ovens.length d.c2, .slice d.a3 s.mks.length d.c3, .slice d.a4 s.jobs.length d.c4, .slice d.a5 s.cols.length d.c5, .slice d.a6 s.ods.length d.c6], .int .i64 k, .slice al l.length cl] w fun e w' => e = .returned (.bool (mayL s k l)) ∧ Below w.heap.size w w' := by
  have HS := Lib.hid (fun V (hV : Below w.heap.size w V) => h.mono (ext_of_below hV))
  have HL := Lib.hid (fun V (hV : Below w.heap.size w V) => hl.mono (ext_of_below hV))
  have HOK := Lib.hid ok
  have hA := below_box w (.cells #[.int .i64 s.days, .slice d.a1 s.arts.length d.c1, .slice d.a2 s.ovens.length d.c2, .slice d.a3 s.mks.length d.c3, .slice d.a4 s.jobs.length d.c4, .slice d.a5 s.cols.length d.c5, .slice d.a6 s.ods.length d.c6] 28)
  have hB := Blk.new w #[.int .i64 s.days, .slice d.a1 s.arts.length d.c1, .slice d.a2 s.ovens.length d.c2, .slice d.a3 s.mks.length d.c3, .slice d.a4 s.jobs.length d.c4, .slice d.a5 s.cols.length d.c5, .slice d.a6 s.ods.length d.c6] 28
  have hnm := ok.nm
  have hna := ok.na
  have h6 : l.length ≤ 6 := by rw [hlen]; exact Nat.le_trans (mksAt_len s k) hnm
  have hms := mksAt_ok s k
  have HLN := Lib.hid hlen
  have hmy : mayL s k l = ((List.range l.length).all (placeB s (mksAt s k) (colL s l) l) && btw (sumL s (mksAt s k) l l.length / 10000) (ovAt s k).x.lo (ovAt s k).x.hi) := rfl
  clear h hl ok hlen
  go_enter Try.func63, Try.ntmps63
  go_upto_region 1 with (fail)
  generalize w.alloc (.cells #[.int .i64 s.days, .slice d.a1 s.arts.length d.c1, .slice d.a2 s.ovens.length d.c2, .slice d.a3 s.mks.length d.c3, .slice d.a4 s.jobs.length d.c4, .slice d.a5 s.cols.length d.c5, .slice d.a6 s.ods.length d.c6] 28) = W at *
  have x0 := hB.cell 0 _ rfl
  have x1 := hB.cell 1 _ rfl
  have x2 := hB.cell 2 _ rfl
  have x3 := hB.cell 3 _ rfl
  have x4 := hB.cell 4 _ rfl
  have x5 := hB.cell 5 _ rfl
  have x6 := hB.cell 6 _ rfl
  go_wp2_with fail
  refine (rAt_any s d (k : Int) W (HS.out _ hA) hnm).mono ?_
  rintro e w1 ⟨⟨v, rfl, hv⟩, hb⟩
  replace hv := hv.mono vis_out
  clear x0 x1 x2 x3 x4 x5 x6
  replace hB := hB.below hb hB.lt
  replace hA := hA.trans (hb.mono hA.size)
  clear hb
  obtain ⟨am, cm, rfl⟩ := hv.shape
  have HM := Lib.hid hv
  clear hv
  generalize mksAt s k = ms at *
  have x0 := hB.cell 0 _ rfl
  have x1 := hB.cell 1 _ rfl
  have x2 := hB.cell 2 _ rfl
  have x3 := hB.cell 3 _ rfl
  have x4 := hB.cell 4 _ rfl
  have x5 := hB.cell 5 _ rfl
  have x6 := hB.cell 6 _ rfl
  go_wp2_with fail
  refine (rcol_any s d l al cl w1 (HS.out _ hA) (HL.out _ hA) hs).mono ?_
  rintro e w2 ⟨rfl, hb⟩
  clear x0 x1 x2 x3 x4 x5 x6
  replace hB := hB.below hb hB.lt
  replace hA := hA.trans (hb.mono hA.size)
  replace HM := Lib.hid (HM.out.mono (ext_of_below hb))
  clear hb
  go_upto_region 4 with (fail)
  obtain ⟨c, hc⟩ : ∃ c, colL s l = c := ⟨_, rfl⟩
  rw [hc] at hmy ⊢
  have HMY := Lib.hid hmy
  clear hc hmy
  obtain ⟨al', hal'⟩ : ∃ a, a = al := ⟨_, rfl⟩
  go_loopw [9] (fun i wr => ∃ m : Nat, m ≤ l.length ∧ i = .int .i64 m ∧ Hid ((List.range m).all (placeB s ms c l) = true) ∧ Below w2.heap.size w2 wr) (fun i _ => l.length - (intOf i).toNat)
  case atStart => exact ⟨0, Nat.zero_le _, rfl, Lib.hid (by simp), Below.refl _ _⟩
  case round =>
    obtain ⟨m, hm, rfl, hx, hb⟩ := hrel
    have hE := hA.trans (hb.mono hA.size)
    by_cases hlt : m < l.length
    case pos =>
      have hmm : m < ms.length := by rw [← HLN.out]; exact hlt
      obtain ⟨b2, o2, he2, r0, -⟩ := ints_at (HL.out _ hE) hlt
      obtain ⟨b1, o1, he1, r1, -⟩ := ints_at (HM.out.mono (ext_of_below hb)) hmm
      subst he2
      subst he1
      have j1 : (0 : Int) ≤ (m : Int) := Int.natCast_nonneg _
      have j2 : (m : Int) < (l.length : Int) := by omega
      have j3 : (m : Int) < (ms.length : Int) := by omega
      have hpl : placeB s ms c l m = (decide (l[m] < 0) || (!decide (rate s ms[m] l[m] = 0) && decide (colr s l[m] = c))) := by unfold placeB; rw [getD_at hlt, getD_at hmm]
      have hbd := hs _ (List.getElem_mem hlt)
      have hmb := hms _ (List.getElem_mem hmm)
      have HBAD : Hid (placeB s ms c l m = false → ((List.range l.length).all (placeB s ms c l) && btw (sumL s ms l l.length / 10000) (ovAt s k).x.lo (ovAt s k).x.hi) = false) := Lib.hid (fun hp => by rw [all_bad hlt hp]; rfl)
      have HGO : Hid (placeB s ms c l m = true → (List.range (m + 1)).all (placeB s ms c l) = true) := Lib.hid (fun hp => by rw [all_step, hx.out, hp]; rfl)
      rw [hpl] at HBAD HGO
      clear hx hpl
      generalize l[m] = a at *
      generalize ms[m] = mm at *
      obtain ⟨mn, rfl⟩ := Int.eq_ofNat_of_zero_le hmb.1
      have hml : mn < s.mks.length := by omega
      by_cases ha : a < 0
      · have n1 : decide ((0 : Int) ≤ a) = false := decide_eq_false (by omega)
        have HX := Lib.hid (HGO.out (by rw [decide_eq_true ha]; rfl))
        clear HBAD HGO hbd
        go_wp2_with fail
        go_quiet (fail)
        go_wp2
        go_roundw
        case rel => exact ⟨m + 1, by omega, by go_num, HX, below_drewN hb _⟩
        case measure => simp [intOf]; omega
      · obtain ⟨an, rfl⟩ := Int.eq_ofNat_of_zero_le (show 0 ≤ a by omega)
        have hal : an < s.arts.length := by omega
        have hrl : an < s.mks[mn].rates.length := by rw [(HOK.out.mkr _ (List.getElem_mem hml)).2.1.1]; exact hal
        rw [rate_at hml hrl, colr_at8 hal] at HBAD HGO
        obtain ⟨b3, o3, he3, ⟨-, q1, -⟩, -⟩ := rsl_at (HS.out _ hE).arts hal
        obtain ⟨b4, o4, he4, v4, ⟨-, p1, -, -⟩, -, hri, -⟩ := rsl_at (HS.out _ hE).mks hml
        obtain ⟨ar, cr, rfl⟩ := hri.shape
        obtain ⟨b5, o5, he5, t0, -⟩ := ints_at hri hrl
        subst he5
        simp only at q1 p1
        have x1 := (hB.below hb hB.lt).cell 1 _ rfl
        have x3 := (hB.below hb hB.lt).cell 3 _ rfl
        rw [he3] at x1
        rw [he4] at x3
        have n1 : decide ((0 : Int) ≤ (an : Int)) = true := decide_eq_true (by omega)
        have n2 : (an : Int) < (s.arts.length : Int) := by omega
        have n3 : (0 : Int) ≤ (mn : Int) := Int.natCast_nonneg _
        have n4 : (mn : Int) < (s.mks.length : Int) := by omega
        have n5 : (an : Int) < (s.mks[mn].rates.length : Int) := by omega
        have n6 : (0 : Int) ≤ (an : Int) := Int.natCast_nonneg _
        rw [decide_eq_false ha] at HBAD HGO
        clear he3 he4 hbd hmb ha hri
        generalize s.mks[mn].rates[an] = rv at *
        generalize s.mks[mn].rates.length = rl at *
        generalize (s.arts[an]).col = cv at *
        clear hrl hml hal
        by_cases hr0 : rv = 0
        · subst hr0
          have n7 : ((0 : Int) == 0) = true := by decide
          have HX := Lib.hid (HBAD.out (by simp))
          have HE := Lib.hid hE
          clear HBAD HGO
          go_wp2_with fail
          go_quiet (fail)
          go_wp2
          go_ret
          exact ⟨by rw [HMY.out, HX.out]; rfl, below_drewN HE.out _⟩
        have n7 : (rv == 0) = false := by simpa using hr0
        by_cases hcc : cv = c
        · subst hcc
          have n8 : (cv != cv) = false := by simp
          have HX := Lib.hid (HGO.out (by simp [hr0]))
          clear HBAD HGO hr0
          go_wp2_with fail
          go_quiet (fail)
          go_wp2
          go_roundw
          case rel => exact ⟨m + 1, by omega, by go_num, HX, below_drewN hb _⟩
          case measure => simp [intOf]; omega
        · have n8 : (cv != c) = true := by simp [hcc]
          have HX := Lib.hid (HBAD.out (by simp [hcc]))
          have HE := Lib.hid hE
          clear HBAD HGO hr0 hcc
          go_wp2_with fail
          go_quiet (fail)
          go_wp2
          go_ret
          exact ⟨by rw [HMY.out, HX.out]; rfl, below_drewN HE.out _⟩
    case neg =>
    obtain rfl : m = l.length := by omega
    have aN : ¬ (l.length : Int) < (l.length : Int) := by omega
    obtain ⟨b8, o8, he8, ⟨p0, p1, -⟩⟩ := rsl_at (HS.out _ hE).ovens hk
    simp only at p0 p1
    have hxv : (ovAt s k).x = s.ovens[k] := by unfold ovAt; simp [List.getElem?_eq_getElem hk]
    have hmy := HMY.out
    rw [hxv, hx.out, Bool.true_and] at hmy
    have hko : (k : Int) < (s.ovens.length : Int) := by omega
    have hk0 : (0 : Int) ≤ (k : Int) := Int.natCast_nonneg _
    have HE8 := Lib.hid he8
    have HXX := Lib.hid hx.out
    have hBr := hB.below hb hB.lt
    clear he8 hxv hx
    obtain ⟨ov, hov⟩ : ∃ o, s.ovens[k] = o := ⟨_, rfl⟩
    rw [hov] at p0 p1 hmy
    have HMZ := Lib.hid hmy
    clear hov hmy
    go_upto_region 9 with (fail)
    have D0 : Below wr.heap.size wr wr.drew := (Below.refl _ _).drew
    have HSV : Hid (∀ V, Below wr.heap.size wr V → (fun w' : World => (w'.rangeAt w.heap.size 0 (#[.int .i64 s.days, .slice d.a1 s.arts.length d.c1, .slice d.a2 s.ovens.length d.c2, .slice d.a3 s.mks.length d.c3, .slice d.a4 s.jobs.length d.c4, .slice d.a5 s.cols.length d.c5, .slice d.a6 s.ods.length d.c6]).toList ∧ w'.cell? ⟨w.heap.size, 2, none⟩ = some (.slice (some ⟨b8, o8, none⟩) s.ovens.length d.c2)) ∧ w'.cell? ⟨b8, o8 + k * 2, none⟩ = some (.int .i64 ov.lo) ∧ w'.cell? ⟨b8, o8 + k * 2 + 1, none⟩ = some (.int .i64 ov.hi)) V) := Lib.hid (fun V hV => ⟨⟨(hBr.below hV hBr.lt).range, by have := (hBr.below hV hBr.lt).cell 2 _ rfl; rw [HE8.out] at this; exact this⟩, ext_of_below hV _ _ p0, ext_of_below hV _ _ p1⟩)
    refine wp_region_till (fun w' : World => (w'.rangeAt w.heap.size 0 (#[.int .i64 s.days, .slice d.a1 s.arts.length d.c1, .slice d.a2 s.ovens.length d.c2, .slice d.a3 s.mks.length d.c3, .slice d.a4 s.jobs.length d.c4, .slice d.a5 s.cols.length d.c5, .slice d.a6 s.ods.length d.c6]).toList ∧ w'.cell? ⟨w.heap.size, 2, none⟩ = some (.slice (some ⟨b8, o8, none⟩) s.ovens.length d.c2)) ∧ w'.cell? ⟨b8, o8 + k * 2, none⟩ = some (.int .i64 ov.lo) ∧ w'.cell? ⟨b8, o8 + k * 2 + 1, none⟩ = some (.int .i64 ov.hi)) 18 (by kernel_rfl) (HSV.out _ D0) (fun hHeld => ?_)
    have HD0 := Lib.hid D0
    have HEE := Lib.hid hE
    have HBB := Lib.hid hb
    clear D0 p0 p1 hBr hE hb hB hA
    generalize wr.drew = wd at *
    refine Till.take 0 (some 54) (v := .agg #[.int .i64 s.days, .slice d.a1 s.arts.length d.c1, .slice d.a2 s.ovens.length d.c2, .slice d.a3 s.mks.length d.c3, .slice d.a4 s.jobs.length d.c4, .slice d.a5 s.cols.length d.c5, .slice d.a6 s.ods.length d.c6]) rfl rfl (by kernel_rfl) (by kernel_rfl) (by kernel_rfl) (by kernel_rfl) (fun _ _ _ h => h) (yieldsIf_load_mid rfl 28 (Operand.tmp 3) rfl (w.heap.size) 0 rfl (#[.int .i64 s.days, .slice d.a1 s.arts.length d.c1, .slice d.a2 s.ovens.length d.c2, .slice d.a3 s.mks.length d.c3, .slice d.a4 s.jobs.length d.c4, .slice d.a5 s.cols.length d.c5, .slice d.a6 s.ods.length d.c6]).toList _ (fun _ h => h.1.1) Try.underlying28 rfl (by rw [sz_season]; rfl)) (by assumption) ?_
    try simp only [Act.put, List.setIfInBounds_toArray, List.set_cons_zero, List.set_cons_succ]
    refine Till.take 1 (some 55) (v := ?_) rfl rfl (by kernel_rfl) (by kernel_rfl) (by kernel_rfl) (by kernel_rfl) (fun _ _ _ h => h) (Or.inl ⟨by rfl, ?_⟩) (by assumption) ?_
    rotate_left
    · (intro w hSw; (try dsimp only at hSw); go_simp; try with_reducible rfl)
    try simp only [Act.put, List.setIfInBounds_toArray, List.set_cons_zero, List.set_cons_succ]
    refine Till.take 2 (some 56) (v := ?_) rfl rfl (by kernel_rfl) (by kernel_rfl) (by kernel_rfl) (by kernel_rfl) (fun _ _ _ h => h) (Or.inl ⟨by rfl, ?_⟩) (by assumption) ?_
    rotate_left
    · (intro w hSw; (try dsimp only at hSw); go_simp; try with_reducible rfl)
    try simp only [Act.put, List.setIfInBounds_toArray, List.set_cons_zero, List.set_cons_succ]
    refine Till.take 4 (some 58) (v := ?_) rfl rfl (by kernel_rfl) (by kernel_rfl) (by kernel_rfl) (by kernel_rfl) (fun _ _ _ h => h) (Or.inl ⟨by rfl, ?_⟩) (by assumption) ?_
    rotate_left
    · (intro w hSw; (try dsimp only at hSw); go_simp; try with_reducible rfl)
    try simp only [Act.put, List.setIfInBounds_toArray, List.set_cons_zero, List.set_cons_succ]
    refine Till.take 5 (some 59) (v := ?_) rfl rfl (by kernel_rfl) (by kernel_rfl) (by kernel_rfl) (by kernel_rfl) (fun _ _ _ h => h) (Or.inl ⟨by rfl, ?_⟩) (by assumption) ?_
    rotate_left
    · (intro w hSw; (try dsimp only at hSw); go_simp; try with_reducible rfl)
    try simp only [Act.put, List.setIfInBounds_toArray, List.set_cons_zero, List.set_cons_succ]
    refine Till.take 6 (some 60) (v := ?_) rfl rfl (by kernel_rfl) (by kernel_rfl) (by kernel_rfl) (by kernel_rfl) (fun _ _ _ h => h) (Or.inl ⟨by rfl, ?_⟩) (by assumption) ?_
    rotate_left
    · (intro w hSw; (try dsimp only at hSw); go_simp; try with_reducible rfl)
    try simp only [Act.put, List.setIfInBounds_toArray, List.set_cons_zero, List.set_cons_succ]
    refine Till.take 7 (some 61) (v := ?_) rfl rfl (by kernel_rfl) (by kernel_rfl) (by kernel_rfl) (by kernel_rfl) (fun _ _ _ h => h) (Or.inl ⟨by rfl, ?_⟩) (by assumption) ?_
    rotate_left
    · (intro w hSw; (try dsimp only at hSw); go_simp; try with_reducible rfl)
    try simp only [Act.put, List.setIfInBounds_toArray, List.set_cons_zero, List.set_cons_succ]
    refine Till.take 8 (some 62) (v := ?_) rfl rfl (by kernel_rfl) (by kernel_rfl) (by kernel_rfl) (by kernel_rfl) (fun _ _ _ h => h) (Or.inl ⟨by rfl, ?_⟩) (by assumption) ?_
    rotate_left
    · (intro w hSw; (try dsimp only at hSw); go_simp; try with_reducible rfl)
    try simp only [Act.put, List.setIfInBounds_toArray, List.set_cons_zero, List.set_cons_succ]
    refine Till.take 9 (some 63) (v := ?_) rfl rfl (by kernel_rfl) (by kernel_rfl) (by kernel_rfl) (by kernel_rfl) (fun _ _ _ h => h) (Or.inl ⟨by rfl, ?_⟩) (by assumption) ?_
    rotate_left
    · (intro w hSw; (try dsimp only at hSw); go_simp; try with_reducible rfl)
    try simp only [Act.put, List.setIfInBounds_toArray, List.set_cons_zero, List.set_cons_succ]
    refine Till.take 10 (some 64) (v := ?_) rfl rfl (by kernel_rfl) (by kernel_rfl) (by kernel_rfl) (by kernel_rfl) (fun _ _ _ h => h) (Or.inl ⟨by rfl, ?_⟩) (by assumption) ?_
    rotate_left
    · (intro w hSw; (try dsimp only at hSw); go_simp; try with_reducible rfl)
    try simp only [Act.put, List.setIfInBounds_toArray, List.set_cons_zero, List.set_cons_succ]
    refine Till.take 11 (some 65) (v := ?_) rfl rfl (by kernel_rfl) (by kernel_rfl) (by kernel_rfl) (by kernel_rfl) (fun _ _ _ h => h) (Or.inl ⟨by rfl, ?_⟩) (by assumption) ?_
    rotate_left
    · (intro w hSw; (try dsimp only at hSw); go_simp; try with_reducible rfl)
    try simp only [Act.put, List.setIfInBounds_toArray, List.set_cons_zero, List.set_cons_succ]
    refine Till.take 12 (some 66) (v := ?_) rfl rfl (by kernel_rfl) (by kernel_rfl) (by kernel_rfl) (by kernel_rfl) (fun _ _ _ h => h) (Or.inl ⟨by rfl, ?_⟩) (by assumption) ?_
    rotate_left
    · (intro w hSw; (try dsimp only at hSw); go_simp; try with_reducible rfl)
    try simp only [Act.put, List.setIfInBounds_toArray, List.set_cons_zero, List.set_cons_succ]
    refine Till.take 13 (some 67) (v := ?_) rfl rfl (by kernel_rfl) (by kernel_rfl) (by kernel_rfl) (by kernel_rfl) (fun _ _ _ h => h) (Or.inl ⟨by rfl, ?_⟩) (by assumption) ?_
    rotate_left
    · (intro w hSw; (try dsimp only at hSw); go_simp; try with_reducible rfl)
    try simp only [Act.put, List.setIfInBounds_toArray, List.set_cons_zero, List.set_cons_succ]
    refine Till.take 14 (some 68) (v := ?_) rfl rfl (by kernel_rfl) (by kernel_rfl) (by kernel_rfl) (by kernel_rfl) (fun _ _ _ h => h) (Or.inl ⟨by rfl, ?_⟩) (by assumption) ?_
    rotate_left
    · (intro w hSw; (try dsimp only at hSw); go_simp; try with_reducible rfl)
    try simp only [Act.put, List.setIfInBounds_toArray, List.set_cons_zero, List.set_cons_succ]
    refine Till.take 15 (some 69) (v := ?_) rfl rfl (by kernel_rfl) (by kernel_rfl) (by kernel_rfl) (by kernel_rfl) (fun _ _ _ h => h) (Or.inl ⟨by rfl, ?_⟩) (by assumption) ?_
    rotate_left
    · (intro w hSw; (try dsimp only at hSw); go_simp; try with_reducible rfl)
    try simp only [Act.put, List.setIfInBounds_toArray, List.set_cons_zero, List.set_cons_succ]
    refine Till.one 3 rfl (by kernel_rfl) (fun K hK => ?_)
    go_simp
    go_at_call 46
    have hEd := HEE.out.trans (HD0.out.mono HEE.out.size)
    refine (rpull_any s d ms l am al cm cl wd (HS.out _ hEd) HOK.out (HM.out.mono (ext_of_below (HBB.out.trans (HD0.out.mono HBB.out.size)))) (HL.out _ hEd) hs hms (Nat.le_of_eq HLN.out) h6).mono ?_
    rintro e w5 ⟨rfl, hb5⟩
    have hD5 := HD0.out.trans (hb5.mono HD0.out.size)
    have hh5 := HSV.out _ hD5
    refine hK.out _ _ (fun _ => hh5) (fun hHeld5 => ?_)
    clear hK K hb5
    try simp only [Act.put, List.setIfInBounds_toArray, List.set_cons_zero, List.set_cons_succ]
    refine Till.one 16 rfl (by kernel_rfl) (fun K hK => ?_)
    go_simp
    go_at_call 34
    refine (rwithin8_any (sumL s ms l l.length / 10000) ov.lo ov.hi w5).mono ?_
    rintro e w' ⟨rfl, hw'⟩
    obtain rfl := hw'.symm
    clear hw'
    refine hK.out _ _ (fun _ => hh5) (fun hHeld6 => ?_)
    clear hK K
    try simp only [Act.put, List.setIfInBounds_toArray, List.set_cons_zero, List.set_cons_succ]
    have HE5 := Lib.hid (HEE.out.trans (hD5.mono HEE.out.size))
    clear hHeld hHeld5 HSV HD0 hEd hD5 HBB
    refine Till.take 17 (some 6) (v := ?_) rfl rfl (by kernel_rfl) (by kernel_rfl) (by kernel_rfl) (by kernel_rfl) (fun _ _ _ h => h) (Or.inl ⟨by rfl, ?_⟩) (by assumption) ?_
    rotate_left
    · (intro w hSw; (try dsimp only at hSw); go_simp; try with_reducible rfl)
    try simp only [Act.put, List.setIfInBounds_toArray, List.set_cons_zero, List.set_cons_succ]
    refine Till.done (by kernel_rfl) ?_ _
    go_wp2
    go_ret
    exact ⟨by rw [HMZ.out]; rfl, HE5.out⟩
end Go.Proofs.Ytdffhkbncencgaa
