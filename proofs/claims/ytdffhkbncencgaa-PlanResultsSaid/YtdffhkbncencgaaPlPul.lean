/- What is pulled of each furnace on each day: plan.Pulls; no statement is proved here. -/
import Derived.Test.YtdffhkbncencgaaPlAcc
import Derived.Test.YtdffhkbncencgaaPlCost
import Derived.Test.YtdffhkbncencgaaPlTab
namespace Go.Proofs.Ytdffhkbncencgaa
open Go.RowKit Go.PlainAid
set_option linter.unusedVariables false
set_option linter.unusedSimpArgs false

def setRC (T : List (List Int)) (i j : Nat) (v : Int) : List (List Int) := T.set i ((T.getD i []).set j v)
theorem setRC_len (T : List (List Int)) (i j : Nat) (v : Int) : (setRC T i j v).length = T.length := by simp [setRC]
theorem intsC_set (l : List Int) (j : Nat) (v : Int) : (intsC l).setIfInBounds j (.int .i64 v) = intsC (l.set j v) := by
  unfold intsC; simp [List.map_set]
theorem nodup_ne {l : List Nat} (h : l.Nodup) {i k : Nat} (hi : i < l.length) (hk : k < l.length) (e : i ≠ k) : l[i] ≠ l[k] := by
  rcases Nat.lt_or_gt_of_ne e with h1 | h1
  · exact List.pairwise_iff_getElem.1 h i k hi hk h1
  · exact fun x => List.pairwise_iff_getElem.1 h k i hk hi h1 x.symm
theorem Tbl.set {w : World} {q c : Nat} {qs : List Nat} {T : List (List Int)} (h : Tbl w q c qs T) {i j : Nat} (hi : i < qs.length) (hj : j < c) (v : Int) : Tbl (w.setCell ⟨qs[i], j, none⟩ (.int .i64 v)) q c qs (setRC T i j v) := by
  have hiT : i < T.length := by rw [← h.len]; exact hi
  refine ⟨by rw [setRC_len]; exact h.len, h.out.other ⟨qs[i], j, none⟩ _ (by have := (h.row i hi hiT).2.1; simp only; omega), fun k h1 h2 => ?_, h.nd⟩
  have hkT : k < T.length := by rw [setRC_len] at h2; exact h2
  obtain ⟨r1, r2, r3⟩ := h.row k h1 hkT
  have hk : (setRC T i j v)[k]'h2 = if i = k then (T.getD i []).set j v else T[k] := by simp only [setRC, List.getElem_set]
  rw [hk]
  clear hk
  by_cases e : i = k
  · subst e
    rw [if_pos rfl]
    have hg : T.getD i [] = T[i] := by simp [List.getD, List.getElem?_eq_getElem hiT]
    rw [hg]
    refine ⟨?_, r2, by rw [List.length_set]; exact r3⟩
    have := r1.set j (.int .i64 v)
    rwa [intsC_set] at this
  · rw [if_neg e]
    exact ⟨r1.other ⟨qs[i], j, none⟩ _ (by simp only; exact nodup_ne h.nd hi h1 e), r2, r3⟩
theorem Tbl.below {w w' : World} {q c : Nat} {qs : List Nat} {T : List (List Int)} (h : Tbl w q c qs T) (hb : Below w.heap.size w w') : Tbl w' q c qs T :=
  ⟨h.len, h.out.below hb h.out.lt, fun k h1 h2 => ⟨(h.row k h1 h2).1.below hb (h.row k h1 h2).1.lt, (h.row k h1 h2).2⟩, h.nd⟩
theorem Tbl.own {B q c : Nat} {qs : List Nat} {T : List (List Int)} : OwnFrom B (fun (_ : Unit) W => Tbl W q c qs T) := fun s X Y row h hg hr =>
  ⟨h.len, (blk_own (β := Unit) q _ (fun _ => (qs.map (rowV c)).toArray)) () X Y row h.out hg (fun r e => (hr r e).2), fun k h1 h2 => ⟨(blk_own (β := Unit) qs[k] _ (fun _ => intsC T[k])) () X Y row (h.row k h1 h2).1 hg (fun r e => (hr r e).2), (h.row k h1 h2).2⟩, h.nd⟩
/-- a table's row. -/
theorem Tbl.at {w : World} {q c : Nat} {qs : List Nat} {T : List (List Int)} (h : Tbl w q c qs T) {i : Nat} (hi : i < qs.length) : w.cell? ⟨q, i, none⟩ = some (.slice (some ⟨qs[i], 0, none⟩) c c) :=
  h.out.cell i _ (by simp [hi, rowV])
theorem Tbl.cell {w : World} {q c : Nat} {qs : List Nat} {T : List (List Int)} (h : Tbl w q c qs T) {i j : Nat} (hi : i < qs.length) (hj : j < c) : (∃ x, w.cell? ⟨qs[i], j, none⟩ = some (.int .i64 x)) ∧ w.frozen? ⟨qs[i], j, none⟩ = false := by
  have hiT : i < T.length := by rw [← h.len]; exact hi
  obtain ⟨r1, r2, r3⟩ := h.row i hi hiT
  have hjl : j < (T[i]).length := by rw [r3]; exact hj
  exact ⟨⟨(T[i])[j], r1.cell j _ (by unfold intsC; simp [hjl])⟩, r1.frozen j⟩
theorem Tbl.rows {w : World} {q c : Nat} {qs : List Nat} {T : List (List Int)} (h : Tbl w q c qs T) {S : Nat → Prop} (hq : S q) (hqs : ∀ i (hi : i < qs.length), S qs[i]) (hn : qs.length ≤ 100) (hc : c ≤ 100) (hI : ∀ r ∈ T, ∀ x ∈ r, I64 x) : RRows (vis S w) (.slice (some ⟨q, 0, none⟩) T.length T.length) T :=
  ⟨_, _, rfl, Nat.le_refl _, ⟨by have := h.len; omega, by have := h.len; omega⟩, fun i hi => ⟨q, 0, rfl, by
    have hiq : i < qs.length := by rw [h.len]; exact hi
    obtain ⟨r1, r2, r3⟩ := h.row i hiq hi
    refine ⟨_, vis_cell.2 ⟨hq, by have := h.at hiq; simpa using this⟩, ?_⟩
    exact ⟨_, _, by rw [r3], Nat.le_refl _, ⟨by omega, by omega⟩, fun j hj => ⟨qs[i], 0, rfl, vis_cell.2 ⟨hqs i hiq, by have := r1.cell j (.int .i64 (T[i])[j]) (by unfold intsC; simp [hj]); simpa using this⟩, hI _ (List.getElem_mem hi) _ (List.getElem_mem hj)⟩⟩⟩⟩
theorem stC_cr (x : Stn) : ∀ j v, (crC x.oc.sh)[j]? = some v → (stC x)[2 + j]? = some v := fun j v h => by
  have hj : j < 6 := by
    rcases Nat.lt_or_ge j 6 with h1 | h1
    · exact h1
    · rw [Array.getElem?_eq_none (by show 6 ≤ j; omega)] at h; cases h
  obtain rfl | rfl | rfl | rfl | rfl | rfl : j = 0 ∨ j = 1 ∨ j = 2 ∨ j = 3 ∨ j = 4 ∨ j = 5 := by omega
  all_goals exact h
def zT (n c : Nat) : List (List Int) := List.replicate n (List.replicate c 0)
def pulOne (s : Sn) (t : List (List Int)) (x : Stn) : List (List Int) := setRC t x.ov x.day (pullS s x.oc.sh (ovAt s x.ov).ms)
def pulK (s : Sn) (T : List (List Int)) (k : Nat) : List (List Int) := ((stL s T).take k).foldl (pulOne s) (zT s.ovens.length s.days.toNat)
def pulA (s : Sn) (T : List (List Int)) : List (List Int) := if keE s T = 0 then pulK s T (stL s T).length else []
theorem pulK_step {s : Sn} {T : List (List Int)} {k : Nat} (h : k < (stL s T).length) : pulK s T (k + 1) = pulOne s (pulK s T k) ((stL s T)[k]) := by
  unfold pulK; rw [List.take_add_one, List.getElem?_eq_getElem h, List.foldl_append]; rfl
theorem pullS_bd {s : Sn} (ok : OkS s) (c : List Int) {ms : List Int} (hl : ms.length ≤ 6) : 0 ≤ pullS s c ms ∧ pullS s c ms ≤ 60000000 := by
  have := sumP_bd ok c ms
  unfold pullS
  omega
theorem setRC_mem {T : List (List Int)} {i j : Nat} {v : Int} {P : Int → Prop} (h : ∀ r ∈ T, ∀ x ∈ r, P x) (hv : P v) : ∀ r ∈ setRC T i j v, ∀ x ∈ r, P x := by
  intro r hr x hx
  unfold setRC at hr
  rcases List.mem_or_eq_of_mem_set hr with h1 | rfl
  · exact h r h1 x hx
  · rcases List.mem_or_eq_of_mem_set hx with h2 | rfl
    · unfold List.getD at h2
      cases h3 : T[i]? with
      | none => rw [h3] at h2; simp at h2
      | some l => rw [h3] at h2; exact h l (List.mem_of_getElem? h3) x h2
    · exact hv
theorem pulK_bd {s : Sn} (ok : OkS s) (T : List (List Int)) (k : Nat) : ∀ r ∈ pulK s T k, ∀ x ∈ r, 0 ≤ x ∧ x ≤ 60000000 := by
  unfold pulK
  suffices ∀ (l : List Stn) (t : List (List Int)), (∀ x ∈ l, x ∈ stL s T) → (∀ r ∈ t, ∀ x ∈ r, 0 ≤ x ∧ x ≤ 60000000) → ∀ r ∈ l.foldl (pulOne s) t, ∀ x ∈ r, 0 ≤ x ∧ x ≤ 60000000 from this _ _ (fun x hx => List.mem_of_mem_take hx) (fun r hr x hx => by
    unfold zT at hr
    rw [List.mem_replicate] at hr
    rw [hr.2, List.mem_replicate] at hx
    omega)
  intro l
  induction l with
  | nil => intro t _ h; exact h
  | cons a l ih =>
    intro t hl h
    rw [List.foldl_cons]
    refine ih _ (fun x hx => hl x (List.mem_cons_of_mem _ hx)) ?_
    unfold pulOne
    refine setRC_mem (P := fun x => 0 ≤ x ∧ x ≤ 60000000) h (pullS_bd ok _ ?_)
    exact Nat.le_trans (mksAt_len s _) ok.nm
def PuA (s : Sn) (T : List (List Int)) (w : World) (e : Ending) (w' : World) : Prop := (∃ v, e = .returned (.tuple #[v, .int .i64 (keE s T)]) ∧ RRows (vis (w.heap.size ≤ ·) w') v (pulA s T)) ∧ Below w.heap.size w w'
theorem nil_RRows (w : World) : RRows w (.slice none 0 0) [] := ⟨none, 0, rfl, Nat.le_refl _, ⟨by omega, by simp⟩, fun i hi => by simp at hi⟩
attribute [local go_sem] Oper.semAt_some
attribute [local go_sem ↓] ex_ldw ex_sts
set_option maxHeartbeats 8000000 in
set_option maxRecDepth 100000 in
theorem Pulls_any (s : Sn) (d : SA) (T : List (List Int)) (vt : Value) (w : World) (h : SnD w s d) (hT : RRows w vt T) : Calls Try.prog 19 #[.agg #[.int .i64 s.days, .slice d.a1 s.arts.length d.c1, .slice d.a2 s.ovens.length d.c2, .slice d.a3 s.mks.length d.c3, .slice d.a4 s.jobs.length d.c4, .slice d.a5 s.cols.length d.c5, .slice d.a6 s.ods.length d.c6], vt] w (PuA s T w) := by
  have hA := below_box w (.cells #[.int .i64 s.days, .slice d.a1 s.arts.length d.c1, .slice d.a2 s.ovens.length d.c2, .slice d.a3 s.mks.length d.c3, .slice d.a4 s.jobs.length d.c4, .slice d.a5 s.cols.length d.c5, .slice d.a6 s.ods.length d.c6] 28)
  have h0 := Blk.new w #[.int .i64 s.days, .slice d.a1 s.arts.length d.c1, .slice d.a2 s.ovens.length d.c2, .slice d.a3 s.mks.length d.c3, .slice d.a4 s.jobs.length d.c4, .slice d.a5 s.cols.length d.c5, .slice d.a6 s.ods.length d.c6] 28
  have x0 := h0.cell 0 _ rfl
  have x1 := h0.cell 1 _ rfl
  have x2 := h0.cell 2 _ rfl
  have x3 := h0.cell 3 _ rfl
  have x4 := h0.cell 4 _ rfl
  have x5 := h0.cell 5 _ rfl
  have x6 := h0.cell 6 _ rfl
  refine (callsIn_wide (n := 9)).1 ?_
  refine callsIn_of_wp_marks Try.func19 rfl trivial ?_ rfl
  simp only [Try.ntmps19, List.size_toArray, List.length_cons, List.length_nil, Nat.reduceAdd, Nat.reduceSub, Array.replicate_succ, Array.replicate_zero, List.push_toArray, List.append_toArray, List.nil_append, List.cons_append]
  gi_wp2_with fail
  refine ⟨trivial, callsIn_wide.2 ?_⟩
  generalize hWe : w.alloc (.cells #[.int .i64 s.days, .slice d.a1 s.arts.length d.c1, .slice d.a2 s.ovens.length d.c2, .slice d.a3 s.mks.length d.c3, .slice d.a4 s.jobs.length d.c4, .slice d.a5 s.cols.length d.c5, .slice d.a6 s.ods.length d.c6] 28) = W at *
  refine (kept_any s d T vt W (h.mono (ext_of_below hA)) (hT.mono (ext_of_below hA))).mono ?_
  rintro e W1 ⟨hr, hb1⟩
  have hA1 := hA.trans (hb1.mono hA.size)
  have h01 := h0.below hb1 h0.lt
  have hz1 := h0.lt
  have hzW1 := h01.lt
  clear x0 x1 x2 x3 x4 x5 x6
  rcases hr with ⟨hE, rfl⟩ | ⟨hE, v7, rfl, ho⟩
  · have HP : Hid (pulA s T = []) := Lib.hid (by unfold pulA; rw [if_neg hE])
    obtain ⟨r, hrr⟩ : ∃ r, keE s T = r := ⟨_, rfl⟩
    rw [hrr] at hE ⊢
    have HRR := Lib.hid hrr
    have hr : (r != 0) = true := by simpa using hE
    have HB2 := Lib.hid (hA1.alloc hA1.size (.cells #[.int .i64 0, .slice none 0 0, .slice none 0 0, .slice none 0 0, .slice none 0 0, .slice none 0 0, .slice none 0 0, .slice none 0 0] 63))
    clear h hT hb1 hA h0 hA1 hE hWe hrr h01 hz1 hzW1
    gi_wp2
    exact ⟨_, results_tmp2 rfl _ _ _, ⟨.slice none 0 0, by rw [HRR.out]; rfl, by rw [HP.out]; exact nil_RRows _⟩, HB2.out⟩
  · obtain ⟨hp, hkb⟩ := keE_ok hE
    obtain ⟨-, ok, pk⟩ := plE_ok hp
    obtain ⟨a7, c7, rfl⟩ := ho.shape
    obtain ⟨ap, cp, rfl⟩ := hT.shape
    have HE := Lib.hid hE
    have hdd := ok.days
    have hDd : ((s.days.toNat : Nat) : Int) = s.days := Int.toNat_of_nonneg (by omega)
    have hno := ok.no
    have c0 := h01.alloc (.cells #[.int .i64 s.days, .slice d.a1 s.arts.length d.c1, .slice d.a2 s.ovens.length d.c2, .slice d.a3 s.mks.length d.c3, .slice d.a4 s.jobs.length d.c4, .slice d.a5 s.cols.length d.c5, .slice d.a6 s.ods.length d.c6, .slice a7 (ovL s).length c7] 63)
    have cB := Blk.new W1 #[.int .i64 s.days, .slice d.a1 s.arts.length d.c1, .slice d.a2 s.ovens.length d.c2, .slice d.a3 s.mks.length d.c3, .slice d.a4 s.jobs.length d.c4, .slice d.a5 s.cols.length d.c5, .slice d.a6 s.ods.length d.c6, .slice a7 (ovL s).length c7] 63
    have cA := hA1.alloc hA1.size (.cells #[.int .i64 s.days, .slice d.a1 s.arts.length d.c1, .slice d.a2 s.ovens.length d.c2, .slice d.a3 s.mks.length d.c3, .slice d.a4 s.jobs.length d.c4, .slice d.a5 s.cols.length d.c5, .slice d.a6 s.ods.length d.c6, .slice a7 (ovL s).length c7] 63)
    have cO : ROvns (vis (w.heap.size < ·) (W1.alloc (.cells #[.int .i64 s.days, .slice d.a1 s.arts.length d.c1, .slice d.a2 s.ovens.length d.c2, .slice d.a3 s.mks.length d.c3, .slice d.a4 s.jobs.length d.c4, .slice d.a5 s.cols.length d.c5, .slice d.a6 s.ods.length d.c6, .slice a7 (ovL s).length c7] 63))) (.slice a7 (ovL s).length c7) (ovL s) := (ho.mono (vis_below (below_box W1 _))).mono (vis_up (fun q hq => by omega))
    have hTb := table_any s.ovens.length s.days.toNat (by omega) (by omega) (W1.alloc (.cells #[.int .i64 s.days, .slice d.a1 s.arts.length d.c1, .slice d.a2 s.ovens.length d.c2, .slice d.a3 s.mks.length d.c3, .slice d.a4 s.jobs.length d.c4, .slice d.a5 s.cols.length d.c5, .slice d.a6 s.ods.length d.c6, .slice a7 (ovL s).length c7] 63))
    rw [hDd] at hTb
    have y0 := c0.cell 0 _ rfl
    have y2 := c0.cell 2 _ rfl
    have hov := h.ovens.len
    clear hb1 hA h0 hA1 h01 ho hE hp hkb hWe
    gi_wp2_with fail
    have HDd := Lib.hid hDd
    have hqB : W1.heap.size < (W1.alloc (.cells #[.int .i64 s.days, .slice d.a1 s.arts.length d.c1, .slice d.a2 s.ovens.length d.c2, .slice d.a3 s.mks.length d.c3, .slice d.a4 s.jobs.length d.c4, .slice d.a5 s.cols.length d.c5, .slice d.a6 s.ods.length d.c6, .slice a7 (ovL s).length c7] 63)).heap.size := cB.lt
    refine ⟨trivial, callsIn_wide.2 ?_⟩
    generalize hB : W1.heap.size = B at *
    generalize (W1.alloc (.cells #[.int .i64 s.days, .slice d.a1 s.arts.length d.c1, .slice d.a2 s.ovens.length d.c2, .slice d.a3 s.mks.length d.c3, .slice d.a4 s.jobs.length d.c4, .slice d.a5 s.cols.length d.c5, .slice d.a6 s.ods.length d.c6, .slice a7 (ovL s).length c7] 63)) = Y at *
    refine hTb.mono ?_
    rintro e W3 ⟨qs, rfl, hTbl, hb3⟩
    clear hTb y0 y2 hDd hB c0
    have d0 := cB.below hb3 cB.lt
    have dA := cA.trans (hb3.mono cA.size)
    have HOY := Lib.hid (cO.mono vis_out)
    have hYb := hb3
    clear cB cA cO hb3
    have HQS : Hid (∀ r ∈ qs, Y.heap.size < r ∧ r < W3.heap.size) := Lib.hid (fun r hr => by
      obtain ⟨i, hi, rfl⟩ := List.getElem_of_mem hr
      have := hTbl.row i hi (by rw [← hTbl.len]; exact hi)
      exact ⟨this.2.1, this.1.lt⟩)
    have hql : qs.length = s.ovens.length := by rw [hTbl.len]; simp
    have HQL := Lib.hid hql
    clear hql
    obtain ⟨q, hq⟩ : ∃ q, Y.heap.size = q := ⟨_, rfl⟩
    have HQY := Lib.hid hq
    rw [hq] at hTbl hqB HQS ⊢
    clear hq
    generalize hn7 : (ovL s).length = n7 at *
    have e0 := d0.alloc (.cells #[.slice (some ⟨q, 0, none⟩) s.ovens.length s.ovens.length] 29)
    have eP := Blk.new W3 #[.slice (some ⟨q, 0, none⟩) s.ovens.length s.ovens.length] 29
    have eT := hTbl.below (below_box W3 (.cells #[.slice (some ⟨q, 0, none⟩) s.ovens.length s.ovens.length] 29))
    have eA := dA.alloc dA.size (.cells #[.slice (some ⟨q, 0, none⟩) s.ovens.length s.ovens.length] 29)
    replace hYb := hYb.alloc hYb.size (.cells #[.slice (some ⟨q, 0, none⟩) s.ovens.length s.ovens.length] 29)
    have hldw := ld_blk (P := Try.prog) e0 Try.underlying63 rfl (by rw [sz_works]; rfl)
    have hqP : q < W3.heap.size := hTbl.out.lt
    clear d0 dA hTbl
    gi_wp2_with fail
    refine ⟨trivial, callsIn_wide.2 ?_⟩
    generalize hQP : W3.heap.size = QP at *
    generalize W3.alloc (.cells #[.slice (some ⟨q, 0, none⟩) s.ovens.length s.ovens.length] 29) = Z at *
    clear hQP hldw
    refine (stints_any s d _ ap T.length cp Z).mono ?_
    rintro e w' ⟨rfl, hw'⟩
    obtain rfl := hw'.symm
    clear hw'
    have f0 := (e0.alloc (.cells #[.int .i64 s.days, .slice d.a1 s.arts.length d.c1, .slice d.a2 s.ovens.length d.c2, .slice d.a3 s.mks.length d.c3, .slice d.a4 s.jobs.length d.c4, .slice d.a5 s.cols.length d.c5, .slice d.a6 s.ods.length d.c6, .slice a7 n7 c7] 63)).alloc (.cells #[.slice ap T.length cp] 29)
    have fP := (eP.alloc (.cells #[.int .i64 s.days, .slice d.a1 s.arts.length d.c1, .slice d.a2 s.ovens.length d.c2, .slice d.a3 s.mks.length d.c3, .slice d.a4 s.jobs.length d.c4, .slice d.a5 s.cols.length d.c5, .slice d.a6 s.ods.length d.c6, .slice a7 n7 c7] 63)).alloc (.cells #[.slice ap T.length cp] 29)
    have fW := (Blk.new Z #[.int .i64 s.days, .slice d.a1 s.arts.length d.c1, .slice d.a2 s.ovens.length d.c2, .slice d.a3 s.mks.length d.c3, .slice d.a4 s.jobs.length d.c4, .slice d.a5 s.cols.length d.c5, .slice d.a6 s.ods.length d.c6, .slice a7 n7 c7] 63).alloc (.cells #[.slice ap T.length cp] 29)
    have fL := Blk.new (Z.alloc (.cells #[.int .i64 s.days, .slice d.a1 s.arts.length d.c1, .slice d.a2 s.ovens.length d.c2, .slice d.a3 s.mks.length d.c3, .slice d.a4 s.jobs.length d.c4, .slice d.a5 s.cols.length d.c5, .slice d.a6 s.ods.length d.c6, .slice a7 n7 c7] 63)) #[.slice ap T.length cp] 29
    have hZb : Below Z.heap.size Z ((Z.alloc (.cells #[.int .i64 s.days, .slice d.a1 s.arts.length d.c1, .slice d.a2 s.ovens.length d.c2, .slice d.a3 s.mks.length d.c3, .slice d.a4 s.jobs.length d.c4, .slice d.a5 s.cols.length d.c5, .slice d.a6 s.ods.length d.c6, .slice a7 n7 c7] 63)).alloc (.cells #[.slice ap T.length cp] 29)) := (below_box Z _).alloc (by simp) _
    have fT := eT.below hZb
    have fA := eA.trans (hZb.mono eA.size)
    replace hYb := hYb.trans (hZb.mono hYb.size)
    simp only [World.size_alloc] at fL
    have hPZ : QP < Z.heap.size := eP.lt
    clear e0 eP eT eA hZb
    gi_wp2_with fail
    generalize hQZ : Z.heap.size = QZ at *
    have hz5 : QZ + 1 < ((Z.alloc (.cells #[.int .i64 s.days, .slice d.a1 s.arts.length d.c1, .slice d.a2 s.ovens.length d.c2, .slice d.a3 s.mks.length d.c3, .slice d.a4 s.jobs.length d.c4, .slice d.a5 s.cols.length d.c5, .slice d.a6 s.ods.length d.c6, .slice a7 n7 c7] 63)).alloc (.cells #[.slice ap T.length cp] 29)).heap.size := fL.lt
    generalize (Z.alloc (.cells #[.int .i64 s.days, .slice d.a1 s.arts.length d.c1, .slice d.a2 s.ovens.length d.c2, .slice d.a3 s.mks.length d.c3, .slice d.a4 s.jobs.length d.c4, .slice d.a5 s.cols.length d.c5, .slice d.a6 s.ods.length d.c6, .slice a7 n7 c7] 63)).alloc (.cells #[.slice ap T.length cp] 29) = w5 at *
    clear hQZ
    have hw5 : w.heap.size < w5.heap.size := by omega
    have hSl : ∀ r, (fun r => r ∈ qs) r → r < w5.heap.size := fun r hr => Nat.lt_trans (HQS.out r hr).2 (by omega)
    have hSq : ∀ r, (fun r => r ∈ qs) r → q < r ∧ r < QP := HQS.out
    have hs5 : SnD (vis (fun r => ¬ (fun r => r ∈ qs) r) w5) s d := h.mono (ext_vis_all (ext_of_below fA) (fun r hr hx => by have := (hSq r hx).1; omega))
    have ho5 : ROvns (vis (fun r => ¬ (fun r => r ∈ qs) r) w5) (.slice a7 n7 c7) (ovL s) := HOY.out.mono (ext_vis_all (ext_of_below hYb) (fun r hr hx => by have := (hSq r hx).1; have := HQY.out; omega))
    have hT5 : RRows (vis (fun r => ¬ (fun r => r ∈ qs) r) w5) (.slice ap T.length cp) T := hT.mono (ext_vis_all (ext_of_below fA) (fun r hr hx => by have := (hSq r hx).1; omega))
    have hI0 : (∃ t, Hid (pulK s T 0 = t) ∧ Tbl w5 q s.days.toNat qs t ∧ BelS (fun r => r ∈ qs) w5.heap.size w5 w5 ∧ Below w.heap.size w w5) := ⟨_, Lib.hid rfl, fT, BelS.refl _ _ _, fA⟩
    refine wpIn_range_c (fun _ => False) (fun r => r ∈ qs) rfl (by simp [Fence.wide]) (gf := 68) (lb := #[.pointer (some ⟨QZ, 0, none⟩), .pointer (some ⟨QZ + 1, 0, none⟩)]) rfl trivial (enters_of Try.func68 (by kernel_rfl) rfl)
      (stintsIt_any (fun r => r ∈ qs) _ s d _ _ T _ _ w5 hs5 ok ho5 hT5 pk (fun hx => by have := hSq _ hx; omega) (fun hx => by have := hSq _ hx; omega) hSl fW fL) (fun k x hx => by
        simp only [encS, List.getElem?_map, Option.map_eq_some_iff] at hx
        obtain ⟨r, -, rfl⟩ := hx; rfl)
      (fun k W => (∃ t, Hid (pulK s T k = t) ∧ Tbl W q s.days.toNat qs t ∧ BelS (fun r => r ∈ qs) w5.heap.size w5 W ∧ Below w.heap.size w W)) (fun _ _ => False) (fun _ _ => False)
      ?hI ?hIx (fun _ _ _ _ h => h.elim) ?hIT hI0
      (fun x a' W => ∃ (p : Nat) (st : Stn), x = #[.agg (stC st)] ∧ w5.heap.size ≤ p ∧ Blk W p (stC st) 84 ∧ a' = { tmps := #[.agg #[.int .i64 s.days, .slice d.a1 s.arts.length d.c1, .slice d.a2 s.ovens.length d.c2, .slice d.a3 s.mks.length d.c3, .slice d.a4 s.jobs.length d.c4, .slice d.a5 s.cols.length d.c5, .slice d.a6 s.ods.length d.c6], .slice ap T.length cp, .pointer (some ⟨w.heap.size, 0, none⟩), undef, .slice none 0 0, .int .i64 0, .pointer (some ⟨B, 0, none⟩), .int .i64 0, .pointer (some ⟨QP, 0, none⟩), .pointer (some ⟨p, 0, none⟩), .tuple #[.agg #[.int .i64 s.days, .slice d.a1 s.arts.length d.c1, .slice d.a2 s.ovens.length d.c2, .slice d.a3 s.mks.length d.c3, .slice d.a4 s.jobs.length d.c4, .slice d.a5 s.cols.length d.c5, .slice d.a6 s.ods.length d.c6, .slice a7 n7 c7], .int .i64 0], .agg #[.int .i64 s.days, .slice d.a1 s.arts.length d.c1, .slice d.a2 s.ovens.length d.c2, .slice d.a3 s.mks.length d.c3, .slice d.a4 s.jobs.length d.c4, .slice d.a5 s.cols.length d.c5, .slice d.a6 s.ods.length d.c6], .slice ap T.length cp, .tuple #[.agg #[.int .i64 s.days, .slice d.a1 s.arts.length d.c1, .slice d.a2 s.ovens.length d.c2, .slice d.a3 s.mks.length d.c3, .slice d.a4 s.jobs.length d.c4, .slice d.a5 s.cols.length d.c5, .slice d.a6 s.ods.length d.c6, .slice a7 n7 c7], .int .i64 0], .agg #[.int .i64 s.days, .slice d.a1 s.arts.length d.c1, .slice d.a2 s.ovens.length d.c2, .slice d.a3 s.mks.length d.c3, .slice d.a4 s.jobs.length d.c4, .slice d.a5 s.cols.length d.c5, .slice d.a6 s.ods.length d.c6, .slice a7 n7 c7], .int .i64 0, .int .i64 0, .bool false, undef, .pointer (some ⟨w.heap.size, 2, none⟩), .slice d.a2 s.ovens.length d.c2, .int .i64 s.ovens.length, .pointer (some ⟨w.heap.size, 0, none⟩), .int .i64 s.days, .slice (some ⟨q, 0, none⟩) s.ovens.length s.ovens.length, .agg #[.int .i64 s.days, .slice d.a1 s.arts.length d.c1, .slice d.a2 s.ovens.length d.c2, .slice d.a3 s.mks.length d.c3, .slice d.a4 s.jobs.length d.c4, .slice d.a5 s.cols.length d.c5, .slice d.a6 s.ods.length d.c6, .slice a7 n7 c7], .slice ap T.length cp, .func (.func 68) #[] #[.pointer (some ⟨QZ, 0, none⟩), .pointer (some ⟨QZ + 1, 0, none⟩)], .agg (stC st), undef, undef, undef, undef, undef, undef, undef, undef, undef, undef, undef, undef, undef, undef, undef, undef, undef, undef, undef, undef], defers := [] })
      ?hAx ?assign ?body ?done ?stop ?panic
    case panic => exact fun D ch W _ h => h.elim
    case stop => exact fun D cc W _ h => h.elim
    case hI =>
      rintro k X Y' row ⟨t, e1, g1, g3, g4⟩ hg hr
      exact ⟨t, e1, Tbl.own () X Y' row g1 hg hr, ownFrom_bel (β := Unit) (Nat.le_refl _) (Nat.le_refl _) () X Y' row g3 hg hr, ownFrom_below (β := Unit) (Nat.le_refl _) (by omega) () X Y' row g4 hg hr⟩
    case hIx => exact fun cc k X Y' row h => h.elim
    case hIT => exact fun k X p v _ _ h => h.elim
    case hAx =>
      rintro x a' k X Y' row ⟨p, st, e1, e2, g1, e3⟩ hg hr
      exact ⟨p, st, e1, e2, (blk_own (β := Unit) p _ (fun _ => stC st)) () X Y' row g1 hg (fun r e => (hr r e).2), e3⟩
    case assign =>
      rintro j k x V K hx hWs ⟨t, e1, g1, g3, g4⟩ hK
      simp only [encS, List.getElem?_map, Option.map_eq_some_iff] at hx
      obtain ⟨st, hst, rfl⟩ := hx
      have hX := Blk.new V #[.int .i64 0, .int .i64 0, .int .i64 0, .int .i64 0, .int .i64 0, .int .i64 0, .int .i64 0, .int .i64 0, .int .i64 0, .int .i64 0, .int .i64 0, .int .i64 0, .int .i64 0, .int .i64 0, .int .i64 0] 84
      have hstr := st_blk (cs' := stC st) (P := Try.prog) hX rfl (by rw [sz_stint]; rfl) (by simp [stC, Value.oneCell'])
      have hXb := blk_sto (cs' := stC st) hX rfl
      have hbx : Below V.heap.size V (putC (V.alloc (.cells #[.int .i64 0, .int .i64 0, .int .i64 0, .int .i64 0, .int .i64 0, .int .i64 0, .int .i64 0, .int .i64 0, .int .i64 0, .int .i64 0, .int .i64 0, .int .i64 0, .int .i64 0, .int .i64 0, .int .i64 0] 84)) V.heap.size (stC st)) := putC_below (below_box V (.cells #[.int .i64 0, .int .i64 0, .int .i64 0, .int .i64 0, .int .i64 0, .int .i64 0, .int .i64 0, .int .i64 0, .int .i64 0, .int .i64 0, .int .i64 0, .int .i64 0, .int .i64 0, .int .i64 0, .int .i64 0] 84)) (Nat.le_refl _) (stC st)
      have HB := Lib.hid hbx
      have HX := Lib.hid hXb
      clear hX hXb hbx hst
      gi_wp2
      have hbx := HB.out
      exact hK _ _ (keepsP_below hbx) (BelS.of_below (hbx.mono hWs)) (CK.of_below hbx) ⟨t, e1, g1.below hbx, g3.trans (BelS.of_below (hbx.mono g3.size)), g4.trans (hbx.mono g4.size)⟩ ⟨V.heap.size, st, rfl, hWs, HX.out, rfl⟩
    case body =>
      rintro j k x a' V hx hWs ⟨t, e1, g1, g3, g4⟩ ⟨p, st, hxe, hp, gX, rfl⟩
      simp only [encS, List.getElem?_map, Option.map_eq_some_iff] at hx
      obtain ⟨st2, hst, rfl⟩ := hx
      have hst2 : stC st2 = stC st := by simpa using hxe
      rw [← hst2] at gX
      clear hxe hst2
      obtain ⟨hkl, hke⟩ := List.getElem?_eq_some_iff.1 hst
      have hmem : st2 ∈ stL s T := hke ▸ List.getElem_mem hkl
      have hP1 := pulK_step hkl
      rw [hke, e1.out] at hP1
      obtain ⟨kk, dy, hkk, hdy, hst3⟩ := stL_mem hmem
      subst hst3
      clear hst hke hmem e1 hkl
      obtain ⟨aO, cO, hv, -, ⟨-, hm7⟩, hl7⟩ := ho5
      simp only [Value.slice.injEq] at hv
      obtain ⟨hva, hvn, hvc⟩ := hv
      have hkL : kk < (ovL s).length := by rw [ovL_len]; exact hkk
      obtain ⟨bo, ob, hbo, v1, v2, ⟨q0, q1, q2, q3⟩, hri, hrc⟩ := hl7 kk hkL
      have hov2 : (ovL s)[kk] = ovAt s kk := ovL_at hkL
      have hook := ovL_ok ok _ (List.getElem_mem hkL)
      rw [hov2] at q0 q1 hri hrc hook
      obtain ⟨am, cm, rfl⟩ := hri.shape
      obtain ⟨a2, c2, rfl⟩ := hrc.shape
      simp only at q0 q1 q2 q3
      have hqk : kk < qs.length := by rw [HQL.out]; exact hkk
      have hcr : CrOk s (dayC s T (dy : Int) (ovAt s kk)) := crewS_ok ok pk (by omega) (by omega) _ _ hook.1 (CrOk.idle s)
      have hsh : (stOne s T kk dy).oc.sh = dayC s T (dy : Int) (ovAt s kk) := rfl
      have hP2 : pulK s T (k + 1) = setRC t kk dy (pullS s (dayC s T (dy : Int) (ovAt s kk)) (ovAt s kk).ms) := hP1
      have HP2 := Lib.hid hP2
      have hcrr : V.rangeAt p 2 (crC (dayC s T (dy : Int) (ovAt s kk))).toList := fun i u hu => gX.cell (2 + i) u (by
        have hu2 : (crC (dayC s T (dy : Int) (ovAt s kk)))[i]? = some u := by simpa using hu
        exact stC_cr (stOne s T kk dy) i u hu2)
      have hp0 : V.cell? ⟨p, 0, none⟩ = some (.int .i64 kk) := gX.cell 0 _ rfl
      have hp1 : V.cell? ⟨p, 1, none⟩ = some (.int .i64 dy) := gX.cell 1 _ rfl
      clear hP1 hP2 hsh hl7 hrc hov2 hI0 hs5 hT5
      generalize hoo : ovAt s kk = o at *
      generalize hshv : dayC s T (dy : Int) o = sh at *
      have k0 := g3.ext _ _ q0
      have k1 := g3.ext _ _ q1
      have k2 := g3.ext _ _ q2
      have k3 := g3.ext _ _ q3
      have kri := hri.mono g3.ext
      have kB := g3.blk f0 (fun hx => by have := hSq _ hx; omega) f0.lt
      have kP := g3.blk fP (fun hx => by have := hSq _ hx; omega) fP.lt
      have hrow := g1.at hqk
      obtain ⟨qk, hqkd⟩ : ∃ x, qs[kk] = x := ⟨_, rfl⟩
      have hqm : qk ∈ qs := by rw [← hqkd]; exact List.getElem_mem hqk
      rw [hqkd] at hrow
      have n7k : kk < n7 := by rw [← hn7]; exact hkL
      have HD0 := Lib.hid (show Below V.heap.size V V.drew from (Below.refl _ _).drew)
      have HEX : Hid (∀ X, Below V.heap.size V X → Ext V X) := Lib.hid (fun X hX => ext_of_below hX)
      have hy7 : V.cell? ⟨B, 7, none⟩ = some (.slice (some ⟨bo, ob, none⟩) n7 c7) := by
        have := kB.cell 7 _ rfl
        rw [this]; show some (Value.slice a7 n7 c7) = _; rw [hva, hbo]
      have hyP := kP.cell 0 _ rfl
      have HSV : Hid (∀ X, Below V.heap.size V X → (fun w' : World => ((w'.cell? ⟨bo, ob + kk * 4, none⟩ = some (.int .i64 o.x.lo) ∧ w'.cell? ⟨bo, ob + kk * 4 + 1, none⟩ = some (.int .i64 o.x.hi) ∧ w'.cell? ⟨bo, ob + kk * 4 + 2, none⟩ = some (.slice am o.ms.length cm) ∧ w'.cell? ⟨bo, ob + kk * 4 + 3, none⟩ = some (.slice a2 o.sh.length c2)) ∧ w'.cell? ⟨B, 7, none⟩ = some (.slice (some ⟨bo, ob, none⟩) n7 c7) ∧ w'.cell? ⟨QP, 0, none⟩ = some (.slice (some ⟨q, 0, none⟩) s.ovens.length s.ovens.length) ∧ w'.cell? ⟨p, 0, none⟩ = some (.int .i64 kk) ∧ w'.cell? ⟨p, 1, none⟩ = some (.int .i64 dy) ∧ w'.cell? ⟨q, kk, none⟩ = some (.slice (some ⟨qk, 0, none⟩) s.days.toNat s.days.toNat)) ∧ w'.rangeAt B 0 (#[.int .i64 s.days, .slice d.a1 s.arts.length d.c1, .slice d.a2 s.ovens.length d.c2, .slice d.a3 s.mks.length d.c3, .slice d.a4 s.jobs.length d.c4, .slice d.a5 s.cols.length d.c5, .slice d.a6 s.ods.length d.c6, .slice a7 n7 c7]).toList ∧ w'.rangeAt p 2 (crC sh).toList) X) := Lib.hid (fun X hX => ⟨⟨⟨ext_of_below hX _ _ k0, ext_of_below hX _ _ k1, ext_of_below hX _ _ k2, ext_of_below hX _ _ k3⟩, ext_of_below hX _ _ hy7, ext_of_below hX _ _ hyP, ext_of_below hX _ _ hp0, ext_of_below hX _ _ hp1, ext_of_below hX _ _ hrow⟩, (kB.below hX kB.lt).range, fun i u hu => ext_of_below hX _ _ (hcrr i u hu)⟩)
      have HQK := Lib.hid hqkd
      have HN7 := Lib.hid hn7
      clear hva hvn hvc hbo hoo hshv hqkd hn7 hm7 k0 k1 k2 k3 kB hy7 hyP hp0 hp1 hcrr hrow q0 q1 q2 q3
      gi_upto_region 7 with fail
      refine wpIn_region_till (fun w' : World => ((w'.cell? ⟨bo, ob + kk * 4, none⟩ = some (.int .i64 o.x.lo) ∧ w'.cell? ⟨bo, ob + kk * 4 + 1, none⟩ = some (.int .i64 o.x.hi) ∧ w'.cell? ⟨bo, ob + kk * 4 + 2, none⟩ = some (.slice am o.ms.length cm) ∧ w'.cell? ⟨bo, ob + kk * 4 + 3, none⟩ = some (.slice a2 o.sh.length c2)) ∧ w'.cell? ⟨B, 7, none⟩ = some (.slice (some ⟨bo, ob, none⟩) n7 c7) ∧ w'.cell? ⟨QP, 0, none⟩ = some (.slice (some ⟨q, 0, none⟩) s.ovens.length s.ovens.length) ∧ w'.cell? ⟨p, 0, none⟩ = some (.int .i64 kk) ∧ w'.cell? ⟨p, 1, none⟩ = some (.int .i64 dy) ∧ w'.cell? ⟨q, kk, none⟩ = some (.slice (some ⟨qk, 0, none⟩) s.days.toNat s.days.toNat)) ∧ w'.rangeAt B 0 (#[.int .i64 s.days, .slice d.a1 s.arts.length d.c1, .slice d.a2 s.ovens.length d.c2, .slice d.a3 s.mks.length d.c3, .slice d.a4 s.jobs.length d.c4, .slice d.a5 s.cols.length d.c5, .slice d.a6 s.ods.length d.c6, .slice a7 n7 c7]).toList ∧ w'.rangeAt p 2 (crC sh).toList) 19 (by kernel_rfl) (by kernel_rfl) (fun ⟨_, _, h⟩ => h) (HSV.out _ HD0.out) (fun hHeld => ?_)
      have i1 : (0 : Int) ≤ (kk : Int) := Int.natCast_nonneg _
      have i2 : (kk : Int) < (s.ovens.length : Int) := by omega
      have i3 : (kk : Int) < (n7 : Int) := by omega
      have i4 : (0 : Int) ≤ (dy : Int) := Int.natCast_nonneg _
      have i5 : (dy : Int) < max s.days 0 := by omega
      generalize V.drew = X0 at *
      refine Till.take 0 (some 29) (v := ?_) rfl rfl (by kernel_rfl) (by kernel_rfl) (by kernel_rfl) (by kernel_rfl) (fun _ _ _ h => h) (Or.inl ⟨by rfl, ?_⟩) (by assumption) ?_
      rotate_left
      · (intro w hSw; (try dsimp only at hSw); go_simp; try with_reducible rfl)
      try simp only [Act.put, List.setIfInBounds_toArray, List.set_cons_zero, List.set_cons_succ]
      refine Till.take 1 (some 30) (v := ?_) rfl rfl (by kernel_rfl) (by kernel_rfl) (by kernel_rfl) (by kernel_rfl) (fun _ _ _ h => h) (Or.inl ⟨by rfl, ?_⟩) (by assumption) ?_
      rotate_left
      · (intro w hSw; (try dsimp only at hSw); go_simp; try with_reducible rfl)
      try simp only [Act.put, List.setIfInBounds_toArray, List.set_cons_zero, List.set_cons_succ]
      refine Till.take 2 (some 31) (v := ?_) rfl rfl (by kernel_rfl) (by kernel_rfl) (by kernel_rfl) (by kernel_rfl) (fun _ _ _ h => h) (Or.inl ⟨by rfl, ?_⟩) (by assumption) ?_
      rotate_left
      · (intro w hSw; (try dsimp only at hSw); go_simp; try with_reducible rfl)
      try simp only [Act.put, List.setIfInBounds_toArray, List.set_cons_zero, List.set_cons_succ]
      refine Till.take 3 (some 32) (v := ?_) rfl rfl (by kernel_rfl) (by kernel_rfl) (by kernel_rfl) (by kernel_rfl) (fun _ _ _ h => h) (Or.inl ⟨by rfl, ?_⟩) (by assumption) ?_
      rotate_left
      · (intro w hSw; (try dsimp only at hSw); go_simp; try with_reducible rfl)
      try simp only [Act.put, List.setIfInBounds_toArray, List.set_cons_zero, List.set_cons_succ]
      refine Till.take 4 (some 33) (v := ?_) rfl rfl (by kernel_rfl) (by kernel_rfl) (by kernel_rfl) (by kernel_rfl) (fun _ _ _ h => h) (Or.inl ⟨by rfl, ?_⟩) (by assumption) ?_
      rotate_left
      · (intro w hSw; (try dsimp only at hSw); go_simp; try with_reducible rfl)
      try simp only [Act.put, List.setIfInBounds_toArray, List.set_cons_zero, List.set_cons_succ]
      refine Till.take 5 (some 34) (v := ?_) rfl rfl (by kernel_rfl) (by kernel_rfl) (by kernel_rfl) (by kernel_rfl) (fun _ _ _ h => h) (Or.inl ⟨by rfl, ?_⟩) (by assumption) ?_
      rotate_left
      · (intro w hSw; (try dsimp only at hSw); go_simp; try with_reducible rfl)
      try simp only [Act.put, List.setIfInBounds_toArray, List.set_cons_zero, List.set_cons_succ]
      refine Till.take 6 (some 35) (v := ?_) rfl rfl (by kernel_rfl) (by kernel_rfl) (by kernel_rfl) (by kernel_rfl) (fun _ _ _ h => h) (Or.inl ⟨by rfl, ?_⟩) (by assumption) ?_
      rotate_left
      · (intro w hSw; (try dsimp only at hSw); go_simp; try with_reducible rfl)
      try simp only [Act.put, List.setIfInBounds_toArray, List.set_cons_zero, List.set_cons_succ]
      refine Till.take 7 (some 36) (v := .agg #[.int .i64 s.days, .slice d.a1 s.arts.length d.c1, .slice d.a2 s.ovens.length d.c2, .slice d.a3 s.mks.length d.c3, .slice d.a4 s.jobs.length d.c4, .slice d.a5 s.cols.length d.c5, .slice d.a6 s.ods.length d.c6, .slice a7 n7 c7]) rfl rfl (by kernel_rfl) (by kernel_rfl) (by kernel_rfl) (by kernel_rfl) (fun _ _ _ h => h) (yieldsIf_load_mid rfl 63 (Operand.tmp 6) rfl B 0 rfl (#[.int .i64 s.days, .slice d.a1 s.arts.length d.c1, .slice d.a2 s.ovens.length d.c2, .slice d.a3 s.mks.length d.c3, .slice d.a4 s.jobs.length d.c4, .slice d.a5 s.cols.length d.c5, .slice d.a6 s.ods.length d.c6, .slice a7 n7 c7]).toList _ (fun _ h => h.2.1) Try.underlying63 rfl (by rw [sz_works]; rfl)) (by assumption) ?_
      try simp only [Act.put, List.setIfInBounds_toArray, List.set_cons_zero, List.set_cons_succ]
      refine Till.take 8 (some 37) (v := ?_) rfl rfl (by kernel_rfl) (by kernel_rfl) (by kernel_rfl) (by kernel_rfl) (fun _ _ _ h => h) (Or.inl ⟨by rfl, ?_⟩) (by assumption) ?_
      rotate_left
      · (intro w hSw; (try dsimp only at hSw); go_simp; try with_reducible rfl)
      try simp only [Act.put, List.setIfInBounds_toArray, List.set_cons_zero, List.set_cons_succ]
      refine Till.take 9 (some 38) (v := ?_) rfl rfl (by kernel_rfl) (by kernel_rfl) (by kernel_rfl) (by kernel_rfl) (fun _ _ _ h => h) (Or.inl ⟨by rfl, ?_⟩) (by assumption) ?_
      rotate_left
      · (intro w hSw; (try dsimp only at hSw); go_simp; try with_reducible rfl)
      try simp only [Act.put, List.setIfInBounds_toArray, List.set_cons_zero, List.set_cons_succ]
      refine Till.take 10 (some 39) (v := ?_) rfl rfl (by kernel_rfl) (by kernel_rfl) (by kernel_rfl) (by kernel_rfl) (fun _ _ _ h => h) (Or.inl ⟨by rfl, ?_⟩) (by assumption) ?_
      rotate_left
      · (intro w hSw; (try dsimp only at hSw); go_simp; try with_reducible rfl)
      try simp only [Act.put, List.setIfInBounds_toArray, List.set_cons_zero, List.set_cons_succ]
      refine Till.take 11 (some 40) (v := ?_) rfl rfl (by kernel_rfl) (by kernel_rfl) (by kernel_rfl) (by kernel_rfl) (fun _ _ _ h => h) (Or.inl ⟨by rfl, ?_⟩) (by assumption) ?_
      rotate_left
      · (intro w hSw; (try dsimp only at hSw); go_simp; try with_reducible rfl)
      try simp only [Act.put, List.setIfInBounds_toArray, List.set_cons_zero, List.set_cons_succ]
      refine Till.take 12 (some 41) (v := ?_) rfl rfl (by kernel_rfl) (by kernel_rfl) (by kernel_rfl) (by kernel_rfl) (fun _ _ _ h => h) (Or.inl ⟨by rfl, ?_⟩) (by assumption) ?_
      rotate_left
      · (intro w hSw; (try dsimp only at hSw); go_simp; try with_reducible rfl)
      try simp only [Act.put, List.setIfInBounds_toArray, List.set_cons_zero, List.set_cons_succ]
      refine Till.take 13 (some 42) (v := ?_) rfl rfl (by kernel_rfl) (by kernel_rfl) (by kernel_rfl) (by kernel_rfl) (fun _ _ _ h => h) (Or.inl ⟨by rfl, ?_⟩) (by assumption) ?_
      rotate_left
      · (intro w hSw; (try dsimp only at hSw); go_simp; try with_reducible rfl)
      try simp only [Act.put, List.setIfInBounds_toArray, List.set_cons_zero, List.set_cons_succ]
      refine Till.take 14 (some 43) (v := ?_) rfl rfl (by kernel_rfl) (by kernel_rfl) (by kernel_rfl) (by kernel_rfl) (fun _ _ _ h => h) (Or.inl ⟨by rfl, ?_⟩) (by assumption) ?_
      rotate_left
      · (intro w hSw; (try dsimp only at hSw); go_simp; try with_reducible rfl)
      try simp only [Act.put, List.setIfInBounds_toArray, List.set_cons_zero, List.set_cons_succ]
      refine Till.take 15 (some 44) (v := ?_) rfl rfl (by kernel_rfl) (by kernel_rfl) (by kernel_rfl) (by kernel_rfl) (fun _ _ _ h => h) (Or.inl ⟨by rfl, ?_⟩) (by assumption) ?_
      rotate_left
      · (intro w hSw; (try dsimp only at hSw); go_simp; try with_reducible rfl)
      try simp only [Act.put, List.setIfInBounds_toArray, List.set_cons_zero, List.set_cons_succ]
      refine Till.take 16 (some 45) (v := .agg (crC sh)) rfl rfl (by kernel_rfl) (by kernel_rfl) (by kernel_rfl) (by kernel_rfl) (fun _ _ _ h => h) (yieldsIf_load_mid rfl 71 (Operand.tmp 44) rfl p 2 rfl (crC sh).toList _ (fun _ h => h.2.2) Try.underlying71 rfl (by rw [sz_crew]; rfl)) (by assumption) ?_
      try simp only [Act.put, List.setIfInBounds_toArray, List.set_cons_zero, List.set_cons_succ]
      refine Till.one 17 rfl (by kernel_rfl) (fun K hK => ?_)
      go_simp
      go_at_call 44
      have hE0 := HEX.out _ HD0.out
      refine (pull_any s d _ o.x.lo o.x.hi am cm o.ms _ sh X0 ((h.mono (ext_of_below g4)).mono hE0) ok (kri.mono hE0) hook.1 hook.2 hcr).mono ?_
      rintro e X1 ⟨rfl, hb1⟩
      have hD1 := HD0.out.trans (hb1.mono HD0.out.size)
      have hh1 := HSV.out _ hD1
      refine hK.out _ _ (fun _ => hh1) (fun hHeld1 => ?_)
      clear hK K hb1 hE0
      try simp only [Act.put, List.setIfInBounds_toArray, List.set_cons_zero, List.set_cons_succ]
      refine Till.take 18 (some 47) (v := ?_) rfl rfl (by kernel_rfl) (by kernel_rfl) (by kernel_rfl) (by kernel_rfl) (fun _ _ _ h => h) (Or.inl ⟨by rfl, ?_⟩) (by assumption) ?_
      rotate_left
      · (intro w hSw; (try dsimp only at hSw); go_simp; try with_reducible rfl)
      try simp only [Act.put, List.setIfInBounds_toArray, List.set_cons_zero, List.set_cons_succ]
      have g1' := g1.below hD1
      obtain ⟨⟨x9, s9⟩, sf⟩ := g1'.cell hqk hdy
      have m1 := g1'.set hqk hdy (pullS s sh o.ms)
      rw [HQK.out] at s9 sf m1
      have hqw := hSq _ hqm
      have mB : BelS (fun r => r ∈ qs) V.heap.size V (X1.setCell ⟨qk, dy, none⟩ (.int .i64 (pullS s sh o.ms))) := (BelS.of_below hD1).set ⟨qk, dy, none⟩ _ (.inr hqm)
      have mA := (g4.trans (hD1.mono g4.size)).setCell (p := ⟨qk, dy, none⟩) (by simp only; omega) (.int .i64 (pullS s sh o.ms))
      have M1 := Lib.hid m1
      have MB := Lib.hid mB
      have MA := Lib.hid mA
      have G3 := Lib.hid g3
      clear m1 mB mA g1 g1' g3 g4 hD1 HSV HEX kri hri kP gX hcr hook
      refine Till.one 19 rfl (by kernel_rfl) (fun K hK => ?_)
      go_simp
      refine hK.out _ _ (fun h => absurd rfl h) (fun _ => ?_)
      clear hK K s9 sf
      try simp only [Act.put, List.setIfInBounds_toArray, List.set_cons_zero, List.set_cons_succ]
      refine Till.done (by kernel_rfl) ?_ _
      generalize X1.setCell ⟨qk, dy, none⟩ (.int .i64 (pullS s sh o.ms)) = X2 at *
      gi_wp2
      have hBS := MB.out
      exact ⟨keepsP_belS hBS hSl, hBS.mono hWs, CK.of_belS hBS, _, HP2, M1.out, G3.out.trans (hBS.mono hWs), MA.out⟩
    case done =>
      rintro D V hD ⟨t, e1, g1, g3, g4⟩ hKD
      rw [encS_len] at e1
      have yP := (g3.blk fP (fun hx => by have := hSq _ hx; omega) fP.lt).cell 0 _ rfl
      have hpd := g4.trans (belowK_b (w := w) (Nat.le_refl _) V D _ (.deferred none) (by omega) hKD rfl rfl)
      have HPA : Hid (pulA s T = t) := Lib.hid (by unfold pulA; rw [if_pos HE.out]; exact e1.out)
      have hbd := pulK_bd ok T (stL s T).length
      rw [e1.out] at hbd
      have htl : t.length = s.ovens.length := by rw [← g1.len, HQL.out]
      have hrr : RRows (vis (w.heap.size ≤ ·) V) (.slice (some ⟨q, 0, none⟩) t.length t.length) t := g1.rows (S := (w.heap.size ≤ ·)) (by show w.heap.size ≤ q; omega) (fun i hi => by have := hSq _ (List.getElem_mem hi); show w.heap.size ≤ qs[i]; omega) (by rw [HQL.out]; omega) (by omega) (fun r hr x hx => by have := hbd r hr x hx; unfold I64; omega)
      have hrr2 : RRows (vis (w.heap.size ≤ ·) (V.putObj D (.deferred none))) (.slice (some ⟨q, 0, none⟩) t.length t.length) t := hrr.mono (fun p x hp => vis_cell.2 ⟨(vis_cell.1 hp).1, ext_putMark hKD _ _ _ (vis_cell.1 hp).2⟩)
      rw [htl] at hrr2
      have HRR := Lib.hid hrr2
      have HPD := Lib.hid hpd
      have HKD := Lib.hid hKD
      clear hrr hrr2 hpd hbd g1 g3 g4 e1 hI0 hs5 ho5 hT5 fT fA f0 fP fW fL hKD htl hn7
      gi_wp2
      refine ⟨by simp, .inl ⟨_, _, rfl, run_takeDeferred HKD.out, ?_⟩⟩
      exact ⟨_, results_tmp2 rfl _ _ _, ⟨.slice (some ⟨q, 0, none⟩) s.ovens.length s.ovens.length, by rw [HE.out]; rfl, by rw [HPA.out]; exact HRR.out⟩, HPD.out⟩
end Go.Proofs.Ytdffhkbncencgaa
