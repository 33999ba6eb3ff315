/- What each machine makes on each day: plan.Made; no statement is proved here. -/
import Derived.Test.YtdffhkbncencgaaPlPul
namespace Go.Proofs.Ytdffhkbncencgaa
open Go.RowKit Go.PlainAid
set_option linter.unusedVariables false
set_option linter.unusedSimpArgs false

theorem stC_made (x : Stn) {n : Nat} (hn : n < 6) : (stC x)[9 + n]? = some (.int .i64 (g x.oc.made n)) := by
  obtain rfl | rfl | rfl | rfl | rfl | rfl : n = 0 ∨ n = 1 ∨ n = 2 ∨ n = 3 ∨ n = 4 ∨ n = 5 := by omega
  all_goals rfl
def madF (dy : Nat) (oc : Oc) (t : List (List Int)) (m : Int) : List (List Int) := setRC t m.toNat dy (g oc.made m.toNat)
def madOne (s : Sn) (t : List (List Int)) (x : Stn) : List (List Int) := (ovAt s x.ov).ms.foldl (madF x.day x.oc) t
def madK (s : Sn) (T : List (List Int)) (k : Nat) : List (List Int) := ((stL s T).take k).foldl (madOne s) (zT s.mks.length s.days.toNat)
def madA (s : Sn) (T : List (List Int)) : List (List Int) := if keE s T = 0 then madK s T (stL s T).length else []
theorem madK_step {s : Sn} {T : List (List Int)} {k : Nat} (h : k < (stL s T).length) : madK s T (k + 1) = madOne s (madK s T k) ((stL s T)[k]) := by
  unfold madK; rw [List.take_add_one, List.getElem?_eq_getElem h, List.foldl_append]; rfl
theorem madF_bd {s : Sn} {oc : Oc} (hb : OcB oc) (hn : s.mks.length ≤ 6) (dy : Nat) : ∀ (ms : List Int) (t : List (List Int)), MsOk s ms → (∀ r ∈ t, ∀ x ∈ r, 0 ≤ x ∧ x ≤ 1000000) → ∀ r ∈ ms.foldl (madF dy oc) t, ∀ x ∈ r, 0 ≤ x ∧ x ≤ 1000000
  | [], t, _, h => h
  | m :: ms, t, hm, h => by
    rw [List.foldl_cons]
    have h1 := hm m (List.mem_cons_self ..)
    exact madF_bd hb hn dy ms _ (fun q hq => hm q (List.mem_cons_of_mem _ hq)) (setRC_mem (P := fun x => 0 ≤ x ∧ x ≤ 1000000) h (hb _ (by omega)))
theorem madK_bd {s : Sn} (ok : OkS s) (T : List (List Int)) (k : Nat) : ∀ r ∈ madK s T k, ∀ x ∈ r, 0 ≤ x ∧ x ≤ 1000000 := by
  unfold madK
  suffices ∀ (l : List Stn) (t : List (List Int)), (∀ x ∈ l, x ∈ stL s T) → (∀ r ∈ t, ∀ x ∈ r, 0 ≤ x ∧ x ≤ 1000000) → ∀ r ∈ l.foldl (madOne s) t, ∀ x ∈ r, 0 ≤ x ∧ x ≤ 1000000 from this _ _ (fun x hx => List.mem_of_mem_take hx) (fun r hr x hx => by
    unfold zT at hr
    rw [List.mem_replicate] at hr
    rw [hr.2, List.mem_replicate] at hx
    omega)
  intro l
  induction l with
  | nil => intro t _ h; exact h
  | cons a l ih =>
    intro t hl h
    rw [List.foldl_cons]
    exact ih _ (fun x hx => hl x (List.mem_cons_of_mem _ hx)) (madF_bd (stOc_bd ok (hl a (List.mem_cons_self ..))).1 ok.nm _ _ _ (mksAt_ok s _) h)
def MaA (s : Sn) (T : List (List Int)) (w : World) (e : Ending) (w' : World) : Prop := (∃ v, e = .returned (.tuple #[v, .int .i64 (keE s T)]) ∧ RRows (vis (w.heap.size ≤ ·) w') v (madA s T)) ∧ Below w.heap.size w w'
attribute [local go_sem] Oper.semAt_some
attribute [local go_sem ↓] ex_ldw ex_sts
set_option maxHeartbeats 8000000 in
set_option maxRecDepth 100000 in
theorem Made_any (s : Sn) (d : SA) (T : List (List Int)) (vt : Value) (w : World) (h : SnD w s d) (hT : RRows w vt T) : Calls Try.prog 21 #[.agg #[.int .i64 s.days, .slice d.a1 s.arts.length d.c1, .slice d.a2 s.ovens.length d.c2, .slice d.a3 s.mks.length d.c3, .slice d.a4 s.jobs.length d.c4, .slice d.a5 s.cols.length d.c5, .slice d.a6 s.ods.length d.c6], vt] w (MaA s T w) := by
  have hA := below_box w (.cells #[.int .i64 s.days, .slice d.a1 s.arts.length d.c1, .slice d.a2 s.ovens.length d.c2, .slice d.a3 s.mks.length d.c3, .slice d.a4 s.jobs.length d.c4, .slice d.a5 s.cols.length d.c5, .slice d.a6 s.ods.length d.c6] 28)
  have h0 := Blk.new w #[.int .i64 s.days, .slice d.a1 s.arts.length d.c1, .slice d.a2 s.ovens.length d.c2, .slice d.a3 s.mks.length d.c3, .slice d.a4 s.jobs.length d.c4, .slice d.a5 s.cols.length d.c5, .slice d.a6 s.ods.length d.c6] 28
  have x0 := h0.cell 0 _ rfl
  have x1 := h0.cell 1 _ rfl
  have x2 := h0.cell 2 _ rfl
  have x3 := h0.cell 3 _ rfl
  have x4 := h0.cell 4 _ rfl
  have x5 := h0.cell 5 _ rfl
  have x6 := h0.cell 6 _ rfl
  refine (callsIn_wide (n := 9)).1 ?_
  refine callsIn_of_wp_marks Try.func21 rfl trivial ?_ rfl
  simp only [Try.ntmps21, List.size_toArray, List.length_cons, List.length_nil, Nat.reduceAdd, Nat.reduceSub, Array.replicate_succ, Array.replicate_zero, List.push_toArray, List.append_toArray, List.nil_append, List.cons_append]
  gi_wp2_with fail
  refine ⟨trivial, callsIn_wide.2 ?_⟩
  generalize hWe : w.alloc (.cells #[.int .i64 s.days, .slice d.a1 s.arts.length d.c1, .slice d.a2 s.ovens.length d.c2, .slice d.a3 s.mks.length d.c3, .slice d.a4 s.jobs.length d.c4, .slice d.a5 s.cols.length d.c5, .slice d.a6 s.ods.length d.c6] 28) = W at *
  refine (kept_any s d T vt W (h.mono (ext_of_below hA)) (hT.mono (ext_of_below hA))).mono ?_
  rintro e W1 ⟨hr, hb1⟩
  have hA1 := hA.trans (hb1.mono hA.size)
  have h01 := h0.below hb1 h0.lt
  have hz1 := h0.lt
  have hzW1 := h01.lt
  clear x0 x1 x2 x3 x4 x5 x6
  rcases hr with ⟨hE, rfl⟩ | ⟨hE, v7, rfl, ho⟩
  · have HP : Hid (madA s T = []) := Lib.hid (by unfold madA; rw [if_neg hE])
    obtain ⟨r, hrr⟩ : ∃ r, keE s T = r := ⟨_, rfl⟩
    rw [hrr] at hE ⊢
    have HRR := Lib.hid hrr
    have hr : (r != 0) = true := by simpa using hE
    have HB2 := Lib.hid (hA1.alloc hA1.size (.cells #[.int .i64 0, .slice none 0 0, .slice none 0 0, .slice none 0 0, .slice none 0 0, .slice none 0 0, .slice none 0 0, .slice none 0 0] 63))
    clear h hT hb1 hA h0 hA1 hE hWe hrr h01 hz1 hzW1
    gi_wp2
    exact ⟨_, results_tmp2 rfl _ _ _, ⟨.slice none 0 0, by rw [HRR.out]; rfl, by rw [HP.out]; exact nil_RRows _⟩, HB2.out⟩
  · obtain ⟨hp, hkb⟩ := keE_ok hE
    obtain ⟨-, ok, pk⟩ := plE_ok hp
    obtain ⟨a7, c7, rfl⟩ := ho.shape
    obtain ⟨ap, cp, rfl⟩ := hT.shape
    have HE := Lib.hid hE
    have hdd := ok.days
    have hDd : ((s.days.toNat : Nat) : Int) = s.days := Int.toNat_of_nonneg (by omega)
    have hno := ok.nm
    have c0 := h01.alloc (.cells #[.int .i64 s.days, .slice d.a1 s.arts.length d.c1, .slice d.a2 s.ovens.length d.c2, .slice d.a3 s.mks.length d.c3, .slice d.a4 s.jobs.length d.c4, .slice d.a5 s.cols.length d.c5, .slice d.a6 s.ods.length d.c6, .slice a7 (ovL s).length c7] 63)
    have cB := Blk.new W1 #[.int .i64 s.days, .slice d.a1 s.arts.length d.c1, .slice d.a2 s.ovens.length d.c2, .slice d.a3 s.mks.length d.c3, .slice d.a4 s.jobs.length d.c4, .slice d.a5 s.cols.length d.c5, .slice d.a6 s.ods.length d.c6, .slice a7 (ovL s).length c7] 63
    have cA := hA1.alloc hA1.size (.cells #[.int .i64 s.days, .slice d.a1 s.arts.length d.c1, .slice d.a2 s.ovens.length d.c2, .slice d.a3 s.mks.length d.c3, .slice d.a4 s.jobs.length d.c4, .slice d.a5 s.cols.length d.c5, .slice d.a6 s.ods.length d.c6, .slice a7 (ovL s).length c7] 63)
    have cO : ROvns (vis (w.heap.size < ·) (W1.alloc (.cells #[.int .i64 s.days, .slice d.a1 s.arts.length d.c1, .slice d.a2 s.ovens.length d.c2, .slice d.a3 s.mks.length d.c3, .slice d.a4 s.jobs.length d.c4, .slice d.a5 s.cols.length d.c5, .slice d.a6 s.ods.length d.c6, .slice a7 (ovL s).length c7] 63))) (.slice a7 (ovL s).length c7) (ovL s) := (ho.mono (vis_below (below_box W1 _))).mono (vis_up (fun q hq => by omega))
    have hTb := table_any s.mks.length s.days.toNat (by omega) (by omega) (W1.alloc (.cells #[.int .i64 s.days, .slice d.a1 s.arts.length d.c1, .slice d.a2 s.ovens.length d.c2, .slice d.a3 s.mks.length d.c3, .slice d.a4 s.jobs.length d.c4, .slice d.a5 s.cols.length d.c5, .slice d.a6 s.ods.length d.c6, .slice a7 (ovL s).length c7] 63))
    rw [hDd] at hTb
    have y0 := c0.cell 0 _ rfl
    have y2 := c0.cell 3 _ rfl
    have hov := h.mks.len
    clear hb1 hA h0 hA1 h01 ho hE hp hkb hWe
    gi_wp2_with fail
    have HDd := Lib.hid hDd
    have hqB : W1.heap.size < (W1.alloc (.cells #[.int .i64 s.days, .slice d.a1 s.arts.length d.c1, .slice d.a2 s.ovens.length d.c2, .slice d.a3 s.mks.length d.c3, .slice d.a4 s.jobs.length d.c4, .slice d.a5 s.cols.length d.c5, .slice d.a6 s.ods.length d.c6, .slice a7 (ovL s).length c7] 63)).heap.size := cB.lt
    refine ⟨trivial, callsIn_wide.2 ?_⟩
    generalize hB : W1.heap.size = B at *
    generalize (W1.alloc (.cells #[.int .i64 s.days, .slice d.a1 s.arts.length d.c1, .slice d.a2 s.ovens.length d.c2, .slice d.a3 s.mks.length d.c3, .slice d.a4 s.jobs.length d.c4, .slice d.a5 s.cols.length d.c5, .slice d.a6 s.ods.length d.c6, .slice a7 (ovL s).length c7] 63)) = Y at *
    refine hTb.mono ?_
    rintro e W3 ⟨qs, rfl, hTbl, hb3⟩
    clear hTb y0 y2 hDd hB c0
    have d0 := cB.below hb3 cB.lt
    have dA := cA.trans (hb3.mono cA.size)
    have HOY := Lib.hid (cO.mono vis_out)
    have hYb := hb3
    clear cB cA cO hb3
    have HQS : Hid (∀ r ∈ qs, Y.heap.size < r ∧ r < W3.heap.size) := Lib.hid (fun r hr => by
      obtain ⟨i, hi, rfl⟩ := List.getElem_of_mem hr
      have := hTbl.row i hi (by rw [← hTbl.len]; exact hi)
      exact ⟨this.2.1, this.1.lt⟩)
    have hql : qs.length = s.mks.length := by rw [hTbl.len]; simp
    have HQL := Lib.hid hql
    clear hql
    obtain ⟨q, hq⟩ : ∃ q, Y.heap.size = q := ⟨_, rfl⟩
    have HQY := Lib.hid hq
    rw [hq] at hTbl hqB HQS ⊢
    clear hq
    generalize hn7 : (ovL s).length = n7 at *
    have e0 := d0.alloc (.cells #[.slice (some ⟨q, 0, none⟩) s.mks.length s.mks.length] 29)
    have eP := Blk.new W3 #[.slice (some ⟨q, 0, none⟩) s.mks.length s.mks.length] 29
    have eT := hTbl.below (below_box W3 (.cells #[.slice (some ⟨q, 0, none⟩) s.mks.length s.mks.length] 29))
    have eA := dA.alloc dA.size (.cells #[.slice (some ⟨q, 0, none⟩) s.mks.length s.mks.length] 29)
    replace hYb := hYb.alloc hYb.size (.cells #[.slice (some ⟨q, 0, none⟩) s.mks.length s.mks.length] 29)
    have hldw := ld_blk (P := Try.prog) e0 Try.underlying63 rfl (by rw [sz_works]; rfl)
    have hqP : q < W3.heap.size := hTbl.out.lt
    clear d0 dA hTbl
    gi_wp2_with fail
    refine ⟨trivial, callsIn_wide.2 ?_⟩
    generalize hQP : W3.heap.size = QP at *
    generalize W3.alloc (.cells #[.slice (some ⟨q, 0, none⟩) s.mks.length s.mks.length] 29) = Z at *
    clear hQP hldw
    refine (stints_any s d _ ap T.length cp Z).mono ?_
    rintro e w' ⟨rfl, hw'⟩
    obtain rfl := hw'.symm
    clear hw'
    have f0 := (e0.alloc (.cells #[.int .i64 s.days, .slice d.a1 s.arts.length d.c1, .slice d.a2 s.ovens.length d.c2, .slice d.a3 s.mks.length d.c3, .slice d.a4 s.jobs.length d.c4, .slice d.a5 s.cols.length d.c5, .slice d.a6 s.ods.length d.c6, .slice a7 n7 c7] 63)).alloc (.cells #[.slice ap T.length cp] 29)
    have fP := (eP.alloc (.cells #[.int .i64 s.days, .slice d.a1 s.arts.length d.c1, .slice d.a2 s.ovens.length d.c2, .slice d.a3 s.mks.length d.c3, .slice d.a4 s.jobs.length d.c4, .slice d.a5 s.cols.length d.c5, .slice d.a6 s.ods.length d.c6, .slice a7 n7 c7] 63)).alloc (.cells #[.slice ap T.length cp] 29)
    have fW := (Blk.new Z #[.int .i64 s.days, .slice d.a1 s.arts.length d.c1, .slice d.a2 s.ovens.length d.c2, .slice d.a3 s.mks.length d.c3, .slice d.a4 s.jobs.length d.c4, .slice d.a5 s.cols.length d.c5, .slice d.a6 s.ods.length d.c6, .slice a7 n7 c7] 63).alloc (.cells #[.slice ap T.length cp] 29)
    have fL := Blk.new (Z.alloc (.cells #[.int .i64 s.days, .slice d.a1 s.arts.length d.c1, .slice d.a2 s.ovens.length d.c2, .slice d.a3 s.mks.length d.c3, .slice d.a4 s.jobs.length d.c4, .slice d.a5 s.cols.length d.c5, .slice d.a6 s.ods.length d.c6, .slice a7 n7 c7] 63)) #[.slice ap T.length cp] 29
    have hZb : Below Z.heap.size Z ((Z.alloc (.cells #[.int .i64 s.days, .slice d.a1 s.arts.length d.c1, .slice d.a2 s.ovens.length d.c2, .slice d.a3 s.mks.length d.c3, .slice d.a4 s.jobs.length d.c4, .slice d.a5 s.cols.length d.c5, .slice d.a6 s.ods.length d.c6, .slice a7 n7 c7] 63)).alloc (.cells #[.slice ap T.length cp] 29)) := (below_box Z _).alloc (by simp) _
    have fT := eT.below hZb
    have fA := eA.trans (hZb.mono eA.size)
    replace hYb := hYb.trans (hZb.mono hYb.size)
    simp only [World.size_alloc] at fL
    have hPZ : QP < Z.heap.size := eP.lt
    clear e0 eP eT eA hZb
    gi_wp2_with fail
    generalize hQZ : Z.heap.size = QZ at *
    have hz5 : QZ + 1 < ((Z.alloc (.cells #[.int .i64 s.days, .slice d.a1 s.arts.length d.c1, .slice d.a2 s.ovens.length d.c2, .slice d.a3 s.mks.length d.c3, .slice d.a4 s.jobs.length d.c4, .slice d.a5 s.cols.length d.c5, .slice d.a6 s.ods.length d.c6, .slice a7 n7 c7] 63)).alloc (.cells #[.slice ap T.length cp] 29)).heap.size := fL.lt
    generalize (Z.alloc (.cells #[.int .i64 s.days, .slice d.a1 s.arts.length d.c1, .slice d.a2 s.ovens.length d.c2, .slice d.a3 s.mks.length d.c3, .slice d.a4 s.jobs.length d.c4, .slice d.a5 s.cols.length d.c5, .slice d.a6 s.ods.length d.c6, .slice a7 n7 c7] 63)).alloc (.cells #[.slice ap T.length cp] 29) = w5 at *
    clear hQZ
    have hw5 : w.heap.size < w5.heap.size := by omega
    have hSl : ∀ r, (fun r => r ∈ qs) r → r < w5.heap.size := fun r hr => Nat.lt_trans (HQS.out r hr).2 (by omega)
    have hSq : ∀ r, (fun r => r ∈ qs) r → q < r ∧ r < QP := HQS.out
    have hs5 : SnD (vis (fun r => ¬ (fun r => r ∈ qs) r) w5) s d := h.mono (ext_vis_all (ext_of_below fA) (fun r hr hx => by have := (hSq r hx).1; omega))
    have ho5 : ROvns (vis (fun r => ¬ (fun r => r ∈ qs) r) w5) (.slice a7 n7 c7) (ovL s) := HOY.out.mono (ext_vis_all (ext_of_below hYb) (fun r hr hx => by have := (hSq r hx).1; have := HQY.out; omega))
    have hT5 : RRows (vis (fun r => ¬ (fun r => r ∈ qs) r) w5) (.slice ap T.length cp) T := hT.mono (ext_vis_all (ext_of_below fA) (fun r hr hx => by have := (hSq r hx).1; omega))
    have hI0 : (∃ t, Hid (madK s T 0 = t) ∧ Tbl w5 q s.days.toNat qs t ∧ BelS (fun r => r ∈ qs) w5.heap.size w5 w5 ∧ Below w.heap.size w w5) := ⟨_, Lib.hid rfl, fT, BelS.refl _ _ _, fA⟩
    refine wpIn_range_c (fun _ => False) (fun r => r ∈ qs) rfl (by simp [Fence.wide]) (gf := 68) (lb := #[.pointer (some ⟨QZ, 0, none⟩), .pointer (some ⟨QZ + 1, 0, none⟩)]) rfl trivial (enters_of Try.func68 (by kernel_rfl) rfl)
      (stintsIt_any (fun r => r ∈ qs) _ s d _ _ T _ _ w5 hs5 ok ho5 hT5 pk (fun hx => by have := hSq _ hx; omega) (fun hx => by have := hSq _ hx; omega) hSl fW fL) (fun k x hx => by
        simp only [encS, List.getElem?_map, Option.map_eq_some_iff] at hx
        obtain ⟨r, -, rfl⟩ := hx; rfl)
      (fun k W => (∃ t, Hid (madK s T k = t) ∧ Tbl W q s.days.toNat qs t ∧ BelS (fun r => r ∈ qs) w5.heap.size w5 W ∧ Below w.heap.size w W)) (fun _ _ => False) (fun _ _ => False)
      ?hI ?hIx (fun _ _ _ _ h => h.elim) ?hIT hI0
      (fun x a' W => ∃ (p : Nat) (st : Stn), x = #[.agg (stC st)] ∧ w5.heap.size ≤ p ∧ Blk W p (stC st) 84 ∧ a' = { tmps := #[.agg #[.int .i64 s.days, .slice d.a1 s.arts.length d.c1, .slice d.a2 s.ovens.length d.c2, .slice d.a3 s.mks.length d.c3, .slice d.a4 s.jobs.length d.c4, .slice d.a5 s.cols.length d.c5, .slice d.a6 s.ods.length d.c6], .slice ap T.length cp, .pointer (some ⟨w.heap.size, 0, none⟩), undef, .slice none 0 0, .int .i64 0, .pointer (some ⟨B, 0, none⟩), .int .i64 0, .pointer (some ⟨QP, 0, none⟩), .pointer (some ⟨p, 0, none⟩), undef, undef, .tuple #[.agg #[.int .i64 s.days, .slice d.a1 s.arts.length d.c1, .slice d.a2 s.ovens.length d.c2, .slice d.a3 s.mks.length d.c3, .slice d.a4 s.jobs.length d.c4, .slice d.a5 s.cols.length d.c5, .slice d.a6 s.ods.length d.c6, .slice a7 n7 c7], .int .i64 0], .agg #[.int .i64 s.days, .slice d.a1 s.arts.length d.c1, .slice d.a2 s.ovens.length d.c2, .slice d.a3 s.mks.length d.c3, .slice d.a4 s.jobs.length d.c4, .slice d.a5 s.cols.length d.c5, .slice d.a6 s.ods.length d.c6], .slice ap T.length cp, .tuple #[.agg #[.int .i64 s.days, .slice d.a1 s.arts.length d.c1, .slice d.a2 s.ovens.length d.c2, .slice d.a3 s.mks.length d.c3, .slice d.a4 s.jobs.length d.c4, .slice d.a5 s.cols.length d.c5, .slice d.a6 s.ods.length d.c6, .slice a7 n7 c7], .int .i64 0], .agg #[.int .i64 s.days, .slice d.a1 s.arts.length d.c1, .slice d.a2 s.ovens.length d.c2, .slice d.a3 s.mks.length d.c3, .slice d.a4 s.jobs.length d.c4, .slice d.a5 s.cols.length d.c5, .slice d.a6 s.ods.length d.c6, .slice a7 n7 c7], .int .i64 0, .int .i64 0, .bool false, undef, .pointer (some ⟨w.heap.size, 3, none⟩), .slice d.a3 s.mks.length d.c3, .int .i64 s.mks.length, .pointer (some ⟨w.heap.size, 0, none⟩), .int .i64 s.days, .slice (some ⟨q, 0, none⟩) s.mks.length s.mks.length, .agg #[.int .i64 s.days, .slice d.a1 s.arts.length d.c1, .slice d.a2 s.ovens.length d.c2, .slice d.a3 s.mks.length d.c3, .slice d.a4 s.jobs.length d.c4, .slice d.a5 s.cols.length d.c5, .slice d.a6 s.ods.length d.c6, .slice a7 n7 c7], .slice ap T.length cp, .func (.func 68) #[] #[.pointer (some ⟨QZ, 0, none⟩), .pointer (some ⟨QZ + 1, 0, none⟩)], .agg (stC st), undef, undef, undef, undef, undef, undef, undef, undef, undef, undef, undef, undef, undef, undef, undef, undef, undef, undef, undef, undef, undef, undef, undef, undef, undef, undef], defers := [] })
      ?hAx ?assign ?body ?done ?stop ?panic
    case panic => exact fun D ch W _ h => h.elim
    case stop => exact fun D cc W _ h => h.elim
    case hI =>
      rintro k X Y' row ⟨t, e1, g1, g3, g4⟩ hg hr
      exact ⟨t, e1, Tbl.own () X Y' row g1 hg hr, ownFrom_bel (β := Unit) (Nat.le_refl _) (Nat.le_refl _) () X Y' row g3 hg hr, ownFrom_below (β := Unit) (Nat.le_refl _) (by omega) () X Y' row g4 hg hr⟩
    case hIx => exact fun cc k X Y' row h => h.elim
    case hIT => exact fun k X p v _ _ h => h.elim
    case hAx =>
      rintro x a' k X Y' row ⟨p, st, e1, e2, g1, e3⟩ hg hr
      exact ⟨p, st, e1, e2, (blk_own (β := Unit) p _ (fun _ => stC st)) () X Y' row g1 hg (fun r e => (hr r e).2), e3⟩
    case assign =>
      rintro j k x V K hx hWs ⟨t, e1, g1, g3, g4⟩ hK
      simp only [encS, List.getElem?_map, Option.map_eq_some_iff] at hx
      obtain ⟨st, hst, rfl⟩ := hx
      have hX := Blk.new V #[.int .i64 0, .int .i64 0, .int .i64 0, .int .i64 0, .int .i64 0, .int .i64 0, .int .i64 0, .int .i64 0, .int .i64 0, .int .i64 0, .int .i64 0, .int .i64 0, .int .i64 0, .int .i64 0, .int .i64 0] 84
      have hstr := st_blk (cs' := stC st) (P := Try.prog) hX rfl (by rw [sz_stint]; rfl) (by simp [stC, Value.oneCell'])
      have hXb := blk_sto (cs' := stC st) hX rfl
      have hbx : Below V.heap.size V (putC (V.alloc (.cells #[.int .i64 0, .int .i64 0, .int .i64 0, .int .i64 0, .int .i64 0, .int .i64 0, .int .i64 0, .int .i64 0, .int .i64 0, .int .i64 0, .int .i64 0, .int .i64 0, .int .i64 0, .int .i64 0, .int .i64 0] 84)) V.heap.size (stC st)) := putC_below (below_box V (.cells #[.int .i64 0, .int .i64 0, .int .i64 0, .int .i64 0, .int .i64 0, .int .i64 0, .int .i64 0, .int .i64 0, .int .i64 0, .int .i64 0, .int .i64 0, .int .i64 0, .int .i64 0, .int .i64 0, .int .i64 0] 84)) (Nat.le_refl _) (stC st)
      have HB := Lib.hid hbx
      have HX := Lib.hid hXb
      clear hX hXb hbx hst
      gi_wp2
      have hbx := HB.out
      exact hK _ _ (keepsP_below hbx) (BelS.of_below (hbx.mono hWs)) (CK.of_below hbx) ⟨t, e1, g1.below hbx, g3.trans (BelS.of_below (hbx.mono g3.size)), g4.trans (hbx.mono g4.size)⟩ ⟨V.heap.size, st, rfl, hWs, HX.out, rfl⟩
    case body =>
      rintro j k x a' V hx hWs ⟨t, e1, g1, g3, g4⟩ ⟨p, st, hxe, hp, gX, rfl⟩
      simp only [encS, List.getElem?_map, Option.map_eq_some_iff] at hx
      obtain ⟨st2, hst, rfl⟩ := hx
      have hst2 : stC st2 = stC st := by simpa using hxe
      rw [← hst2] at gX
      clear hxe hst2
      obtain ⟨hkl, hke⟩ := List.getElem?_eq_some_iff.1 hst
      have hmem : st2 ∈ stL s T := hke ▸ List.getElem_mem hkl
      have hP1 := madK_step hkl
      rw [hke, e1.out] at hP1
      obtain ⟨kk, dy, hkk, hdy, hst3⟩ := stL_mem hmem
      subst hst3
      clear hst hke hmem e1 hkl
      obtain ⟨aO, cO, hv, -, ⟨-, hm7⟩, hl7⟩ := ho5
      simp only [Value.slice.injEq] at hv
      obtain ⟨hva, hvn, hvc⟩ := hv
      have hkL : kk < (ovL s).length := by rw [ovL_len]; exact hkk
      obtain ⟨bo, ob, hbo, v1, v2, ⟨q0, q1, q2, q3⟩, hri, hrc⟩ := hl7 kk hkL
      have hov2 : (ovL s)[kk] = ovAt s kk := ovL_at hkL
      have hook := ovL_ok ok _ (List.getElem_mem hkL)
      rw [hov2] at q0 q1 hri hrc hook
      obtain ⟨am, cm, rfl⟩ := hri.shape
      obtain ⟨a2, c2, rfl⟩ := hrc.shape
      simp only at q0 q1 q2 q3
      have hP2 : madK s T (k + 1) = (ovAt s kk).ms.foldl (madF dy (ocAt s T (dy : Int) (ovAt s kk))) t := hP1
      have HP2 := Lib.hid hP2
      have gX2 : Blk V p (stC ⟨kk, dy, ocAt s T (dy : Int) (ovAt s kk)⟩) 84 := gX
      have hp0 : V.cell? ⟨p, 0, none⟩ = some (.int .i64 kk) := gX.cell 0 _ rfl
      have hp1 : V.cell? ⟨p, 1, none⟩ = some (.int .i64 dy) := gX.cell 1 _ rfl
      clear hP1 hP2 hl7 hrc hov2 hI0 hs5 hT5 gX
      generalize hoo : ovAt s kk = o at *
      generalize hocv : ocAt s T (dy : Int) o = oc at *
      have k2 := g3.ext _ _ q2
      have kri := hri.mono g3.ext
      have kB := g3.blk f0 (fun hx => by have := hSq _ hx; omega) f0.lt
      have kP := g3.blk fP (fun hx => by have := hSq _ hx; omega) fP.lt
      have n7k : kk < n7 := by rw [← hn7]; exact hkL
      have hy7 : V.cell? ⟨B, 7, none⟩ = some (.slice (some ⟨bo, ob, none⟩) n7 c7) := by
        have := kB.cell 7 _ rfl
        rw [this]; show some (Value.slice a7 n7 c7) = _; rw [hva, hbo]
      obtain ⟨hms, hl6⟩ := hook
      have HN7 := Lib.hid hn7
      have i1 : (0 : Int) ≤ (kk : Int) := Int.natCast_nonneg _
      have i3 : (kk : Int) < (n7 : Int) := by omega
      have i4 : (0 : Int) ≤ (dy : Int) := Int.natCast_nonneg _
      have i5 : (dy : Int) < max s.days 0 := by omega
      clear hva hvn hvc hbo hoo hocv hn7 hm7 kB q0 q1 q2 q3 kri
      gi_upto_region 8 with fail
      clear hy7 k2 hp0
      gi_loopw [39] (fun i W => ∃ (j : Nat) (t2 : List (List Int)), j ≤ o.ms.length ∧ i = .int .i64 j ∧ Hid ((o.ms.take j).foldl (madF dy oc) t = t2) ∧ Tbl W q s.days.toNat qs t2 ∧ BelS (fun r => r ∈ qs) V.heap.size V W ∧ Below w.heap.size w W) (fun i _ => o.ms.length - (intOf i).toNat)
      case atStart => exact ⟨0, t, Nat.zero_le _, rfl, Lib.hid rfl, g1, BelS.refl _ _ _, g4⟩
      case round =>
        have G3 := Lib.hid g3
        clear g1 g4 g3
        obtain ⟨m, t2, hm, rfl, ht2, u1, u3, u4⟩ := hrel
        by_cases hlt : m < o.ms.length
        · obtain ⟨a', c', he, -, -, hl⟩ := id hri
          simp only [Value.slice.injEq, true_and] at he
          obtain ⟨rfl, rfl⟩ := he
          obtain ⟨b1, o1, he1, e0, -⟩ := hl m hlt
          obtain ⟨z0, z1⟩ := hms _ (List.getElem_mem hlt)
          obtain ⟨n, hn⟩ := Int.eq_ofNat_of_zero_le z0
          have hst : (o.ms.take (m + 1)).foldl (madF dy oc) t = setRC t2 n dy (g oc.made n) := by
            rw [List.take_add_one, List.getElem?_eq_getElem hlt, List.foldl_append, ht2.out]
            show madF dy oc t2 o.ms[m] = _
            unfold madF
            rw [hn]; rfl
          have HST := Lib.hid hst
          rw [hn] at e0 z1
          have hnl : n < s.mks.length := by omega
          have hn6 : n < 6 := by have := ok.nm; omega
          have hqk : n < qs.length := by rw [HQL.out]; exact hnl
          have hpS : ¬ p ∈ qs := fun hx => by have := hSl _ hx; omega
          have hBB : BelS (fun r => r ∈ qs) w5.heap.size w5 wr := G3.out.trans (u3.mono hWs)
          have k9 := hBB.ext _ _ e0
          simp only [Nat.mul_one] at k9
          have kP2 := u3.blk kP (fun hx => by have := hSq _ hx; omega) kP.lt
          have gX3 := u3.blk gX2 hpS gX2.lt
          have hrow := u1.at hqk
          obtain ⟨qk, hqkd⟩ : ∃ x, qs[n] = x := ⟨_, rfl⟩
          have hqm : qk ∈ qs := by rw [← hqkd]; exact List.getElem_mem hqk
          rw [hqkd] at hrow
          obtain ⟨mv, hmv⟩ : ∃ x, g oc.made n = x := ⟨_, rfl⟩
          rw [hmv] at HST
          have D0 : Below wr.heap.size wr wr.drew := (Below.refl _ _).drew
          have hS0 : (fun w' : World => w'.cell? ⟨QP, 0, none⟩ = some (.slice (some ⟨q, 0, none⟩) s.mks.length s.mks.length) ∧ w'.cell? ⟨q, n, none⟩ = some (.slice (some ⟨qk, 0, none⟩) s.days.toNat s.days.toNat) ∧ w'.cell? ⟨p, 1, none⟩ = some (.int .i64 dy) ∧ w'.cell? ⟨p, 9 + n, none⟩ = some (.int .i64 mv)) wr.drew := ⟨ext_of_below D0 _ _ (kP2.cell 0 _ rfl), ext_of_below D0 _ _ hrow, ext_of_below D0 _ _ (gX3.cell 1 _ rfl), ext_of_below D0 _ _ (gX3.cell (9 + n) (.int .i64 mv) (by rw [← hmv]; exact stC_made ⟨kk, dy, oc⟩ hn6))⟩
          have HS0 := Lib.hid hS0
          have HQK := Lib.hid hqkd
          have j1 : (0 : Int) ≤ (m : Int) := Int.natCast_nonneg _
          have j2 : (m : Int) < (o.ms.length : Int) := by omega
          have j3 : (0 : Int) ≤ (n : Int) := Int.natCast_nonneg _
          have j4 : (n : Int) < 6 := by omega
          have j5 : (n : Int) < (s.mks.length : Int) := by omega
          have t1 := u1.below D0
          have t3 := u3.trans (BelS.of_below (D0.mono u3.size))
          have t4 := u4.trans (D0.mono u4.size)
          obtain ⟨⟨x9, s9⟩, sf⟩ := t1.cell hqk hdy
          have m1 := t1.set hqk hdy mv
          rw [hqkd] at s9 sf m1
          have hqw := hSq _ hqm
          have M1 := Lib.hid m1
          have MB := Lib.hid (t3.set ⟨qk, dy, none⟩ (.int .i64 mv) (.inr hqm))
          have MA := Lib.hid (t4.setCell (p := ⟨qk, dy, none⟩) (by simp only; omega) (.int .i64 mv))
          rw [he1]
          clear hl he1 hn z0 hst ht2 u1 u3 u4 t1 t3 t4 m1 D0 hS0 hqkd hmv hrow gX3 kP2 hBB e0
          gi_upto_region 10 with fail
          refine wpIn_region_till (fun w' : World => w'.cell? ⟨QP, 0, none⟩ = some (.slice (some ⟨q, 0, none⟩) s.mks.length s.mks.length) ∧ w'.cell? ⟨q, n, none⟩ = some (.slice (some ⟨qk, 0, none⟩) s.days.toNat s.days.toNat) ∧ w'.cell? ⟨p, 1, none⟩ = some (.int .i64 dy) ∧ w'.cell? ⟨p, 9 + n, none⟩ = some (.int .i64 mv)) 12 (by kernel_rfl) (by kernel_rfl) (fun ⟨_, _, h⟩ => by first | exact h | cases h.1) HS0.out (fun hHeld => ?_)
          clear k9
          generalize wr.drew = X1 at *
          refine Till.take 0 (some 43) (v := ?_) rfl rfl (by kernel_rfl) (by kernel_rfl) (by kernel_rfl) (by kernel_rfl) (fun _ _ _ h => h) (Or.inl ⟨by rfl, ?_⟩) (by assumption) ?_
          rotate_left
          · (intro w hSw; (try dsimp only at hSw); go_simp; try with_reducible rfl)
          try simp only [Act.put, List.setIfInBounds_toArray, List.set_cons_zero, List.set_cons_succ]
          refine Till.take 1 (some 44) (v := ?_) rfl rfl (by kernel_rfl) (by kernel_rfl) (by kernel_rfl) (by kernel_rfl) (fun _ _ _ h => h) (Or.inl ⟨by rfl, ?_⟩) (by assumption) ?_
          rotate_left
          · (intro w hSw; (try dsimp only at hSw); go_simp; try with_reducible rfl)
          try simp only [Act.put, List.setIfInBounds_toArray, List.set_cons_zero, List.set_cons_succ]
          refine Till.take 2 (some 45) (v := ?_) rfl rfl (by kernel_rfl) (by kernel_rfl) (by kernel_rfl) (by kernel_rfl) (fun _ _ _ h => h) (Or.inl ⟨by rfl, ?_⟩) (by assumption) ?_
          rotate_left
          · (intro w hSw; (try dsimp only at hSw); go_simp; try with_reducible rfl)
          try simp only [Act.put, List.setIfInBounds_toArray, List.set_cons_zero, List.set_cons_succ]
          refine Till.take 3 (some 46) (v := ?_) rfl rfl (by kernel_rfl) (by kernel_rfl) (by kernel_rfl) (by kernel_rfl) (fun _ _ _ h => h) (Or.inl ⟨by rfl, ?_⟩) (by assumption) ?_
          rotate_left
          · (intro w hSw; (try dsimp only at hSw); go_simp; try with_reducible rfl)
          try simp only [Act.put, List.setIfInBounds_toArray, List.set_cons_zero, List.set_cons_succ]
          refine Till.take 4 (some 47) (v := ?_) rfl rfl (by kernel_rfl) (by kernel_rfl) (by kernel_rfl) (by kernel_rfl) (fun _ _ _ h => h) (Or.inl ⟨by rfl, ?_⟩) (by assumption) ?_
          rotate_left
          · (intro w hSw; (try dsimp only at hSw); go_simp; try with_reducible rfl)
          try simp only [Act.put, List.setIfInBounds_toArray, List.set_cons_zero, List.set_cons_succ]
          refine Till.take 5 (some 48) (v := ?_) rfl rfl (by kernel_rfl) (by kernel_rfl) (by kernel_rfl) (by kernel_rfl) (fun _ _ _ h => h) (Or.inl ⟨by rfl, ?_⟩) (by assumption) ?_
          rotate_left
          · (intro w hSw; (try dsimp only at hSw); go_simp; try with_reducible rfl)
          try simp only [Act.put, List.setIfInBounds_toArray, List.set_cons_zero, List.set_cons_succ]
          refine Till.take 6 (some 49) (v := ?_) rfl rfl (by kernel_rfl) (by kernel_rfl) (by kernel_rfl) (by kernel_rfl) (fun _ _ _ h => h) (Or.inl ⟨by rfl, ?_⟩) (by assumption) ?_
          rotate_left
          · (intro w hSw; (try dsimp only at hSw); go_simp; try with_reducible rfl)
          try simp only [Act.put, List.setIfInBounds_toArray, List.set_cons_zero, List.set_cons_succ]
          refine Till.take 7 (some 50) (v := ?_) rfl rfl (by kernel_rfl) (by kernel_rfl) (by kernel_rfl) (by kernel_rfl) (fun _ _ _ h => h) (Or.inl ⟨by rfl, ?_⟩) (by assumption) ?_
          rotate_left
          · (intro w hSw; (try dsimp only at hSw); go_simp; try with_reducible rfl)
          try simp only [Act.put, List.setIfInBounds_toArray, List.set_cons_zero, List.set_cons_succ]
          refine Till.take 8 (some 51) (v := ?_) rfl rfl (by kernel_rfl) (by kernel_rfl) (by kernel_rfl) (by kernel_rfl) (fun _ _ _ h => h) (Or.inl ⟨by rfl, ?_⟩) (by assumption) ?_
          rotate_left
          · (intro w hSw; (try dsimp only at hSw); go_simp; try with_reducible rfl)
          try simp only [Act.put, List.setIfInBounds_toArray, List.set_cons_zero, List.set_cons_succ]
          refine Till.take 9 (some 52) (v := ?_) rfl rfl (by kernel_rfl) (by kernel_rfl) (by kernel_rfl) (by kernel_rfl) (fun _ _ _ h => h) (Or.inl ⟨by rfl, ?_⟩) (by assumption) ?_
          rotate_left
          · (intro w hSw; (try dsimp only at hSw); go_simp; try with_reducible rfl)
          try simp only [Act.put, List.setIfInBounds_toArray, List.set_cons_zero, List.set_cons_succ]
          refine Till.take 10 (some 53) (v := ?_) rfl rfl (by kernel_rfl) (by kernel_rfl) (by kernel_rfl) (by kernel_rfl) (fun _ _ _ h => h) (Or.inl ⟨by rfl, ?_⟩) (by assumption) ?_
          rotate_left
          · (intro w hSw; (try dsimp only at hSw); go_simp; try with_reducible rfl)
          try simp only [Act.put, List.setIfInBounds_toArray, List.set_cons_zero, List.set_cons_succ]
          refine Till.take 11 (some 54) (v := ?_) rfl rfl (by kernel_rfl) (by kernel_rfl) (by kernel_rfl) (by kernel_rfl) (fun _ _ _ h => h) (Or.inl ⟨by rfl, ?_⟩) (by assumption) ?_
          rotate_left
          · (intro w hSw; (try dsimp only at hSw); go_simp; try with_reducible rfl)
          try simp only [Act.put, List.setIfInBounds_toArray, List.set_cons_zero, List.set_cons_succ]
          refine Till.one 12 rfl (by kernel_rfl) (fun K hK => ?_)
          go_simp
          refine hK.out _ _ (fun h => absurd rfl h) (fun _ => ?_)
          clear hK K s9 sf
          try simp only [Act.put, List.setIfInBounds_toArray, List.set_cons_zero, List.set_cons_succ]
          refine Till.done (by kernel_rfl) ?_ _
          generalize X1.setCell ⟨qk, dy, none⟩ (.int .i64 mv) = X2 at *
          gi_wp2
          go_roundw
          case rel => exact ⟨m + 1, _, by omega, by go_num, HST, M1.out, MB.out, MA.out⟩
          case measure => simp [intOf]; omega
        · obtain rfl : m = o.ms.length := by omega
          have HT2 : Hid (madK s T (k + 1) = t2) := Lib.hid (by rw [HP2.out, ← ht2.out, List.take_length])
          have U1 := Lib.hid u1
          have U3 := Lib.hid u3
          have U4 := Lib.hid u4
          clear u1 u3 u4 ht2
          gi_wp2
          have hBS := U3.out
          exact ⟨keepsP_belS hBS hSl, hBS.mono hWs, CK.of_belS hBS, _, HT2, U1.out, G3.out.trans (hBS.mono hWs), U4.out⟩
    case done =>
      rintro D V hD ⟨t, e1, g1, g3, g4⟩ hKD
      rw [encS_len] at e1
      have yP := (g3.blk fP (fun hx => by have := hSq _ hx; omega) fP.lt).cell 0 _ rfl
      have hpd := g4.trans (belowK_b (w := w) (Nat.le_refl _) V D _ (.deferred none) (by omega) hKD rfl rfl)
      have HPA : Hid (madA s T = t) := Lib.hid (by unfold madA; rw [if_pos HE.out]; exact e1.out)
      have hbd := madK_bd ok T (stL s T).length
      rw [e1.out] at hbd
      have htl : t.length = s.mks.length := by rw [← g1.len, HQL.out]
      have hrr : RRows (vis (w.heap.size ≤ ·) V) (.slice (some ⟨q, 0, none⟩) t.length t.length) t := g1.rows (S := (w.heap.size ≤ ·)) (by show w.heap.size ≤ q; omega) (fun i hi => by have := hSq _ (List.getElem_mem hi); show w.heap.size ≤ qs[i]; omega) (by rw [HQL.out]; omega) (by omega) (fun r hr x hx => by have := hbd r hr x hx; unfold I64; omega)
      have hrr2 : RRows (vis (w.heap.size ≤ ·) (V.putObj D (.deferred none))) (.slice (some ⟨q, 0, none⟩) t.length t.length) t := hrr.mono (fun p x hp => vis_cell.2 ⟨(vis_cell.1 hp).1, ext_putMark hKD _ _ _ (vis_cell.1 hp).2⟩)
      rw [htl] at hrr2
      have HRR := Lib.hid hrr2
      have HPD := Lib.hid hpd
      have HKD := Lib.hid hKD
      clear hrr hrr2 hpd hbd g1 g3 g4 e1 hI0 hs5 ho5 hT5 fT fA f0 fP fW fL hKD htl hn7
      gi_wp2
      refine ⟨by simp, .inl ⟨_, _, rfl, run_takeDeferred HKD.out, ?_⟩⟩
      exact ⟨_, results_tmp2 rfl _ _ _, ⟨.slice (some ⟨q, 0, none⟩) s.mks.length s.mks.length, by rw [HE.out]; rfl, by rw [HPA.out]; exact HRR.out⟩, HPD.out⟩
end Go.Proofs.Ytdffhkbncencgaa
