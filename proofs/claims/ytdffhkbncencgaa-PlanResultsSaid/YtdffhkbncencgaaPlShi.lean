/- The shifts that plan.Shifts tells; no statement is proved here. -/
import Derived.Test.YtdffhkbncencgaaPlTab
import Derived.Test.YtdffhkbncencgaaPlPlan
import Derived.Sort.CutIn
namespace Go.Proofs.Ytdffhkbncencgaa
open Go.RowKit Go.PlainAid
set_option linter.unusedVariables false
set_option linter.unusedSimpArgs false

def shRow (o : Ovn) (c : List Int) : List Int := o.ms.map fun m => g c m.toNat
def shTo (o : Ovn) (k : Nat) : List (List Int) := (o.sh.take k).map (shRow o)
def shL (o : Ovn) : List (List Int) := o.sh.map (shRow o)
def shE (s : Sn) (o : Int) : Int := if worksE s = 0 then (if btw o 0 ((s.ovens.length : Int) - 1) = true then 0 else 7) else worksE s
def shA (s : Sn) (o : Int) : List (List Int) := if shE s o = 0 then shL (ovAt s o.toNat) else []
def ShA (s : Sn) (o : Int) (w : World) (e : Ending) (w' : World) : Prop := (∃ v, e = .returned (.tuple #[v, .int .i64 (shE s o)]) ∧ RRows (vis (w.heap.size ≤ ·) w') v (shA s o)) ∧ Below w.heap.size w w'
theorem shTo_step {o : Ovn} {k : Nat} (h : k < o.sh.length) : shTo o (k + 1) = shTo o k ++ [shRow o (o.sh[k])] := by
  unfold shTo; rw [List.take_succ_eq_append_getElem h, List.map_append]; rfl
theorem shTo_full (o : Ovn) : shTo o o.sh.length = shL o := by unfold shTo shL; rw [List.take_length]
theorem shTo_len {o : Ovn} {k : Nat} (h : k ≤ o.sh.length) : (shTo o k).length = k := by unfold shTo; simp; omega
theorem shRow_len (o : Ovn) (c : List Int) : (shRow o c).length = o.ms.length := by unfold shRow; simp
/-- a row of which j numbers are laid. -/
def parR (r : List Int) (j : Nat) : List Int := r.take j ++ List.replicate (r.length - j) 0
theorem parR_zero (r : List Int) : parR r 0 = List.replicate r.length 0 := by unfold parR; simp
theorem parR_full (r : List Int) : parR r r.length = r := by unfold parR; simp
theorem parR_set {r : List Int} {j : Nat} (h : j < r.length) : (parR r j).set j r[j] = parR r (j + 1) := by
  unfold parR
  obtain ⟨m, hm⟩ : ∃ m, r.length - j = m + 1 := ⟨r.length - j - 1, by omega⟩
  have h1 : (r.take j).length = j := by simp; omega
  rw [hm, show r.length - (j + 1) = m by omega, List.replicate_succ, List.take_succ_eq_append_getElem h, List.append_assoc]
  rw [List.set_append_right _ _ (by omega), h1, Nat.sub_self]
  rfl
theorem parR_at {r : List Int} {j : Nat} (h : j < r.length) : (parR r j)[j]? = some 0 := by
  unfold parR
  rw [List.getElem?_append_right (by simp; omega)]
  simp [List.getElem?_replicate]
  omega
theorem intsC_setS (l : List Int) (j : Nat) (v : Int) : (intsC l).setIfInBounds j (.int .i64 v) = intsC (l.set j v) := by
  unfold intsC; simp [List.map_set]
theorem own_neq {w : World} {base : Nat} {e : TypeId} {size : Nat} {v : Value} {n : Nat} {xs : List Value} (h : w.ownsRow base e size v n xs) {k : Nat} {cs : Array Value} {t : TypeId} (hb : Blk w k cs t) (ht : e ≠ t) : v.ownBlock ≠ some k := fun hk => by
  rcases h.2 with ⟨hv, -⟩ | ⟨g, cap, cur, hv, -, hh, -⟩
  · rw [hv] at hk; cases hk
  · rw [hv] at hk
    obtain rfl : g = k := by injection hk
    unfold Blk at hb
    rw [hh] at hb
    injection hb with hb
    injection hb with _ hb _
    exact ht hb
/-- the rows that were laid. -/
def RowsB (w : World) (base c : Nat) (qs : List Nat) (L : List (List Int)) : Prop := qs.length = L.length ∧ ∀ i (h1 : i < qs.length) (h2 : i < L.length), Blk w qs[i] (intsC L[i]) 3 ∧ base ≤ qs[i] ∧ (L[i]).length = c
theorem RowsB.below {w w' : World} {base c : Nat} {qs : List Nat} {L : List (List Int)} (h : RowsB w base c qs L) (hb : Below w.heap.size w w') : RowsB w' base c qs L :=
  ⟨h.1, fun i h1 h2 => by
    obtain ⟨r1, r2, r3⟩ := h.2 i h1 h2
    exact ⟨r1.below hb r1.lt, r2, r3⟩⟩
theorem RowsB.grown {w w' : World} {base c : Nat} {qs : List Nat} {L : List (List Int)} (h : RowsB w base c qs L) {row : Option Nat} (hg : w.grownBy w' row) (hr : ∀ i (h1 : i < qs.length), row ≠ some qs[i]) : RowsB w' base c qs L :=
  ⟨h.1, fun i h1 h2 => by
    obtain ⟨r1, r2, r3⟩ := h.2 i h1 h2
    exact ⟨r1.grown hg (hr i h1), r2, r3⟩⟩
theorem RowsB.add {w : World} {base c : Nat} {qs : List Nat} {L : List (List Int)} (h : RowsB w base c qs L) {q : Nat} {r : List Int} (hq : Blk w q (intsC r) 3) (hb : base ≤ q) (hr : r.length = c) : RowsB w base c (qs ++ [q]) (L ++ [r]) := by
  refine ⟨by simp [h.1], fun i h1 h2 => ?_⟩
  by_cases hi : i < qs.length
  · rw [List.getElem_append_left hi, List.getElem_append_left (by rw [← h.1]; exact hi)]
    exact h.2 i hi (by rw [← h.1]; exact hi)
  · have e1 : i = qs.length := by rw [List.length_append, List.length_singleton] at h1; omega
    subst e1
    rw [List.getElem_concat_length rfl, List.getElem_concat_length h.1]
    exact ⟨hq, hb, hr⟩
theorem own_rows {S : Nat → Prop} {w : World} {base c : Nat} {v : Value} {qs : List Nat} {L : List (List Int)} (h : w.ownsRow base 30 1 v qs.length (qs.map (rowV c))) (hr : RowsB w base c qs L) (hS : ∀ q, base ≤ q → S q) (hm : qs.length ≤ 140737488351232) (hc : c ≤ 100) (hI : ∀ r ∈ L, ∀ x ∈ r, I64 x) : RRows (vis S w) v L := by
  have h' := own_vis h (S := S) (fun q hq => hS q ((h.lt q hq).1))
  rw [hr.1] at h'
  refine own_RSl h' (by have := hr.1; omega) fun q cap hv hcell i hi => ?_
  have hiq : i < qs.length := by rw [hr.1]; exact hi
  obtain ⟨r1, r2, r3⟩ := hr.2 i hiq hi
  refine ⟨rowV c qs[i], ?_, ?_⟩
  · have := hcell i (by simp; exact hiq)
    rw [List.getElem_map] at this
    rw [Nat.mul_one]
    exact this
  · refine ⟨_, _, by rw [r3]; rfl, Nat.le_refl _, ⟨by omega, by omega⟩, fun j hj => ⟨qs[i], 0, rfl, vis_cell.2 ⟨hS _ r2, by have := r1.cell j (.int .i64 (L[i])[j]) (by unfold intsC; simp [hj]); simpa using this⟩, hI _ (List.getElem_mem hi) _ (List.getElem_mem hj)⟩⟩
theorem nil_RRowsS (w : World) : RRows w (.slice none 0 0) [] := ⟨none, 0, rfl, Nat.le_refl _, ⟨by omega, by simp⟩, fun i hi => by simp at hi⟩
theorem shL_bd {s : Sn} (ok : OkS s) (k : Nat) : ∀ r ∈ shL (ovAt s k), ∀ x ∈ r, -1 ≤ x ∧ x ≤ 8 := fun r hr x hx => by
  unfold shL at hr
  rw [List.mem_map] at hr
  obtain ⟨c, hc, rfl⟩ := hr
  unfold shRow at hx
  rw [List.mem_map] at hx
  obtain ⟨m, hm, rfl⟩ := hx
  have h1 := (ovAt_ok ok.nm k c hc).2 m.toNat (by have := mksAt_ok s k m hm; have := ok.nm; omega)
  have := ok.na
  omega

theorem sh_few {s : Sn} (hE : worksE s = 0) {k : Nat} (hk : k < s.ovens.length) : (ovAt s k).sh.length ≤ 54 := by
  unfold worksE at hE
  split at hE
  · have := fe_zero hE k (Nat.zero_le _) (by omega)
    unfold fewF at this
    split at this
    · cases this
    · omega
  · rename_i h; exact absurd hE h
set_option maxHeartbeats 16000000 in
set_option maxRecDepth 100000 in
theorem Shifts_any (s : Sn) (d : SA) (oi : Int) (w : World) (h : SnD w s d) : Calls Try.prog 12 #[.agg #[.int .i64 s.days, .slice d.a1 s.arts.length d.c1, .slice d.a2 s.ovens.length d.c2, .slice d.a3 s.mks.length d.c3, .slice d.a4 s.jobs.length d.c4, .slice d.a5 s.cols.length d.c5, .slice d.a6 s.ods.length d.c6], .int .i64 oi] w (ShA s oi w) := by
  obtain ⟨ii, hi, hzz⟩ := Option.map_eq_some_iff.1 info_ints
  obtain ⟨hz0, hz1⟩ := Prod.mk.inj hzz
  obtain ⟨hz1, hz2⟩ := Prod.mk.inj hz1
  clear hzz
  have hA := below_box w (.cells #[.int .i64 s.days, .slice d.a1 s.arts.length d.c1, .slice d.a2 s.ovens.length d.c2, .slice d.a3 s.mks.length d.c3, .slice d.a4 s.jobs.length d.c4, .slice d.a5 s.cols.length d.c5, .slice d.a6 s.ods.length d.c6] 28)
  have h0 := Blk.new w #[.int .i64 s.days, .slice d.a1 s.arts.length d.c1, .slice d.a2 s.ovens.length d.c2, .slice d.a3 s.mks.length d.c3, .slice d.a4 s.jobs.length d.c4, .slice d.a5 s.cols.length d.c5, .slice d.a6 s.ods.length d.c6] 28
  go_enter Try.func12, Try.ntmps12
  go_wp2_with fail
  generalize hWe : w.alloc (.cells #[.int .i64 s.days, .slice d.a1 s.arts.length d.c1, .slice d.a2 s.ovens.length d.c2, .slice d.a3 s.mks.length d.c3, .slice d.a4 s.jobs.length d.c4, .slice d.a5 s.cols.length d.c5, .slice d.a6 s.ods.length d.c6] 28) = W at *
  refine (worksOf_any s d W (h.mono (ext_of_below hA))).mono ?_
  rintro e W1 ⟨hr, hb1⟩
  have hA1 := hA.trans (hb1.mono hA.size)
  replace h0 := h0.below hb1 h0.lt
  rcases hr with ⟨hE, rfl⟩ | ⟨hE, v7, rfl, ho⟩
  · have HP : Hid (shE s oi = worksE s) := Lib.hid (by unfold shE; rw [if_neg hE])
    have HN : Hid (shA s oi = []) := Lib.hid (by unfold shA; rw [HP.out, if_neg hE])
    generalize worksE s = r at *
    have hr : (r != 0) = true := by simpa using hE
    have HB2 := Lib.hid (hA1.alloc hA1.size (.cells #[.int .i64 0, .slice none 0 0, .slice none 0 0, .slice none 0 0, .slice none 0 0, .slice none 0 0, .slice none 0 0, .slice none 0 0] 63))
    clear h hb1 hA h0 hA1 hE hWe
    go_wp2
    go_ret2
    exact ⟨⟨.slice none 0 0, by rw [HP.out]; rfl, by rw [HN.out]; exact nil_RRowsS _⟩, HB2.out⟩
  obtain ⟨a7, c7, rfl⟩ := ho.shape
  have hWz : w.heap.size ≤ W.heap.size := hA.size
  have HO := Lib.hid (ho.mono (vis_below (below_box W1 (.cells #[.int .i64 s.days, .slice d.a1 s.arts.length d.c1, .slice d.a2 s.ovens.length d.c2, .slice d.a3 s.mks.length d.c3, .slice d.a4 s.jobs.length d.c4, .slice d.a5 s.cols.length d.c5, .slice d.a6 s.ods.length d.c6, .slice a7 (ovL s).length c7] 63))))
  have g0 := h0.alloc (.cells #[.int .i64 s.days, .slice d.a1 s.arts.length d.c1, .slice d.a2 s.ovens.length d.c2, .slice d.a3 s.mks.length d.c3, .slice d.a4 s.jobs.length d.c4, .slice d.a5 s.cols.length d.c5, .slice d.a6 s.ods.length d.c6, .slice a7 (ovL s).length c7] 63)
  have g2 := Blk.new W1 #[.int .i64 s.days, .slice d.a1 s.arts.length d.c1, .slice d.a2 s.ovens.length d.c2, .slice d.a3 s.mks.length d.c3, .slice d.a4 s.jobs.length d.c4, .slice d.a5 s.cols.length d.c5, .slice d.a6 s.ods.length d.c6, .slice a7 (ovL s).length c7] 63
  have gA := hA1.alloc hA1.size (.cells #[.int .i64 s.days, .slice d.a1 s.arts.length d.c1, .slice d.a2 s.ovens.length d.c2, .slice d.a3 s.mks.length d.c3, .slice d.a4 s.jobs.length d.c4, .slice d.a5 s.cols.length d.c5, .slice d.a6 s.ods.length d.c6, .slice a7 (ovL s).length c7] 63)
  have y2 := g0.cell 2 _ rfl
  have HE := Lib.hid hE
  have ok := worksE_ok hE
  have hno := ok.no
  have hnm := ok.nm
  have HOK := Lib.hid ok
  have HN7 := Lib.hid (ovL_len s)
  clear hb1 hA h0 hA1 ho hE ok h
  generalize (ovL s).length = n7 at *
  go_upto_region 4 with (fail)
  clear hWe
  generalize W1.alloc (.cells #[.int .i64 s.days, .slice d.a1 s.arts.length d.c1, .slice d.a2 s.ovens.length d.c2, .slice d.a3 s.mks.length d.c3, .slice d.a4 s.jobs.length d.c4, .slice d.a5 s.cols.length d.c5, .slice d.a6 s.ods.length d.c6, .slice a7 n7 c7] 63) = Y at *
  go_wp2_with fail
  refine (isIndex_any oi s.ovens.length (by omega) Y).mono ?_
  rintro e Y' ⟨rfl, hw'⟩
  obtain rfl := hw'.symm
  clear hw'
  cases hbt : btw oi 0 ((s.ovens.length : Int) - 1) with
  | false =>
    have HP : Hid (shE s oi = 7) := Lib.hid (by unfold shE; rw [if_pos HE.out, hbt]; rfl)
    have HN : Hid (shA s oi = []) := Lib.hid (by unfold shA; rw [HP.out]; rfl)
    have HB2 := Lib.hid gA
    clear g0 g2 gA y2
    go_wp2
    go_ret2
    exact ⟨⟨.slice none 0 0, by rw [HP.out]; rfl, by rw [HN.out]; exact nil_RRowsS _⟩, HB2.out⟩
  | true =>
  have hbb := btw_true.1 hbt
  obtain ⟨k0, rfl⟩ := Int.eq_ofNat_of_zero_le hbb.1
  have hk0 : k0 < s.ovens.length := by omega
  have HP : Hid (shE s (k0 : Int) = 0) := Lib.hid (by unfold shE; rw [if_pos HE.out, if_pos hbt])
  have HPA : Hid (shA s (k0 : Int) = shL (ovAt s k0)) := Lib.hid (by unfold shA; rw [if_pos HP.out]; rfl)
  have hbd := shL_bd HOK.out k0
  have h54 := sh_few HE.out hk0
  have hms := mksAt_ok s k0
  have hml := Nat.le_trans (mksAt_len s k0) hnm
  have hme : (ovAt s k0).ms = mksAt s k0 := rfl
  rw [← hme] at hms hml
  clear hme
  obtain ⟨aX, cX, hvX, -, -, hl7⟩ := HO.out
  simp only [Value.slice.injEq] at hvX
  obtain ⟨b1, o1, he1, v1, v2, ⟨q0, q1, q2, q3⟩, hri, hrc⟩ := hl7 k0 (by rw [ovL_len]; exact hk0)
  rw [ovL_at] at q0 q1 hri hrc
  generalize ovAt s k0 = o at *
  obtain ⟨am, cm, rfl⟩ := hri.shape
  obtain ⟨a2, c2, rfl⟩ := hrc.shape
  have he2 : a7 = some ⟨b1, o1, none⟩ := by rw [hvX.1]; exact he1
  subst he2
  have k0' := vis_out _ _ q0
  have k1' := vis_out _ _ q1
  have k2' := vis_out _ _ q2
  have k3' := vis_out _ _ q3
  simp only at k0' k1' k2' k3'
  have j1 : (0 : Int) ≤ (k0 : Int) := Int.natCast_nonneg _
  have j2 : (k0 : Int) < (n7 : Int) := by have := HN7.out; omega
  have hri := hri.mono vis_out
  have hrc := hrc.mono vis_out
  have gw1 := g2.cell 7 _ rfl
  clear hl7 hvX he1 q0 q1 q2 q3 hbb hbt y2
  have gO := Blk.new Y #[.int .i64 o.x.lo, .int .i64 o.x.hi, .slice am o.ms.length cm, .slice a2 o.sh.length c2] 69
  have gA2 := gA.alloc gA.size (.cells #[.int .i64 o.x.lo, .int .i64 o.x.hi, .slice am o.ms.length cm, .slice a2 o.sh.length c2] 69)
  have hri2 := hri.mono (ext_of_below (below_box Y (.cells #[.int .i64 o.x.lo, .int .i64 o.x.hi, .slice am o.ms.length cm, .slice a2 o.sh.length c2] 69)))
  have hrc2 := hrc.mono (ext_of_below (below_box Y (.cells #[.int .i64 o.x.lo, .int .i64 o.x.hi, .slice am o.ms.length cm, .slice a2 o.sh.length c2] 69)))
  have hz4 : w.heap.size ≤ Y.heap.size := gA.size
  clear hri hrc
  go_upto_region 9 with (fail)
  clear k0' k1' k2' k3' gw1
  generalize hQ : Y.heap.size = Q at *
  generalize Y.alloc (.cells #[.int .i64 o.x.lo, .int .i64 o.x.hi, .slice am o.ms.length cm, .slice a2 o.sh.length c2] 69) = Z at *
  clear hQ g0 g2 gA
  have HMS := Lib.hid hms
  have HBD := Lib.hid hbd
  clear hms hbd
  obtain ⟨c, hc⟩ : ∃ c, o.ms.length = c := ⟨_, rfl⟩
  have HC := Lib.hid hc
  rw [hc] at gO hri2 hml
  clear hc
  have hmk := fun w => run_make_row' (P := Try.prog) 30 3 (.int .i64 0) 8 Try.underlying30 info_int rfl .i64 .i64 c (by omega) (by omega) w
  have hsl := hrc2.len
  go_loopw [9, 37] (fun v i wr => ∃ (k : Nat) (qs : List Nat), k ≤ o.sh.length ∧ i = .int .i64 k ∧ Hid (qs.length = k) ∧ Hid (RowsB wr Z.heap.size c qs (shTo o k)) ∧ wr.ownsRow Z.heap.size 30 1 v qs.length (qs.map (rowV c)) ∧ Below Z.heap.size Z wr) (fun _ i _ => o.sh.length - (intOf i).toNat)
  case atStart => exact ⟨0, [], Nat.zero_le _, rfl, Lib.hid rfl, Lib.hid ⟨rfl, fun i h1 => absurd h1 (by simp)⟩, World.ownsRow_nil _ _ _ _, Below.refl _ _⟩
  case round =>
    obtain ⟨k, qs, hk, rfl, hql, hrow, hown, hb⟩ := hrel
    have hbs := hb.size
    by_cases hlt : k < o.sh.length
    · have hst := shTo_step hlt
      obtain ⟨aC, cC, hvC, -, -, hlC⟩ := id hrc2
      simp only [Value.slice.injEq, true_and] at hvC
      obtain ⟨b3, o3, he3, hc6, hcc⟩ := hlC k hlt
      have he4 : a2 = some ⟨b3, o3, none⟩ := by rw [hvC.1]; exact he3
      have hEx := ext_of_below hb
      have m0 := hEx _ _ (hcc 0 (by omega))
      have m1 := hEx _ _ (hcc 1 (by omega))
      have m2 := hEx _ _ (hcc 2 (by omega))
      have m3 := hEx _ _ (hcc 3 (by omega))
      have m4 := hEx _ _ (hcc 4 (by omega))
      have m5 := hEx _ _ (hcc 5 (by omega))
      simp only [Nat.add_zero] at m0 m1 m2 m3 m4 m5
      have jj1 : (0 : Int) ≤ (k : Int) := Int.natCast_nonneg _
      have jj2 : (k : Int) < (o.sh.length : Int) := by omega
      rw [he4]
      clear hlC hvC he3 hcc hEx
      generalize o.sh[k] = cr at *
      have fO := gO.below hb gO.lt
      have fA := gA2.trans (hb.mono gA2.size)
      have hKB : Blk (wr.alloc (.cells #[.int .i64 (g cr 0), .int .i64 (g cr 1), .int .i64 (g cr 2), .int .i64 (g cr 3), .int .i64 (g cr 4), .int .i64 (g cr 5)] 71)) wr.heap.size (crC cr) 71 := Blk.new wr #[.int .i64 (g cr 0), .int .i64 (g cr 1), .int .i64 (g cr 2), .int .i64 (g cr 3), .int .i64 (g cr 4), .int .i64 (g cr 5)] 71
      have fO1 := fO.alloc (.cells #[.int .i64 (g cr 0), .int .i64 (g cr 1), .int .i64 (g cr 2), .int .i64 (g cr 3), .int .i64 (g cr 4), .int .i64 (g cr 5)] 71)
      have fb1 := hb.alloc hb.size (.cells #[.int .i64 (g cr 0), .int .i64 (g cr 1), .int .i64 (g cr 2), .int .i64 (g cr 3), .int .i64 (g cr 4), .int .i64 (g cr 5)] 71)
      have hrow1 := Lib.hid (hrow.out.below (below_box wr (.cells #[.int .i64 (g cr 0), .int .i64 (g cr 1), .int .i64 (g cr 2), .int .i64 (g cr 3), .int .i64 (g cr 4), .int .i64 (g cr 5)] 71)))
      have hown1 := hown.alloc (.cells #[.int .i64 (g cr 0), .int .i64 (g cr 1), .int .i64 (g cr 2), .int .i64 (g cr 3), .int .i64 (g cr 4), .int .i64 (g cr 5)] 71)
      have x2 := fO1.cell 2 _ rfl
      have x3 := (fO1.alloc (.cells (madeCells #[Value.int .i64 0] c) 3)).cell 2 _ rfl
      clear fO hrow hown hb
      have hP := Blk.new (wr.alloc (.cells #[.int .i64 (g cr 0), .int .i64 (g cr 1), .int .i64 (g cr 2), .int .i64 (g cr 3), .int .i64 (g cr 4), .int .i64 (g cr 5)] 71)) (madeCells #[Value.int .i64 0] c) 3
      have hbP := below_box (wr.alloc (.cells #[.int .i64 (g cr 0), .int .i64 (g cr 1), .int .i64 (g cr 2), .int .i64 (g cr 3), .int .i64 (g cr 4), .int .i64 (g cr 5)] 71)) (.cells (madeCells #[Value.int .i64 0] c) 3)
      rw [World.size_alloc] at hP hbP
      have hP0 : Blk ((wr.alloc (.cells #[.int .i64 (g cr 0), .int .i64 (g cr 1), .int .i64 (g cr 2), .int .i64 (g cr 3), .int .i64 (g cr 4), .int .i64 (g cr 5)] 71)).alloc (.cells (madeCells #[Value.int .i64 0] c) 3)) (wr.heap.size + 1) (intsC (parR (shRow o cr) 0)) 3 := by
        rw [made_int] at hP
        rw [parR_zero, shRow_len, HC.out]
        rw [made_int]
        exact hP
      have hX1z : (wr.alloc (.cells #[.int .i64 (g cr 0), .int .i64 (g cr 1), .int .i64 (g cr 2), .int .i64 (g cr 3), .int .i64 (g cr 4), .int .i64 (g cr 5)] 71)).heap.size ≤ wr.heap.size + 1 ∧ wr.heap.size + 1 ≤ (wr.alloc (.cells #[.int .i64 (g cr 0), .int .i64 (g cr 1), .int .i64 (g cr 2), .int .i64 (g cr 3), .int .i64 (g cr 4), .int .i64 (g cr 5)] 71)).heap.size := by simp
      clear hP
      go_upto_region 13 with (fail)
      clear m0 m1 m2 m3 m4 m5 x2 x3
      generalize (wr.alloc (.cells #[.int .i64 (g cr 0), .int .i64 (g cr 1), .int .i64 (g cr 2), .int .i64 (g cr 3), .int .i64 (g cr 4), .int .i64 (g cr 5)] 71)).alloc (.cells (madeCells #[Value.int .i64 0] c) 3) = X2 at *
      generalize wr.alloc (.cells #[.int .i64 (g cr 0), .int .i64 (g cr 1), .int .i64 (g cr 2), .int .i64 (g cr 3), .int .i64 (g cr 4), .int .i64 (g cr 5)] 71) = X1 at *
      generalize hKE : wr.heap.size = KB at *
      clear hKE
      go_loopw [48] (fun i wq => ∃ j : Nat, j ≤ c ∧ i = .int .i64 j ∧ Blk wq (KB + 1) (intsC (parR (shRow o cr) j)) 3 ∧ Below (KB + 1) X1 wq) (fun i _ => c - (intOf i).toNat)
      case atStart => exact ⟨0, Nat.zero_le _, rfl, hP0, hbP⟩
      case round =>
        obtain ⟨j, hj, rfl, hPj, hbj⟩ := hrel
        clear hP0 hbP
        by_cases hjl : j < c
        · have hjo : j < o.ms.length := by rw [HC.out]; exact hjl
          obtain ⟨aM, cM, hvM, -, -, hlM⟩ := id hri2
          simp only [Value.slice.injEq] at hvM
          obtain ⟨b5, o5, he5, q5, -⟩ := hlM j hjo
          have he6 : am = some ⟨b5, o5, none⟩ := by rw [hvM.1]; exact he5
          have hm := HMS.out _ (List.getElem_mem hjo)
          obtain ⟨mn, hmn⟩ := Int.eq_ofNat_of_zero_le hm.1
          have hm6 : mn < 6 := by omega
          have hrj : (shRow o cr)[j]'(by rw [shRow_len, HC.out]; exact hjl) = g cr mn := by
            simp only [shRow, List.getElem_map, hmn, Int.toNat_natCast]
          have hbZ : Below Z.heap.size Z wr := fb1.trans (hbj.mono (Nat.le_trans fb1.size hX1z.1))
          have k5 := ext_of_below hbZ _ _ q5
          simp only [Nat.mul_one] at k5
          rw [hmn] at k5
          have hKj := hKB.below hbj (by omega)
          have c9 := hKj.cell mn _ (crC_at cr hm6)
          have p9 := hPj.cell j (.int .i64 0) (by unfold intsC; rw [List.getElem?_toArray, List.getElem?_map, parR_at (by rw [shRow_len, HC.out]; exact hjl)]; rfl)
          have pf := hPj.frozen j
          have HP2 : Hid (Blk (wr.setCell ⟨KB + 1, j, none⟩ (.int .i64 (g cr mn))) (KB + 1) (intsC (parR (shRow o cr) (j + 1))) 3) := Lib.hid (by
            have := hPj.set j (.int .i64 (g cr mn))
            rwa [intsC_setS, ← hrj, parR_set, hrj] at this)
          have HB2 := Lib.hid (hbj.setCell (p := ⟨KB + 1, j, none⟩) (Nat.le_refl _) (.int .i64 (g cr mn)))
          generalize g cr mn = gv at *
          have a1 : (0 : Int) ≤ (j : Int) := Int.natCast_nonneg _
          have a2' : (j : Int) < (c : Int) := by omega
          have a3 : (0 : Int) ≤ (mn : Int) := Int.natCast_nonneg _
          have a4 : (mn : Int) < 6 := by omega
          rw [he6]
          clear hPj hbj hbZ hKj hlM hvM he5 q5 hm hmn hrj hst hc6
          go_wp2
          go_roundw
          case rel => exact ⟨j + 1, by omega, by go_num, HP2.out, HB2.out⟩
          case measure => simp [intOf]; omega
        · obtain rfl : j = c := by omega
          have hfull : parR (shRow o cr) j = shRow o cr := by
            have := parR_full (shRow o cr)
            rw [shRow_len, HC.out] at this
            exact this
          rw [hfull] at hPj
          have hown2 := own_below hown1 hbj (fun q hq => Nat.lt_of_lt_of_le (own_lt hown1 q hq) hX1z.1)
          have hrow2 := hrow1.out.below (hbj.mono hX1z.1)
          have hb2 := fb1.trans (hbj.mono (Nat.le_trans fb1.size hX1z.1))
          have hownA := hown2.alloc (.cells #[.slice (some ⟨KB + 1, 0, none⟩) j j] 30)
          have hrowA := hrow2.below (below_box wr (.cells #[.slice (some ⟨KB + 1, 0, none⟩) j j] 30))
          have hbA := hb2.alloc hb2.size (.cells #[.slice (some ⟨KB + 1, 0, none⟩) j j] 30)
          have hPA := hPj.alloc (.cells #[.slice (some ⟨KB + 1, 0, none⟩) j j] 30)
          have hlow : ∀ q, u9.ownBlock = some q → Z.heap.size ≤ q := fun q hq => (hown2.lt q hq).1
          have hqk := hql.out
          have hbz := hb2.size
          have hkb : Z.heap.size ≤ KB + 1 := by omega
          have HROW := Lib.hid hrowA
          have HPA2 := Lib.hid hPA
          have HBA := Lib.hid hbA
          have HST := Lib.hid hst
          clear hfull hPj hbj hown1 hrow1 fb1 hown2 hrow2 hb2 hrowA hbA hPA hst hKB fO1 hc6 hX1z hbs
          go_wp2_with (at_builtin; refine wpList_append_lies _ rfl _ _ 29 rfl Z.heap.size 30 ii (.slice none 0 0) 1 24 Try.underlying29 hi hz0 hz1 hz2 rfl (by decide) _ qs.length _ rfl hownA ⟨wr.heap.size, 0, none⟩ 1 1 [.slice (some ⟨KB + 1, 0, none⟩) j j] rfl rfl (by have := cell_one_new wr (.slice (some ⟨KB + 1, 0, none⟩) j j) 30; simpa using this) (by simp [Value.oneCell']) (by omega) (by unfold maxLen; omega) (by omega) (by simp; omega) _ rfl ?_; intro g6 k6 w6 hown6 hgrow6 hat6 hlt6)
          have hb7 := HBA.out.grown hgrow6 (by simp; omega) (fun q hq => hlow q hq)
          have hrow7 := (HROW.out.grown hgrow6 (fun i h1 => own_neq hownA (HROW.out.2 i h1 (by rw [← HROW.out.1]; exact h1)).1 (by decide))).add (HPA2.out.grown hgrow6 (own_neq hownA HPA2.out (by decide))) hkb (by rw [shRow_len, HC.out])
          rw [← HST.out] at hrow7
          have hownF : w6.ownsRow Z.heap.size 30 1 (.slice (some ⟨g6, 0, none⟩) (qs.length + 1) k6) (qs ++ [KB + 1]).length ((qs ++ [KB + 1]).map (rowV j)) := by simpa [rowV] using hown6
          have HR7 := Lib.hid hrow7
          have HQ7 : Hid ((qs ++ [KB + 1]).length = k + 1) := Lib.hid (by rw [List.length_append, hqk]; rfl)
          clear hown6 hownA hgrow6 hat6 HROW HPA2 HBA HST hrow7 hqk
          go_roundw
          case rel => exact ⟨k + 1, qs ++ [KB + 1], by omega, by go_num, HQ7, HR7, by rw [hql.out] at hownF; simpa using hownF, hb7⟩
          case measure => simp [intOf]; omega
    · obtain rfl : k = o.sh.length := by omega
      have HR : Hid (RRows (vis (w.heap.size ≤ ·) wr) u9 (shL o)) := Lib.hid (by
        have hrr := hrow.out
        rw [shTo_full] at hrr
        exact own_rows hown hrr (fun q hq => Nat.le_trans gA2.size hq) (by rw [hql.out]; omega) (by omega) (fun r hr x hx => by
          have := HBD.out r hr x hx
          unfold I64; omega))
      have HA9 := Lib.hid (gA2.trans (hb.mono gA2.size))
      clear hrow hown hb hql
      go_wp2
      go_ret2
      exact ⟨⟨_, by rw [HP.out]; rfl, by rw [HPA.out]; exact HR.out⟩, HA9.out⟩
end Go.Proofs.Ytdffhkbncencgaa
