/- A season with its furnaces' shifts: worksOf by its contract; no statement is proved here. -/
import Derived.Test.YtdffhkbncencgaaPlMarks
namespace Go.Proofs.Ytdffhkbncencgaa
open Go.RowKit Go.PlainAid
set_option linter.unusedVariables false
set_option linter.unusedSimpArgs false

/-- what the loop over furnaces keeps. -/
structure WkI (s : Sn) (d : SA) (w : World) (B5 : Nat) (k : Nat) (a7 : Option Addr) (c7 : Nat) (Ds : List Nat) (us : List OvV) (X : World) : Prop where
  b1 : Blk X (w.heap.size) #[.int .i64 s.days, .slice d.a1 s.arts.length d.c1, .slice d.a2 s.ovens.length d.c2, .slice d.a3 s.mks.length d.c3, .slice d.a4 s.jobs.length d.c4, .slice d.a5 s.cols.length d.c5, .slice d.a6 s.ods.length d.c6] 28
  b2 : Blk X (w.heap.size + 1) #[.int .i64 0, .slice none 0 0, .slice none 0 0, .slice none 0 0, .slice none 0 0, .slice none 0 0, .slice none 0 0, .slice none 0 0] 63
  b3 : Blk X (w.heap.size + 1 + 1) #[.int .i64 0] 36
  b5 : Blk X B5 #[.int .i64 s.days, .slice d.a1 s.arts.length d.c1, .slice d.a2 s.ovens.length d.c2, .slice d.a3 s.mks.length d.c3, .slice d.a4 s.jobs.length d.c4, .slice d.a5 s.cols.length d.c5, .slice d.a6 s.ods.length d.c6, .slice a7 k c7] 63
  own : X.ownsRow (B5 + 1) 69 4 (.slice a7 k c7) us.length (us.flatMap ovC)
  len : us.length = k
  rd : ∀ i (h : i < us.length), us[i].x = (ovAt s i).x ∧ RInts (vis (fun q => B5 < q ∧ (Value.slice a7 k c7).ownBlock ≠ some q) X) us[i].v1 (ovAt s i).ms ∧ RCrs (vis (fun q => B5 < q ∧ (Value.slice a7 k c7).ownBlock ≠ some q) X) us[i].v2 (ovAt s i).sh
  ds : ∀ D ∈ Ds, B5 < D ∧ X.heap[D]? = some (.deferred (some []))
  nd : Ds.Nodup
  bel : Below w.heap.size w X
  lt5 : w.heap.size + 3 ≤ B5

/-- what worksOf answers. -/
def WkA (s : Sn) (d : SA) (w : World) (e : Ending) (w' : World) : Prop := ((worksE s ≠ 0 ∧ e = .returned (.tuple #[.agg #[.int .i64 0, .slice none 0 0, .slice none 0 0, .slice none 0 0, .slice none 0 0, .slice none 0 0, .slice none 0 0, .slice none 0 0], .int .i64 (worksE s)])) ∨ (worksE s = 0 ∧ ∃ v7, e = .returned (.tuple #[.agg #[.int .i64 s.days, .slice d.a1 s.arts.length d.c1, .slice d.a2 s.ovens.length d.c2, .slice d.a3 s.mks.length d.c3, .slice d.a4 s.jobs.length d.c4, .slice d.a5 s.cols.length d.c5, .slice d.a6 s.ods.length d.c6, v7], .int .i64 0]) ∧ ROvns (vis (w.heap.size ≤ ·) w') v7 (ovL s))) ∧ Below w.heap.size w w'

attribute [local go_sem] Oper.semAt_some
attribute [local go_sem ↓] ex_ldc ex_stc
set_option maxHeartbeats 16000000 in
set_option maxRecDepth 100000 in
theorem worksOf_any (s : Sn) (d : SA) (w : World) (h : SnD w s d) : Calls Try.prog 32 #[.agg #[.int .i64 s.days, .slice d.a1 s.arts.length d.c1, .slice d.a2 s.ovens.length d.c2, .slice d.a3 s.mks.length d.c3, .slice d.a4 s.jobs.length d.c4, .slice d.a5 s.cols.length d.c5, .slice d.a6 s.ods.length d.c6]] w (WkA s d w) := by
  have hA : Below w.heap.size w (((w.alloc (.cells #[.int .i64 s.days, .slice d.a1 s.arts.length d.c1, .slice d.a2 s.ovens.length d.c2, .slice d.a3 s.mks.length d.c3, .slice d.a4 s.jobs.length d.c4, .slice d.a5 s.cols.length d.c5, .slice d.a6 s.ods.length d.c6] 28)).alloc (.cells #[.int .i64 0, .slice none 0 0, .slice none 0 0, .slice none 0 0, .slice none 0 0, .slice none 0 0, .slice none 0 0, .slice none 0 0] 63)).alloc (.cells #[.int .i64 0] 36)) := ((below_box w _).alloc (by simp) _).alloc (by simp; omega) _
  have h1 := ((Blk.new w #[.int .i64 s.days, .slice d.a1 s.arts.length d.c1, .slice d.a2 s.ovens.length d.c2, .slice d.a3 s.mks.length d.c3, .slice d.a4 s.jobs.length d.c4, .slice d.a5 s.cols.length d.c5, .slice d.a6 s.ods.length d.c6] 28).alloc (.cells #[.int .i64 0, .slice none 0 0, .slice none 0 0, .slice none 0 0, .slice none 0 0, .slice none 0 0, .slice none 0 0, .slice none 0 0] 63)).alloc (.cells #[.int .i64 0] 36)
  have h2 := (Blk.new (w.alloc (.cells #[.int .i64 s.days, .slice d.a1 s.arts.length d.c1, .slice d.a2 s.ovens.length d.c2, .slice d.a3 s.mks.length d.c3, .slice d.a4 s.jobs.length d.c4, .slice d.a5 s.cols.length d.c5, .slice d.a6 s.ods.length d.c6] 28)) #[.int .i64 0, .slice none 0 0, .slice none 0 0, .slice none 0 0, .slice none 0 0, .slice none 0 0, .slice none 0 0, .slice none 0 0] 63).alloc (.cells #[.int .i64 0] 36)
  have h3 := Blk.new ((w.alloc (.cells #[.int .i64 s.days, .slice d.a1 s.arts.length d.c1, .slice d.a2 s.ovens.length d.c2, .slice d.a3 s.mks.length d.c3, .slice d.a4 s.jobs.length d.c4, .slice d.a5 s.cols.length d.c5, .slice d.a6 s.ods.length d.c6] 28)).alloc (.cells #[.int .i64 0, .slice none 0 0, .slice none 0 0, .slice none 0 0, .slice none 0 0, .slice none 0 0, .slice none 0 0, .slice none 0 0] 63)) #[.int .i64 0] 36
  simp only [World.size_alloc] at h2 h3
  refine (callsIn_wide (n := 9)).1 ?_
  refine callsIn_of_wp_marks Try.func32 rfl trivial ?_ rfl
  simp only [Try.ntmps32, List.size_toArray, List.length_cons, List.length_nil, Nat.reduceAdd, Nat.reduceSub, Array.replicate_succ, Array.replicate_zero, List.push_toArray, List.append_toArray, List.nil_append, List.cons_append]
  gi_wp2_with fail
  refine ⟨trivial, callsIn_wide.2 ?_⟩
  generalize (((w.alloc (.cells #[.int .i64 s.days, .slice d.a1 s.arts.length d.c1, .slice d.a2 s.ovens.length d.c2, .slice d.a3 s.mks.length d.c3, .slice d.a4 s.jobs.length d.c4, .slice d.a5 s.cols.length d.c5, .slice d.a6 s.ods.length d.c6] 28)).alloc (.cells #[.int .i64 0, .slice none 0 0, .slice none 0 0, .slice none 0 0, .slice none 0 0, .slice none 0 0, .slice none 0 0, .slice none 0 0] 63)).alloc (.cells #[.int .i64 0] 36)) = W0 at *
  refine (checkParts_any s d W0 (h.mono (ext_of_below hA))).mono ?_
  rintro e W1 ⟨rfl, hb1⟩
  have hA1 := hA.trans (hb1.mono hA.size)
  replace h1 := h1.below hb1 h1.lt
  replace h2 := h2.below hb1 h2.lt
  replace h3 := h3.below hb1 h3.lt
  have hz3 := h3.lt
  clear hA hb1
  have e0 := h1.cell 0 _ rfl
  have e1 := h1.cell 1 _ rfl
  have e2 := h1.cell 2 _ rfl
  have e3 := h1.cell 3 _ rfl
  have e4 := h1.cell 4 _ rfl
  have e5 := h1.cell 5 _ rfl
  have e6 := h1.cell 6 _ rfl
  by_cases hp : partsE s = 0
  case neg =>
    have hE : worksE s = partsE s := by unfold worksE; rw [if_neg hp]
    rw [← hE] at hp ⊢
    obtain ⟨r, hr⟩ : ∃ r, r = worksE s := ⟨_, rfl⟩
    rw [← hr] at hp ⊢
    have HR := Lib.hid hr
    have hd1 : (r != 0) = true := by simp [hp]
    clear hr hE e0 e1 e2 e3 e4 e5 e6 hz3
    have z0 := h2.cell 0 _ rfl
    have zf0 := h2.frozen 0
    have z1 := h2.cell 1 _ rfl
    have zf1 := h2.frozen 1
    have z2 := h2.cell 2 _ rfl
    have zf2 := h2.frozen 2
    have z3 := h2.cell 3 _ rfl
    have zf3 := h2.frozen 3
    have z4 := h2.cell 4 _ rfl
    have zf4 := h2.frozen 4
    have z5 := h2.cell 5 _ rfl
    have zf5 := h2.frozen 5
    have z6 := h2.cell 6 _ rfl
    have zf6 := h2.frozen 6
    have z7 := h2.cell 7 _ rfl
    have zf7 := h2.frozen 7
    have y0 := h3.cell 0 _ rfl
    have y1 := h3.frozen 0
    have hZ := Lib.hid ((blk_sto (cs' := #[.int .i64 0, .slice none 0 0, .slice none 0 0, .slice none 0 0, .slice none 0 0, .slice none 0 0, .slice none 0 0, .slice none 0 0]) h2 rfl).other ⟨w.heap.size + 1 + 1, 0, none⟩ (.int .i64 r) (by simp))
    have hE2 : Hid (Blk ((putC W1 (w.heap.size + 1) #[.int .i64 0, .slice none 0 0, .slice none 0 0, .slice none 0 0, .slice none 0 0, .slice none 0 0, .slice none 0 0, .slice none 0 0]).setCell ⟨w.heap.size + 1 + 1, 0, none⟩ (.int .i64 r)) (w.heap.size + 1 + 1) #[.int .i64 r] 36) := Lib.hid (by simpa using (blk_sto_other (j := w.heap.size + 1) h3 (by omega) #[.int .i64 0, .slice none 0 0, .slice none 0 0, .slice none 0 0, .slice none 0 0, .slice none 0 0, .slice none 0 0, .slice none 0 0]).set 0 (.int .i64 r))
    have hW := Lib.hid ((putC_below hA1 (by omega) #[.int .i64 0, .slice none 0 0, .slice none 0 0, .slice none 0 0, .slice none 0 0, .slice none 0 0, .slice none 0 0, .slice none 0 0] : Below w.heap.size w (putC W1 (w.heap.size + 1) #[.int .i64 0, .slice none 0 0, .slice none 0 0, .slice none 0 0, .slice none 0 0, .slice none 0 0, .slice none 0 0, .slice none 0 0])).setCell (p := ⟨w.heap.size + 1 + 1, 0, none⟩) (by simp only; omega) (.int .i64 r))
    have hzz := h2.lt
    clear h1 h2 h3 hA1
    have HL := Lib.hid (show LeavesInM Fence.wide 9 Try.prog Try.f32 (({ tmps := #[.agg #[.int .i64 s.days, .slice d.a1 s.arts.length d.c1, .slice d.a2 s.ovens.length d.c2, .slice d.a3 s.mks.length d.c3, .slice d.a4 s.jobs.length d.c4, .slice d.a5 s.cols.length d.c5, .slice d.a6 s.ods.length d.c6], .pointer (some ⟨w.heap.size, 0, none⟩), .pointer (some ⟨w.heap.size + 1, 0, none⟩), .pointer (some ⟨w.heap.size + 1 + 1, 0, none⟩), .int .i64 r, undef, undef, undef, undef, undef, .agg #[.int .i64 s.days, .slice d.a1 s.arts.length d.c1, .slice d.a2 s.ovens.length d.c2, .slice d.a3 s.mks.length d.c3, .slice d.a4 s.jobs.length d.c4, .slice d.a5 s.cols.length d.c5, .slice d.a6 s.ods.length d.c6], .int .i64 r, .int .i64 r, .bool true, .agg #[.int .i64 0, .slice none 0 0, .slice none 0 0, .slice none 0 0, .slice none 0 0, .slice none 0 0, .slice none 0 0, .slice none 0 0], .int .i64 r, undef, undef, undef, undef, undef, undef, undef, undef, undef, undef, undef, undef, undef, undef, undef, undef, undef, undef, undef, undef, undef, undef, undef, undef, undef, undef, undef, undef, undef, undef, undef, undef, undef, undef, undef, undef, undef, undef, undef, undef, undef, undef], defers := [] } : Act).tmps) (WkA s d w) [] .returning _ from
      ⟨_, res_cc rfl rfl (lv_blk hZ.out Try.underlying63 rfl (by rw [sz_works]; rfl)) rfl (lv_errno hE2.out), .inl ⟨by rw [← HR.out]; exact hp, by rw [HR.out]⟩, hW.out⟩)
    gi_wp2
    exact HL.out
  have ok := partsE_ok hp
  rw [hp]
  obtain ⟨B5, hB5⟩ : ∃ B5, B5 = W1.heap.size := ⟨_, rfl⟩
  have hlt5 : w.heap.size + 3 ≤ B5 := by omega
  have hb5 := Blk.new W1 #[.int .i64 s.days, .slice d.a1 s.arts.length d.c1, .slice d.a2 s.ovens.length d.c2, .slice d.a3 s.mks.length d.c3, .slice d.a4 s.jobs.length d.c4, .slice d.a5 s.cols.length d.c5, .slice d.a6 s.ods.length d.c6, .slice none 0 0] 63
  have h1a := h1.alloc (.cells #[.int .i64 s.days, .slice d.a1 s.arts.length d.c1, .slice d.a2 s.ovens.length d.c2, .slice d.a3 s.mks.length d.c3, .slice d.a4 s.jobs.length d.c4, .slice d.a5 s.cols.length d.c5, .slice d.a6 s.ods.length d.c6, .slice none 0 0] 63)
  have h2a := h2.alloc (.cells #[.int .i64 s.days, .slice d.a1 s.arts.length d.c1, .slice d.a2 s.ovens.length d.c2, .slice d.a3 s.mks.length d.c3, .slice d.a4 s.jobs.length d.c4, .slice d.a5 s.cols.length d.c5, .slice d.a6 s.ods.length d.c6, .slice none 0 0] 63)
  have h3a := h3.alloc (.cells #[.int .i64 s.days, .slice d.a1 s.arts.length d.c1, .slice d.a2 s.ovens.length d.c2, .slice d.a3 s.mks.length d.c3, .slice d.a4 s.jobs.length d.c4, .slice d.a5 s.cols.length d.c5, .slice d.a6 s.ods.length d.c6, .slice none 0 0] 63)
  have hAa := hA1.alloc hA1.size (.cells #[.int .i64 s.days, .slice d.a1 s.arts.length d.c1, .slice d.a2 s.ovens.length d.c2, .slice d.a3 s.mks.length d.c3, .slice d.a4 s.jobs.length d.c4, .slice d.a5 s.cols.length d.c5, .slice d.a6 s.ods.length d.c6, .slice none 0 0] 63)
  have e2a := h1a.cell 2 _ rfl
  gi_wp2
  rw [← hB5] at *
  generalize W1.alloc (.cells #[.int .i64 s.days, .slice d.a1 s.arts.length d.c1, .slice d.a2 s.ovens.length d.c2, .slice d.a3 s.mks.length d.c3, .slice d.a4 s.jobs.length d.c4, .slice d.a5 s.cols.length d.c5, .slice d.a6 s.ods.length d.c6, .slice none 0 0] 63) = Wa at *
  have HI0 : WkI s d w B5 0 none 0 [] [] Wa := ⟨h1a, h2a, h3a, hb5, World.ownsRow_nil _ _ _ _, rfl, fun i hi => by simp at hi, fun D hD => by simp at hD, List.nodup_nil, hAa, hlt5⟩
  clear e0 e1 e2 e3 e4 e5 e6 e2a hb5 h1a h2a h3a hAa h1 h2 h3 hA1
  obtain ⟨p2, hp2⟩ : ∃ p, p = d.a2 := ⟨_, rfl⟩
  rw [← hp2]
  have HP2 := Lib.hid hp2
  clear hp2
  refine wpIn_loop (fun a' X => ∃ (k : Nat) (a7 : Option Addr) (c7 : Nat) (Ds : List Nat) (us : List OvV) (u6 u7 u8 u9 u22 u23 u24 u25 u26 u27 u28 u29 u30 u31 u32 u33 u34 u35 u36 u37 u38 u39 u40 u41 u42 u43 u44 u45 u46 u47 u48 u49 u50 u51 u52 u53 u54 u55 u56 : Value), (k ≤ s.ovens.length ∧ Hid (worksE s = fe (fewF s) k (s.ovens.length - k)) ∧ WkI s d w B5 k a7 c7 Ds us X) ∧ a' = { tmps := #[.agg #[.int .i64 s.days, .slice d.a1 s.arts.length d.c1, .slice p2 s.ovens.length d.c2, .slice d.a3 s.mks.length d.c3, .slice d.a4 s.jobs.length d.c4, .slice d.a5 s.cols.length d.c5, .slice d.a6 s.ods.length d.c6], .pointer (some ⟨w.heap.size, 0, none⟩), .pointer (some ⟨w.heap.size + 1, 0, none⟩), .pointer (some ⟨w.heap.size + 1 + 1, 0, none⟩), .int .i64 0, .pointer (some ⟨B5, 0, none⟩), u6, u7, u8, u9, .agg #[.int .i64 s.days, .slice d.a1 s.arts.length d.c1, .slice p2 s.ovens.length d.c2, .slice d.a3 s.mks.length d.c3, .slice d.a4 s.jobs.length d.c4, .slice d.a5 s.cols.length d.c5, .slice d.a6 s.ods.length d.c6], .int .i64 0, .int .i64 0, .bool false, undef, undef, .agg #[.int .i64 s.days, .slice d.a1 s.arts.length d.c1, .slice p2 s.ovens.length d.c2, .slice d.a3 s.mks.length d.c3, .slice d.a4 s.jobs.length d.c4, .slice d.a5 s.cols.length d.c5, .slice d.a6 s.ods.length d.c6], .agg #[.int .i64 s.days, .slice d.a1 s.arts.length d.c1, .slice p2 s.ovens.length d.c2, .slice d.a3 s.mks.length d.c3, .slice d.a4 s.jobs.length d.c4, .slice d.a5 s.cols.length d.c5, .slice d.a6 s.ods.length d.c6, .slice none 0 0], .pointer (some ⟨w.heap.size, 2, none⟩), .slice p2 s.ovens.length d.c2, .int .i64 s.ovens.length, .int .i64 k, u22, u23, u24, u25, u26, u27, u28, u29, u30, u31, u32, u33, u34, u35, u36, u37, u38, u39, u40, u41, u42, u43, u44, u45, u46, u47, u48, u49, u50, u51, u52, u53, u54, u55, u56, undef], defers := (Ds.map fun D => { target := .collected D, args := #[] }) }) (fun a' _ => s.ovens.length - (intOf (a'.tmps.getD 21 undef)).toNat) ?_ ?_
  · exact ⟨0, none, 0, [], [], _, _, _, _, _, _, _, _, _, _, _, _, _, _, _, _, _, _, _, _, _, _, _, _, _, _, _, _, _, _, _, _, _, _, _, _, _, _, _, ⟨Nat.zero_le _, Lib.hid (by unfold worksE; rw [if_pos hp]; rfl), HI0⟩, rfl⟩
  · rintro a' X ⟨k, a7, c7, Ds, us, u6, u7, u8, u9, u22, u23, u24, u25, u26, u27, u28, u29, u30, u31, u32, u33, u34, u35, u36, u37, u38, u39, u40, u41, u42, u43, u44, u45, u46, u47, u48, u49, u50, u51, u52, u53, u54, u55, u56, ⟨hk, hE, HI⟩, rfl⟩
    have hsr := h.mono (ext_of_below HI.bel)
    by_cases hlt : k < s.ovens.length
    · have hF := fe_rel hE hlt
      clear hE
      have hq : decide ((k : Int) < (s.ovens.length : Int)) = true := decide_eq_true (by omega)
      have j1 : (0 : Int) ≤ (k : Int) := Int.natCast_nonneg _
      have j2 : (k : Int) < (s.ovens.length : Int) := by omega
      obtain ⟨x2, y2, he2, -, ⟨-, hol⟩, hlo⟩ := id hsr.ovens
      simp only [Value.slice.injEq, true_and] at he2
      obtain ⟨rfl, rfl⟩ := he2
      obtain ⟨b2, o2, he2, u1, u2, i1, i2⟩ := hlo k hlt
      have hpe : p2 = some ⟨b2, o2, none⟩ := HP2.out.trans he2
      clear HP2 he2
      subst hpe
      have hox : (ovAt s k).x = s.ovens[k] := by unfold ovAt; simp [List.getElem?_eq_getElem hlt]
      have hoa : ovAt s k = ⟨s.ovens[k], mksAt s k, tellL s (s.ovens[k]).lo (s.ovens[k]).hi (mksAt s k) (mksAt s k) idleC⟩ := by unfold ovAt; simp [List.getElem?_eq_getElem hlt]
      simp only at u2
      have l2 := cell_lt u1
      simp only at l2
      have q1 := HI.b1.cell 0 _ rfl
      have hX7 := below_box X (.cells #[.int .i64 (s.ovens[k]).lo, .int .i64 (s.ovens[k]).hi] 51)
      have h7 := Blk.new X #[.int .i64 (s.ovens[k]).lo, .int .i64 (s.ovens[k]).hi] 51
      clear hlo
      generalize s.ovens[k] = x at *
      gi_wp2_with fail
      generalize X.alloc (.cells #[.int .i64 x.lo, .int .i64 x.hi] 51) = X7 at *
      have hz7 : X.heap.size < X7.heap.size := h7.lt
      have h17 := HI.b1.below hX7 HI.b1.lt
      have hs7 := hsr.mono (ext_of_below hX7)
      have D0 : Below X7.heap.size X7 X7.drew := (Below.refl _ _).drew
      have HSV : Hid (∀ V, Below X7.heap.size X7 V → (fun w' : World => (w'.cell? ⟨X.heap.size, 0, none⟩ = some (.int .i64 x.lo) ∧ w'.cell? ⟨X.heap.size, 1, none⟩ = some (.int .i64 x.hi)) ∧ w'.rangeAt (w.heap.size) 0 (#[.int .i64 s.days, .slice d.a1 s.arts.length d.c1, .slice d.a2 s.ovens.length d.c2, .slice d.a3 s.mks.length d.c3, .slice d.a4 s.jobs.length d.c4, .slice d.a5 s.cols.length d.c5, .slice d.a6 s.ods.length d.c6]).toList) V) := Lib.hid (fun V hV => ⟨⟨(h7.below hV h7.lt).cell 0 _ rfl, (h7.below hV h7.lt).cell 1 _ rfl⟩, (h17.below hV h17.lt).range⟩)
      refine wpIn_mono (Q := fun e a' V => match e with
        | .normal => ∃ (B8 : Nat) (am : Option Addr) (cm : Nat), (X7.heap.size ≤ B8 ∧ Below X7.heap.size X7 V ∧ Blk V B8 #[.int .i64 x.lo, .int .i64 x.hi, .slice am (mksAt s k).length cm, .slice none 0 0] 69 ∧ RInts (vis (fun q => X7.heap.size ≤ q ∧ q ≠ B8) V) (.slice am (mksAt s k).length cm) (mksAt s k)) ∧ a' = { tmps := #[.agg #[.int .i64 s.days, .slice d.a1 s.arts.length d.c1, .slice (some ⟨b2, o2, none⟩) s.ovens.length d.c2, .slice d.a3 s.mks.length d.c3, .slice d.a4 s.jobs.length d.c4, .slice d.a5 s.cols.length d.c5, .slice d.a6 s.ods.length d.c6], .pointer (some ⟨w.heap.size, 0, none⟩), .pointer (some ⟨w.heap.size + 1, 0, none⟩), .pointer (some ⟨w.heap.size + 1 + 1, 0, none⟩), .int .i64 0, .pointer (some ⟨B5, 0, none⟩), .int .i64 k, .pointer (some ⟨X.heap.size, 0, none⟩), .pointer (some ⟨B8, 0, none⟩), u9, .agg #[.int .i64 s.days, .slice d.a1 s.arts.length d.c1, .slice (some ⟨b2, o2, none⟩) s.ovens.length d.c2, .slice d.a3 s.mks.length d.c3, .slice d.a4 s.jobs.length d.c4, .slice d.a5 s.cols.length d.c5, .slice d.a6 s.ods.length d.c6], .int .i64 0, .int .i64 0, .bool false, undef, undef, .agg #[.int .i64 s.days, .slice d.a1 s.arts.length d.c1, .slice (some ⟨b2, o2, none⟩) s.ovens.length d.c2, .slice d.a3 s.mks.length d.c3, .slice d.a4 s.jobs.length d.c4, .slice d.a5 s.cols.length d.c5, .slice d.a6 s.ods.length d.c6], .agg #[.int .i64 s.days, .slice d.a1 s.arts.length d.c1, .slice (some ⟨b2, o2, none⟩) s.ovens.length d.c2, .slice d.a3 s.mks.length d.c3, .slice d.a4 s.jobs.length d.c4, .slice d.a5 s.cols.length d.c5, .slice d.a6 s.ods.length d.c6, .slice none 0 0], .pointer (some ⟨w.heap.size, 2, none⟩), .slice (some ⟨b2, o2, none⟩) s.ovens.length d.c2, .int .i64 s.ovens.length, .int .i64 k, .bool true, .int .i64 k, .pointer (some ⟨b2, o2 + k * 2, none⟩), .agg #[.int .i64 x.lo, .int .i64 x.hi], .agg #[.int .i64 x.lo, .int .i64 x.hi], .agg #[.int .i64 s.days, .slice d.a1 s.arts.length d.c1, .slice d.a2 s.ovens.length d.c2, .slice d.a3 s.mks.length d.c3, .slice d.a4 s.jobs.length d.c4, .slice d.a5 s.cols.length d.c5, .slice d.a6 s.ods.length d.c6], .int .i64 k, .slice am (mksAt s k).length cm, .agg #[.int .i64 x.lo, .int .i64 x.hi, .slice am (mksAt s k).length cm, .slice none 0 0], u31, u32, u33, u34, u35, u36, u37, u38, u39, u40, u41, u42, u43, u44, u45, u46, u47, u48, u49, u50, u51, u52, u53, u54, u55, u56, undef], defers := (Ds.map fun D => { target := .collected D, args := #[] }) }
        | _ => False) ?_ ?_
      · refine wpIn_region_till (fun w' : World => (w'.cell? ⟨X.heap.size, 0, none⟩ = some (.int .i64 x.lo) ∧ w'.cell? ⟨X.heap.size, 1, none⟩ = some (.int .i64 x.hi)) ∧ w'.rangeAt (w.heap.size) 0 (#[.int .i64 s.days, .slice d.a1 s.arts.length d.c1, .slice d.a2 s.ovens.length d.c2, .slice d.a3 s.mks.length d.c3, .slice d.a4 s.jobs.length d.c4, .slice d.a5 s.cols.length d.c5, .slice d.a6 s.ods.length d.c6]).toList) 6 (by kernel_rfl) (by kernel_rfl) (fun ⟨_, _, h⟩ => h) (HSV.out _ D0) (fun hHeld => ?_)
        generalize X7.drew = wd at *
        refine Till.take 0 (some 26) (v := ?_) rfl rfl (by kernel_rfl) (by kernel_rfl) (by kernel_rfl) (by kernel_rfl) (fun _ _ _ h => h) (Or.inl ⟨by rfl, ?_⟩) (by assumption) ?_
        rotate_left
        · (intro w hSw; (try dsimp only at hSw); go_simp; try with_reducible rfl)
        try simp only [Act.put, List.setIfInBounds_toArray, List.set_cons_zero, List.set_cons_succ]
        refine Till.take 1 (some 27) (v := .agg #[.int .i64 s.days, .slice d.a1 s.arts.length d.c1, .slice d.a2 s.ovens.length d.c2, .slice d.a3 s.mks.length d.c3, .slice d.a4 s.jobs.length d.c4, .slice d.a5 s.cols.length d.c5, .slice d.a6 s.ods.length d.c6]) rfl rfl (by kernel_rfl) (by kernel_rfl) (by kernel_rfl) (by kernel_rfl) (fun _ _ _ h => h) (yieldsIf_load_mid rfl 28 (Operand.tmp 1) rfl (w.heap.size) 0 rfl (#[.int .i64 s.days, .slice d.a1 s.arts.length d.c1, .slice d.a2 s.ovens.length d.c2, .slice d.a3 s.mks.length d.c3, .slice d.a4 s.jobs.length d.c4, .slice d.a5 s.cols.length d.c5, .slice d.a6 s.ods.length d.c6]).toList _ (fun _ h => h.2) Try.underlying28 rfl (by rw [sz_season]; rfl)) (by assumption) ?_
        try simp only [Act.put, List.setIfInBounds_toArray, List.set_cons_zero, List.set_cons_succ]
        refine Till.take 2 (some 28) (v := ?_) rfl rfl (by kernel_rfl) (by kernel_rfl) (by kernel_rfl) (by kernel_rfl) (fun _ _ _ h => h) (Or.inl ⟨by rfl, ?_⟩) (by assumption) ?_
        rotate_left
        · (intro w hSw; (try dsimp only at hSw); go_simp; try with_reducible rfl)
        try simp only [Act.put, List.setIfInBounds_toArray, List.set_cons_zero, List.set_cons_succ]
        refine Till.two 3 5 rfl rfl (by kernel_rfl) (fun K hK => ?_) (fun K hK => ?_)
        · go_simp
          go_at_call 56
          refine (makersAt_any s d k _ (hs7.mono (ext_of_below D0)) ok.nm).mono ?_
          rintro e X8 ⟨⟨v, rfl, hv⟩, hb8⟩
          obtain ⟨am, cm, rfl⟩ := hv.shape
          have D8 := D0.trans (hb8.mono D0.size)
          refine hK.out _ _ (fun _ => HSV.out _ D8) (fun hHeld1 => ?_)
          have hh8 := HSV.out _ D8
          clear hK K
          try simp only [Act.put, List.setIfInBounds_toArray, List.set_cons_zero, List.set_cons_succ]
          refine Till.take 4 (some 30) (v := ?_) rfl rfl (by kernel_rfl) (by kernel_rfl) (by kernel_rfl) (by kernel_rfl) (fun _ _ _ h => h) (Or.inl ⟨by rfl, ?_⟩) (by assumption) ?_
          rotate_left
          · (intro w hSw; (try dsimp only at hSw); go_simp; try with_reducible rfl)
          try simp only [Act.put, List.setIfInBounds_toArray, List.set_cons_zero, List.set_cons_succ]
          refine Till.one 5 rfl (by kernel_rfl) (fun K hK => ?_)
          go_simp
          have D9 := D8.trans ((below_box X8 (.cells #[.int .i64 0, .int .i64 0, .slice none 0 0, .slice none 0 0] 69)).mono D8.size)
          have hB9 := Blk.new X8 #[.int .i64 0, .int .i64 0, .slice none 0 0, .slice none 0 0] 69
          refine hK.out _ _ (fun _ => HSV.out _ D9) (fun _ => ?_)
          clear hK K
          try simp only [Act.put, List.setIfInBounds_toArray, List.set_cons_zero, List.set_cons_succ]
          have hz8 : X7.heap.size ≤ X8.heap.size := D8.size
          have hv9 : RInts (vis (fun q => X7.heap.size ≤ q ∧ q ≠ X8.heap.size) (putC (X8.alloc (.cells #[.int .i64 0, .int .i64 0, .slice none 0 0, .slice none 0 0] 69)) X8.heap.size #[.int .i64 x.lo, .int .i64 x.hi, .slice am (mksAt s k).length cm, .slice none 0 0])) (.slice am (mksAt s k).length cm) (mksAt s k) := hv.mono (ext_vis (fun p y hp hy => by
            have hlt := cell_lt hy
            refine ⟨⟨by have := D0.size; omega, by omega⟩, ?_⟩
            exact ext_of_below (putC_below (below_box X8 _) (Nat.le_refl _) _) _ _ hy))
          refine Till.one 6 rfl (by kernel_rfl) (fun K hK => ?_)
          rw [if_pos (by rfl)]
          refine wp_store_mid 69 (Operand.tmp 8) (Operand.tmp 30) rfl (X8.heap.size) 0 #[.int .i64 x.lo, .int .i64 x.hi, .slice am (mksAt s k).length cm, .slice none 0 0] rfl rfl (there_blk hB9 rfl) (by rw [sz_oven]; rfl) (by simp [Value.oneCell']) ?_
          refine hK.out _ _ (fun h => absurd rfl h) (fun _ => ?_)
          clear hK K hHeld hHeld1
          try simp only [Act.put, List.setIfInBounds_toArray, List.set_cons_zero, List.set_cons_succ]
          refine Till.done (by kernel_rfl) ?_ _
          exact ⟨X8.heap.size, am, cm, ⟨by omega, putC_below D9 (by omega) #[.int .i64 x.lo, .int .i64 x.hi, .slice am (mksAt s k).length cm, .slice none 0 0], blk_sto hB9 rfl, hv9⟩, rfl⟩
        · go_simp
          have D9 := D0.trans ((below_box wd (.cells #[.int .i64 0, .int .i64 0, .slice none 0 0, .slice none 0 0] 69)).mono D0.size)
          have hB8 := Blk.new wd #[.int .i64 0, .int .i64 0, .slice none 0 0, .slice none 0 0] 69
          refine hK.out _ _ (fun _ => HSV.out _ D9) (fun hHeld0 => ?_)
          have hh9 := HSV.out _ D9
          clear hK K
          try simp only [Act.put, List.setIfInBounds_toArray, List.set_cons_zero, List.set_cons_succ]
          generalize hW9 : wd.alloc (.cells #[.int .i64 0, .int .i64 0, .slice none 0 0, .slice none 0 0] 69) = W9 at *
          have hz9 : wd.heap.size < W9.heap.size := hB8.lt
          refine Till.one 3 rfl (by kernel_rfl) (fun K hK => ?_)
          go_simp
          go_at_call 56
          refine (makersAt_any s d k _ (hs7.mono (ext_of_below D9)) ok.nm).mono ?_
          rintro e X8 ⟨⟨v, rfl, hv⟩, hb8⟩
          obtain ⟨am, cm, rfl⟩ := hv.shape
          have D8 := D9.trans (hb8.mono D9.size)
          have hB9 := hB8.below hb8 hB8.lt
          refine hK.out _ _ (fun _ => HSV.out _ D8) (fun hHeld1 => ?_)
          have hh8 := HSV.out _ D8
          clear hK K
          try simp only [Act.put, List.setIfInBounds_toArray, List.set_cons_zero, List.set_cons_succ]
          refine Till.take 4 (some 30) (v := ?_) rfl rfl (by kernel_rfl) (by kernel_rfl) (by kernel_rfl) (by kernel_rfl) (fun _ _ _ h => h) (Or.inl ⟨by rfl, ?_⟩) (by assumption) ?_
          rotate_left
          · (intro w hSw; (try dsimp only at hSw); go_simp; try with_reducible rfl)
          try simp only [Act.put, List.setIfInBounds_toArray, List.set_cons_zero, List.set_cons_succ]
          have hz8 : W9.heap.size ≤ X8.heap.size := hb8.size
          have hz7' : X7.heap.size ≤ wd.heap.size := D0.size
          have hv9 : RInts (vis (fun q => X7.heap.size ≤ q ∧ q ≠ wd.heap.size) (putC X8 wd.heap.size #[.int .i64 x.lo, .int .i64 x.hi, .slice am (mksAt s k).length cm, .slice none 0 0])) (.slice am (mksAt s k).length cm) (mksAt s k) := hv.mono (ext_vis (fun p y hp hy => by
            have hne : wd.heap.size ≠ p.block := by omega
            exact ⟨⟨by omega, by omega⟩, (sto_cell X8 wd.heap.size _ hne).trans hy⟩))
          refine Till.one 6 rfl (by kernel_rfl) (fun K hK => ?_)
          rw [if_pos (by rfl)]
          refine wp_store_mid 69 (Operand.tmp 8) (Operand.tmp 30) rfl (wd.heap.size) 0 #[.int .i64 x.lo, .int .i64 x.hi, .slice am (mksAt s k).length cm, .slice none 0 0] rfl rfl (there_blk hB9 rfl) (by rw [sz_oven]; rfl) (by simp [Value.oneCell']) ?_
          refine hK.out _ _ (fun h => absurd rfl h) (fun _ => ?_)
          clear hK K hHeld hHeld1
          try simp only [Act.put, List.setIfInBounds_toArray, List.set_cons_zero, List.set_cons_succ]
          refine Till.done (by kernel_rfl) ?_ _
          exact ⟨wd.heap.size, am, cm, ⟨by omega, putC_below D8 (by omega) #[.int .i64 x.lo, .int .i64 x.hi, .slice am (mksAt s k).length cm, .slice none 0 0], blk_sto hB9 rfl, hv9⟩, rfl⟩
      · rintro e a' V hh
        cases e
        case normal =>
          obtain ⟨B8, am, cm, ⟨hz8, hb, h8, hv⟩, rfl⟩ := hh
          have hXV : Below X.heap.size X V := hX7.trans (hb.mono hX7.size)
          have b5V := HI.b5.below hXV HI.b5.lt
          have hwV : Below w.heap.size w V := HI.bel.trans (hXV.mono HI.bel.size)
          have hsV := h.mono (ext_of_below hwV)
          have f0 := b5V.cell 0 _ rfl
          have f1 := b5V.cell 1 _ rfl
          have f2 := b5V.cell 2 _ rfl
          have f3 := b5V.cell 3 _ rfl
          have f4 := b5V.cell 4 _ rfl
          have f5 := b5V.cell 5 _ rfl
          have f6 := b5V.cell 6 _ rfl
          have f7 := b5V.cell 7 _ rfl
          have g0 := h8.cell 0 _ rfl
          have g1 := h8.cell 1 _ rfl
          have g2 := h8.cell 2 _ rfl
          have g3 := h8.cell 3 _ rfl
          have lB8 := h8.lt
          have lB5 := b5V.lt
          have l5 := HI.b5.lt
          gi_wp2_with fail
          refine ⟨trivial, callsIn_wide.2 ?_⟩
          refine (told_any s d (.slice a7 k c7) x.lo x.hi am cm (mksAt s k).length (.slice none 0 0) V).mono ?_
          rintro e V2 ⟨rfl, hw'⟩
          obtain rfl := hw'.symm
          clear hw' f0 f1 f2 f3 f4 f5 f6 f7 g0 g1 g2 g3
          have hPw := (Blk.new V #[.int .i64 s.days, .slice d.a1 s.arts.length d.c1, .slice d.a2 s.ovens.length d.c2, .slice d.a3 s.mks.length d.c3, .slice d.a4 s.jobs.length d.c4, .slice d.a5 s.cols.length d.c5, .slice d.a6 s.ods.length d.c6, .slice a7 k c7] 63).alloc (.cells #[.int .i64 x.lo, .int .i64 x.hi, .slice am (mksAt s k).length cm, .slice none 0 0] 69)
          have hQw := Blk.new (V.alloc (.cells #[.int .i64 s.days, .slice d.a1 s.arts.length d.c1, .slice d.a2 s.ovens.length d.c2, .slice d.a3 s.mks.length d.c3, .slice d.a4 s.jobs.length d.c4, .slice d.a5 s.cols.length d.c5, .slice d.a6 s.ods.length d.c6, .slice a7 k c7] 63)) #[.int .i64 x.lo, .int .i64 x.hi, .slice am (mksAt s k).length cm, .slice none 0 0] 69
          have h8w := (h8.alloc (.cells #[.int .i64 s.days, .slice d.a1 s.arts.length d.c1, .slice d.a2 s.ovens.length d.c2, .slice d.a3 s.mks.length d.c3, .slice d.a4 s.jobs.length d.c4, .slice d.a5 s.cols.length d.c5, .slice d.a6 s.ods.length d.c6, .slice a7 k c7] 63)).alloc (.cells #[.int .i64 x.lo, .int .i64 x.hi, .slice am (mksAt s k).length cm, .slice none 0 0] 69)
          have hbw := (below_box V (.cells #[.int .i64 s.days, .slice d.a1 s.arts.length d.c1, .slice d.a2 s.ovens.length d.c2, .slice d.a3 s.mks.length d.c3, .slice d.a4 s.jobs.length d.c4, .slice d.a5 s.cols.length d.c5, .slice d.a6 s.ods.length d.c6, .slice a7 k c7] 63)).alloc (by simp) (.cells #[.int .i64 x.lo, .int .i64 x.hi, .slice am (mksAt s k).length cm, .slice none 0 0] 69)
          simp only [World.size_alloc] at hQw
          gi_wp2_with fail
          have hz0 : ((V.alloc (.cells #[.int .i64 s.days, .slice d.a1 s.arts.length d.c1, .slice d.a2 s.ovens.length d.c2, .slice d.a3 s.mks.length d.c3, .slice d.a4 s.jobs.length d.c4, .slice d.a5 s.cols.length d.c5, .slice d.a6 s.ods.length d.c6, .slice a7 k c7] 63)).alloc (.cells #[.int .i64 x.lo, .int .i64 x.hi, .slice am (mksAt s k).length cm, .slice none 0 0] 69)).heap.size = V.heap.size + 2 := by simp
          replace hz0 := And.intro (Nat.le_of_eq hz0) (Nat.le_of_eq hz0.symm)
          generalize (V.alloc (.cells #[.int .i64 s.days, .slice d.a1 s.arts.length d.c1, .slice d.a2 s.ovens.length d.c2, .slice d.a3 s.mks.length d.c3, .slice d.a4 s.jobs.length d.c4, .slice d.a5 s.cols.length d.c5, .slice d.a6 s.ods.length d.c6, .slice a7 k c7] 63)).alloc (.cells #[.int .i64 x.lo, .int .i64 x.hi, .slice am (mksAt s k).length cm, .slice none 0 0] 69) = w0 at *
          have hXw : Below X.heap.size X w0 := hXV.trans (hbw.mono hXV.size)
          have hs0 : SnD (vis (fun q => ¬ q = B8) w0) s d := SnD.mono (ext_vis_all (ext_of_below (hwV.trans (hbw.mono hwV.size))) (fun q hq => by have := HI.bel.size; omega)) h
          have hv0 : RInts (vis (fun q => X7.heap.size ≤ q ∧ q ≠ B8) w0) (.slice am (mksAt s k).length cm) (mksAt s k) := hv.mono (ext_vis_of (ext_of_below hbw) (fun _ _ h => h))
          have hv1 : RInts (vis (fun q => ¬ q = B8) w0) (.slice am (mksAt s k).length cm) (mksAt s k) := hv0.mono (ext_vis (fun _ _ h1 h2 => ⟨h1.2, h2⟩))
          have hmsl := mksAt_len s k
          have hnm := ok.nm
          obtain ⟨shl, hshl⟩ : ∃ l, tellL s x.lo x.hi (mksAt s k) (mksAt s k) idleC = l := ⟨_, rfl⟩
          have hshk : (ovAt s k).sh = shl := by rw [hoa, ← hshl]
          have hseq := toldIt_any (fun q => q = B8) s d (.slice a7 k c7) x.lo x.hi am cm (mksAt s k) (.slice none 0 0) (9 - 1) w0 V.heap.size (V.heap.size + 1) hs0 ok hv1 (mksAt_ok s k) (by omega) (fun q hq => by omega) hPw hQw (by omega) (by omega)
          have hencs : encT s x.lo x.hi (mksAt s k) = shl.map fun c => #[.agg (crC c)] := by unfold encT; rw [hshl]
          rw [hencs] at hseq
          have hdsX : ∀ D ∈ Ds, w.heap.size ≤ D ∧ D < X.heap.size := fun D hD => by
            have h1 := HI.ds D hD
            exact ⟨by omega, (Array.getElem?_eq_some_iff.1 h1.2).1⟩
          refine wpIn_range_r (fun q => q = B8) rfl (fun q hq => by omega) (by simp [Fence.wide]) (gf := 77) (lb := #[.pointer (some ⟨V.heap.size, 0, none⟩), .pointer (some ⟨V.heap.size + 1, 0, none⟩)]) rfl trivial (enters_of Try.func77 (by kernel_rfl) rfl)
            hseq (fun j y hy => by rw [List.getElem?_map, Option.map_eq_some_iff] at hy; obtain ⟨c, _, rfl⟩ := hy; rfl)
            (fun r j Y => ∃ v, v.ownBlock = r ∧ Blk Y B8 #[.int .i64 x.lo, .int .i64 x.hi, .slice am (mksAt s k).length cm, v] 69 ∧ Y.ownsRow (w0.heap.size + 2) 71 6 v j ((shl.take j).flatMap crL) ∧ BelS (fun q => q = B8) w0.heap.size w0 Y ∧ j ≤ 54)
            (fun cc Y => cc = .ret ∧ 54 < shl.length ∧ Blk Y (w.heap.size + 1) #[.int .i64 0, .slice none 0 0, .slice none 0 0, .slice none 0 0, .slice none 0 0, .slice none 0 0, .slice none 0 0, .slice none 0 0] 63 ∧ Blk Y (w.heap.size + 1 + 1) #[.int .i64 9] 36 ∧ Below w.heap.size w Y ∧ (∀ D ∈ Ds, Y.heap[D]? = some (.deferred (some []))))
            ?hI ?hIx ?hIr ?hIT ⟨_, rfl, h8w, World.ownsRow_nil _ _ _ _, BelS.refl _ _ _, by omega⟩
            (fun y a' Y => ∃ Bx c, w0.heap.size ≤ Bx ∧ y = #[.agg (crC c)] ∧ Blk Y Bx (crC c) 71 ∧ a' = { tmps := #[.agg #[.int .i64 s.days, .slice d.a1 s.arts.length d.c1, .slice (some ⟨b2, o2, none⟩) s.ovens.length d.c2, .slice d.a3 s.mks.length d.c3, .slice d.a4 s.jobs.length d.c4, .slice d.a5 s.cols.length d.c5, .slice d.a6 s.ods.length d.c6], .pointer (some ⟨w.heap.size, 0, none⟩), .pointer (some ⟨w.heap.size + 1, 0, none⟩), .pointer (some ⟨w.heap.size + 1 + 1, 0, none⟩), .int .i64 0, .pointer (some ⟨B5, 0, none⟩), .int .i64 k, .pointer (some ⟨X.heap.size, 0, none⟩), .pointer (some ⟨B8, 0, none⟩), .pointer (some ⟨Bx, 0, none⟩), .agg #[.int .i64 s.days, .slice d.a1 s.arts.length d.c1, .slice (some ⟨b2, o2, none⟩) s.ovens.length d.c2, .slice d.a3 s.mks.length d.c3, .slice d.a4 s.jobs.length d.c4, .slice d.a5 s.cols.length d.c5, .slice d.a6 s.ods.length d.c6], .int .i64 0, .int .i64 0, .bool false, undef, undef, .agg #[.int .i64 s.days, .slice d.a1 s.arts.length d.c1, .slice (some ⟨b2, o2, none⟩) s.ovens.length d.c2, .slice d.a3 s.mks.length d.c3, .slice d.a4 s.jobs.length d.c4, .slice d.a5 s.cols.length d.c5, .slice d.a6 s.ods.length d.c6], .agg #[.int .i64 s.days, .slice d.a1 s.arts.length d.c1, .slice (some ⟨b2, o2, none⟩) s.ovens.length d.c2, .slice d.a3 s.mks.length d.c3, .slice d.a4 s.jobs.length d.c4, .slice d.a5 s.cols.length d.c5, .slice d.a6 s.ods.length d.c6, .slice none 0 0], .pointer (some ⟨w.heap.size, 2, none⟩), .slice (some ⟨b2, o2, none⟩) s.ovens.length d.c2, .int .i64 s.ovens.length, .int .i64 k, .bool true, .int .i64 k, .pointer (some ⟨b2, o2 + k * 2, none⟩), .agg #[.int .i64 x.lo, .int .i64 x.hi], .agg #[.int .i64 x.lo, .int .i64 x.hi], .agg #[.int .i64 s.days, .slice d.a1 s.arts.length d.c1, .slice d.a2 s.ovens.length d.c2, .slice d.a3 s.mks.length d.c3, .slice d.a4 s.jobs.length d.c4, .slice d.a5 s.cols.length d.c5, .slice d.a6 s.ods.length d.c6], .int .i64 k, .slice am (mksAt s k).length cm, .agg #[.int .i64 x.lo, .int .i64 x.hi, .slice am (mksAt s k).length cm, .slice none 0 0], .agg #[.int .i64 s.days, .slice d.a1 s.arts.length d.c1, .slice d.a2 s.ovens.length d.c2, .slice d.a3 s.mks.length d.c3, .slice d.a4 s.jobs.length d.c4, .slice d.a5 s.cols.length d.c5, .slice d.a6 s.ods.length d.c6, .slice a7 k c7], .agg #[.int .i64 x.lo, .int .i64 x.hi, .slice am (mksAt s k).length cm, .slice none 0 0], .func (.func 77) #[] #[.pointer (some ⟨V.heap.size, 0, none⟩), .pointer (some ⟨V.heap.size + 1, 0, none⟩)], .agg (crC c), u35, u36, u37, u38, u39, u40, u41, u42, u43, u44, u45, u46, u47, u48, u49, u50, u51, u52, u53, u54, u55, u56, undef], defers := [] })
            ?hAx ?assign ?body ?done ?stop
          case hI =>
            rintro r j Y Z row ⟨v, h1, h2, h3, h4, h5⟩ hg hr
            exact ⟨v, h1, (blk_own (β := Unit) _ _ (fun _ => #[.int .i64 x.lo, .int .i64 x.hi, .slice am (mksAt s k).length cm, v])) () Y Z row h2 hg (fun r e => (hr r e).2), own_grown h3 hg (fun r e => (hr r e).2), ownFrom_bel (β := Unit) (Nat.le_refl _) (Nat.le_refl _) () Y Z row h4 hg hr, h5⟩
          case hIx =>
            rintro cc _ Y Z row ⟨h1, h2, h3, h4, h5, h6⟩ hg hr
            exact ⟨h1, h2, (blk_own (β := Unit) _ _ (fun _ => #[.int .i64 0, .slice none 0 0, .slice none 0 0, .slice none 0 0, .slice none 0 0, .slice none 0 0, .slice none 0 0, .slice none 0 0])) () Y Z row h3 hg (fun r e => (hr r e).2), (blk_own (β := Unit) _ _ (fun _ => #[.int .i64 9])) () Y Z row h4 hg (fun r e => (hr r e).2), ownFrom_below (β := Unit) (Nat.le_refl _) (by have := hwV.size; omega) () Y Z row h5 hg hr, fun D hD => by
              rw [hg.block D (Array.getElem?_eq_some_iff.1 (h6 D hD)).1 (fun e => by have := (hr _ e.symm).1; have := hdsX D hD; have := hXw.size; omega)]; exact h6 D hD⟩
          case hIr =>
            rintro r j Y q ⟨v, h1, h2, h3, h4, h5⟩ hq
            rw [← h1] at hq
            exact ⟨(h3.lt q hq).1, own_cellsObj h3 hq⟩
          case hIT =>
            rintro r j Y p y ⟨v, h1, h2, h3, h4, h5⟩ hp ho
            exact ⟨v, h1, h2.other p y (by omega), own_othr h3 p y (by rw [h1]; exact ho), h4.set p y (.inl (by omega)), h5⟩
          case hAx =>
            rintro y a' j Y Z row ⟨Bx, c, h1, h2, h3, h4⟩ hg hr
            exact ⟨Bx, c, h1, h2, (blk_own (β := Unit) Bx _ (fun _ => crC c)) () Y Z row h3 hg (fun r e => (hr r e).2), h4⟩
          case assign =>
            rintro lp r j y Y KK hy hYs ⟨v, h1, h2, h3, h4, h5⟩ hK
            rw [List.getElem?_map, Option.map_eq_some_iff] at hy
            obtain ⟨c, hc, rfl⟩ := hy
            have hN := Blk.new Y #[.int .i64 0, .int .i64 0, .int .i64 0, .int .i64 0, .int .i64 0, .int .i64 0] 71
            have hst := st_blk (cs' := crC c) hN rfl (by rw [sz_crew]; rfl) (crC_one c)
            have hbY : Below Y.heap.size Y (putC (Y.alloc (.cells #[.int .i64 0, .int .i64 0, .int .i64 0, .int .i64 0, .int .i64 0, .int .i64 0] 71)) Y.heap.size (crC c)) := putC_below (below_box Y _) (Nat.le_refl _) _
            have hNn := blk_sto (cs' := crC c) hN rfl
            have H1 := Lib.hid (show (fun r j Y => ∃ v, v.ownBlock = r ∧ Blk Y B8 #[.int .i64 x.lo, .int .i64 x.hi, .slice am (mksAt s k).length cm, v] 69 ∧ Y.ownsRow (w0.heap.size + 2) 71 6 v j ((shl.take j).flatMap crL) ∧ BelS (fun q => q = B8) w0.heap.size w0 Y ∧ j ≤ 54) r j (putC (Y.alloc (.cells #[.int .i64 0, .int .i64 0, .int .i64 0, .int .i64 0, .int .i64 0, .int .i64 0] 71)) Y.heap.size (crC c)) from ⟨v, h1, h2.below hbY h2.lt, own_below h3 hbY (fun q e => (h3.lt q e).2), h4.trans (BelS.of_below (hbY.mono h4.size)), h5⟩)
            have HS := Lib.hid (BelS.of_below (S := fun q => q = B8) hbY)
            have HN := Lib.hid hNn
            have hYz : w0.heap.size ≤ Y.heap.size := by omega
            clear h1 h2 h3 h4 hN hbY hNn hc
            generalize hCC : crC c = CC at *
            have HC := Lib.hid hCC
            clear hCC
            gi_wp2
            exact hK _ _ HS.out H1.out ⟨Y.heap.size, c, by omega, by rw [HC.out], by rw [HC.out]; exact HN.out, by rw [HC.out]⟩
          case body =>
            rintro lp r j y a' Y hy hYs ⟨v, rfl, h2, h3, h4, h5⟩ ⟨Bx, c, hBx, rfl, hX, rfl⟩
            rw [List.getElem?_map, Option.map_eq_some_iff] at hy
            obtain ⟨c', hc, he⟩ := hy
            have hcc : crL c' = crL c := by
              simp only [Array.mk.injEq, List.cons.injEq, and_true, Value.agg.injEq] at he
              unfold crL
              rw [he]
            have htk : (shl.take j).flatMap crL ++ crL c = (shl.take (j + 1)).flatMap crL := by rw [List.take_add_one, hc, List.flatMap_append]; simp [hcc]
            have hjl : j < shl.length := (List.getElem?_eq_some_iff.1 hc).1
            have g3 := h2.cell 3 _ rfl
            have hld := ld_blk (P := Try.prog) hX Try.underlying71 rfl (by rw [sz_crew]; rfl)
            have hXb := below_box Y (.cells (crC c) 71)
            have hownA := own_below h3 hXb (fun q e => (h3.lt q e).2)
            have h2A := h2.alloc (.cells (crC c) 71)
            have hnews : ∀ q u, (crL c)[q]? = some u → (Y.alloc (.cells (crC c) 71)).cell? ((⟨Y.heap.size, 0, none⟩ : Addr).add q) = some u := World.news_of_block (w := Y.alloc (.cells (crC c) 71)) (Blk.new Y (crC c) 71)
            obtain ⟨i0, hi0, hzz⟩ := Option.map_eq_some_iff.1 info_crew
            simp only [Prod.mk.injEq] at hzz
            obtain ⟨hz0, hz1, hz2⟩ := hzz
            have hlt8 : B8 < w0.heap.size := by omega
            have hnn : ∀ q, v.ownBlock = some q → q ≠ B8 := fun q e => by have := (h3.lt q e).1; omega
            have hcel : ∀ q, v.ownBlock = some q → ∃ o : Obj, Y.heap[q]? = some o ∧ o.isCells = true := fun q e => own_cellsObj h3 e
            have H3 := Lib.hid (fun q (e : v.ownBlock = some q) => h3.lt q e)
            have H4 := Lib.hid h4
            have HT := Lib.hid htk
            have HXB := Lib.hid hXb
            have H2A := Lib.hid h2A
            have HCE := Lib.hid hcel
            have HNN := Lib.hid hnn
            clear hc he hcc htk h2 h3 h4 hXb h2A hcel hX hnn
            unfold crC at hld hownA hnews HXB H2A
            by_cases h54 : j = 54
            · subst h54
              have hZY := (blk_belS (HI.b2.below hXw HI.b2.lt) H4.out (by omega) (by omega)).alloc (.cells (crC c) 71)
              have hEY := (blk_belS (HI.b3.below hXw HI.b3.lt) H4.out (by omega) (by omega)).alloc (.cells (crC c) 71)
              unfold crC at hZY hEY
              have hw0 : Below w.heap.size w w0 := HI.bel.trans (hXw.mono HI.bel.size)
              have lw := HI.lt5
              gi_wp2_with (gi_at_builtin; refine wpListIn_append_own_at _ rfl _ _ 67 rfl (w0.heap.size + 2) 71 i0 _ 6 48 Try.underlying67 hi0 hz0 hz1 hz2 rfl (by decide) _ 54 _ rfl hownA ⟨Y.heap.size, 0, none⟩ 1 1 (crL c) rfl rfl hnews (by simp [crL, crC, Value.oneCell']) (by unfold maxLen; omega) (by omega) (by simp; omega) ?_; intro v8 w8 hown8 hgrow8 hnil8 hat8; obtain ⟨g8, c8, rfl⟩ := own_slice hown8 (by omega); have hK8 := Blk.grown H2A.out hgrow8 (fun e => HNN.out _ e rfl); have k0 := hK8.cell 3 _ rfl; have k1 := hK8.frozen 3; have hZ8 := Blk.grown hZY hgrow8 (fun e => by have := (H3.out _ e).1; omega); have hE8 := Blk.grown hEY hgrow8 (fun e => by have := (H3.out _ e).1; omega); have z0 := hZ8.cell 0 _ rfl; have zf0 := hZ8.frozen 0; have z1 := hZ8.cell 1 _ rfl; have zf1 := hZ8.frozen 1; have z2 := hZ8.cell 2 _ rfl; have zf2 := hZ8.frozen 2; have z3 := hZ8.cell 3 _ rfl; have zf3 := hZ8.frozen 3; have z4 := hZ8.cell 4 _ rfl; have zf4 := hZ8.frozen 4; have z5 := hZ8.cell 5 _ rfl; have zf5 := hZ8.frozen 5; have z6 := hZ8.cell 6 _ rfl; have zf6 := hZ8.frozen 6; have z7 := hZ8.cell 7 _ rfl; have zf7 := hZ8.frozen 7; have y0 := hE8.cell 0 _ rfl; have y1 := hE8.frozen 0)
              have hXB := HXB.out
              have hBY : BelS (fun b => b = B8 ∨ v.ownBlock = some b) Y.heap.size Y w8 := (BelS.of_below hXB).trans ((pw_grown hgrow8 (fun q e => .inr e)).mono hXB.size)
              have HBs := Lib.hid ((putC_belS (pw_imp (hBY.set ⟨B8, 3, none⟩ (.slice (some ⟨g8, 0, none⟩) 55 c8) (.inr (.inl rfl))) (T := fun b => (b = B8 ∨ b = w.heap.size + 1 ∨ b = w.heap.size + 1 + 1) ∨ v.ownBlock = some b) (fun q _ h => h.imp .inl id)) (k := w.heap.size + 1) (.inr (.inl (.inr (.inl rfl)))) #[.int .i64 0, .slice none 0 0, .slice none 0 0, .slice none 0 0, .slice none 0 0, .slice none 0 0, .slice none 0 0, .slice none 0 0]).set ⟨w.heap.size + 1 + 1, 0, none⟩ (.int .i64 9) (.inr (.inl (.inr (.inr rfl)))))
              have HZ := Lib.hid ((blk_sto (cs' := #[.int .i64 0, .slice none 0 0, .slice none 0 0, .slice none 0 0, .slice none 0 0, .slice none 0 0, .slice none 0 0, .slice none 0 0]) (hZ8.other ⟨B8, 3, none⟩ (.slice (some ⟨g8, 0, none⟩) 55 c8) (by simp only; omega)) rfl).other ⟨w.heap.size + 1 + 1, 0, none⟩ (.int .i64 9) (by simp))
              have HE : Hid (Blk ((putC (w8.setCell ⟨B8, 3, none⟩ (.slice (some ⟨g8, 0, none⟩) 55 c8)) (w.heap.size + 1) #[.int .i64 0, .slice none 0 0, .slice none 0 0, .slice none 0 0, .slice none 0 0, .slice none 0 0, .slice none 0 0, .slice none 0 0]).setCell ⟨w.heap.size + 1 + 1, 0, none⟩ (.int .i64 9)) (w.heap.size + 1 + 1) #[.int .i64 9] 36) := Lib.hid (by simpa using (blk_sto_other (j := w.heap.size + 1) (hE8.other ⟨B8, 3, none⟩ (.slice (some ⟨g8, 0, none⟩) 55 c8) (by simp only; omega)) (by omega) #[.int .i64 0, .slice none 0 0, .slice none 0 0, .slice none 0 0, .slice none 0 0, .slice none 0 0, .slice none 0 0, .slice none 0 0]).set 0 (.int .i64 9))
              have HY := Lib.hid (hw0.trans (pw_down H4.out (by omega) (fun q e => by omega)))
              refine ⟨keeps_r HBs.out (fun q h => by rcases h with h | h | h <;> omega) HCE.out, HZ.out, HE.out, HY.out.trans (pw_down HBs.out (by omega) (fun q h => by
                rcases h with (h | h | h) | h
                · omega
                · omega
                · omega
                · have := (H3.out q h).1; omega)), fun D hD => ?_⟩
              have hD1 := HI.ds D hD
              have hD2 := hdsX D hD
              refine (HBs.out.block D (by omega) (by
                rintro ((h | h | h) | h)
                · omega
                · omega
                · omega
                · have := (H3.out D h).1; omega)).trans ((H4.out.block D (by omega) (by omega)).trans ((hXw.block D hD2.2).trans hD1.2))
            · have hj3 : j < 54 := by omega
              have h3000 : ((j : Int) + 1) * ((j : Int) + 1) ≤ 3000 := by
                have h1 : ((j : Int) + 1) ≤ 54 := by omega
                have h2 : ((j : Int) + 1) * ((j : Int) + 1) ≤ 54 * 54 := Int.mul_le_mul h1 h1 (by omega) (by omega)
                omega
              have h0 : 0 ≤ ((j : Int) + 1) * ((j : Int) + 1) := Int.mul_nonneg (by omega) (by omega)
              have hd3 : decide (3000 < ((j : Int) + 1) * ((j : Int) + 1)) = false := decide_eq_false (by omega)
              gi_wp2_with (gi_at_builtin; refine wpListIn_append_own_at _ rfl _ _ 67 rfl (w0.heap.size + 2) 71 i0 _ 6 48 Try.underlying67 hi0 hz0 hz1 hz2 rfl (by decide) _ j _ rfl hownA ⟨Y.heap.size, 0, none⟩ 1 1 (crL c) rfl rfl hnews (by simp [crL, crC, Value.oneCell']) (by unfold maxLen; omega) (by omega) (by simp; omega) ?_; intro v8 w8 hown8 hgrow8 hnil8 hat8; obtain ⟨g8, c8, rfl⟩ := own_slice hown8 (by omega); have hK8 := Blk.grown H2A.out hgrow8 (fun e => HNN.out _ e rfl); have k0 := hK8.cell 3 _ rfl; have k1 := hK8.frozen 3)
              have hXB := HXB.out
              have hBY : BelS (fun b => b = B8 ∨ v.ownBlock = some b) Y.heap.size Y w8 := (BelS.of_below hXB).trans ((pw_grown hgrow8 (fun q e => .inr e)).mono hXB.size)
              have HB := Lib.hid (hBY.set ⟨B8, 3, none⟩ (.slice (some ⟨g8, 0, none⟩) (j + 1) c8) (.inr (.inl rfl)))
              have HB2 := Lib.hid (H4.out.trans (belS_drop (S := fun q => q = B8) (B := w0.heap.size) (n := w0.heap.size) HB.out (by omega) (Nat.le_refl _) (fun q e => by omega) (fun q e => by have := (H3.out q e).1; omega)))
              have HK8 : Hid (Blk (w8.setCell ⟨B8, 3, none⟩ (.slice (some ⟨g8, 0, none⟩) (j + 1) c8)) B8 #[.int .i64 x.lo, .int .i64 x.hi, .slice am (mksAt s k).length cm, .slice (some ⟨g8, 0, none⟩) (j + 1) c8] 69) := Lib.hid (by simpa using hK8.set 3 (.slice (some ⟨g8, 0, none⟩) (j + 1) c8))
              have hg8 : w0.heap.size + 2 ≤ g8 := (hown8.lt g8 rfl).1
              have HO : Hid ((w8.setCell ⟨B8, 3, none⟩ (.slice (some ⟨g8, 0, none⟩) (j + 1) c8)).ownsRow (w0.heap.size + 2) 71 6 (.slice (some ⟨g8, 0, none⟩) (j + 1) c8) (j + 1) ((shl.take (j + 1)).flatMap crL)) := Lib.hid (by
                rw [← HT.out]
                exact own_othr hown8 _ _ (fun e => by
                  simp only [Value.ownBlock, Option.some.injEq] at e
                  omega))
              refine ⟨HB.out, ?_⟩
              rcases hat8 with h | h
              · exact .inl ⟨_, h, HK8.out, HO.out, HB2.out, by omega⟩
              · exact .inr ⟨_, ⟨_, h, by simp⟩, _, rfl, HK8.out, HO.out, HB2.out, by omega⟩
          case done =>
            rintro D r W hD ⟨v, rfl, h2, h3, h4, h5⟩ hKD
            rw [List.length_map] at h3 h5
            rw [List.take_length] at h3
            have hxz := hXw.size
            have hXW : Below X.heap.size X W := hXw.trans (pw_down h4 hxz (fun q e => by omega))
            have hfk : fewF s k = 0 := by unfold fewF; rw [hshk, if_neg (by omega)]
            have HN : Hid (worksE s = fe (fewF s) (k + 1) (s.ovens.length - (k + 1))) := hF.out.1 hfk
            have hul := HI.len
            have hrow : ∀ q, (Value.slice a7 k c7).ownBlock = some q → B5 + 1 ≤ q ∧ q < X.heap.size := fun q e => HI.own.lt q e
            have hrc : ∀ q, (Value.slice a7 k c7).ownBlock = some q → ∃ o : Obj, X.heap[q]? = some o ∧ o.isCells = true := fun q e => own_cellsObj HI.own e
            have b5W := HI.b5.below hXW HI.b5.lt
            have f7 := b5W.cell 7 _ rfl
            have g0 := h2.cell 0 _ rfl
            have g1 := h2.cell 1 _ rfl
            have g2 := h2.cell 2 _ rfl
            have g3 := h2.cell 3 _ rfl
            have hv1 : v.oneCell' = true := by rcases h3.2 with ⟨e, -⟩ | ⟨g, cap, cur, e, -⟩ <;> rw [e] <;> rfl
            have hcr : RCrs (vis (fun q => w0.heap.size ≤ q) W) v shl := own_RCrs (own_vis h3 (fun q e => by have := (h3.lt q e).1; omega)) (by omega) (fun c hc => (ovAt_ok ok.nm k c (by rw [hshk]; exact hc)).1)
            have hXb := below_box W (.cells #[.int .i64 x.lo, .int .i64 x.hi, .slice am (mksAt s k).length cm, v] 69)
            have hownA := own_below (own_below HI.own hXW (fun q e => (hrow q e).2)) hXb (fun q e => by have := (hrow q e).2; have := hXW.size; omega)
            rw [hul] at hownA
            have h5A := b5W.alloc (.cells #[.int .i64 x.lo, .int .i64 x.hi, .slice am (mksAt s k).length cm, v] 69)
            have hnews : ∀ q u, (ovC ⟨x, .slice am (mksAt s k).length cm, v⟩)[q]? = some u → (W.alloc (.cells #[.int .i64 x.lo, .int .i64 x.hi, .slice am (mksAt s k).length cm, v] 69)).cell? ((⟨W.heap.size, 0, none⟩ : Addr).add q) = some u := World.news_of_block (w := W.alloc (.cells #[.int .i64 x.lo, .int .i64 x.hi, .slice am (mksAt s k).length cm, v] 69)) (Blk.new W #[.int .i64 x.lo, .int .i64 x.hi, .slice am (mksAt s k).length cm, v] 69)
            obtain ⟨i0, hi0, hzz⟩ := Option.map_eq_some_iff.1 info_oven
            simp only [Prod.mk.injEq] at hzz
            obtain ⟨hz0', hz1, hz2⟩ := hzz
            have hno := ok.no
            have hnw1 : ∀ u ∈ ovC ⟨x, .slice am (mksAt s k).length cm, v⟩, u.oneCell' = true := by
              intro u hu
              simp only [ovC, List.mem_cons, List.not_mem_nil, or_false] at hu
              rcases hu with rfl | rfl | rfl | rfl
              · rfl
              · rfl
              · rfl
              · exact hv1
            have HXB := Lib.hid hXb
            have H5A := Lib.hid h5A
            have H4 := Lib.hid h4
            have HRW := Lib.hid hrow
            have HRC := Lib.hid hrc
            have HCR := Lib.hid hcr
            have HXW := Lib.hid hXW
            have HKD := Lib.hid hKD
            have HD := Lib.hid hD
            have HUL := Lib.hid hul
            clear hXb h5A h4 hrow hrc hcr hXW hKD hD hul h2 h3 b5W hfk
            gi_wp2_with (gi_at_builtin; refine wpListIn_append_own_at _ rfl _ _ 61 rfl (B5 + 1) 69 i0 _ 4 64 Try.underlying61 hi0 hz0' hz1 hz2 rfl (by decide) _ k _ rfl hownA ⟨W.heap.size, 0, none⟩ 1 1 (ovC ⟨x, .slice am (mksAt s k).length cm, v⟩) rfl rfl hnews hnw1 (by unfold maxLen; omega) (by omega) (by simp only [World.size_alloc]; have := HXW.out.size; omega) ?_; intro v8 w8 hown8 hgrow8 hnil8 hat8; obtain ⟨g8, c8, rfl⟩ := own_slice hown8 (by omega); have hK5 := Blk.grown H5A.out hgrow8 (fun e => by have := (HRW.out _ e).1; omega); have k0 := hK5.cell 7 _ rfl; have k1 := hK5.frozen 7)
            have hXW := HXW.out
            have hrow := HRW.out
            have hul := HUL.out
            have hWz : X.heap.size ≤ W.heap.size := hXW.size
            have hg8 : B5 + 1 ≤ g8 := (hown8.lt g8 rfl).1
            have HBW : BelS (fun b => b = B5 ∨ (Value.slice a7 k c7).ownBlock = some b) W.heap.size W (w8.setCell ⟨B5, 7, none⟩ (.slice (some ⟨g8, 0, none⟩) (k + 1) c8)) :=
              ((BelS.of_below HXB.out).trans ((pw_grown hgrow8 (fun q e => .inr e)).mono HXB.out.size)).set ⟨B5, 7, none⟩ _ (.inr (.inl rfl))
            have hbs : ∀ q, X.heap.size ≤ q → q < W.heap.size → (w8.setCell ⟨B5, 7, none⟩ (.slice (some ⟨g8, 0, none⟩) (k + 1) c8)).heap[q]? = W.heap[q]? := fun q h1 h2 => HBW.block q h2 (by
              rintro (h | h)
              · have := HI.b5.lt; omega
              · have := (hrow q h).2; omega)
            have hxs : ∀ q, q < X.heap.size → q ≠ B5 → (Value.slice a7 k c7).ownBlock ≠ some q → (w8.setCell ⟨B5, 7, none⟩ (.slice (some ⟨g8, 0, none⟩) (k + 1) c8)).heap[q]? = X.heap[q]? := fun q h1 h2 h3 => (HBW.block q (by omega) (by
              rintro (h | h)
              · exact h2 h
              · exact h3 h)).trans (hXW.block q h1)
            have hT : ∀ q, q < W.heap.size → (Value.slice a7 k c7).ownBlock ≠ some q → (Value.slice (some ⟨g8, 0, none⟩) (k + 1) c8).ownBlock ≠ some q := fun q h1 h2 e => by
              rcases hat8 with h | h
              · exact h2 (h.symm.trans e)
              · rw [h] at e
                simp only [Option.some.injEq, World.size_alloc] at e
                omega
            have hblk : ∀ {K : Nat} {cs : Array Value} {t : TypeId}, Blk X K cs t → K < B5 → Blk (w8.setCell ⟨B5, 7, none⟩ (.slice (some ⟨g8, 0, none⟩) (k + 1) c8)) K cs t := fun hb hk => (hxs _ hb.lt (by omega) (fun e => by have := (hrow _ e).1; omega)).trans hb
            have hxB : B5 < X.heap.size := HI.b5.lt
            have hwz := hXw.size
            have hDe := HD.out
            have hDW : D < W.heap.size := (Array.getElem?_eq_some_iff.1 HKD.out).1
            have hx7 := hX7.size
            have HW : Hid (WkI s d w B5 (k + 1) (some ⟨g8, 0, none⟩) c8 (D :: Ds) (us ++ [(⟨x, .slice am (mksAt s k).length cm, v⟩ : OvV)]) (w8.setCell ⟨B5, 7, none⟩ (.slice (some ⟨g8, 0, none⟩) (k + 1) c8))) := by
              refine Lib.hid ⟨hblk HI.b1 (by have := HI.lt5; omega), hblk HI.b2 (by have := HI.lt5; omega), hblk HI.b3 (by have := HI.lt5; omega), ?_, ?_, by simp [hul], ?_, ?_, ?_, ?_, HI.lt5⟩
              · simpa using hK5.set 7 (.slice (some ⟨g8, 0, none⟩) (k + 1) c8)
              · rw [show (us ++ [(⟨x, .slice am (mksAt s k).length cm, v⟩ : OvV)]).length = k + 1 by simp [hul], show (us ++ [(⟨x, .slice am (mksAt s k).length cm, v⟩ : OvV)]).flatMap ovC = us.flatMap ovC ++ ovC ⟨x, .slice am (mksAt s k).length cm, v⟩ by simp]
                exact own_othr hown8 _ _ (fun e => by
                  simp only [Value.ownBlock, Option.some.injEq] at e
                  omega)
              · intro i hi
                by_cases hik : i < us.length
                · rw [List.getElem_append_left hik]
                  obtain ⟨r1, r2, r3⟩ := HI.rd i hik
                  have he : Ext (vis (fun q => B5 < q ∧ (Value.slice a7 k c7).ownBlock ≠ some q) X) (vis (fun q => B5 < q ∧ (Value.slice (some ⟨g8, 0, none⟩) (k + 1) c8).ownBlock ≠ some q) (w8.setCell ⟨B5, 7, none⟩ (.slice (some ⟨g8, 0, none⟩) (k + 1) c8))) := ext_vis (fun p y hp hy => by
                    have hl := cell_lt hy
                    exact ⟨⟨hp.1, hT _ (by omega) hp.2⟩, (World.cell?_of_block (hxs _ hl (by omega) hp.2)).trans hy⟩)
                  exact ⟨r1, r2.mono he, r3.mono he⟩
                · obtain rfl : i = k := by simp only [List.length_append, List.length_cons, List.length_nil] at hi; omega
                  rw [List.getElem_append_right (by omega)]
                  simp only [hul, Nat.sub_self, List.getElem_cons_zero]
                  refine ⟨hox.symm, ?_, ?_⟩
                  · rw [hoa]
                    refine hv0.mono (ext_vis (fun p y hp hy => by
                      have hl := cell_lt hy
                      have hpW : p.block < W.heap.size := by omega
                      refine ⟨⟨by omega, hT _ hpW (fun e => by have := (hrow _ e).2; omega)⟩, ?_⟩
                      rw [World.cell?_of_block (hbs _ (by omega) hpW), World.cell?_of_block (H4.out.block p.block hl hp.2)]
                      exact hy))
                  · rw [hshk]
                    refine HCR.out.mono (ext_vis (fun p y hp hy => by
                      have hl := cell_lt hy
                      refine ⟨⟨by omega, hT _ hl (fun e => by have := (hrow _ e).2; omega)⟩, ?_⟩
                      rw [World.cell?_of_block (hbs _ (by omega) hl)]
                      exact hy))
              · intro E hE
                rcases List.mem_cons.1 hE with rfl | hE
                · exact ⟨by omega, (hbs _ (by omega) hDW).trans HKD.out⟩
                · have h1 := HI.ds E hE
                  have h2 := hdsX E hE
                  refine ⟨h1.1, (hxs E h2.2 (by omega) (fun e => ?_)).trans h1.2⟩
                  obtain ⟨o, ho, hc⟩ := HRC.out E e
                  rw [h1.2] at ho
                  cases ho
                  cases hc
              · exact List.nodup_cons.2 ⟨fun hd => by have := hdsX D hd; omega, HI.nd⟩
              · have hwX := HI.bel.size
                exact HI.bel.trans ((hXW.mono hwX).trans (pw_down HBW (by omega) (fun q h => by
                  rcases h with h | h
                  · omega
                  · have := (hrow q h).1; omega)))
            refine ⟨⟨k + 1, some ⟨g8, 0, none⟩, c8, D :: Ds, us ++ [(⟨x, .slice am (mksAt s k).length cm, v⟩ : OvV)], _, _, _, _, _, _, _, _, _, _, _, _, _, _, _, _, _, _, _, _, _, _, _, _, _, _, _, _, _, _, _, _, _, _, _, _, _, _, _, ⟨by omega, HN, HW.out⟩, rfl⟩, ?_⟩
            simp [intOf]
            omega
          case stop =>
            rintro D cc W hD ⟨rfl, h54, hZ, hE, hB, hm⟩ hKD
            have hwE : worksE s = 9 := hF.out.2 9 (by unfold fewF; rw [hshk, if_pos h54]) (by decide)
            have hxz := hXw.size
            have HL := Lib.hid (show LeavesInM Fence.wide 9 Try.prog Try.f32 (({ tmps := #[.agg #[.int .i64 s.days, .slice d.a1 s.arts.length d.c1, .slice (some ⟨b2, o2, none⟩) s.ovens.length d.c2, .slice d.a3 s.mks.length d.c3, .slice d.a4 s.jobs.length d.c4, .slice d.a5 s.cols.length d.c5, .slice d.a6 s.ods.length d.c6], .pointer (some ⟨w.heap.size, 0, none⟩), .pointer (some ⟨w.heap.size + 1, 0, none⟩), .pointer (some ⟨w.heap.size + 1 + 1, 0, none⟩), .int .i64 0, .pointer (some ⟨B5, 0, none⟩), .int .i64 k, .pointer (some ⟨X.heap.size, 0, none⟩), .pointer (some ⟨B8, 0, none⟩), u9, .agg #[.int .i64 s.days, .slice d.a1 s.arts.length d.c1, .slice (some ⟨b2, o2, none⟩) s.ovens.length d.c2, .slice d.a3 s.mks.length d.c3, .slice d.a4 s.jobs.length d.c4, .slice d.a5 s.cols.length d.c5, .slice d.a6 s.ods.length d.c6], .int .i64 0, .int .i64 0, .bool false, undef, undef, .agg #[.int .i64 s.days, .slice d.a1 s.arts.length d.c1, .slice (some ⟨b2, o2, none⟩) s.ovens.length d.c2, .slice d.a3 s.mks.length d.c3, .slice d.a4 s.jobs.length d.c4, .slice d.a5 s.cols.length d.c5, .slice d.a6 s.ods.length d.c6], .agg #[.int .i64 s.days, .slice d.a1 s.arts.length d.c1, .slice (some ⟨b2, o2, none⟩) s.ovens.length d.c2, .slice d.a3 s.mks.length d.c3, .slice d.a4 s.jobs.length d.c4, .slice d.a5 s.cols.length d.c5, .slice d.a6 s.ods.length d.c6, .slice none 0 0], .pointer (some ⟨w.heap.size, 2, none⟩), .slice (some ⟨b2, o2, none⟩) s.ovens.length d.c2, .int .i64 s.ovens.length, .int .i64 k, .bool true, .int .i64 k, .pointer (some ⟨b2, o2 + k * 2, none⟩), .agg #[.int .i64 x.lo, .int .i64 x.hi], .agg #[.int .i64 x.lo, .int .i64 x.hi], .agg #[.int .i64 s.days, .slice d.a1 s.arts.length d.c1, .slice d.a2 s.ovens.length d.c2, .slice d.a3 s.mks.length d.c3, .slice d.a4 s.jobs.length d.c4, .slice d.a5 s.cols.length d.c5, .slice d.a6 s.ods.length d.c6], .int .i64 k, .slice am (mksAt s k).length cm, .agg #[.int .i64 x.lo, .int .i64 x.hi, .slice am (mksAt s k).length cm, .slice none 0 0], .agg #[.int .i64 s.days, .slice d.a1 s.arts.length d.c1, .slice d.a2 s.ovens.length d.c2, .slice d.a3 s.mks.length d.c3, .slice d.a4 s.jobs.length d.c4, .slice d.a5 s.cols.length d.c5, .slice d.a6 s.ods.length d.c6, .slice a7 k c7], .agg #[.int .i64 x.lo, .int .i64 x.hi, .slice am (mksAt s k).length cm, .slice none 0 0], .func (.func 77) #[] #[.pointer (some ⟨V.heap.size, 0, none⟩), .pointer (some ⟨V.heap.size + 1, 0, none⟩)], u34, u35, u36, u37, u38, u39, u40, u41, u42, u43, u44, u45, u46, u47, u48, u49, u50, u51, u52, u53, u54, u55, u56, undef], defers := [] } : Act).tmps) (WkA s d w) ((D :: Ds).map fun D => { target := .collected D, args := #[] }) .returning W from
              leave_marks (by simp) (fun X => Blk X (w.heap.size + 1) #[.int .i64 0, .slice none 0 0, .slice none 0 0, .slice none 0 0, .slice none 0 0, .slice none 0 0, .slice none 0 0, .slice none 0 0] 63 ∧ Blk X (w.heap.size + 1 + 1) #[.int .i64 9] 36 ∧ Below w.heap.size w X) (D :: Ds) W
                (List.nodup_cons.2 ⟨fun hd => by have := hdsX D hd; omega, HI.nd⟩) (fun E hE => by
                  rcases List.mem_cons.1 hE with rfl | hE
                  · exact hKD
                  · exact hm E hE) ⟨hZ, hE, hB⟩ (fun Z E hE h hd => ⟨blk_putMark h.1 hd _, blk_putMark h.2.1 hd _, h.2.2.trans (belowK_b (w := w) (Nat.le_refl _) Z E _ (.deferred none) (by
                    rcases List.mem_cons.1 hE with rfl | hE
                    · have := HI.bel.size; omega
                    · exact (hdsX E hE).1) hd rfl rfl)⟩)
                (fun Z h => ⟨_, res_cc rfl rfl (lv_blk h.1 Try.underlying63 rfl (by rw [sz_works]; rfl)) rfl (lv_errno h.2.1), .inl ⟨by rw [hwE]; decide, by rw [hwE]⟩, h.2.2⟩))
            clear hZ hE hB hm hKD
            gi_wp2
            exact HL.out
        all_goals exact hh.elim
    · obtain rfl : k = s.ovens.length := by omega
      have hwE := fe_end hE
      have hq : decide ((s.ovens.length : Int) < (s.ovens.length : Int)) = false := decide_eq_false (by omega)
      have b5 := HI.b5
      have z0 := HI.b2.cell 0 _ rfl
      have zf0 := HI.b2.frozen 0
      have z1 := HI.b2.cell 1 _ rfl
      have zf1 := HI.b2.frozen 1
      have z2 := HI.b2.cell 2 _ rfl
      have zf2 := HI.b2.frozen 2
      have z3 := HI.b2.cell 3 _ rfl
      have zf3 := HI.b2.frozen 3
      have z4 := HI.b2.cell 4 _ rfl
      have zf4 := HI.b2.frozen 4
      have z5 := HI.b2.cell 5 _ rfl
      have zf5 := HI.b2.frozen 5
      have z6 := HI.b2.cell 6 _ rfl
      have zf6 := HI.b2.frozen 6
      have z7 := HI.b2.cell 7 _ rfl
      have zf7 := HI.b2.frozen 7
      have y0 := HI.b3.cell 0 _ rfl
      have y1 := HI.b3.frozen 0
      have f0 := b5.cell 0 _ rfl
      have f1 := b5.cell 1 _ rfl
      have f2 := b5.cell 2 _ rfl
      have f3 := b5.cell 3 _ rfl
      have f4 := b5.cell 4 _ rfl
      have f5 := b5.cell 5 _ rfl
      have f6 := b5.cell 6 _ rfl
      have f7 := b5.cell 7 _ rfl
      have lt5 := HI.lt5
      have lX5 := b5.lt
      have hxs : ∀ q, q ≠ w.heap.size + 1 → q ≠ w.heap.size + 1 + 1 → ((putC X (w.heap.size + 1) #[.int .i64 s.days, .slice d.a1 s.arts.length d.c1, .slice d.a2 s.ovens.length d.c2, .slice d.a3 s.mks.length d.c3, .slice d.a4 s.jobs.length d.c4, .slice d.a5 s.cols.length d.c5, .slice d.a6 s.ods.length d.c6, .slice a7 s.ovens.length c7]).setCell ⟨w.heap.size + 1 + 1, 0, none⟩ (.int .i64 0)).heap[q]? = X.heap[q]? := fun q h1 h2 => ((putC_belS (S := fun b => b = w.heap.size + 1 ∨ b = w.heap.size + 1 + 1) (BelS.refl _ (q + 1) X) (k := w.heap.size + 1) (.inr (.inl rfl)) #[.int .i64 s.days, .slice d.a1 s.arts.length d.c1, .slice d.a2 s.ovens.length d.c2, .slice d.a3 s.mks.length d.c3, .slice d.a4 s.jobs.length d.c4, .slice d.a5 s.cols.length d.c5, .slice d.a6 s.ods.length d.c6, .slice a7 s.ovens.length c7]).set ⟨w.heap.size + 1 + 1, 0, none⟩ (.int .i64 0) (.inr (.inr rfl))).block q (by omega) (by omega)
      have hZ := (blk_sto (cs' := #[.int .i64 s.days, .slice d.a1 s.arts.length d.c1, .slice d.a2 s.ovens.length d.c2, .slice d.a3 s.mks.length d.c3, .slice d.a4 s.jobs.length d.c4, .slice d.a5 s.cols.length d.c5, .slice d.a6 s.ods.length d.c6, .slice a7 s.ovens.length c7]) HI.b2 rfl).other ⟨w.heap.size + 1 + 1, 0, none⟩ (.int .i64 0) (by simp)
      have hE2 : Blk ((putC X (w.heap.size + 1) #[.int .i64 s.days, .slice d.a1 s.arts.length d.c1, .slice d.a2 s.ovens.length d.c2, .slice d.a3 s.mks.length d.c3, .slice d.a4 s.jobs.length d.c4, .slice d.a5 s.cols.length d.c5, .slice d.a6 s.ods.length d.c6, .slice a7 s.ovens.length c7]).setCell ⟨w.heap.size + 1 + 1, 0, none⟩ (.int .i64 0)) (w.heap.size + 1 + 1) #[.int .i64 0] 36 := by simpa using (blk_sto_other (j := w.heap.size + 1) HI.b3 (by omega) #[.int .i64 s.days, .slice d.a1 s.arts.length d.c1, .slice d.a2 s.ovens.length d.c2, .slice d.a3 s.mks.length d.c3, .slice d.a4 s.jobs.length d.c4, .slice d.a5 s.cols.length d.c5, .slice d.a6 s.ods.length d.c6, .slice a7 s.ovens.length c7]).set 0 (.int .i64 0)
      have hW := (putC_below HI.bel (by omega) #[.int .i64 s.days, .slice d.a1 s.arts.length d.c1, .slice d.a2 s.ovens.length d.c2, .slice d.a3 s.mks.length d.c3, .slice d.a4 s.jobs.length d.c4, .slice d.a5 s.cols.length d.c5, .slice d.a6 s.ods.length d.c6, .slice a7 s.ovens.length c7] : Below w.heap.size w (putC X (w.heap.size + 1) #[.int .i64 s.days, .slice d.a1 s.arts.length d.c1, .slice d.a2 s.ovens.length d.c2, .slice d.a3 s.mks.length d.c3, .slice d.a4 s.jobs.length d.c4, .slice d.a5 s.cols.length d.c5, .slice d.a6 s.ods.length d.c6, .slice a7 s.ovens.length c7])).setCell (p := ⟨w.heap.size + 1 + 1, 0, none⟩) (by simp only; omega) (.int .i64 0)
      have hRO : ROvns (vis (fun q => B5 < q) X) (.slice a7 s.ovens.length c7) (ovL s) := own_ROvns HI.own (fun q e => by have := (HI.own.lt q e).1; omega) (by rw [ovL_len, HI.len]) (by rw [HI.len]; have := ok.no; omega) (fun i h1 h2 => by
        rw [ovL_at h2]
        obtain ⟨r1, r2, r3⟩ := HI.rd i h1
        have he : Ext (vis (fun q => B5 < q ∧ (Value.slice a7 s.ovens.length c7).ownBlock ≠ some q) X) (vis (fun q => B5 < q) X) := ext_vis (fun p y hp hy => ⟨hp.1, hy⟩)
        exact ⟨r1, r2.mono he, r3.mono he⟩)
      have hRO2 : ROvns (vis (fun q => w.heap.size ≤ q) ((putC X (w.heap.size + 1) #[.int .i64 s.days, .slice d.a1 s.arts.length d.c1, .slice d.a2 s.ovens.length d.c2, .slice d.a3 s.mks.length d.c3, .slice d.a4 s.jobs.length d.c4, .slice d.a5 s.cols.length d.c5, .slice d.a6 s.ods.length d.c6, .slice a7 s.ovens.length c7]).setCell ⟨w.heap.size + 1 + 1, 0, none⟩ (.int .i64 0))) (.slice a7 s.ovens.length c7) (ovL s) := hRO.mono (ext_vis (fun p y hp hy => ⟨by omega, (World.cell?_of_block (hxs _ (by omega) (by omega))).trans hy⟩))
      have HL := Lib.hid (show LeavesInM Fence.wide 9 Try.prog Try.f32 (({ tmps := #[.agg #[.int .i64 s.days, .slice d.a1 s.arts.length d.c1, .slice p2 s.ovens.length d.c2, .slice d.a3 s.mks.length d.c3, .slice d.a4 s.jobs.length d.c4, .slice d.a5 s.cols.length d.c5, .slice d.a6 s.ods.length d.c6], .pointer (some ⟨w.heap.size, 0, none⟩), .pointer (some ⟨w.heap.size + 1, 0, none⟩), .pointer (some ⟨w.heap.size + 1 + 1, 0, none⟩), .int .i64 0, .pointer (some ⟨B5, 0, none⟩), u6, u7, u8, u9, .agg #[.int .i64 s.days, .slice d.a1 s.arts.length d.c1, .slice p2 s.ovens.length d.c2, .slice d.a3 s.mks.length d.c3, .slice d.a4 s.jobs.length d.c4, .slice d.a5 s.cols.length d.c5, .slice d.a6 s.ods.length d.c6], .int .i64 0, .int .i64 0, .bool false, undef, undef, .agg #[.int .i64 s.days, .slice d.a1 s.arts.length d.c1, .slice p2 s.ovens.length d.c2, .slice d.a3 s.mks.length d.c3, .slice d.a4 s.jobs.length d.c4, .slice d.a5 s.cols.length d.c5, .slice d.a6 s.ods.length d.c6], .agg #[.int .i64 s.days, .slice d.a1 s.arts.length d.c1, .slice p2 s.ovens.length d.c2, .slice d.a3 s.mks.length d.c3, .slice d.a4 s.jobs.length d.c4, .slice d.a5 s.cols.length d.c5, .slice d.a6 s.ods.length d.c6, .slice none 0 0], .pointer (some ⟨w.heap.size, 2, none⟩), .slice p2 s.ovens.length d.c2, .int .i64 s.ovens.length, .int .i64 s.ovens.length, .bool false, u23, u24, u25, u26, u27, u28, u29, u30, u31, u32, u33, u34, u35, u36, u37, u38, u39, u40, u41, u42, u43, u44, u45, u46, u47, u48, u49, u50, u51, u52, u53, u54, u55, u56, .agg #[.int .i64 s.days, .slice d.a1 s.arts.length d.c1, .slice d.a2 s.ovens.length d.c2, .slice d.a3 s.mks.length d.c3, .slice d.a4 s.jobs.length d.c4, .slice d.a5 s.cols.length d.c5, .slice d.a6 s.ods.length d.c6, .slice a7 s.ovens.length c7]], defers := [] } : Act).tmps) (WkA s d w) (Ds.map fun D => { target := .collected D, args := #[] }) .returning ((putC X (w.heap.size + 1) #[.int .i64 s.days, .slice d.a1 s.arts.length d.c1, .slice d.a2 s.ovens.length d.c2, .slice d.a3 s.mks.length d.c3, .slice d.a4 s.jobs.length d.c4, .slice d.a5 s.cols.length d.c5, .slice d.a6 s.ods.length d.c6, .slice a7 s.ovens.length c7]).setCell ⟨w.heap.size + 1 + 1, 0, none⟩ (.int .i64 0)) from
        leave_marks (by simp) (fun X => Blk X (w.heap.size + 1) #[.int .i64 s.days, .slice d.a1 s.arts.length d.c1, .slice d.a2 s.ovens.length d.c2, .slice d.a3 s.mks.length d.c3, .slice d.a4 s.jobs.length d.c4, .slice d.a5 s.cols.length d.c5, .slice d.a6 s.ods.length d.c6, .slice a7 s.ovens.length c7] 63 ∧ Blk X (w.heap.size + 1 + 1) #[.int .i64 0] 36 ∧ Below w.heap.size w X ∧ ROvns (vis (fun q => w.heap.size ≤ q) X) (.slice a7 s.ovens.length c7) (ovL s)) Ds _
          HI.nd (fun D hD => by
            have h1 := HI.ds D hD
            exact (hxs D (by omega) (by omega)).trans h1.2) ⟨hZ, hE2, hW, hRO2⟩ (fun Z E hE h hd => ⟨blk_putMark h.1 hd _, blk_putMark h.2.1 hd _, h.2.2.1.trans (belowK_b (w := w) (Nat.le_refl _) Z E _ (.deferred none) (by have := (HI.ds E hE).1; omega) hd rfl rfl), h.2.2.2.mono (ext_vis_of (ext_putMark hd _) (fun _ _ h => h))⟩)
          (fun Z h => ⟨_, res_cc rfl rfl (lv_blk h.1 Try.underlying63 rfl (by rw [sz_works]; rfl)) rfl (lv_errno h.2.1), .inr ⟨hwE, _, rfl, h.2.2.2⟩, h.2.2.1⟩))
      clear hxs hZ hE2 hW hRO hRO2 hE b5
      gi_wp2
      exact HL.out
end Go.Proofs.Ytdffhkbncencgaa
