/- The works of a season for a plan: planned and kept; no statement is proved here. -/
import Derived.Test.YtdffhkbncencgaaPlKeep
import Derived.Test.YtdffhkbncencgaaPlWorks
namespace Go.Proofs.Ytdffhkbncencgaa
open Go.RowKit Go.PlainAid
set_option linter.unusedVariables false
set_option linter.unusedSimpArgs false

/-- the first error of a season, or of a plan. -/
def rowsB (s : Sn) (T : List (List Int)) : Bool := T.all fun r => allB r s.days (-1) ((s.arts.length : Int) - 1)
def plE (s : Sn) (T : List (List Int)) : Int := if worksE s = 0 then (if T.length = s.mks.length then (if rowsB s T = true then 0 else 1) else 1) else worksE s
theorem worksE_ok {s : Sn} (h : worksE s = 0) : OkS s := by
  unfold worksE at h
  split at h
  · rename_i h2; exact partsE_ok h2
  · exact partsE_ok h
theorem plE_ok {s : Sn} {T : List (List Int)} (h : plE s T = 0) : worksE s = 0 ∧ OkS s ∧ PlOk s T := by
  unfold plE at h
  split at h
  · rename_i h1
    split at h
    · rename_i h2
      split at h
      · rename_i h3
        refine ⟨h1, worksE_ok h1, h2, fun r hr => ?_⟩
        unfold rowsB at h3
        rw [List.all_eq_true] at h3
        have := allB_true.1 (h3 r hr)
        exact ⟨this.1, fun x hx => by have := this.2 x hx; omega⟩
      · cases h
    · cases h
  · rename_i h1; exact absurd h h1
def PlA (s : Sn) (d : SA) (T : List (List Int)) (w : World) (e : Ending) (w' : World) : Prop := ((plE s T ≠ 0 ∧ e = .returned (.tuple #[.agg #[.int .i64 0, .slice none 0 0, .slice none 0 0, .slice none 0 0, .slice none 0 0, .slice none 0 0, .slice none 0 0, .slice none 0 0], .int .i64 (plE s T)])) ∨ (plE s T = 0 ∧ ∃ v7, e = .returned (.tuple #[.agg #[.int .i64 s.days, .slice d.a1 s.arts.length d.c1, .slice d.a2 s.ovens.length d.c2, .slice d.a3 s.mks.length d.c3, .slice d.a4 s.jobs.length d.c4, .slice d.a5 s.cols.length d.c5, .slice d.a6 s.ods.length d.c6, v7], .int .i64 0]) ∧ ROvns (vis (w.heap.size ≤ ·) w') v7 (ovL s))) ∧ Below w.heap.size w w'
theorem vis_up {S T : Nat → Prop} {w : World} (h : ∀ k, S k → T k) : Ext (vis S w) (vis T w) := fun p x hp => vis_cell.2 ⟨h _ (vis_cell.1 hp).1, (vis_cell.1 hp).2⟩
theorem vis_out {S : Nat → Prop} {w : World} : Ext (vis S w) w := fun p x hp => (vis_cell.1 hp).2
theorem vis_below {S : Nat → Prop} {w w' : World} (h : Below w.heap.size w w') : Ext (vis S w) (vis S w') := fun p x hp => vis_cell.2 ⟨(vis_cell.1 hp).1, ext_of_below h _ _ (vis_cell.1 hp).2⟩

theorem vis_putC {S : Nat → Prop} {w : World} {k : Nat} (hk : ¬ S k) (cs : Array Value) : Ext (vis S w) (vis S (putC w k cs)) := fun p x hp => vis_cell.2 ⟨(vis_cell.1 hp).1, by rw [sto_cell _ _ _ (fun e => hk (by have := (vis_cell.1 hp).1; rw [← e] at this; exact this))]; exact (vis_cell.1 hp).2⟩
theorem zC_one : (#[.int .i64 0, .slice none 0 0, .slice none 0 0, .slice none 0 0, .slice none 0 0, .slice none 0 0, .slice none 0 0, .slice none 0 0] : Array Value).all (·.oneCell') = true := by simp [Value.oneCell']
theorem wC_one (s : Sn) (d : SA) (a7 : Option Addr) (n c7 : Nat) : (#[.int .i64 s.days, .slice d.a1 s.arts.length d.c1, .slice d.a2 s.ovens.length d.c2, .slice d.a3 s.mks.length d.c3, .slice d.a4 s.jobs.length d.c4, .slice d.a5 s.cols.length d.c5, .slice d.a6 s.ods.length d.c6, .slice a7 n c7] : Array Value).all (·.oneCell') = true := by simp [Value.oneCell']

set_option maxHeartbeats 4000000 in
set_option maxRecDepth 100000 in
theorem planned_any (s : Sn) (d : SA) (T : List (List Int)) (vt : Value) (w : World) (h : SnD w s d) (hT : RRows w vt T) : Calls Try.prog 36 #[.agg #[.int .i64 s.days, .slice d.a1 s.arts.length d.c1, .slice d.a2 s.ovens.length d.c2, .slice d.a3 s.mks.length d.c3, .slice d.a4 s.jobs.length d.c4, .slice d.a5 s.cols.length d.c5, .slice d.a6 s.ods.length d.c6], vt] w (PlA s d T w) := by
  obtain ⟨at', ct, rfl, -, ⟨-, htm⟩, hlt⟩ := hT
  have hA : Below w.heap.size w ((w.alloc (.cells #[.int .i64 s.days, .slice d.a1 s.arts.length d.c1, .slice d.a2 s.ovens.length d.c2, .slice d.a3 s.mks.length d.c3, .slice d.a4 s.jobs.length d.c4, .slice d.a5 s.cols.length d.c5, .slice d.a6 s.ods.length d.c6] 28)).alloc (.cells #[.int .i64 0, .slice none 0 0, .slice none 0 0, .slice none 0 0, .slice none 0 0, .slice none 0 0, .slice none 0 0, .slice none 0 0] 63)) := (below_box w _).alloc (by simp) _
  have h0 := (Blk.new w #[.int .i64 s.days, .slice d.a1 s.arts.length d.c1, .slice d.a2 s.ovens.length d.c2, .slice d.a3 s.mks.length d.c3, .slice d.a4 s.jobs.length d.c4, .slice d.a5 s.cols.length d.c5, .slice d.a6 s.ods.length d.c6] 28).alloc (.cells #[.int .i64 0, .slice none 0 0, .slice none 0 0, .slice none 0 0, .slice none 0 0, .slice none 0 0, .slice none 0 0, .slice none 0 0] 63)
  have h1 := Blk.new (w.alloc (.cells #[.int .i64 s.days, .slice d.a1 s.arts.length d.c1, .slice d.a2 s.ovens.length d.c2, .slice d.a3 s.mks.length d.c3, .slice d.a4 s.jobs.length d.c4, .slice d.a5 s.cols.length d.c5, .slice d.a6 s.ods.length d.c6] 28)) #[.int .i64 0, .slice none 0 0, .slice none 0 0, .slice none 0 0, .slice none 0 0, .slice none 0 0, .slice none 0 0, .slice none 0 0] 63
  simp only [World.size_alloc] at h1
  go_enter Try.func36, Try.ntmps36
  go_wp2_with fail
  generalize hWe : ((w.alloc (.cells #[.int .i64 s.days, .slice d.a1 s.arts.length d.c1, .slice d.a2 s.ovens.length d.c2, .slice d.a3 s.mks.length d.c3, .slice d.a4 s.jobs.length d.c4, .slice d.a5 s.cols.length d.c5, .slice d.a6 s.ods.length d.c6] 28)).alloc (.cells #[.int .i64 0, .slice none 0 0, .slice none 0 0, .slice none 0 0, .slice none 0 0, .slice none 0 0, .slice none 0 0, .slice none 0 0] 63)) = W at *
  refine (worksOf_any s d W (h.mono (ext_of_below hA))).mono ?_
  rintro e W1 ⟨hr, hb1⟩
  have hA1 := hA.trans (hb1.mono hA.size)
  replace h0 := h0.below hb1 h0.lt
  replace h1 := h1.below hb1 h1.lt
  have hz1 := h1.lt
  have hz2 := hA.size
  rcases hr with ⟨hE, rfl⟩ | ⟨hE, v7, rfl, ho⟩
  · have HP : Hid (plE s T = worksE s) := Lib.hid (by unfold plE; rw [if_neg hE])
    generalize worksE s = r at *
    have hr : (r != 0) = true := by simpa using hE
    have g1 := h1.alloc (.cells #[.int .i64 0, .slice none 0 0, .slice none 0 0, .slice none 0 0, .slice none 0 0, .slice none 0 0, .slice none 0 0, .slice none 0 0] 63)
    have z0 := g1.cell 0 _ rfl
    have zf0 := g1.frozen 0
    have z1 := g1.cell 1 _ rfl
    have zf1 := g1.frozen 1
    have z2 := g1.cell 2 _ rfl
    have zf2 := g1.frozen 2
    have z3 := g1.cell 3 _ rfl
    have zf3 := g1.frozen 3
    have z4 := g1.cell 4 _ rfl
    have zf4 := g1.frozen 4
    have z5 := g1.cell 5 _ rfl
    have zf5 := g1.frozen 5
    have z6 := g1.cell 6 _ rfl
    have zf6 := g1.frozen 6
    have z7 := g1.cell 7 _ rfl
    have zf7 := g1.frozen 7
    have HB2 := Lib.hid (putC_below (hA1.alloc hA1.size (.cells #[.int .i64 0, .slice none 0 0, .slice none 0 0, .slice none 0 0, .slice none 0 0, .slice none 0 0, .slice none 0 0, .slice none 0 0] 63)) (show w.heap.size ≤ w.heap.size + 1 by omega) #[.int .i64 0, .slice none 0 0, .slice none 0 0, .slice none 0 0, .slice none 0 0, .slice none 0 0, .slice none 0 0, .slice none 0 0])
    have HN := Lib.hid (blk_sto (cs' := #[.int .i64 0, .slice none 0 0, .slice none 0 0, .slice none 0 0, .slice none 0 0, .slice none 0 0, .slice none 0 0, .slice none 0 0]) g1 rfl)
    have HR := Lib.hid hE
    clear h hb1 hA h0 h1 hA1 hlt g1 hE hWe
    go_upto_region 3 with (fail)
    clear hz1 hz2
    generalize (W1.alloc (.cells #[.int .i64 0, .slice none 0 0, .slice none 0 0, .slice none 0 0, .slice none 0 0, .slice none 0 0, .slice none 0 0, .slice none 0 0] 63)) = Y at *
    go_wp2
    exact ⟨rfl, _, res_two (by rfl) rfl (lv_blk HN.out Try.underlying63 rfl (by rw [sz_works]; rfl)), .inl ⟨by rw [HP.out]; exact HR.out, by rw [HP.out]; rfl⟩, HB2.out⟩
  · obtain ⟨a7, c7, rfl⟩ := ho.shape
    have hW2 : W.heap.size = w.heap.size + 1 + 1 := by
      rw [← hWe]; simp
    rw [hW2] at ho
    have HO := Lib.hid (ho.mono (vis_below (below_box W1 (.cells #[.int .i64 s.days, .slice d.a1 s.arts.length d.c1, .slice d.a2 s.ovens.length d.c2, .slice d.a3 s.mks.length d.c3, .slice d.a4 s.jobs.length d.c4, .slice d.a5 s.cols.length d.c5, .slice d.a6 s.ods.length d.c6, .slice a7 (ovL s).length c7] 63))))
    have g0 := h0.alloc (.cells #[.int .i64 s.days, .slice d.a1 s.arts.length d.c1, .slice d.a2 s.ovens.length d.c2, .slice d.a3 s.mks.length d.c3, .slice d.a4 s.jobs.length d.c4, .slice d.a5 s.cols.length d.c5, .slice d.a6 s.ods.length d.c6, .slice a7 (ovL s).length c7] 63)
    have g1 := h1.alloc (.cells #[.int .i64 s.days, .slice d.a1 s.arts.length d.c1, .slice d.a2 s.ovens.length d.c2, .slice d.a3 s.mks.length d.c3, .slice d.a4 s.jobs.length d.c4, .slice d.a5 s.cols.length d.c5, .slice d.a6 s.ods.length d.c6, .slice a7 (ovL s).length c7] 63)
    have g2 := Blk.new W1 #[.int .i64 s.days, .slice d.a1 s.arts.length d.c1, .slice d.a2 s.ovens.length d.c2, .slice d.a3 s.mks.length d.c3, .slice d.a4 s.jobs.length d.c4, .slice d.a5 s.cols.length d.c5, .slice d.a6 s.ods.length d.c6, .slice a7 (ovL s).length c7] 63
    have gA := hA1.alloc hA1.size (.cells #[.int .i64 s.days, .slice d.a1 s.arts.length d.c1, .slice d.a2 s.ovens.length d.c2, .slice d.a3 s.mks.length d.c3, .slice d.a4 s.jobs.length d.c4, .slice d.a5 s.cols.length d.c5, .slice d.a6 s.ods.length d.c6, .slice a7 (ovL s).length c7] 63)
    have y1 := g0.cell 1 _ rfl
    have y3 := g0.cell 3 _ rfl
    have y0 := g0.cell 0 _ rfl
    have hrm := h.mks.len
    have hra := h.arts.len
    have HE := Lib.hid hE
    clear hb1 hA h0 h1 hA1 ho hE
    generalize (ovL s).length = n7 at *
    go_upto_region 4 with (fail)
    clear hW2 hWe
    generalize hB : W1.heap.size = B at *
    generalize (W1.alloc (.cells #[.int .i64 s.days, .slice d.a1 s.arts.length d.c1, .slice d.a2 s.ovens.length d.c2, .slice d.a3 s.mks.length d.c3, .slice d.a4 s.jobs.length d.c4, .slice d.a5 s.cols.length d.c5, .slice d.a6 s.ods.length d.c6, .slice a7 n7 c7] 63)) = Y at *
    clear hB
    by_cases hl : T.length = s.mks.length
    · have hq : ((T.length : Int) != (s.mks.length : Int)) = false := by simp; omega
      have HO2 := HO
      have HLE := Lib.hid hl
      clear hl
      go_upto_region 7 with (fail)
      clear y0 y1 y3 hq h
      go_loopw [28] (fun i wr => ∃ k : Nat, k ≤ T.length ∧ i = .int .i64 k ∧ Hid (∀ j (h : j < T.length), j < k → allB T[j] s.days (-1) ((s.arts.length : Int) - 1) = true) ∧ Blk wr w.heap.size #[.int .i64 s.days, .slice d.a1 s.arts.length d.c1, .slice d.a2 s.ovens.length d.c2, .slice d.a3 s.mks.length d.c3, .slice d.a4 s.jobs.length d.c4, .slice d.a5 s.cols.length d.c5, .slice d.a6 s.ods.length d.c6] 28 ∧ Blk wr (w.heap.size + 1) #[.int .i64 0, .slice none 0 0, .slice none 0 0, .slice none 0 0, .slice none 0 0, .slice none 0 0, .slice none 0 0, .slice none 0 0] 63 ∧ Blk wr B #[.int .i64 s.days, .slice d.a1 s.arts.length d.c1, .slice d.a2 s.ovens.length d.c2, .slice d.a3 s.mks.length d.c3, .slice d.a4 s.jobs.length d.c4, .slice d.a5 s.cols.length d.c5, .slice d.a6 s.ods.length d.c6, .slice a7 n7 c7] 63 ∧ Hid (ROvns (vis (w.heap.size + 1 + 1 ≤ ·) wr) (.slice a7 n7 c7) (ovL s)) ∧ Below w.heap.size w wr) (fun i _ => T.length - (intOf i).toNat)
      case atStart => exact ⟨0, Nat.zero_le _, rfl, Lib.hid (fun j _ h => absurd h (by omega)), g0, g1, g2, HO2, gA⟩
      case round =>
        obtain ⟨k, hk, rfl, hall, hX0, hX1, hX2, hXO, hb⟩ := hrel
        clear g0 g1 g2 gA HO HO2
        by_cases hlt2 : k < T.length
        · obtain ⟨b1, o1, he1, v, q0, hri⟩ := hlt k hlt2
          have k0 := ext_of_below hb _ _ q0
          simp only [Nat.mul_one] at k0
          have j1 : (0 : Int) ≤ (k : Int) := Int.natCast_nonneg _
          have j2 : (k : Int) < (T.length : Int) := by omega
          rw [he1]
          have HN : Hid (∀ r, allB T[k] s.days (-1) ((s.arts.length : Int) - 1) = r → r = true → ∀ j (h : j < T.length), j < k + 1 → allB T[j] s.days (-1) ((s.arts.length : Int) - 1) = true) := Lib.hid (fun r h1 h2 j hj hjk => by
            by_cases e : j = k
            · subst e; rw [h1, h2]
            · exact hall.out j hj (by omega))
          have HF : Hid (allB T[k] s.days (-1) ((s.arts.length : Int) - 1) = false → plE s T = 1) := Lib.hid (fun hp => by
            unfold plE
            rw [if_pos HE.out, if_pos HLE.out, if_neg]
            unfold rowsB
            rw [Bool.not_eq_true, List.all_eq_false]
            exact ⟨_, List.getElem_mem hlt2, by rw [hp]; decide⟩)
          have hri2 := hri.mono (ext_of_below hb)
          clear hall q0 hri he1
          generalize T[k] = r at *
          have x0 := hX0.cell 0 _ rfl
          have x1 := hX0.cell 1 _ rfl
          go_wp2_with fail
          refine (allBetween_any v r s.days (-1) ((s.arts.length : Int) - 1) wr hri2).mono ?_
          rintro e w1 ⟨rfl, hb1⟩
          have g0 := hX0.below hb1 hX0.lt
          have g1 := hX1.below hb1 hX1.lt
          have g2 := hX2.below hb1 hX2.lt
          have gO := Lib.hid (hXO.out.mono (vis_below hb1))
          have gA := hb.trans (hb1.mono hb.size)
          have HA := Lib.hid gA
          clear hX0 hX1 hX2 hXO hb hb1 x0 x1 hlt hri2
          cases hp : allB r s.days (-1) ((s.arts.length : Int) - 1) with
          | true =>
            have HN2 := Lib.hid (HN.out _ hp rfl)
            clear HN HF
            go_wp2
            go_roundw
            case rel => exact ⟨k + 1, by omega, by go_num, HN2, g0, g1, g2, gO, HA.out⟩
            case measure => simp [intOf]; omega
          | false =>
            have HP := Lib.hid (HF.out hp)
            have HB2 := Lib.hid (putC_below gA (show w.heap.size ≤ w.heap.size + 1 by omega) #[.int .i64 0, .slice none 0 0, .slice none 0 0, .slice none 0 0, .slice none 0 0, .slice none 0 0, .slice none 0 0, .slice none 0 0])
            have HZ := Lib.hid (blk_sto (cs' := #[.int .i64 0, .slice none 0 0, .slice none 0 0, .slice none 0 0, .slice none 0 0, .slice none 0 0, .slice none 0 0, .slice none 0 0]) g1 rfl)
            have z0 := g1.cell 0 _ rfl
            have zf0 := g1.frozen 0
            have z1 := g1.cell 1 _ rfl
            have zf1 := g1.frozen 1
            have z2 := g1.cell 2 _ rfl
            have zf2 := g1.frozen 2
            have z3 := g1.cell 3 _ rfl
            have zf3 := g1.frozen 3
            have z4 := g1.cell 4 _ rfl
            have zf4 := g1.frozen 4
            have z5 := g1.cell 5 _ rfl
            have zf5 := g1.frozen 5
            have z6 := g1.cell 6 _ rfl
            have zf6 := g1.frozen 6
            have z7 := g1.cell 7 _ rfl
            have zf7 := g1.frozen 7
            clear HN HF hp g0 g1 g2 gA gO HA
            go_wp2
            exact ⟨rfl, _, res_two (by rfl) rfl (lv_blk HZ.out Try.underlying63 rfl (by rw [sz_works]; rfl)), .inl ⟨by rw [HP.out]; decide, by rw [HP.out]; rfl⟩, HB2.out⟩
        · obtain rfl : k = T.length := by omega
          have HP : Hid (plE s T = 0) := Lib.hid (by
            unfold plE
            rw [if_pos HE.out, if_pos HLE.out, if_pos]
            unfold rowsB
            rw [List.all_eq_true]
            intro x hx
            obtain ⟨j, hj, rfl⟩ := List.getElem_of_mem hx
            exact hall.out j hj hj)
          have HB2 := Lib.hid (putC_below hb (show w.heap.size ≤ w.heap.size + 1 by omega) #[.int .i64 s.days, .slice d.a1 s.arts.length d.c1, .slice d.a2 s.ovens.length d.c2, .slice d.a3 s.mks.length d.c3, .slice d.a4 s.jobs.length d.c4, .slice d.a5 s.cols.length d.c5, .slice d.a6 s.ods.length d.c6, .slice a7 n7 c7])
          have HN := Lib.hid (blk_sto (cs' := #[.int .i64 s.days, .slice d.a1 s.arts.length d.c1, .slice d.a2 s.ovens.length d.c2, .slice d.a3 s.mks.length d.c3, .slice d.a4 s.jobs.length d.c4, .slice d.a5 s.cols.length d.c5, .slice d.a6 s.ods.length d.c6, .slice a7 n7 c7]) hX1 rfl)
          have HO3 := Lib.hid ((hXO.out.mono (vis_putC (show ¬ (w.heap.size + 1 + 1 ≤ w.heap.size + 1) by omega) #[.int .i64 s.days, .slice d.a1 s.arts.length d.c1, .slice d.a2 s.ovens.length d.c2, .slice d.a3 s.mks.length d.c3, .slice d.a4 s.jobs.length d.c4, .slice d.a5 s.cols.length d.c5, .slice d.a6 s.ods.length d.c6, .slice a7 n7 c7])).mono (vis_up (T := (w.heap.size ≤ ·)) (fun q hq => by omega)))
          have z0 := hX1.cell 0 _ rfl
          have zf0 := hX1.frozen 0
          have z1 := hX1.cell 1 _ rfl
          have zf1 := hX1.frozen 1
          have z2 := hX1.cell 2 _ rfl
          have zf2 := hX1.frozen 2
          have z3 := hX1.cell 3 _ rfl
          have zf3 := hX1.frozen 3
          have z4 := hX1.cell 4 _ rfl
          have zf4 := hX1.frozen 4
          have z5 := hX1.cell 5 _ rfl
          have zf5 := hX1.frozen 5
          have z6 := hX1.cell 6 _ rfl
          have zf6 := hX1.frozen 6
          have z7 := hX1.cell 7 _ rfl
          have zf7 := hX1.frozen 7
          have x0 := hX2.cell 0 _ rfl
          have xf0 := hX2.frozen 0
          have x1 := hX2.cell 1 _ rfl
          have xf1 := hX2.frozen 1
          have x2 := hX2.cell 2 _ rfl
          have xf2 := hX2.frozen 2
          have x3 := hX2.cell 3 _ rfl
          have xf3 := hX2.frozen 3
          have x4 := hX2.cell 4 _ rfl
          have xf4 := hX2.frozen 4
          have x5 := hX2.cell 5 _ rfl
          have xf5 := hX2.frozen 5
          have x6 := hX2.cell 6 _ rfl
          have xf6 := hX2.frozen 6
          have x7 := hX2.cell 7 _ rfl
          have xf7 := hX2.frozen 7
          clear hall hX0 hX1 hX2 hXO hb hlt hz1 hz2 hk hlt2 hra hrm
          go_upto_region 12 with (fail)
          go_wp2
          exact ⟨rfl, _, res_two (by rfl) rfl (lv_blk HN.out Try.underlying63 rfl (by rw [sz_works]; rfl)), .inr ⟨HP.out, _, rfl, HO3.out⟩, HB2.out⟩
    · have HP : Hid (plE s T = 1) := Lib.hid (by unfold plE; rw [if_pos HE.out, if_neg hl])
      have HB2 := Lib.hid (putC_below gA (show w.heap.size ≤ w.heap.size + 1 by omega) #[.int .i64 0, .slice none 0 0, .slice none 0 0, .slice none 0 0, .slice none 0 0, .slice none 0 0, .slice none 0 0, .slice none 0 0])
      have HN := Lib.hid (blk_sto (cs' := #[.int .i64 0, .slice none 0 0, .slice none 0 0, .slice none 0 0, .slice none 0 0, .slice none 0 0, .slice none 0 0, .slice none 0 0]) g1 rfl)
      have z0 := g1.cell 0 _ rfl
      have zf0 := g1.frozen 0
      have z1 := g1.cell 1 _ rfl
      have zf1 := g1.frozen 1
      have z2 := g1.cell 2 _ rfl
      have zf2 := g1.frozen 2
      have z3 := g1.cell 3 _ rfl
      have zf3 := g1.frozen 3
      have z4 := g1.cell 4 _ rfl
      have zf4 := g1.frozen 4
      have z5 := g1.cell 5 _ rfl
      have zf5 := g1.frozen 5
      have z6 := g1.cell 6 _ rfl
      have zf6 := g1.frozen 6
      have z7 := g1.cell 7 _ rfl
      have zf7 := g1.frozen 7
      have hq : ((T.length : Int) != (s.mks.length : Int)) = true := by simp; omega
      clear g0 g1 g2 gA h hlt HO hl hz1 hz2
      go_wp2
      exact ⟨rfl, _, res_two (by rfl) rfl (lv_blk HN.out Try.underlying63 rfl (by rw [sz_works]; rfl)), .inl ⟨by rw [HP.out]; decide, by rw [HP.out]; rfl⟩, HB2.out⟩
end Go.Proofs.Ytdffhkbncencgaa
