/- The iterator over a lehr's pieces: its contract; no statement is proved here. -/
import Derived.Test.YtaldpalhckdcdaaGreatDoorLeIt0
import Derived.Test.YtaldpalhckdcdaaGreatDoorTillF
namespace Go.Proofs.YtaldpalhckdcdaaGreatDoor
open Go.RowKit Go.PlainAid
set_option linter.unusedVariables false
set_option linter.unusedSimpArgs false
attribute [local go_sem] Oper.semAt_some fp_round fp_depth
set_option maxHeartbeats 2000000 in
set_option maxRecDepth 100000 in
theorem pieceIt_any (S : Nat → Prop) (F : Fence) (n : Nat) (hF : F.fn 101) (hro : F.round = none) (hd : F.depth = none) (v0 : Value) (l : Lr) (Bn : Nat) (w : World) (h2 : 2 ≤ l.knees.length)
    (h : RSps (vis (fun k => ¬ S k) w) v0 l.knees) (hSB : ¬ S Bn) (hBn : Blk w Bn #[v0, .int .i64 l.factor] 44) :
    SeqP S F n Tryz.prog 101 #[.pointer (some ⟨Bn, 0, none⟩)] (encP l.knees) w := by
  intro lp J R W hW hJ hY h0 hE
  rw [encP_len] at hE
  have hWb := hW.blk hBn hSB hBn.lt
  have f0 := hWb.cell 0 _ rfl
  have hBl := hBn.lt
  obtain ⟨a, cap, rfl, hc1, ⟨hc2, hm⟩, hl⟩ := h
  obtain ⟨ab, ao, rfl, -⟩ := hl 0 (by omega)
  refine callsIn_of_wp Tryz.func101 rfl hF ?_ hro
  simp only [Tryz.ntmps101, List.size_toArray, List.length_cons, List.length_nil, Nat.reduceAdd, Nat.reduceSub, Array.replicate_succ, Array.replicate_zero, List.push_toArray, List.append_toArray, List.nil_append, List.cons_append]
  gi_wp2
  gi_loopw [9] (fun i wr => ∃ (k : Nat), k ≤ l.knees.length - 1 ∧ i = .int .i64 k ∧ J k wr ∧ BelS S w.heap.size w wr ∧ W.heap.size ≤ wr.heap.size) (fun i _ => (l.knees.length - 1) - (intOf i).toNat)
  case atStart => exact ⟨0, Nat.zero_le _, rfl, h0, hW, Nat.le_refl _⟩
  case round =>
    obtain ⟨k, hk, rfl, hJk, hB, hsz⟩ := hrel
    by_cases hlt : k < l.knees.length - 1
    · obtain ⟨b1, o1, he1, q1, q2, -⟩ := hl k (by omega)
      cases he1
      obtain ⟨b2, o2, he2, q3, q4, -⟩ := hl (k + 1) (by omega)
      cases he2
      have hyk := fun W1 => hY k _ W1 (encP_at (show k + 1 < l.knees.length by omega))
      rw [kn_eq (show k < l.knees.length by omega), kn_eq (show k + 1 < l.knees.length by omega)] at hyk
      clear hY hE hl
      generalize l.knees[k]'_ = x at *
      generalize l.knees[k + 1]'_ = y at *
      have l1 := cell_lt (vis_cell.1 q1).2
      have x0 := hB.ext _ _ q1
      have x1 := hB.ext _ _ q2
      have y0 := hB.ext _ _ q3
      have y1 := hB.ext _ _ q4
      have e3 : ao + (k + 1) * 2 = ao + 2 + k * 2 := by omega
      rw [e3] at y0 y1
      have hBr := hB.blk hBn hSB hBl
      have i1 : (0 : Int) ≤ (k : Int) := Int.natCast_nonneg _
      have i2 : (k : Int) < ((l.knees.length - 1 : Nat) : Int) := by omega
      have i3 : (k : Int) < (l.knees.length : Int) := by omega
      have hX := Blk.new wr #[.int .i64 y.lo, .int .i64 y.hi] 65
      have hBr2 := hBr.alloc (.cells #[.int .i64 y.lo, .int .i64 y.hi] 65)
      have f0 := hBr2.cell 0 _ rfl
      have u0 := ext_of_below (below_boxS wr (.cells #[.int .i64 y.lo, .int .i64 y.hi] 65)) _ _ x0
      have u1 := ext_of_below (below_boxS wr (.cells #[.int .i64 y.lo, .int .i64 y.hi] 65)) _ _ x1
      have v0 := hX.cell 0 _ rfl
      have v1 := hX.cell 1 _ rfl
      have hJ1 : J k (wr.alloc (.cells #[.int .i64 y.lo, .int .i64 y.hi] 65)) := hJ k wr _ none hJk (grown_new _ _) (fun r e => by cases e)
      clear q1 q2 q3 q4 e3
      have hB0 : BelS S w.heap.size w (wr.alloc (.cells #[.int .i64 y.lo, .int .i64 y.hi] 65)) := hB.trans (BelS.of_below ((below_boxS wr _).mono hB.size))
      have hz0 : W.heap.size ≤ (wr.alloc (.cells #[.int .i64 y.lo, .int .i64 y.hi] 65)).heap.size := Nat.le_trans hsz (by simp)
      gi_wp2_with fail
      generalize wr.alloc (.cells #[.int .i64 y.lo, .int .i64 y.hi] 65) = V0 at *
      have hJ2 : J k V0.drew := hJ k V0 _ none hJ1 ⟨rfl, rfl, rfl, Nat.le_refl _, fun _ _ _ => rfl⟩ (fun r e => by cases e)
      obtain ⟨fn, tmps, assign, body, hy, hR⟩ := hyk _ hJ2
      simp only [pcV] at hy
      clear hyk hJ1 hJ2 x0 x1 y0 y1 hX hBr2 hBr
      refine wpIn_region_tillF (fun w' : World => w'.cell? ⟨Bn, 0, none⟩ = some (.slice (some ⟨ab, ao, none⟩) l.knees.length cap) ∧ w'.cell? ⟨ab, ao + k * 2, none⟩ = some (.int .i64 x.lo) ∧ w'.cell? ⟨ab, ao + k * 2 + 1, none⟩ = some (.int .i64 x.hi) ∧ w'.cell? ⟨wr.heap.size, 0, none⟩ = some (.int .i64 y.lo) ∧ w'.cell? ⟨wr.heap.size, 1, none⟩ = some (.int .i64 y.hi)) 9 (by kernel_rfl) ⟨f0, u0, u1, v0, v1⟩ (fun hHeld => ?_)
      refine TillF.take 0 (some 14) (v := ?_) hro rfl rfl (by kernel_rfl) (by kernel_rfl) (by kernel_rfl) (by kernel_rfl) (fun _ _ _ h => h) (Or.inl ⟨by rfl, ?_⟩) (fun _ => rfl) (by assumption) ?_
      rotate_left
      · (intro w hSw; (try dsimp only at hSw); go_simp; try with_reducible rfl)
      try simp only [Act.put, List.setIfInBounds_toArray, List.set_cons_zero, List.set_cons_succ]
      refine TillF.take 1 (some 15) (v := ?_) hro rfl rfl (by kernel_rfl) (by kernel_rfl) (by kernel_rfl) (by kernel_rfl) (fun _ _ _ h => h) (Or.inl ⟨by rfl, ?_⟩) (fun _ => rfl) (by assumption) ?_
      rotate_left
      · (intro w hSw; (try dsimp only at hSw); go_simp; try with_reducible rfl)
      try simp only [Act.put, List.setIfInBounds_toArray, List.set_cons_zero, List.set_cons_succ]
      refine TillF.take 2 (some 16) (v := ?_) hro rfl rfl (by kernel_rfl) (by kernel_rfl) (by kernel_rfl) (by kernel_rfl) (fun _ _ _ h => h) (Or.inl ⟨by rfl, ?_⟩) (fun _ => rfl) (by assumption) ?_
      rotate_left
      · (intro w hSw; (try dsimp only at hSw); go_simp; try with_reducible rfl)
      try simp only [Act.put, List.setIfInBounds_toArray, List.set_cons_zero, List.set_cons_succ]
      refine TillF.take 3 (some 17) (v := ?_) hro rfl rfl (by kernel_rfl) (by kernel_rfl) (by kernel_rfl) (by kernel_rfl) (fun _ _ _ h => h) (Or.inl ⟨by rfl, ?_⟩) (fun _ => rfl) (by assumption) ?_
      rotate_left
      · (intro w hSw; (try dsimp only at hSw); go_simp; try with_reducible rfl)
      try simp only [Act.put, List.setIfInBounds_toArray, List.set_cons_zero, List.set_cons_succ]
      refine TillF.take 4 (some 18) (v := ?_) hro rfl rfl (by kernel_rfl) (by kernel_rfl) (by kernel_rfl) (by kernel_rfl) (fun _ _ _ h => h) (Or.inl ⟨by rfl, ?_⟩) (fun _ => rfl) (by assumption) ?_
      rotate_left
      · (intro w hSw; (try dsimp only at hSw); go_simp; try with_reducible rfl)
      try simp only [Act.put, List.setIfInBounds_toArray, List.set_cons_zero, List.set_cons_succ]
      refine TillF.take 5 (some 19) (v := ?_) hro rfl rfl (by kernel_rfl) (by kernel_rfl) (by kernel_rfl) (by kernel_rfl) (fun _ _ _ h => h) (Or.inl ⟨by rfl, ?_⟩) (fun _ => rfl) (by assumption) ?_
      rotate_left
      · (intro w hSw; (try dsimp only at hSw); go_simp; try with_reducible rfl)
      try simp only [Act.put, List.setIfInBounds_toArray, List.set_cons_zero, List.set_cons_succ]
      refine TillF.take 6 (some 20) (v := ?_) hro rfl rfl (by kernel_rfl) (by kernel_rfl) (by kernel_rfl) (by kernel_rfl) (fun _ _ _ h => h) (Or.inl ⟨by rfl, ?_⟩) (fun _ => rfl) (by assumption) ?_
      rotate_left
      · (intro w hSw; (try dsimp only at hSw); go_simp; try with_reducible rfl)
      try simp only [Act.put, List.setIfInBounds_toArray, List.set_cons_zero, List.set_cons_succ]
      refine TillF.take 7 (some 21) (v := ?_) hro rfl rfl (by kernel_rfl) (by kernel_rfl) (by kernel_rfl) (by kernel_rfl) (fun _ _ _ h => h) (Or.inl ⟨by rfl, ?_⟩) (fun _ => rfl) (by assumption) ?_
      rotate_left
      · (intro w hSw; (try dsimp only at hSw); go_simp; try with_reducible rfl)
      try simp only [Act.put, List.setIfInBounds_toArray, List.set_cons_zero, List.set_cons_succ]
      refine TillF.last 8 rfl (by kernel_rfl) (by rfl) (by kernel_rfl) (fun K hK => ?_)
      go_simp
      refine hR.mono ?_
      rintro e W3 (⟨rfl, hJ3, hb3⟩ | ⟨rfl, hR3⟩ | ⟨ch, rfl, hR3⟩)
      · have hB3 : BelS S w.heap.size w W3 := (hB0.trans (BelS.of_below ((Below.refl V0.heap.size V0).drew.mono hB0.size))).trans hb3
        have hs3 : W.heap.size ≤ W3.heap.size := Nat.le_trans hz0 hb3.size
        refine hK.out _ _ ?_
        clear hK K hy hR hB hJk hB0 hHeld
        try simp only [Act.put, List.setIfInBounds_toArray, List.set_cons_zero, List.set_cons_succ]
        refine TillF.last 9 rfl (by kernel_rfl) (by rfl) (by kernel_rfl) (fun K hK => ?_)
        go_simp
        refine hK.out _ _ ?_
        clear hK K
        refine TillF.done (by kernel_rfl) ?_ _
        gi_wp2
        go_roundw
        case rel => exact ⟨k + 1, by omega, by go_num, hJ3, hB3, hs3⟩
        case measure => simp [intOf]; omega
      · refine hK.out _ _ ?_
        clear hK K hy hR hB hJk hB0 hHeld
        try simp only [Act.put, List.setIfInBounds_toArray, List.set_cons_zero, List.set_cons_succ]
        refine TillF.last 9 rfl (by kernel_rfl) (by rfl) (by kernel_rfl) (fun K hK => ?_)
        go_simp
        refine hK.out _ _ ?_
        clear hK K
        refine TillF.done (by kernel_rfl) ?_ _
        gi_wp2
        refine bodyPost_ret (results_none rfl _ _ _) rfl ?_
        exact hR3
      · clear hK hy hR hB hJk hB0 hHeld
        gi_wp2
        exact ⟨rfl, hR3⟩
    · have hke : k = l.knees.length - 1 := by omega
      subst hke
      gi_wp2
      go_end0
      exact hE _ hJk

end Go.Proofs.YtaldpalhckdcdaaGreatDoor
