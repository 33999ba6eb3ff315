/- Value, by the specification; no statement is proved here. -/
import Derived.Test.YtmmknpejlccphaaRBounds
namespace Go.Proofs.Ytmmknpejlccphaa
open Go.RowKit Go.PlainAid
set_option linter.unusedVariables false

def valI (b : Bat) (r : List Int) (n : Int) : Sp × Int := if n < 0 then (⟨0, 0⟩, if bothB b r = 0 then 7 else bothB b r) else valB b r n.toNat

set_option maxRecDepth 100000 in
theorem valI_any (v rv : Value) (b : Bat) (r : List Int) (n : Int) (w : World) (h : RBat w v b) (hr : RInts w rv r) :
    Calls Try.prog 26 #[v, rv, .int .i64 n] w (RetSpE w (valI b r n)) := by
  by_cases hnp : bothB b r = 0 ∧ 0 ≤ n ∧ n < b.props.length
  · obtain ⟨e0, hn0, hn1⟩ := hnp
    have hp6 := (ok_of (rec_len e0).1).pr
    obtain ⟨m, rfl⟩ := Int.eq_ofNat_of_zero_le hn0
    have e : valI b r (m : Int) = valB b r m := by unfold valI; rw [if_neg (by omega)]; simp
    rw [e]
    exact val_any v rv b r m (by omega) w h hr
  obtain ⟨a0, k0, a1, k1, a2, k2, a3, k3, rfl⟩ := h.agg
  have hA := below_two w (.cells #[.slice a0 b.oxides.length k0, .slice a1 b.mats.length k1, .slice a2 b.shares.length k2, .slice a3 b.props.length k3, .int .i64 b.redox.lo, .int .i64 b.redox.hi, .int .i64 b.wanted] 29) (.cells #[.int .i64 0, .int .i64 0] 27)
  have hB := (Blk.new w #[.slice a0 b.oxides.length k0, .slice a1 b.mats.length k1, .slice a2 b.shares.length k2, .slice a3 b.props.length k3, .int .i64 b.redox.lo, .int .i64 b.redox.hi, .int .i64 b.wanted] 29).alloc (.cells #[.int .i64 0, .int .i64 0] 27)
  have hC : Blk ((w.alloc (.cells #[.slice a0 b.oxides.length k0, .slice a1 b.mats.length k1, .slice a2 b.shares.length k2, .slice a3 b.props.length k3, .int .i64 b.redox.lo, .int .i64 b.redox.hi, .int .i64 b.wanted] 29)).alloc (.cells #[.int .i64 0, .int .i64 0] 27)) (w.heap.size + 1) #[.int .i64 0, .int .i64 0] 27 := by
    have := Blk.new (w.alloc (.cells #[.slice a0 b.oxides.length k0, .slice a1 b.mats.length k1, .slice a2 b.shares.length k2, .slice a3 b.props.length k3, .int .i64 b.redox.lo, .int .i64 b.redox.hi, .int .i64 b.wanted] 29)) #[.int .i64 0, .int .i64 0] 27
    simpa using this
  go_enter Try.func26, Try.ntmps26
  go_wp2_with fail
  generalize (w.alloc (.cells #[.slice a0 b.oxides.length k0, .slice a1 b.mats.length k1, .slice a2 b.shares.length k2, .slice a3 b.props.length k3, .int .i64 b.redox.lo, .int .i64 b.redox.hi, .int .i64 b.wanted] 29)).alloc (.cells #[.int .i64 0, .int .i64 0] 27) = W at *
  refine (checkBoth_any _ _ b r _ (h.mono (ext_of_below hA)) (hr.mono (ext_of_below hA))).mono ?_
  rintro e w1 ⟨rfl, hb1⟩
  have hA1 := hA.trans (hb1.mono hA.size)
  have hB1 := hB.below hb1 hB.lt
  have hC1 := hC.below hb1 hC.lt
  clear hA hB hC hb1
  by_cases e1 : bothB b r = 0
  case neg =>
    have e1' : (bothB b r != 0) = true := by simp [e1]
    have hfin := Lib.hid (show valI b r n = (⟨0, 0⟩, bothB b r) by simp [valI, valB, e1])
    have z0 : w1.cell? ⟨w.heap.size + 1, 0, none⟩ = some (.int .i64 0) := hC1.cell 0 _ rfl
    have z1 : w1.cell? ⟨w.heap.size + 1, 1, none⟩ = some (.int .i64 0) := hC1.cell 1 _ rfl
    have y0 := hC1.frozen 0
    have y1 := hC1.frozen 1
    clear hB1 e1
    go_wp2
    have B9 := (hC1.set 0 (.int .i64 0)).set 1 (.int .i64 0)
    have d0 := B9.cell 0 (.int .i64 0) rfl
    have d1 := B9.cell 1 (.int .i64 0) rfl
    unfold RetSpE
    rw [hfin.out]
    exact bodyPost_ret (v := .tuple #[.agg #[.int .i64 0, .int .i64 0], .int .i64 (bothB b r)]) (by simp only [results, Try.results26]; simp [go_sem, d0, d1]) rfl ⟨rfl, (hA1.setCell (p := ⟨w.heap.size + 1, 0, none⟩) (by simp) _).setCell (p := ⟨w.heap.size + 1, 1, none⟩) (by simp) _⟩
  have e1' : (bothB b r != 0) = false := by simp [e1]
  obtain ⟨g1, g2, g3⟩ := rec_len e1
  have hok := ok_of g1
  have f0 := hB1.cell 0 (.slice a0 b.oxides.length k0) rfl
  have f1 := hB1.cell 1 (.slice a1 b.mats.length k1) rfl
  have f2 := hB1.cell 2 (.slice a2 b.shares.length k2) rfl
  have f3 := hB1.cell 3 (.slice a3 b.props.length k3) rfl
  have f4 := hB1.cell 4 (.int .i64 b.redox.lo) rfl
  have f5 := hB1.cell 5 (.int .i64 b.redox.hi) rfl
  have f6 := hB1.cell 6 (.int .i64 b.wanted) rfl
  have E1 := Lib.hid e1
  have G2 := Lib.hid g2
  have G3 := Lib.hid g3
  have hp6 := hok.pr
  clear e1 g1 g2 g3
  have hfin := Lib.hid (show valI b r n = (⟨0, 0⟩, 7) by
    have h9 := E1.out
    unfold valI valB
    split
    · simp
    · simp only [h9]; rw [dif_neg (by omega)]; simp)
  have hbt := between_any n 0 ((b.props.length : Int) - 1) w1
  rw [show (decide ((0 : Int) ≤ n) && decide (n ≤ (b.props.length : Int) - 1)) = false from by
    by_cases h0 : 0 ≤ n
    · have : ¬ n < b.props.length := fun h => hnp ⟨E1.out, h0, h⟩
      simp; omega
    · simp; omega] at hbt
  have z0 : w1.cell? ⟨w.heap.size + 1, 0, none⟩ = some (.int .i64 0) := hC1.cell 0 _ rfl
  have z1 : w1.cell? ⟨w.heap.size + 1, 1, none⟩ = some (.int .i64 0) := hC1.cell 1 _ rfl
  have y0 := hC1.frozen 0
  have y1 := hC1.frozen 1
  clear hnp
  go_wp2_with fail
  refine hbt.mono ?_
  rintro e w2 ⟨rfl, rfl⟩
  clear hbt
  go_wp2
  have B9 := (hC1.set 0 (.int .i64 0)).set 1 (.int .i64 0)
  have d0 := B9.cell 0 (.int .i64 0) rfl
  have d1 := B9.cell 1 (.int .i64 0) rfl
  unfold RetSpE
  rw [hfin.out]
  exact bodyPost_ret (v := .tuple #[.agg #[.int .i64 0, .int .i64 0], .int .i64 7]) (by simp only [results, Try.results26]; simp [go_sem, d0, d1]) rfl ⟨rfl, (hA1.setCell (p := ⟨w.heap.size + 1, 0, none⟩) (by simp) _).setCell (p := ⟨w.heap.size + 1, 1, none⟩) (by simp) _⟩

theorem valI_fin {b : Bat} {r : List Int} {n : Int} (e : bothB b r = 0) :
    ((n < 0 ∨ (b.props.length : Int) ≤ n) → valI b r n = (⟨0, 0⟩, 7)) ∧ ((tot (gramsB b r)).lo = 0 → 0 ≤ n → n < b.props.length → valI b r n = (⟨0, 0⟩, 8)) ∧ ((tot (gramsB b r)).lo ≠ 0 → ∀ (k : Nat) (hk : k < b.props.length), n = k → valI b r n = (valueB (b.props[k]).coefs (gramsB b r), 0)) := by
  refine ⟨fun h => ?_, fun h h0 h1 => ?_, fun h k hk h1 => ?_⟩
  · unfold valI
    split
    · simp
    · unfold valB
      rw [if_neg (by simp [e]), dif_neg (by omega)]
  · unfold valI valB
    rw [if_neg (by omega), if_neg (by simp [e]), dif_pos (by omega), if_pos h]
  · subst h1
    unfold valI valB
    rw [if_neg (by omega), if_neg (by simp [e]), dif_pos (by simpa using hk), if_neg h]
    simp

set_option maxHeartbeats 1000000 in
set_option maxRecDepth 100000 in
theorem rval_any (v rv : Value) (b : Bat) (r : List Int) (n : Int) (w : World) (h : RBat w v b) (hr : RInts w rv r) :
    Calls Try.prog 27 #[v, rv, .int .i64 n] w (RetSpE w (valI b r n)) := by
  obtain ⟨a0, k0, a1, k1, a2, k2, a3, k3, rfl⟩ := h.agg
  obtain ⟨ar, kr, rfl, -, -, -⟩ := id hr
  have hA := below_two w (.cells #[.slice a0 b.oxides.length k0, .slice a1 b.mats.length k1, .slice a2 b.shares.length k2, .slice a3 b.props.length k3, .int .i64 b.redox.lo, .int .i64 b.redox.hi, .int .i64 b.wanted] 29) (.cells #[.int .i64 0, .int .i64 0] 27)
  have hB := (Blk.new w #[.slice a0 b.oxides.length k0, .slice a1 b.mats.length k1, .slice a2 b.shares.length k2, .slice a3 b.props.length k3, .int .i64 b.redox.lo, .int .i64 b.redox.hi, .int .i64 b.wanted] 29).alloc (.cells #[.int .i64 0, .int .i64 0] 27)
  have hC : Blk ((w.alloc (.cells #[.slice a0 b.oxides.length k0, .slice a1 b.mats.length k1, .slice a2 b.shares.length k2, .slice a3 b.props.length k3, .int .i64 b.redox.lo, .int .i64 b.redox.hi, .int .i64 b.wanted] 29)).alloc (.cells #[.int .i64 0, .int .i64 0] 27)) (w.heap.size + 1) #[.int .i64 0, .int .i64 0] 27 := by
    have := Blk.new (w.alloc (.cells #[.slice a0 b.oxides.length k0, .slice a1 b.mats.length k1, .slice a2 b.shares.length k2, .slice a3 b.props.length k3, .int .i64 b.redox.lo, .int .i64 b.redox.hi, .int .i64 b.wanted] 29)) #[.int .i64 0, .int .i64 0] 27
    simpa using this
  go_enter Try.func27, Try.ntmps27
  go_wp2_with fail
  generalize (w.alloc (.cells #[.slice a0 b.oxides.length k0, .slice a1 b.mats.length k1, .slice a2 b.shares.length k2, .slice a3 b.props.length k3, .int .i64 b.redox.lo, .int .i64 b.redox.hi, .int .i64 b.wanted] 29)).alloc (.cells #[.int .i64 0, .int .i64 0] 27) = W at *
  refine (rasked_any _ _ b r _ (h.mono (ext_of_below hA)) (hr.mono (ext_of_below hA))).mono ?_
  rintro e w1 ⟨rfl, hb1⟩
  have hA1 := hA.trans (hb1.mono hA.size)
  have hB1 := hB.below hb1 hB.lt
  have hC1 := hC.below hb1 hC.lt
  clear hA hB hC hb1
  by_cases e1 : bothB b r = 0
  case neg =>
    have e1' : (bothB b r != 0) = true := by simp [e1]
    have hfin := Lib.hid (show valI b r n = (⟨0, 0⟩, bothB b r) by
      unfold valI
      split
      · first | rfl | rw [if_neg e1]
      · unfold valB; rw [if_pos (by simpa using e1)])
    clear hB1 e1
    have z0 : w1.cell? ⟨w.heap.size + 1, 0, none⟩ = some (.int .i64 0) := hC1.cell 0 _ rfl
    have z1 : w1.cell? ⟨w.heap.size + 1, 1, none⟩ = some (.int .i64 0) := hC1.cell 1 _ rfl
    have y0 := hC1.frozen 0
    have y1 := hC1.frozen 1
    go_wp2
    have B9 := (hC1.set 0 (.int .i64 0)).set 1 (.int .i64 0)
    have d0 := B9.cell 0 (.int .i64 0) rfl
    have d1 := B9.cell 1 (.int .i64 0) rfl
    unfold RetSpE
    rw [hfin.out]
    exact bodyPost_ret (v := .tuple #[.agg #[.int .i64 0, .int .i64 0], .int .i64 (bothB b r)]) (by simp only [results, Try.results27]; simp [go_sem, d0, d1]) rfl ⟨rfl, (hA1.setCell (p := ⟨w.heap.size + 1, 0, none⟩) (by simp) _).setCell (p := ⟨w.heap.size + 1, 1, none⟩) (by simp) _⟩
  have e1' : (bothB b r != 0) = false := by simp [e1]
  obtain ⟨g1, g2, g3⟩ := rec_len e1
  have hok := ok_of g1
  obtain ⟨F1, F2, F3⟩ := valI_fin (n := n) e1
  have hw := weighed_any _ _ b r w1 (h.mono (ext_of_below hA1)) (hr.mono (ext_of_below hA1)) hok g2
  have E2 := Lib.hid g2
  have E3 := Lib.hid g3
  have hp6 := hok.pr
  have f0 := hB1.cell 0 (.slice a0 b.oxides.length k0) rfl
  have f1 := hB1.cell 1 (.slice a1 b.mats.length k1) rfl
  have f2 := hB1.cell 2 (.slice a2 b.shares.length k2) rfl
  have f3 := hB1.cell 3 (.slice a3 b.props.length k3) rfl
  have f4 := hB1.cell 4 (.int .i64 b.redox.lo) rfl
  have f5 := hB1.cell 5 (.int .i64 b.redox.hi) rfl
  have f6 := hB1.cell 6 (.int .i64 b.wanted) rfl
  clear e1 g1 g2 g3
  by_cases hn0 : n < 0
  · have hfin := Lib.hid (F1 (.inl hn0))
    clear F1 F2 F3 hw hB1
    have z0 : w1.cell? ⟨w.heap.size + 1, 0, none⟩ = some (.int .i64 0) := hC1.cell 0 _ rfl
    have z1 : w1.cell? ⟨w.heap.size + 1, 1, none⟩ = some (.int .i64 0) := hC1.cell 1 _ rfl
    have y0 := hC1.frozen 0
    have y1 := hC1.frozen 1
    go_wp2
    have B9 := (hC1.set 0 (.int .i64 0)).set 1 (.int .i64 0)
    have d0 := B9.cell 0 (.int .i64 0) rfl
    have d1 := B9.cell 1 (.int .i64 0) rfl
    unfold RetSpE
    rw [hfin.out]
    exact bodyPost_ret (v := .tuple #[.agg #[.int .i64 0, .int .i64 0], .int .i64 7]) (by simp only [results, Try.results27]; simp [go_sem, d0, d1]) rfl ⟨rfl, (hA1.setCell (p := ⟨w.heap.size + 1, 0, none⟩) (by simp) _).setCell (p := ⟨w.heap.size + 1, 1, none⟩) (by simp) _⟩
  by_cases hn1 : (b.props.length : Int) ≤ n
  · have hfin := Lib.hid (F1 (.inr hn1))
    clear F1 F2 F3 hw hB1
    have z0 : w1.cell? ⟨w.heap.size + 1, 0, none⟩ = some (.int .i64 0) := hC1.cell 0 _ rfl
    have z1 : w1.cell? ⟨w.heap.size + 1, 1, none⟩ = some (.int .i64 0) := hC1.cell 1 _ rfl
    have y0 := hC1.frozen 0
    have y1 := hC1.frozen 1
    go_wp2
    have B9 := (hC1.set 0 (.int .i64 0)).set 1 (.int .i64 0)
    have d0 := B9.cell 0 (.int .i64 0) rfl
    have d1 := B9.cell 1 (.int .i64 0) rfl
    unfold RetSpE
    rw [hfin.out]
    exact bodyPost_ret (v := .tuple #[.agg #[.int .i64 0, .int .i64 0], .int .i64 7]) (by simp only [results, Try.results27]; simp [go_sem, d0, d1]) rfl ⟨rfl, (hA1.setCell (p := ⟨w.heap.size + 1, 0, none⟩) (by simp) _).setCell (p := ⟨w.heap.size + 1, 1, none⟩) (by simp) _⟩
  obtain ⟨k, rfl⟩ := Int.eq_ofNat_of_zero_le (show 0 ≤ n by omega)
  have hk : k < b.props.length := by omega
  have hn2 : (k : Int) < (b.props.length : Int) := by omega
  clear F1
  go_wp2_with fail
  refine hw.mono ?_
  rintro e w2 ⟨vg, rfl, hvg, hb2⟩
  have hA2 := hA1.trans (hb2.mono hA1.size)
  have hB2 := hB1.below hb2 hB1.lt
  have hC2 := hC1.below hb2 hC1.lt
  clear hw f0 f1 f2 f3 f4 f5 f6 hB1 hC1 hA1 hb2
  by_cases hz : (tot (gramsB b r)).lo = 0
  · rw [show wE b r = ([], 8) by simp [wE, hz]]
    have hfin := Lib.hid (F2 hz (by omega) hn2)
    clear hz F2 F3 hvg hB2
    have z0 : w2.cell? ⟨w.heap.size + 1, 0, none⟩ = some (.int .i64 0) := hC2.cell 0 _ rfl
    have z1 : w2.cell? ⟨w.heap.size + 1, 1, none⟩ = some (.int .i64 0) := hC2.cell 1 _ rfl
    have y0 := hC2.frozen 0
    have y1 := hC2.frozen 1
    go_wp2
    have B9 := (hC2.set 0 (.int .i64 0)).set 1 (.int .i64 0)
    have d0 := B9.cell 0 (.int .i64 0) rfl
    have d1 := B9.cell 1 (.int .i64 0) rfl
    unfold RetSpE
    rw [hfin.out]
    exact bodyPost_ret (v := .tuple #[.agg #[.int .i64 0, .int .i64 0], .int .i64 8]) (by simp only [results, Try.results27]; simp [go_sem, d0, d1]) rfl ⟨rfl, (hA2.setCell (p := ⟨w.heap.size + 1, 0, none⟩) (by simp) _).setCell (p := ⟨w.heap.size + 1, 1, none⟩) (by simp) _⟩
  have hmo := coefs_ok hok E3.out E2.out hz (List.getElem_mem hk)
  have hfin := Lib.hid (F3 hz k hk rfl)
  rw [show wE b r = (gramsB b r, 0) by simp [wE, hz]] at hvg ⊢
  have hvg2 := hvg.mono (vis_ext _ _)
  have f3 : w2.cell? ⟨w.heap.size, 3, none⟩ = some (.slice a3 b.props.length k3) := hB2.cell 3 _ rfl
  obtain ⟨v0, v1, v2, v3, ev, q0, q1, q2, q3, i1, i2, i3⟩ := h
  simp only [Value.agg.injEq, Array.mk.injEq, List.cons.injEq, and_true] at ev
  obtain ⟨-, -, -, rfl, -⟩ := ev
  obtain ⟨ap, kp, ep, -, ⟨-, lp⟩, hl3⟩ := q3
  simp only [Value.slice.injEq, true_and] at ep
  obtain ⟨rfl, rfl⟩ := ep
  obtain ⟨b1, o1, rfl, vc, ⟨t0, t1, t2, t3⟩, hco, hs⟩ := hl3 k hk
  obtain ⟨ac, kc, rfl, -, -, -⟩ := id hco
  simp only at t1
  have t1' := ext_of_below hA2 _ _ t1
  have hbp := cell_lt t1
  simp only at hbp
  have hva := bounds_any _ vg _ _ w2 (hco.mono (ext_of_below hA2)) hvg2 hmo
  clear hl3 t0 t1 t2 t3 q0 q1 q2 hs i1 i2 i3 hco hmo hB2 hz F2 F3 hvg hvg2
  generalize b.props[k] = p at *
  go_wp2_with fail
  refine hva.mono ?_
  rintro e w4 ⟨rfl, hb4⟩
  have hA4 := hA2.trans (hb4.mono hA2.size)
  have hC4 := hC2.below hb4 hC2.lt
  clear hva hb4 hA2 hC2
  generalize valueB p.coefs (gramsB b r) = sp at *
  have z0 : w4.cell? ⟨w.heap.size + 1, 0, none⟩ = some (.int .i64 0) := hC4.cell 0 _ rfl
  have z1 : w4.cell? ⟨w.heap.size + 1, 1, none⟩ = some (.int .i64 0) := hC4.cell 1 _ rfl
  have y0 := hC4.frozen 0
  have y1 := hC4.frozen 1
  go_wp2
  have B9 := (hC4.set 0 (.int .i64 sp.lo)).set 1 (.int .i64 sp.hi)
  have d0 := B9.cell 0 (.int .i64 sp.lo) rfl
  have d1 := B9.cell 1 (.int .i64 sp.hi) rfl
  unfold RetSpE
  rw [hfin.out]
  exact bodyPost_ret (v := .tuple #[.agg #[.int .i64 sp.lo, .int .i64 sp.hi], .int .i64 0]) (by simp only [results, Try.results27]; simp [go_sem, d0, d1]) rfl ⟨rfl, (hA4.setCell (p := ⟨w.heap.size + 1, 0, none⟩) (by simp) _).setCell (p := ⟨w.heap.size + 1, 1, none⟩) (by simp) _⟩

end Go.Proofs.Ytmmknpejlccphaa
