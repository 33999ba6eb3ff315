/- Value, by its contract; no statement is proved here. -/
import Derived.Test.YtnnkcbeadiembaaForm
namespace Go.Proofs.Ytnnkcbeadiembaa
open Go.RowKit Go.PlainAid
set_option linter.unusedVariables false

/-- a span, and an error. -/
def RetSpE (w : World) (p : Sp × Int) (e : Ending) (w' : World) : Prop := e = .returned (.tuple #[.agg #[.int .i64 p.1.lo, .int .i64 p.1.hi], .int .i64 p.2]) ∧ Below w.heap.size w w'
def valB (b : Bat) (r : List Int) (n : Nat) : Sp × Int :=
  if bothB b r ≠ 0 then (⟨0, 0⟩, bothB b r) else if h : n < b.props.length then (if (tot (gramsB b r)).lo = 0 then (⟨0, 0⟩, 8) else (valueB (b.props[n]).coefs (gramsB b r), 0)) else (⟨0, 0⟩, 7)

theorem coefs_ok {b : Bat} (h : OkB b) {r : List Int} (hr : ∀ x ∈ r, 0 ≤ x ∧ x ≤ 10000) (hl : r.length = b.mats.length) (hp : (tot (gramsB b r)).lo ≠ 0) {p : Prp} (hm : p ∈ b.props) : MeanOk p.coefs (gramsB b r) := by
  have hg := grams_ok h hr hl
  have ht := tot_ok h hr hl
  have hlen : (gramsB b r).length = b.oxides.length := gTo_len _ _ _ _
  have hq := h.props p hm
  exact ⟨by rw [hlen, hq.len], by rw [hq.len]; exact h.ox, hq.coefs, fun s hs => by have := hg s hs; omega, by rw [ht.1] at hp; omega⟩

set_option maxRecDepth 100000 in
theorem val_any (v rv : Value) (b : Bat) (r : List Int) (n : Nat) (hn : (n : Int) ≤ 1000000) (w : World) (h : RBat w v b) (hr : RInts w rv r) :
    Calls Try.prog 23 #[v, rv, .int .i64 n] w (RetSpE w (valB b r n)) := by
  obtain ⟨a0, k0, a1, k1, a2, k2, a3, k3, rfl⟩ := h.agg
  have hA := below_two w (.cells #[.slice a0 b.oxides.length k0, .slice a1 b.mats.length k1, .slice a2 b.shares.length k2, .slice a3 b.props.length k3, .int .i64 b.redox.lo, .int .i64 b.redox.hi, .int .i64 b.wanted] 29) (.cells #[.int .i64 0, .int .i64 0] 27)
  have hB := (Blk.new w #[.slice a0 b.oxides.length k0, .slice a1 b.mats.length k1, .slice a2 b.shares.length k2, .slice a3 b.props.length k3, .int .i64 b.redox.lo, .int .i64 b.redox.hi, .int .i64 b.wanted] 29).alloc (.cells #[.int .i64 0, .int .i64 0] 27)
  have hC : Blk ((w.alloc (.cells #[.slice a0 b.oxides.length k0, .slice a1 b.mats.length k1, .slice a2 b.shares.length k2, .slice a3 b.props.length k3, .int .i64 b.redox.lo, .int .i64 b.redox.hi, .int .i64 b.wanted] 29)).alloc (.cells #[.int .i64 0, .int .i64 0] 27)) (w.heap.size + 1) #[.int .i64 0, .int .i64 0] 27 := by
    have := Blk.new (w.alloc (.cells #[.slice a0 b.oxides.length k0, .slice a1 b.mats.length k1, .slice a2 b.shares.length k2, .slice a3 b.props.length k3, .int .i64 b.redox.lo, .int .i64 b.redox.hi, .int .i64 b.wanted] 29)) #[.int .i64 0, .int .i64 0] 27
    simpa using this
  go_enter Try.func23, Try.ntmps23
  go_wp2_with fail
  generalize (w.alloc (.cells #[.slice a0 b.oxides.length k0, .slice a1 b.mats.length k1, .slice a2 b.shares.length k2, .slice a3 b.props.length k3, .int .i64 b.redox.lo, .int .i64 b.redox.hi, .int .i64 b.wanted] 29)).alloc (.cells #[.int .i64 0, .int .i64 0] 27) = W at *
  refine (checkBoth_any _ _ b r _ (h.mono (ext_of_below hA)) (hr.mono (ext_of_below hA))).mono ?_
  rintro e w1 ⟨rfl, hb1⟩
  have hA1 := hA.trans (hb1.mono hA.size)
  have hB1 := hB.below hb1 hB.lt
  have hC1 := hC.below hb1 hC.lt
  clear hA hB hC hb1
  by_cases e1 : bothB b r = 0
  case neg =>
    have e1' : (bothB b r != 0) = true := by simp [e1]
    have hfin := Lib.hid (show valB b r n = (⟨0, 0⟩, bothB b r) by simp [valB, e1])
    have z0 : w1.cell? ⟨w.heap.size + 1, 0, none⟩ = some (.int .i64 0) := hC1.cell 0 _ rfl
    have z1 : w1.cell? ⟨w.heap.size + 1, 1, none⟩ = some (.int .i64 0) := hC1.cell 1 _ rfl
    have y0 := hC1.frozen 0
    have y1 := hC1.frozen 1
    clear hB1 e1
    go_wp2
    have B9 := (hC1.set 0 (.int .i64 0)).set 1 (.int .i64 0)
    have d0 := B9.cell 0 (.int .i64 0) rfl
    have d1 := B9.cell 1 (.int .i64 0) rfl
    unfold RetSpE
    rw [hfin.out]
    exact bodyPost_ret (v := .tuple #[.agg #[.int .i64 0, .int .i64 0], .int .i64 (bothB b r)]) (by simp only [results, Try.results23]; simp [go_sem, d0, d1]) rfl ⟨rfl, (hA1.setCell (p := ⟨w.heap.size + 1, 0, none⟩) (by simp) _).setCell (p := ⟨w.heap.size + 1, 1, none⟩) (by simp) _⟩
  have e1' : (bothB b r != 0) = false := by simp [e1]
  obtain ⟨g1, g2, g3⟩ := rec_len e1
  have hok := ok_of g1
  have f0 := hB1.cell 0 (.slice a0 b.oxides.length k0) rfl
  have f1 := hB1.cell 1 (.slice a1 b.mats.length k1) rfl
  have f2 := hB1.cell 2 (.slice a2 b.shares.length k2) rfl
  have f3 := hB1.cell 3 (.slice a3 b.props.length k3) rfl
  have f4 := hB1.cell 4 (.int .i64 b.redox.lo) rfl
  have f5 := hB1.cell 5 (.int .i64 b.redox.hi) rfl
  have f6 := hB1.cell 6 (.int .i64 b.wanted) rfl
  have E1 := Lib.hid e1
  have G2 := Lib.hid g2
  have G3 := Lib.hid g3
  have hp6 := hok.pr
  clear e1 g1 g2 g3
  by_cases hnp : n < b.props.length
  case neg =>
    have hfin := Lib.hid (show valB b r n = (⟨0, 0⟩, 7) by simp [valB, E1.out, hnp])
    have hbt := between_any n 0 ((b.props.length : Int) - 1) w1
    rw [show (decide ((0 : Int) ≤ n) && decide ((n : Int) ≤ (b.props.length : Int) - 1)) = false from by simp; omega] at hbt
    have z0 : w1.cell? ⟨w.heap.size + 1, 0, none⟩ = some (.int .i64 0) := hC1.cell 0 _ rfl
    have z1 : w1.cell? ⟨w.heap.size + 1, 1, none⟩ = some (.int .i64 0) := hC1.cell 1 _ rfl
    have y0 := hC1.frozen 0
    have y1 := hC1.frozen 1
    clear hnp
    go_wp2_with fail
    refine hbt.mono ?_
    rintro e w2 ⟨rfl, rfl⟩
    clear hbt
    go_wp2
    have B9 := (hC1.set 0 (.int .i64 0)).set 1 (.int .i64 0)
    have d0 := B9.cell 0 (.int .i64 0) rfl
    have d1 := B9.cell 1 (.int .i64 0) rfl
    unfold RetSpE
    rw [hfin.out]
    exact bodyPost_ret (v := .tuple #[.agg #[.int .i64 0, .int .i64 0], .int .i64 7]) (by simp only [results, Try.results23]; simp [go_sem, d0, d1]) rfl ⟨rfl, (hA1.setCell (p := ⟨w.heap.size + 1, 0, none⟩) (by simp) _).setCell (p := ⟨w.heap.size + 1, 1, none⟩) (by simp) _⟩
  have hbt := between_any n 0 ((b.props.length : Int) - 1) w1
  rw [show (decide ((0 : Int) ≤ n) && decide ((n : Int) ≤ (b.props.length : Int) - 1)) = true from by simp; omega] at hbt
  have hgr := grams_any _ rv b r w1 (h.mono (ext_of_below hA1)) (hr.mono (ext_of_below hA1)) hok G2.out
  go_wp2_with fail
  refine hbt.mono ?_
  rintro e w2 ⟨rfl, rfl⟩
  clear hbt
  go_wp2_with fail
  refine hgr.mono ?_
  rintro e w2 ⟨vg, rfl, hvg, hb2⟩
  have hA2 := hA1.trans (hb2.mono hA1.size)
  have hB2 := hB1.below hb2 hB1.lt
  have hC2 := hC1.below hb2 hC1.lt
  have hvg2 := hvg.mono (vis_ext _ _)
  clear hgr f0 f1 f2 f3 f4 f5 f6 hB1 hC1 hA1 hb2 hvg
  go_wp2_with fail
  refine (total_any vg (gramsB b r) w2 hvg2).mono ?_
  rintro e w3 ⟨rfl, hb3⟩
  have hA3 := hA2.trans (hb3.mono hA2.size)
  have hB3 := hB2.below hb3 hB2.lt
  have hC3 := hC2.below hb3 hC2.lt
  have hvg3 := hvg2.mono (ext_of_below hb3)
  have hfd := fun w => field_lo (.int .i64 (tot (gramsB b r)).lo) (.int .i64 (tot (gramsB b r)).hi) w
  clear hB2 hC2 hA2 hb3 hvg2 e1'
  have z0 : w3.cell? ⟨w.heap.size + 1, 0, none⟩ = some (.int .i64 0) := hC3.cell 0 _ rfl
  have z1 : w3.cell? ⟨w.heap.size + 1, 1, none⟩ = some (.int .i64 0) := hC3.cell 1 _ rfl
  have y0 := hC3.frozen 0
  have y1 := hC3.frozen 1
  by_cases hz : (tot (gramsB b r)).lo = 0
  · have hfin := Lib.hid (show valB b r n = (⟨0, 0⟩, 8) by simp [valB, E1.out, hz, hnp])
    have hz' : ((tot (gramsB b r)).lo == 0) = true := by simp [hz]
    clear hz hvg3 hB3
    go_wp2
    have B9 := (hC3.set 0 (.int .i64 0)).set 1 (.int .i64 0)
    have d0 := B9.cell 0 (.int .i64 0) rfl
    have d1 := B9.cell 1 (.int .i64 0) rfl
    unfold RetSpE
    rw [hfin.out]
    exact bodyPost_ret (v := .tuple #[.agg #[.int .i64 0, .int .i64 0], .int .i64 8]) (by simp only [results, Try.results23]; simp [go_sem, d0, d1]) rfl ⟨rfl, (hA3.setCell (p := ⟨w.heap.size + 1, 0, none⟩) (by simp) _).setCell (p := ⟨w.heap.size + 1, 1, none⟩) (by simp) _⟩
  have hfin := Lib.hid (show valB b r n = (valueB (b.props[n]'hnp).coefs (gramsB b r), 0) by simp [valB, E1.out, hz, hnp])
  have hz' : ((tot (gramsB b r)).lo == 0) = false := by simp [hz]
  have hmo := coefs_ok hok G3.out G2.out hz (List.getElem_mem hnp)
  have m3 : w3.cell? ⟨w.heap.size, 3, none⟩ = some (.slice a3 b.props.length k3) := hB3.cell 3 _ rfl
  obtain ⟨v0, v1, v2, v3, ev, q0, q1, q2, q3, i1, i2, i3⟩ := h
  simp only [Value.agg.injEq, Array.mk.injEq, List.cons.injEq, and_true] at ev
  obtain ⟨-, -, -, rfl, -⟩ := ev
  obtain ⟨ap, kp, ep, -, ⟨-, lp⟩, hl3⟩ := q3
  simp only [Value.slice.injEq, true_and] at ep
  obtain ⟨rfl, rfl⟩ := ep
  obtain ⟨b1, o1, rfl, vc, ⟨t0, t1, t2, t3⟩, hco, hs⟩ := hl3 n hnp
  obtain ⟨ac, kc, rfl, -, -, -⟩ := id hco
  simp only at t1
  have t1' := ext_of_below hA3 _ _ t1
  have hbp := cell_lt t1
  simp only at hbp
  have hva := value_any _ vg _ _ w3 (hco.mono (ext_of_below hA3)) hvg3 hmo
  have hvi := value_I64 hmo
  clear hl3 t0 t1 t2 t3 q0 q1 q2 hs i1 i2 i3 hco hmo hB3 hz
  generalize b.props[n] = p at *
  go_wp2_with fail
  refine hva.mono ?_
  rintro e w4 ⟨rfl, hb4⟩
  have hA4 := hA3.trans (hb4.mono hA3.size)
  have hC4 := hC3.below hb4 hC3.lt
  clear hva hb4 hA3 hC3 z0 z1 y0 y1
  have z0 : w4.cell? ⟨w.heap.size + 1, 0, none⟩ = some (.int .i64 0) := hC4.cell 0 _ rfl
  have z1 : w4.cell? ⟨w.heap.size + 1, 1, none⟩ = some (.int .i64 0) := hC4.cell 1 _ rfl
  have y0 := hC4.frozen 0
  have y1 := hC4.frozen 1
  go_wp2
  have B9 := (hC4.set 0 (.int .i64 (valueB p.coefs (gramsB b r)).lo)).set 1 (.int .i64 (valueB p.coefs (gramsB b r)).hi)
  have d0 := B9.cell 0 (.int .i64 (valueB p.coefs (gramsB b r)).lo) rfl
  have d1 := B9.cell 1 (.int .i64 (valueB p.coefs (gramsB b r)).hi) rfl
  unfold RetSpE
  rw [hfin.out]
  exact bodyPost_ret (v := .tuple #[.agg #[.int .i64 (valueB p.coefs (gramsB b r)).lo, .int .i64 (valueB p.coefs (gramsB b r)).hi], .int .i64 0]) (by simp only [results, Try.results23]; simp [go_sem, d0, d1]) rfl ⟨rfl, (hA4.setCell (p := ⟨w.heap.size + 1, 0, none⟩) (by simp) _).setCell (p := ⟨w.heap.size + 1, 1, none⟩) (by simp) _⟩

end Go.Proofs.Ytnnkcbeadiembaa
