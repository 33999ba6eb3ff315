/- The shares of the oxides, by the specification; no statement is proved here. -/
import Derived.Test.YtmmknpejlccphaaRBounds
namespace Go.Proofs.Ytmmknpejlccphaa
open Go.RowKit Go.PlainAid
set_option linter.unusedVariables false

theorem rforms_at (b : Bat) (k : Nat) (hk : k < b.oxides.length) (h : k < (rformsB b).length) : (rformsB b)[k] = shPrp b k := by
  have e : (rformsB b)[k]? = some (shPrp b k) := by
    unfold rformsB
    rw [List.getElem?_append_left (by rw [rfTo_len]; exact hk)]
    simp [rfTo, hk]
  exact Option.some.inj ((List.getElem?_eq_getElem h).symm.trans e)
theorem rforms_count (b : Bat) : (rformsB b).length = b.oxides.length + b.props.length := by simp [rformsB, rfTo]

set_option maxHeartbeats 1000000 in
set_option maxRecDepth 100000 in
theorem rglass_any (v rv : Value) (b : Bat) (r : List Int) (w : World) (h : RBat w v b) (hr : RInts w rv r) :
    Calls Try.prog 25 #[v, rv] w (RetSpsE w (glassB b r)) := by
  obtain ⟨a0, k0, a1, k1, a2, k2, a3, k3, rfl⟩ := h.agg
  obtain ⟨ar, kr, rfl, -, -, -⟩ := id hr
  obtain ⟨i0, hi, hz0, hz1, hz2⟩ := info_parts info_span
  have hA := below_box w (.cells #[.slice a0 b.oxides.length k0, .slice a1 b.mats.length k1, .slice a2 b.shares.length k2, .slice a3 b.props.length k3, .int .i64 b.redox.lo, .int .i64 b.redox.hi, .int .i64 b.wanted] 29)
  have hB := Blk.new w #[.slice a0 b.oxides.length k0, .slice a1 b.mats.length k1, .slice a2 b.shares.length k2, .slice a3 b.props.length k3, .int .i64 b.redox.lo, .int .i64 b.redox.hi, .int .i64 b.wanted] 29
  go_enter Try.func25, Try.ntmps25
  go_wp2_with fail
  generalize w.alloc (.cells #[.slice a0 b.oxides.length k0, .slice a1 b.mats.length k1, .slice a2 b.shares.length k2, .slice a3 b.props.length k3, .int .i64 b.redox.lo, .int .i64 b.redox.hi, .int .i64 b.wanted] 29) = W at *
  refine (rasked_any _ _ b r _ (h.mono (ext_of_below hA)) (hr.mono (ext_of_below hA))).mono ?_
  rintro e w1 ⟨rfl, hb1⟩
  have hA1 := hA.trans (hb1.mono hA.size)
  have hB1 := hB.below hb1 hB.lt
  clear hA hB hb1
  by_cases e1 : bothB b r = 0
  case neg =>
    have e1' : (bothB b r != 0) = true := by simp [e1]
    have hfin := Lib.hid (show glassB b r = ([], bothB b r) by simp [glassB, e1])
    clear hB1 e1
    go_wp2
    go_ret2
    unfold RetSpsE
    rw [hfin.out]
    exact ⟨_, rfl, RSps_nil _, hA1⟩
  have e1' : (bothB b r != 0) = false := by simp [e1]
  obtain ⟨g1, g2, g3⟩ := rec_len e1
  have hok := ok_of g1
  have hw := weighed_any _ _ b r w1 (h.mono (ext_of_below hA1)) (hr.mono (ext_of_below hA1)) hok g2
  have E1 := Lib.hid e1
  have E2 := Lib.hid g2
  have E3 := Lib.hid g3
  have f0 := hB1.cell 0 (.slice a0 b.oxides.length k0) rfl
  have f1 := hB1.cell 1 (.slice a1 b.mats.length k1) rfl
  have f2 := hB1.cell 2 (.slice a2 b.shares.length k2) rfl
  have f3 := hB1.cell 3 (.slice a3 b.props.length k3) rfl
  have f4 := hB1.cell 4 (.int .i64 b.redox.lo) rfl
  have f5 := hB1.cell 5 (.int .i64 b.redox.hi) rfl
  have f6 := hB1.cell 6 (.int .i64 b.wanted) rfl
  clear e1 g1 g2 g3
  go_wp2_with fail
  refine hw.mono ?_
  rintro e w2 ⟨vg, rfl, hvg, hb2⟩
  have hA2 := hA1.trans (hb2.mono hA1.size)
  have hB2 := hB1.below hb2 hB1.lt
  clear hw f0 f1 f2 f3 f4 f5 f6 hB1 hA1 hb2
  by_cases hz : (tot (gramsB b r)).lo = 0
  · rw [show wE b r = ([], 8) by simp [wE, hz]]
    have hfin := Lib.hid (show glassB b r = ([], 8) by simp [glassB, E1.out, hz])
    clear hz hvg hB2
    go_wp2
    go_ret2
    unfold RetSpsE
    rw [hfin.out]
    exact ⟨_, rfl, RSps_nil _, hA2⟩
  have hfin := Lib.hid (show glassB b r = (glassTo b r b.oxides.length, 0) by simp [glassB, E1.out, hz])
  rw [show wE b r = (gramsB b r, 0) by simp [wE, hz]] at hvg ⊢
  have hvg2 := hvg.mono (vis_ext _ _)
  have hMO := fun i => share_ok hok E3.out E2.out hz i
  have ho := hok.ox
  have hp := hok.pr
  have f0 := hB2.cell 0 (.slice a0 b.oxides.length k0) rfl
  have f1 := hB2.cell 1 (.slice a1 b.mats.length k1) rfl
  have f2 := hB2.cell 2 (.slice a2 b.shares.length k2) rfl
  have f3 := hB2.cell 3 (.slice a3 b.props.length k3) rfl
  have f4 := hB2.cell 4 (.int .i64 b.redox.lo) rfl
  have f5 := hB2.cell 5 (.int .i64 b.redox.hi) rfl
  have f6 := hB2.cell 6 (.int .i64 b.wanted) rfl
  clear hz hvg
  go_wp2_with fail
  refine (rforms_any (fun _ => True) _ b _ (h.mono (ext_vis_all (ext_of_below hA2) (fun _ _ => trivial))) hok).mono ?_
  rintro e w3 ⟨vf, rfl, hvf, hb3⟩
  obtain ⟨qf, rf, rfl, -, ⟨hrf, -⟩, hfl⟩ := hvf.mono (vis_ext _ _)
  have hA3 := hA2.trans (hb3.mono hA2.size)
  have hB3 := hB2.below hb3 hB2.lt
  have hvg3 := hvg2.mono (ext_of_below hb3)
  clear f0 f1 f2 f3 f4 f5 f6 hB2 hA2 hb3 hvg2 hvf
  have hfle : b.oxides.length ≤ (rformsB b).length := by rw [rforms_count]; omega
  go_wp2
  go_loopw [9, 11] (fun v i wr => ∃ (k : Nat) (l : List Sp), k ≤ b.oxides.length ∧ i = .int .i64 k ∧ Hid (l = glassTo b r k) ∧ wr.ownsRow w3.heap.size 27 2 v l.length (l.flatMap spCells) ∧ Below w3.heap.size w3 wr) (fun _ i _ => b.oxides.length - (intOf i).toNat)
  case atStart => exact ⟨0, [], Nat.zero_le _, rfl, rfl, World.ownsRow_nil _ _ _ _, Below.refl _ _⟩
  case round =>
    obtain ⟨k, l, hk, rfl, hx, hown, hb⟩ := hrel
    have hfinB := hA3.trans (hb.mono hA3.size)
    have hBr := hB3.below hb hB3.lt
    have c0 : wr.cell? ⟨w.heap.size, 0, none⟩ = some (.slice a0 b.oxides.length k0) := hBr.cell 0 _ rfl
    by_cases hlt : k < b.oxides.length
    · have hll : l.length ≤ 12 := by rw [hx.out, glassTo_len]; omega
      have hsn := glassTo_succ b r k
      rw [← hx.out] at hsn
      have HSN := Lib.hid hsn
      have hkf : k < (rformsB b).length := by omega
      obtain ⟨b1, o1, rfl, c, ⟨-, q1, -⟩, hF, -⟩ := hfl k hkf
      rw [rforms_at b k hlt hkf] at hF
      replace hF := hF.mono (ext_of_below hb)
      replace q1 := ext_of_below hb _ _ q1
      simp only at q1
      have hbl := cell_lt q1
      simp only at hbl
      obtain ⟨ac, kc, rfl, -, -, -⟩ := id hF
      have hMk := hMO k
      have hva := bounds_any _ vg (shareB b.oxides.length k) (gramsB b r) wr hF (hvg3.mono (ext_of_below hb)) hMk
      have j3 : (k : Int) < ((rformsB b).length : Int) := by omega
      clear hsn hx hMO hfl hF hBr
      go_wp2_with fail
      refine hva.mono ?_
      rintro e w5 ⟨rfl, hb5⟩
      have hown5 := (own_below hown hb5 (own_lt hown)).alloc (.cells #[.int .i64 (valueB (shareB b.oxides.length k) (gramsB b r)).lo, .int .i64 (valueB (shareB b.oxides.length k) (gramsB b r)).hi] 27)
      have hb5' := (hb.trans (hb5.mono hb.size)).alloc (by have := hb.size; have := hb5.size; omega) (.cells #[.int .i64 (valueB (shareB b.oxides.length k) (gramsB b r)).lo, .int .i64 (valueB (shareB b.oxides.length k) (gramsB b r)).hi] 27)
      have hs5 : w3.heap.size ≤ w5.heap.size := by have := hb.size; have := hb5.size; omega
      clear hva hown hb5 hb hfinB c0
      generalize valueB (shareB b.oxides.length k) (gramsB b r) = s at *
      go_wp2_with (at_builtin; refine wpList_append_own _ rfl _ _ 24 rfl w3.heap.size 27 i0 (.agg #[.int .i64 0, .int .i64 0]) 2 16 Try.underlying24 hi hz0 hz1 hz2 rfl (by decide) _ l.length _ rfl hown5 ⟨w5.heap.size, 0, none⟩ 1 1 (spCells s) rfl rfl (World.news_of_block (cs := #[.int .i64 s.lo, .int .i64 s.hi]) (heap_alloc_new w5 _)) (by simp [spCells, Value.oneCell']) (by unfold maxLen; omega) (by omega) (by simp; omega) ?_; intro v6 w6 hown6 hgrow6 _)
      have hB6 := hb5'.grown hgrow6 (by simp; omega) (fun q hq => (hown5.lt q hq).1)
      have hownF : w6.ownsRow w3.heap.size 27 2 v6 (l ++ [s]).length ((l ++ [s]).flatMap spCells) := by
        rw [List.flatMap_append, List.flatMap_singleton, List.length_append]; exact hown6
      clear hown6 hown5 hgrow6 hb5'
      go_roundw
      case rel => exact ⟨k + 1, l ++ [s], by omega, by go_num, HSN.out.symm, hownF, hB6⟩
      case measure => simp [intOf]; omega
    · have hl : l = glassTo b r b.oxides.length := by rw [hx.out, show k = b.oxides.length from by omega]
      subst hl
      have hs3 := hA3.size
      have hRI := own_RSps (own_vis (S := (w.heap.size ≤ ·)) hown (fun g hg => by have := (hown.lt g hg).1; omega)) (by rw [glassTo_len]; omega) (by intro x hx; obtain ⟨i, _, rfl⟩ := List.mem_map.1 hx; exact value_I64 (hMO i))
      clear hx hown hMO hfl
      go_wp2
      go_ret2
      unfold RetSpsE
      rw [hfin.out]
      exact ⟨_, rfl, hRI, hfinB⟩

end Go.Proofs.Ytmmknpejlccphaa
