/- Redox, by its contract; no statement is proved here. -/
import Derived.Test.YtnnkcbeadiembaaVal
import Derived.StillTailTactics
namespace Go.Proofs.Ytnnkcbeadiembaa
open Go.RowKit Go.PlainAid
set_option linter.unusedVariables false

def rdxAt (b : Bat) (k : Nat) : Int := match b.mats[k]? with | some m => m.redox | none => 0
def rdxTo (b : Bat) (r : List Int) (k : Nat) : Int := ((List.range k).map fun i => 1000000 * rdxAt b i * r.getD i 0).sum
def rdxB (b : Bat) (r : List Int) : Sp := ⟨min (rdxTo b r b.mats.length / (tot (gramsB b r)).lo) (rdxTo b r b.mats.length / (tot (gramsB b r)).hi), max (-(-(rdxTo b r b.mats.length) / (tot (gramsB b r)).lo)) (-(-(rdxTo b r b.mats.length) / (tot (gramsB b r)).hi))⟩
def redoxB (b : Bat) (r : List Int) : Sp × Int :=
  if bothB b r ≠ 0 then (⟨0, 0⟩, bothB b r) else if (tot (gramsB b r)).lo = 0 then (⟨0, 0⟩, 8) else (rdxB b r, 0)

theorem rdxTo_succ (b : Bat) (r : List Int) (k : Nat) : rdxTo b r (k + 1) = rdxTo b r k + 1000000 * rdxAt b k * r.getD k 0 := by
  unfold rdxTo
  rw [List.range_succ, List.map_append, List.map_singleton, sum_snoc]

theorem rdx_bd {b : Bat} (h : OkB b) {r : List Int} (hr : ∀ x ∈ r, 0 ≤ x ∧ x ≤ 10000) (hl : r.length = b.mats.length) : ∀ k, k ≤ b.mats.length → -(10000000000000 * (k : Int)) ≤ rdxTo b r k ∧ rdxTo b r k ≤ 10000000000000 * k := by
  intro k
  induction k with
  | zero => intro _; simp [rdxTo]
  | succ k ih =>
    intro hk
    have h1 := ih (by omega)
    have h2 := hr _ (getD_mem (d := 0) (show k < r.length by omega))
    have h3 := (h.mats _ (List.getElem_mem (show k < b.mats.length by omega))).redox
    have e : rdxAt b k = (b.mats[k]'(by omega)).redox := by unfold rdxAt; rw [List.getElem?_eq_getElem (show k < b.mats.length by omega)]
    have h4 := mul_le_of (m := 1000000000) (a := 1000000 * rdxAt b k) (b := r.getD k 0) (by rw [e]; omega) h2.1
    rw [rdxTo_succ]
    omega

theorem rdx_step {b : Bat} {r : List Int} {k : Nat} {x : Int} (hx : x = wrap64 (rdxTo b r k)) (hi : I64 (1000000 * rdxAt b k)) : wrap64 (x + wrap64 (1000000 * rdxAt b k * r.getD k 0)) = wrap64 (rdxTo b r (k + 1)) := by
  rw [wrap_add', hx, wrap_add, rdxTo_succ]

theorem tot_bd {b : Bat} (h : OkB b) {r : List Int} (hr : ∀ x ∈ r, 0 ≤ x ∧ x ≤ 10000) (hl : r.length = b.mats.length) : 0 ≤ (tot (gramsB b r)).lo ∧ (tot (gramsB b r)).lo ≤ (tot (gramsB b r)).hi ∧ (tot (gramsB b r)).hi ≤ 1440000000 := by
  have ht := tot_ok h hr hl
  have hg := grams_ok h hr hl
  have hle : ((gramsB b r).map Sp.lo).sum ≤ ((gramsB b r).map Sp.hi).sum := by
    clear ht
    generalize gramsB b r = l at hg
    induction l with
    | nil => simp
    | cons a l ih =>
      have := ih fun s hs => hg s (List.mem_cons_of_mem _ hs)
      have := hg a List.mem_cons_self
      simp only [List.map_cons, List.sum_cons]
      omega
  omega

set_option maxHeartbeats 1000000 in
set_option maxRecDepth 100000 in
theorem redox_any (v rv : Value) (b : Bat) (r : List Int) (w : World) (h : RBat w v b) (hr : RInts w rv r) :
    Calls Try.prog 21 #[v, rv] w (RetSpE w (redoxB b r)) := by
  obtain ⟨a0, k0, a1, k1, a2, k2, a3, k3, rfl⟩ := h.agg
  have hA := below_two w (.cells #[.slice a0 b.oxides.length k0, .slice a1 b.mats.length k1, .slice a2 b.shares.length k2, .slice a3 b.props.length k3, .int .i64 b.redox.lo, .int .i64 b.redox.hi, .int .i64 b.wanted] 29) (.cells #[.int .i64 0, .int .i64 0] 27)
  have hB := (Blk.new w #[.slice a0 b.oxides.length k0, .slice a1 b.mats.length k1, .slice a2 b.shares.length k2, .slice a3 b.props.length k3, .int .i64 b.redox.lo, .int .i64 b.redox.hi, .int .i64 b.wanted] 29).alloc (.cells #[.int .i64 0, .int .i64 0] 27)
  have hC : Blk ((w.alloc (.cells #[.slice a0 b.oxides.length k0, .slice a1 b.mats.length k1, .slice a2 b.shares.length k2, .slice a3 b.props.length k3, .int .i64 b.redox.lo, .int .i64 b.redox.hi, .int .i64 b.wanted] 29)).alloc (.cells #[.int .i64 0, .int .i64 0] 27)) (w.heap.size + 1) #[.int .i64 0, .int .i64 0] 27 := by
    have := Blk.new (w.alloc (.cells #[.slice a0 b.oxides.length k0, .slice a1 b.mats.length k1, .slice a2 b.shares.length k2, .slice a3 b.props.length k3, .int .i64 b.redox.lo, .int .i64 b.redox.hi, .int .i64 b.wanted] 29)) #[.int .i64 0, .int .i64 0] 27
    simpa using this
  go_enter Try.func21, Try.ntmps21
  go_wp2_with fail
  generalize (w.alloc (.cells #[.slice a0 b.oxides.length k0, .slice a1 b.mats.length k1, .slice a2 b.shares.length k2, .slice a3 b.props.length k3, .int .i64 b.redox.lo, .int .i64 b.redox.hi, .int .i64 b.wanted] 29)).alloc (.cells #[.int .i64 0, .int .i64 0] 27) = W at *
  refine (checkBoth_any _ _ b r _ (h.mono (ext_of_below hA)) (hr.mono (ext_of_below hA))).mono ?_
  rintro e w1 ⟨rfl, hb1⟩
  have hA1 := hA.trans (hb1.mono hA.size)
  have hB1 := hB.below hb1 hB.lt
  have hC1 := hC.below hb1 hC.lt
  clear hA hB hC hb1
  by_cases e1 : bothB b r = 0
  case neg =>
    have e1' : (bothB b r != 0) = true := by simp [e1]
    have hfin := Lib.hid (show redoxB b r = (⟨0, 0⟩, bothB b r) by simp [redoxB, e1])
    have z0 : w1.cell? ⟨w.heap.size + 1, 0, none⟩ = some (.int .i64 0) := hC1.cell 0 _ rfl
    have z1 : w1.cell? ⟨w.heap.size + 1, 1, none⟩ = some (.int .i64 0) := hC1.cell 1 _ rfl
    have y0 := hC1.frozen 0
    have y1 := hC1.frozen 1
    clear hB1 e1
    go_wp2
    have B9 := (hC1.set 0 (.int .i64 0)).set 1 (.int .i64 0)
    have d0 := B9.cell 0 (.int .i64 0) rfl
    have d1 := B9.cell 1 (.int .i64 0) rfl
    unfold RetSpE
    rw [hfin.out]
    exact bodyPost_ret (v := .tuple #[.agg #[.int .i64 0, .int .i64 0], .int .i64 (bothB b r)]) (by simp only [results, Try.results21]; simp [go_sem, d0, d1]) rfl ⟨rfl, (hA1.setCell (p := ⟨w.heap.size + 1, 0, none⟩) (by simp) _).setCell (p := ⟨w.heap.size + 1, 1, none⟩) (by simp) _⟩
  have e1' : (bothB b r != 0) = false := by simp [e1]
  obtain ⟨g1, g2, g3⟩ := rec_len e1
  have hok := ok_of g1
  have f0 := hB1.cell 0 (.slice a0 b.oxides.length k0) rfl
  have f1 := hB1.cell 1 (.slice a1 b.mats.length k1) rfl
  have f2 := hB1.cell 2 (.slice a2 b.shares.length k2) rfl
  have f3 := hB1.cell 3 (.slice a3 b.props.length k3) rfl
  have f4 := hB1.cell 4 (.int .i64 b.redox.lo) rfl
  have f5 := hB1.cell 5 (.int .i64 b.redox.hi) rfl
  have f6 := hB1.cell 6 (.int .i64 b.wanted) rfl
  have E1 := Lib.hid e1
  have G2 := Lib.hid g2
  have G3 := Lib.hid g3
  have hgr := grams_any _ rv b r w1 (h.mono (ext_of_below hA1)) (hr.mono (ext_of_below hA1)) hok g2
  clear e1 g1 g2 g3
  go_wp2_with fail
  refine hgr.mono ?_
  rintro e w2 ⟨vg, rfl, hvg, hb2⟩
  have hA2 := hA1.trans (hb2.mono hA1.size)
  have hB2 := hB1.below hb2 hB1.lt
  have hC2 := hC1.below hb2 hC1.lt
  have hvg2 := hvg.mono (vis_ext _ _)
  clear hgr f0 f1 f2 f3 f4 f5 f6 hB1 hC1 hA1 hb2 hvg
  go_wp2_with fail
  refine (total_any vg (gramsB b r) w2 hvg2).mono ?_
  rintro e w3 ⟨rfl, hb3⟩
  have hA3 := hA2.trans (hb3.mono hA2.size)
  have hB3 := hB2.below hb3 hB2.lt
  have hC3 := hC2.below hb3 hC2.lt
  have hT := tot_bd hok G3.out G2.out
  clear hB2 hC2 hA2 hb3 hvg2 e1'
  have hA4 := hA3.alloc hA3.size (.cells #[.int .i64 (tot (gramsB b r)).lo, .int .i64 (tot (gramsB b r)).hi] 27)
  have hB4 := hB3.alloc (.cells #[.int .i64 (tot (gramsB b r)).lo, .int .i64 (tot (gramsB b r)).hi] 27)
  have hC4 := hC3.alloc (.cells #[.int .i64 (tot (gramsB b r)).lo, .int .i64 (tot (gramsB b r)).hi] 27)
  have hD4 := Blk.new w3 #[.int .i64 (tot (gramsB b r)).lo, .int .i64 (tot (gramsB b r)).hi] 27
  by_cases hz : (tot (gramsB b r)).lo = 0
  · have hfin := Lib.hid (show redoxB b r = (⟨0, 0⟩, 8) by simp [redoxB, E1.out, hz])
    have hz' : ((tot (gramsB b r)).lo == 0) = true := by simp [hz]
    have z0 : (w3.alloc (.cells #[.int .i64 (tot (gramsB b r)).lo, .int .i64 (tot (gramsB b r)).hi] 27)).cell? ⟨w.heap.size + 1, 0, none⟩ = some (.int .i64 0) := hC4.cell 0 _ rfl
    have z1 : (w3.alloc (.cells #[.int .i64 (tot (gramsB b r)).lo, .int .i64 (tot (gramsB b r)).hi] 27)).cell? ⟨w.heap.size + 1, 1, none⟩ = some (.int .i64 0) := hC4.cell 1 _ rfl
    have y0 := hC4.frozen 0
    have y1 := hC4.frozen 1
    clear hz hB3 hC3 hA3 hT
    go_wp2
    have B9 := (hC4.set 0 (.int .i64 0)).set 1 (.int .i64 0)
    have d0 := B9.cell 0 (.int .i64 0) rfl
    have d1 := B9.cell 1 (.int .i64 0) rfl
    unfold RetSpE
    rw [hfin.out]
    exact bodyPost_ret (v := .tuple #[.agg #[.int .i64 0, .int .i64 0], .int .i64 8]) (by simp only [results, Try.results21]; simp [go_sem, d0, d1]) rfl ⟨rfl, (hA4.setCell (p := ⟨w.heap.size + 1, 0, none⟩) (by simp) _).setCell (p := ⟨w.heap.size + 1, 1, none⟩) (by simp) _⟩
  have hfin := Lib.hid (show redoxB b r = (rdxB b r, 0) by simp [redoxB, E1.out, hz])
  have hz' : ((tot (gramsB b r)).lo == 0) = false := by simp [hz]
  have hbd := rdx_bd hok G3.out G2.out
  have hms := hok.mt
  have hmr := fun m hm => (hok.mats m hm).redox
  have m1 : (w3.alloc (.cells #[.int .i64 (tot (gramsB b r)).lo, .int .i64 (tot (gramsB b r)).hi] 27)).cell? ⟨w.heap.size, 1, none⟩ = some (.slice a1 b.mats.length k1) := hB4.cell 1 _ rfl
  have hszz : w3.heap.size < (w3.alloc (.cells #[.int .i64 (tot (gramsB b r)).lo, .int .i64 (tot (gramsB b r)).hi] 27)).heap.size := by simp
  obtain ⟨v0, v1, v2, v3, ev, q0, q1, q2, q3, i1, i2, i3⟩ := h
  simp only [Value.agg.injEq, Array.mk.injEq, List.cons.injEq, and_true] at ev
  obtain ⟨-, rfl, -, -, -⟩ := ev
  obtain ⟨ap, kp, ep, -, ⟨-, lp⟩, hl1⟩ := q1
  simp only [Value.slice.injEq, true_and] at ep
  obtain ⟨rfl, rfl⟩ := ep
  obtain ⟨ar, kr, rfl, -, ⟨-, lr⟩, hrl⟩ := hr
  have hnn : w.heap.size + 1 < w3.heap.size := hC3.lt
  clear q0 q2 q3 i1 i2 i3 hA3 hB3 hC3 hok E1
  go_wp2
  generalize hnr : w3.heap.size = nw at *
  generalize w3.alloc (.cells #[.int .i64 (tot (gramsB b r)).lo, .int .i64 (tot (gramsB b r)).hi] 27) = W4 at *
  have hA4s := hA4.size
  go_loopw [8, 29] (fun s i wr => ∃ (k : Nat) (x : Int), k ≤ b.mats.length ∧ i = .int .i64 k ∧ s = .int .i64 x ∧ Hid (x = wrap64 (rdxTo b r k)) ∧ Below W4.heap.size W4 wr) (fun _ i _ => b.mats.length - (intOf i).toNat)
  case atStart => exact ⟨0, 0, Nat.zero_le _, rfl, rfl, by simp [wrap64, Hid, rdxTo], Below.refl _ _⟩
  case round =>
    obtain ⟨k, x, hk, rfl, rfl, hx, hb⟩ := hrel
    have hA5 := hA4.trans (hb.mono hA4s)
    by_cases hlt : k < b.mats.length
    · obtain ⟨b1, o1, rfl, vc, ⟨g0, g1, g2, g3, g4, g5, g6⟩, hcon, hs⟩ := hl1 k hlt
      obtain ⟨ac, kc, rfl, -, ⟨-, lc⟩, hcl⟩ := id hcon
      have hlr : k < r.length := by rw [G2.out]; exact hlt
      obtain ⟨b2, o2, rfl, q1, -⟩ := hrl k hlr
      have hge : rdxAt b k = (b.mats[k]'hlt).redox := by unfold rdxAt; rw [List.getElem?_eq_getElem hlt]
      have hre := hmr _ (List.getElem_mem hlt)
      have hst := rdx_step (b := b) (r := r) (k := k) hx.out (by rw [hge]; unfold I64; omega)
      rw [hge, show r.getD k 0 = r[k]'hlr by simp [List.getD, List.getElem?_eq_getElem hlr]] at hst
      have HS := Lib.hid hst
      have hbl := cell_lt g0
      have hbl2 := cell_lt q1
      simp only at g0 g1 g2 g3 g4 g5 g6 hbl hbl2
      simp only [Nat.mul_one] at q1 hbl2
      replace q1 := ext_of_below hA5 _ _ q1
      obtain ⟨hcc, hzz⟩ := bcell hA5
      clear hl1 hrl hst hx hge hbd hmr hcon hs hcl m1 hz' hB4 hC4 hD4
      generalize b.mats[k] = m at *
      generalize r[k]'hlr = y at *
      go_wp2_with fail
      have W5 := below_box wr (.cells #[.string m.name, .int .i64 m.price, .int .i64 m.redox, .int .i64 m.least, .int .i64 m.most, .int .i64 m.step, .slice ac m.content.length kc] 58)
      have B5 := Blk.new wr #[.string m.name, .int .i64 m.price, .int .i64 m.redox, .int .i64 m.least, .int .i64 m.most, .int .i64 m.step, .slice ac m.content.length kc] 58
      have hb5 := hb.trans (W5.mono hb.size)
      have q1' := ext_of_below W5 _ _ q1
      have p2 := B5.cell 2 (.int .i64 m.redox) rfl
      clear g0 g1 g2 g3 g4 g5 g6 hcc hzz q1 W5 B5 hb hA5 hA4
      generalize hgn : wr.heap.size = nr at *
      generalize wr.alloc (.cells #[.string m.name, .int .i64 m.price, .int .i64 m.redox, .int .i64 m.least, .int .i64 m.most, .int .i64 m.step, .slice ac m.content.length kc] 58) = W6 at *
      go_region
      go_wp2
      go_roundw
      case rel => exact ⟨k + 1, _, by omega, by go_num, rfl, HS, hb5.drew⟩
      case measure => simp [intOf]; omega
    · have hxx : x = rdxTo b r b.mats.length := by
        rw [hx.out, show k = b.mats.length by omega]
        have := hbd b.mats.length (Nat.le_refl _)
        exact wrap_id _ (by unfold I64; omega)
      have hbb := hbd b.mats.length (Nat.le_refl _)
      rw [← hxx] at hbb
      have HX := Lib.hid hxx
      have hB5 := hB4.below hb hB4.lt
      have hC5 := hC4.below hb hC4.lt
      have hD5 := hD4.below hb hD4.lt
      have hx1 : -9223372036854775807 ≤ x ∧ x ≤ 9223372036854775807 := by omega
      have hx2 : 0 < (tot (gramsB b r)).lo ∧ (tot (gramsB b r)).lo ≤ 9223372036854775807 := by omega
      have hx3 : 0 < (tot (gramsB b r)).hi ∧ (tot (gramsB b r)).hi ≤ 9223372036854775807 := by omega
      have p0 := hD5.cell 0 (.int .i64 (tot (gramsB b r)).lo) rfl
      have p1 := hD5.cell 1 (.int .i64 (tot (gramsB b r)).hi) rfl
      have z0 : wr.cell? ⟨w.heap.size + 1, 0, none⟩ = some (.int .i64 0) := hC5.cell 0 _ rfl
      have z1 : wr.cell? ⟨w.heap.size + 1, 1, none⟩ = some (.int .i64 0) := hC5.cell 1 _ rfl
      have y0 := hC5.frozen 0
      have y1 := hC5.frozen 1
      clear hx hxx hbd hl1 hrl hmr hB4 hC4 hD4 m1 hz' hb
      generalize hgl : (tot (gramsB b r)).lo = tl at *
      generalize hgh : (tot (gramsB b r)).hi = th at *
      have HL := Lib.hid hgl
      have HH := Lib.hid hgh
      clear hgl hgh hnr
      have hR : rdxB b r = ⟨min (x / tl) (x / th), max (-(-x / tl)) (-(-x / th))⟩ := by unfold rdxB; rw [← HX.out, HL.out, HH.out]
      have D1 := fun w => (down_any x tl w hx1 hx2).mono fun e w' h => (⟨h.1, h.2.symm⟩ : _ ∧ w' = w)
      have D2 := fun w => (down_any x th w hx1 hx3).mono fun e w' h => (⟨h.1, h.2.symm⟩ : _ ∧ w' = w)
      have U1 := fun w => (up_any x tl w hx1 hx2).mono fun e w' h => (⟨h.1, h.2.symm⟩ : _ ∧ w' = w)
      have U2 := fun w => (up_any x th w hx1 hx3).mono fun e w' h => (⟨h.1, h.2.symm⟩ : _ ∧ w' = w)
      have HR := Lib.hid hR
      have hne1 : nw ≠ w.heap.size + 1 := by omega
      have hne2 : w.heap.size + 1 ≠ nw := by omega
      clear hR HX HL HH hx1 hx2 hx3 hbb hT hz hB5 lp lr hms
      generalize x / tl = q1 at *
      generalize x / th = q2 at *
      generalize -(-x / tl) = s1 at *
      generalize -(-x / th) = s2 at *
      go_wp2_with fail
      refine wp_region_still_tail 19 (by kernel_rfl) (by kernel_rfl) ?_
      simp only [List.take_succ_cons, List.take_zero, List.drop_succ_cons, List.drop_zero]
      repeat still_step
      still_call (D1 _)
      repeat still_step
      still_call (D2 _)
      repeat still_step
      still_call (U1 _)
      repeat still_step
      still_call (U2 _)
      repeat still_step
      refine wpStill_nil ?_
      change wpList _ _ _ _ _ wr.drew
      have hA6 := hA5.drew
      have hC6 : Blk wr.drew (w.heap.size + 1) #[.int .i64 0, .int .i64 0] 27 := hC5
      clear z0 z1 y0 y1 p0 p1 D1 D2 U1 U2 hC5 hA5 hD5
      have z0 : wr.drew.cell? ⟨w.heap.size + 1, 0, none⟩ = some (.int .i64 0) := hC6.cell 0 _ rfl
      have z1 : wr.drew.cell? ⟨w.heap.size + 1, 1, none⟩ = some (.int .i64 0) := hC6.cell 1 _ rfl
      have y0 := hC6.frozen 0
      have y1 := hC6.frozen 1
      generalize wr.drew = w9 at *
      generalize hq : (if q2 < q1 then q2 else q1) = m1
      generalize hs : (if s1 < s2 then s2 else s1) = m2
      have e1 : min q1 q2 = m1 := by subst hq; split <;> omega
      have e2 : max s1 s2 = m2 := by subst hs; split <;> omega
      have hR2 := HR.out
      rw [e1, e2] at hR2
      have HQ := Lib.hid hR2
      clear hq hs e1 e2 hR2 HR
      go_wp2
      have B9 := (hC6.set 0 (.int .i64 m1)).set 1 (.int .i64 m2)
      have d0 := B9.cell 0 (.int .i64 m1) rfl
      have d1 := B9.cell 1 (.int .i64 m2) rfl
      unfold RetSpE
      rw [hfin.out, HQ.out]
      exact bodyPost_ret (v := .tuple #[.agg #[.int .i64 m1, .int .i64 m2], .int .i64 0]) (by simp only [results, Try.results21]; simp [go_sem, d0, d1]) rfl ⟨rfl, (hA6.setCell (p := ⟨w.heap.size + 1, 0, none⟩) (by simp) _).setCell (p := ⟨w.heap.size + 1, 1, none⟩) (by simp) _⟩

end Go.Proofs.Ytnnkcbeadiembaa
