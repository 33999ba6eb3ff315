/- The redox number, by the specification; no statement is proved here. -/
import Derived.Test.YtmmknpejlccphaaRVal
namespace Go.Proofs.Ytmmknpejlccphaa
open Go.RowKit Go.PlainAid
set_option linter.unusedVariables false

theorem tdiv_low {a b : Int} (hb : 0 < b) (h : a < a.tdiv b * b) : a.tdiv b - 1 = a / b := by
  have h1 := Int.mul_tdiv_add_tmod a b
  have h2 := Int.tmod_lt_of_pos a hb
  have h3 := Int.lt_tmod_of_pos a hb
  rw [Int.mul_comm] at h1
  symm
  rw [Int.ediv_eq_iff_of_pos hb]
  rw [Int.sub_mul, Int.one_mul]
  omega

theorem tdiv_high {a b : Int} (hb : 0 < b) (h : ¬ a < a.tdiv b * b) : a.tdiv b = a / b := by
  have h1 := Int.mul_tdiv_add_tmod a b
  have h2 := Int.tmod_lt_of_pos a hb
  rw [Int.mul_comm] at h1
  symm
  rw [Int.ediv_eq_iff_of_pos hb]
  omega

theorem floor_any (a b : Int) (w : World) (ha : -4000000000000000000 ≤ a ∧ a ≤ 4000000000000000000) (hb : 0 < b ∧ b ≤ 4000000000000000000) :
    Calls Try.prog 73 #[.int .i64 a, .int .i64 b] w fun e w' => e = .returned (.int .i64 (a / b)) ∧ w = w' := by
  obtain ⟨ha1, ha2⟩ := ha
  obtain ⟨hb1, hb2⟩ := hb
  have hq : -4000000000000000000 ≤ a.tdiv b ∧ a.tdiv b ≤ 4000000000000000000 := by
    have h1 := Int.natAbs_tdiv_le_natAbs a b
    constructor <;> omega
  have hm : -8000000000000000000 ≤ a.tdiv b * b ∧ a.tdiv b * b ≤ 8000000000000000000 := by
    have h1 := Int.mul_tdiv_add_tmod a b
    rw [Int.mul_comm] at h1
    have h2 := Int.tmod_lt_of_pos a hb1
    have h3 := Int.lt_tmod_of_pos a hb1
    omega
  obtain ⟨hq1, hq2⟩ := hq
  obtain ⟨hm1, hm2⟩ := hm
  by_cases hlt : a < a.tdiv b * b
  · have hf := Lib.hid (tdiv_low hb1 hlt)
    go_enter Try.func73, Try.ntmps73
    go_wp2
    go_ret
    exact ⟨ret_int hf.out, rfl⟩
  · have hf := Lib.hid (tdiv_high hb1 hlt)
    go_enter Try.func73, Try.ntmps73
    go_wp2
    go_ret
    exact ⟨ret_int hf.out, rfl⟩

theorem ceiling_any (a b : Int) (w : World) (ha : -4000000000000000000 ≤ a ∧ a ≤ 4000000000000000000) (hb : 0 < b ∧ b ≤ 4000000000000000000) :
    Calls Try.prog 74 #[.int .i64 a, .int .i64 b] w fun e w' => e = .returned (.int .i64 (-(-a / b))) ∧ w = w' := by
  have hd := floor_any (-a) b
  have hq : -4000000000000000000 ≤ (-a) / b ∧ (-a) / b ≤ 4000000000000000000 := by
    have h1 := Int.natAbs_ediv_le_natAbs (-a) b
    omega
  obtain ⟨ha1, ha2⟩ := ha
  obtain ⟨hb1, hb2⟩ := hb
  obtain ⟨hq1, hq2⟩ := hq
  go_enter Try.func74, Try.ntmps74
  go_wp2_with (go_at_call 73; refine (hd _ (by omega) (by omega)).mono ?_; rintro e w' ⟨rfl, rfl⟩)
  go_ret
  exact ⟨rfl, rfl⟩

def sdx (b : Bat) (r : List Int) (k : Nat) : Int := ((List.range k).map fun i => r.getD i 0 * rdxAt b i).sum
theorem sdx_succ (b : Bat) (r : List Int) (k : Nat) : sdx b r (k + 1) = sdx b r k + r.getD k 0 * rdxAt b k := by
  unfold sdx
  rw [List.range_succ, List.map_append, List.map_singleton, sum_snoc]
theorem sdx_rdx (b : Bat) (r : List Int) : ∀ k, 1000000 * sdx b r k = rdxTo b r k := by
  intro k
  induction k with
  | zero => simp [sdx, rdxTo]
  | succ k ih => rw [sdx_succ, rdxTo_succ, Int.mul_add, ih, Int.mul_comm (r.getD k 0), Int.mul_assoc]
theorem sdx_step (b : Bat) (r : List Int) (k : Nat) (x : Int) (hx : x = wrap64 (sdx b r k)) : wrap64 (x + wrap64 (r.getD k 0 * rdxAt b k)) = wrap64 (sdx b r (k + 1)) := by
  rw [wrap_add', hx, wrap_add, sdx_succ]

set_option maxHeartbeats 1000000 in
set_option maxRecDepth 100000 in
theorem rredox_any (v rv : Value) (b : Bat) (r : List Int) (w : World) (h : RBat w v b) (hr : RInts w rv r) :
    Calls Try.prog 29 #[v, rv] w (RetSpE w (redoxB b r)) := by
  obtain ⟨a0, k0, a1, k1, a2, k2, a3, k3, rfl⟩ := h.agg
  obtain ⟨ar, kr, rfl, -, ⟨-, mr⟩, hrl⟩ := id hr
  have hA := below_two w (.cells #[.slice a0 b.oxides.length k0, .slice a1 b.mats.length k1, .slice a2 b.shares.length k2, .slice a3 b.props.length k3, .int .i64 b.redox.lo, .int .i64 b.redox.hi, .int .i64 b.wanted] 29) (.cells #[.int .i64 0, .int .i64 0] 27)
  have hB := (Blk.new w #[.slice a0 b.oxides.length k0, .slice a1 b.mats.length k1, .slice a2 b.shares.length k2, .slice a3 b.props.length k3, .int .i64 b.redox.lo, .int .i64 b.redox.hi, .int .i64 b.wanted] 29).alloc (.cells #[.int .i64 0, .int .i64 0] 27)
  have hC : Blk ((w.alloc (.cells #[.slice a0 b.oxides.length k0, .slice a1 b.mats.length k1, .slice a2 b.shares.length k2, .slice a3 b.props.length k3, .int .i64 b.redox.lo, .int .i64 b.redox.hi, .int .i64 b.wanted] 29)).alloc (.cells #[.int .i64 0, .int .i64 0] 27)) (w.heap.size + 1) #[.int .i64 0, .int .i64 0] 27 := by
    have := Blk.new (w.alloc (.cells #[.slice a0 b.oxides.length k0, .slice a1 b.mats.length k1, .slice a2 b.shares.length k2, .slice a3 b.props.length k3, .int .i64 b.redox.lo, .int .i64 b.redox.hi, .int .i64 b.wanted] 29)) #[.int .i64 0, .int .i64 0] 27
    simpa using this
  go_enter Try.func29, Try.ntmps29
  go_wp2_with fail
  generalize (w.alloc (.cells #[.slice a0 b.oxides.length k0, .slice a1 b.mats.length k1, .slice a2 b.shares.length k2, .slice a3 b.props.length k3, .int .i64 b.redox.lo, .int .i64 b.redox.hi, .int .i64 b.wanted] 29)).alloc (.cells #[.int .i64 0, .int .i64 0] 27) = W at *
  refine (rasked_any _ _ b r _ (h.mono (ext_of_below hA)) (hr.mono (ext_of_below hA))).mono ?_
  rintro e w1 ⟨rfl, hb1⟩
  have hA1 := hA.trans (hb1.mono hA.size)
  have hB1 := hB.below hb1 hB.lt
  have hC1 := hC.below hb1 hC.lt
  clear hA hB hC hb1
  by_cases e1 : bothB b r = 0
  case neg =>
    have e1' : (bothB b r != 0) = true := by simp [e1]
    have hfin := Lib.hid (show redoxB b r = (⟨0, 0⟩, bothB b r) by simp [redoxB, e1])
    clear hB1 e1 hrl
    have z0 : w1.cell? ⟨w.heap.size + 1, 0, none⟩ = some (.int .i64 0) := hC1.cell 0 _ rfl
    have z1 : w1.cell? ⟨w.heap.size + 1, 1, none⟩ = some (.int .i64 0) := hC1.cell 1 _ rfl
    have y0 := hC1.frozen 0
    have y1 := hC1.frozen 1
    go_wp2
    have B9 := (hC1.set 0 (.int .i64 0)).set 1 (.int .i64 0)
    have d0 := B9.cell 0 (.int .i64 0) rfl
    have d1 := B9.cell 1 (.int .i64 0) rfl
    unfold RetSpE
    rw [hfin.out]
    exact bodyPost_ret (v := .tuple #[.agg #[.int .i64 0, .int .i64 0], .int .i64 (bothB b r)]) (by simp only [results, Try.results29]; simp [go_sem, d0, d1]) rfl ⟨rfl, (hA1.setCell (p := ⟨w.heap.size + 1, 0, none⟩) (by simp) _).setCell (p := ⟨w.heap.size + 1, 1, none⟩) (by simp) _⟩
  have e1' : (bothB b r != 0) = false := by simp [e1]
  obtain ⟨g1, g2, g3⟩ := rec_len e1
  have hok := ok_of g1
  have hw := weighed_any _ _ b r w1 (h.mono (ext_of_below hA1)) (hr.mono (ext_of_below hA1)) hok g2
  have hbd := rdx_bd hok g3 g2 b.mats.length (Nat.le_refl _)
  have hT := tot_bd hok g3 g2
  have hmt := hok.mt
  have hl2 : r.length ≤ b.mats.length := by omega
  have E1 := Lib.hid e1
  have E2 := Lib.hid g2
  have f0 := hB1.cell 0 (.slice a0 b.oxides.length k0) rfl
  have f1 := hB1.cell 1 (.slice a1 b.mats.length k1) rfl
  have f2 := hB1.cell 2 (.slice a2 b.shares.length k2) rfl
  have f3 := hB1.cell 3 (.slice a3 b.props.length k3) rfl
  have f4 := hB1.cell 4 (.int .i64 b.redox.lo) rfl
  have f5 := hB1.cell 5 (.int .i64 b.redox.hi) rfl
  have f6 := hB1.cell 6 (.int .i64 b.wanted) rfl
  clear e1 g1 g2 g3
  go_wp2_with fail
  refine hw.mono ?_
  rintro e w2 ⟨vg, rfl, hvg, hb2⟩
  have hA2 := hA1.trans (hb2.mono hA1.size)
  have hB2 := hB1.below hb2 hB1.lt
  have hC2 := hC1.below hb2 hC1.lt
  clear hw f0 f1 f2 f3 f4 f5 f6 hB1 hC1 hA1 hb2
  by_cases hz : (tot (gramsB b r)).lo = 0
  · rw [show wE b r = ([], 8) by simp [wE, hz]]
    have hfin := Lib.hid (show redoxB b r = (⟨0, 0⟩, 8) by simp [redoxB, E1.out, hz])
    clear hz hvg hB2 hT hbd hrl
    have z0 : w2.cell? ⟨w.heap.size + 1, 0, none⟩ = some (.int .i64 0) := hC2.cell 0 _ rfl
    have z1 : w2.cell? ⟨w.heap.size + 1, 1, none⟩ = some (.int .i64 0) := hC2.cell 1 _ rfl
    have y0 := hC2.frozen 0
    have y1 := hC2.frozen 1
    go_wp2
    have B9 := (hC2.set 0 (.int .i64 0)).set 1 (.int .i64 0)
    have d0 := B9.cell 0 (.int .i64 0) rfl
    have d1 := B9.cell 1 (.int .i64 0) rfl
    unfold RetSpE
    rw [hfin.out]
    exact bodyPost_ret (v := .tuple #[.agg #[.int .i64 0, .int .i64 0], .int .i64 8]) (by simp only [results, Try.results29]; simp [go_sem, d0, d1]) rfl ⟨rfl, (hA2.setCell (p := ⟨w.heap.size + 1, 0, none⟩) (by simp) _).setCell (p := ⟨w.heap.size + 1, 1, none⟩) (by simp) _⟩
  have hfin := Lib.hid (show redoxB b r = (rdxB b r, 0) by simp [redoxB, E1.out, hz])
  rw [show wE b r = (gramsB b r, 0) by simp [wE, hz]] at hvg ⊢
  have hvg2 := hvg.mono (vis_ext _ _)
  have hx2 : 0 < (tot (gramsB b r)).lo ∧ (tot (gramsB b r)).lo ≤ 4000000000000000000 := by omega
  have hx3 : 0 < (tot (gramsB b r)).hi ∧ (tot (gramsB b r)).hi ≤ 4000000000000000000 := by omega
  have HRX : Hid (rdxB b r = ⟨min (rdxTo b r b.mats.length / (tot (gramsB b r)).lo) (rdxTo b r b.mats.length / (tot (gramsB b r)).hi), max (-(-(rdxTo b r b.mats.length) / (tot (gramsB b r)).lo)) (-(-(rdxTo b r b.mats.length) / (tot (gramsB b r)).hi))⟩) := rfl
  clear hvg hz hT
  go_wp2_with fail
  refine (rsums_any vg _ w2 hvg2).mono ?_
  rintro e w3 ⟨rfl, rfl⟩
  clear hvg2
  generalize (tot (gramsB b r)).lo = tl at *
  generalize (tot (gramsB b r)).hi = th at *
  obtain ⟨u0, u1, u2, u3, eu, -, q1, -⟩ := id h
  simp only [Value.agg.injEq, Array.mk.injEq, List.cons.injEq, and_true] at eu
  obtain ⟨-, rfl, -⟩ := eu
  obtain ⟨pm, km, em, -, ⟨-, l1⟩, hl1⟩ := q1
  simp only [Value.slice.injEq, true_and] at em
  obtain ⟨rfl, rfl⟩ := em
  go_wp2
  go_loopw [11, 12] (fun n i wr => ∃ (k : Nat) (x : Int), k ≤ r.length ∧ i = .int .i64 k ∧ n = .int .i64 x ∧ Hid (x = wrap64 (sdx b r k)) ∧ Below w2.heap.size w2 wr) (fun _ i _ => r.length - (intOf i).toNat)
  case atStart => exact ⟨0, 0, Nat.zero_le _, rfl, rfl, by simp [wrap64, Hid, sdx], Below.refl _ _⟩
  case round =>
    obtain ⟨k, x, hk, rfl, rfl, hx, hb⟩ := hrel
    have hf := hA2.trans (hb.mono hA2.size)
    by_cases hlt : k < r.length
    · have hBr := hB2.below hb hB2.lt
      obtain ⟨b1, o1, rfl, c, ⟨-, -, g1, -⟩, -⟩ := hl1 k (by omega)
      obtain ⟨b2, o2, rfl, g2, -⟩ := hrl k hlt
      have hst := sdx_step b r k x hx.out
      rw [show rdxAt b k = (b.mats[k]'(by omega)).redox by unfold rdxAt; rw [List.getElem?_eq_getElem (show k < b.mats.length by omega)], show r.getD k 0 = r[k]'hlt by simp [List.getD, List.getElem?_eq_getElem hlt]] at hst
      have HS := Lib.hid hst
      simp only at g1
      simp only [Nat.mul_one] at g2
      replace g1 := ext_of_below hf _ _ g1
      replace g2 := ext_of_below hf _ _ g2
      have c1 : wr.cell? ⟨w.heap.size, 1, none⟩ = some (.slice (some ⟨b1, o1, none⟩) b.mats.length k1) := hBr.cell 1 _ rfl
      have j1 : (0 : Int) ≤ (k : Int) := Int.natCast_nonneg _
      have j2 : (k : Int) < (r.length : Int) := by omega
      have j3 : (k : Int) < (b.mats.length : Int) := by omega
      clear hl1 hrl hst hx hBr hbd hx2 hx3 HRX
      generalize b.mats[k]'(by omega) = y at *
      generalize r[k] = z at *
      go_wp2_with fail
      go_quiet (fail)
      go_wp2
      go_roundw
      case rel => exact ⟨k + 1, _, by omega, by go_num, rfl, HS, grown_drewN hb⟩
      case measure => simp [intOf]; omega
    · have hC3 := hC2.below hb hC2.lt
      have hs := sdx_rdx b r b.mats.length
      have hxx : x = sdx b r b.mats.length := by
        rw [hx.out, show k = b.mats.length by have := E2.out; omega]
        exact wrap_id _ (by unfold I64; omega)
      rw [← hxx] at hs
      rw [← hs] at hbd HRX
      have hbx : -4000000000000000000 ≤ 1000000 * x ∧ 1000000 * x ≤ 4000000000000000000 := by omega
      clear hl1 hrl hx hs hxx hb hC2 hA2 hB2 hbd
      have hx4 : -4000000000000 ≤ x ∧ x ≤ 4000000000000 := by omega
      obtain ⟨hx5, hx6⟩ := hx4
      go_wp2_with fail
      refine (floor_any (1000000 * x) tl _ hbx hx2).mono ?_
      rintro e w5 ⟨rfl, rfl⟩
      go_wp2_with fail
      refine (floor_any (1000000 * x) th _ hbx hx3).mono ?_
      rintro e w5 ⟨rfl, rfl⟩
      generalize 1000000 * x / tl = q1 at *
      generalize 1000000 * x / th = q2 at *
      by_cases m1 : q2 < q1
      · go_wp2_with fail
        refine (ceiling_any (1000000 * x) tl _ hbx hx2).mono ?_
        rintro e w5 ⟨rfl, rfl⟩
        go_wp2_with fail
        refine (ceiling_any (1000000 * x) th _ hbx hx3).mono ?_
        rintro e w5 ⟨rfl, rfl⟩
        generalize -(-(1000000 * x) / tl) = s1 at *
        generalize -(-(1000000 * x) / th) = s2 at *
        by_cases m2 : s1 < s2
        · have hq := Lib.hid (show rdxB b r = ⟨q2, s2⟩ by rw [HRX.out]; congr 1 <;> omega)
          clear HRX hx5 hx6 hbx
          have z0 : wr.cell? ⟨w.heap.size + 1, 0, none⟩ = some (.int .i64 0) := hC3.cell 0 _ rfl
          have z1 : wr.cell? ⟨w.heap.size + 1, 1, none⟩ = some (.int .i64 0) := hC3.cell 1 _ rfl
          have y0 := hC3.frozen 0
          have y1 := hC3.frozen 1
          go_wp2
          have B9 := (hC3.set 0 (.int .i64 q2)).set 1 (.int .i64 s2)
          have d0 := B9.cell 0 (.int .i64 q2) rfl
          have d1 := B9.cell 1 (.int .i64 s2) rfl
          unfold RetSpE
          rw [hfin.out, hq.out]
          exact bodyPost_ret (v := .tuple #[.agg #[.int .i64 q2, .int .i64 s2], .int .i64 0]) (by simp only [results, Try.results29]; simp [go_sem, d0, d1]) rfl ⟨rfl, (hf.setCell (p := ⟨w.heap.size + 1, 0, none⟩) (by simp) _).setCell (p := ⟨w.heap.size + 1, 1, none⟩) (by simp) _⟩
        · have hq := Lib.hid (show rdxB b r = ⟨q2, s1⟩ by rw [HRX.out]; congr 1 <;> omega)
          clear HRX hx5 hx6 hbx
          have z0 : wr.cell? ⟨w.heap.size + 1, 0, none⟩ = some (.int .i64 0) := hC3.cell 0 _ rfl
          have z1 : wr.cell? ⟨w.heap.size + 1, 1, none⟩ = some (.int .i64 0) := hC3.cell 1 _ rfl
          have y0 := hC3.frozen 0
          have y1 := hC3.frozen 1
          go_wp2
          have B9 := (hC3.set 0 (.int .i64 q2)).set 1 (.int .i64 s1)
          have d0 := B9.cell 0 (.int .i64 q2) rfl
          have d1 := B9.cell 1 (.int .i64 s1) rfl
          unfold RetSpE
          rw [hfin.out, hq.out]
          exact bodyPost_ret (v := .tuple #[.agg #[.int .i64 q2, .int .i64 s1], .int .i64 0]) (by simp only [results, Try.results29]; simp [go_sem, d0, d1]) rfl ⟨rfl, (hf.setCell (p := ⟨w.heap.size + 1, 0, none⟩) (by simp) _).setCell (p := ⟨w.heap.size + 1, 1, none⟩) (by simp) _⟩
      · go_wp2_with fail
        refine (ceiling_any (1000000 * x) tl _ hbx hx2).mono ?_
        rintro e w5 ⟨rfl, rfl⟩
        go_wp2_with fail
        refine (ceiling_any (1000000 * x) th _ hbx hx3).mono ?_
        rintro e w5 ⟨rfl, rfl⟩
        generalize -(-(1000000 * x) / tl) = s1 at *
        generalize -(-(1000000 * x) / th) = s2 at *
        by_cases m2 : s1 < s2
        · have hq := Lib.hid (show rdxB b r = ⟨q1, s2⟩ by rw [HRX.out]; congr 1 <;> omega)
          clear HRX hx5 hx6 hbx
          have z0 : wr.cell? ⟨w.heap.size + 1, 0, none⟩ = some (.int .i64 0) := hC3.cell 0 _ rfl
          have z1 : wr.cell? ⟨w.heap.size + 1, 1, none⟩ = some (.int .i64 0) := hC3.cell 1 _ rfl
          have y0 := hC3.frozen 0
          have y1 := hC3.frozen 1
          go_wp2
          have B9 := (hC3.set 0 (.int .i64 q1)).set 1 (.int .i64 s2)
          have d0 := B9.cell 0 (.int .i64 q1) rfl
          have d1 := B9.cell 1 (.int .i64 s2) rfl
          unfold RetSpE
          rw [hfin.out, hq.out]
          exact bodyPost_ret (v := .tuple #[.agg #[.int .i64 q1, .int .i64 s2], .int .i64 0]) (by simp only [results, Try.results29]; simp [go_sem, d0, d1]) rfl ⟨rfl, (hf.setCell (p := ⟨w.heap.size + 1, 0, none⟩) (by simp) _).setCell (p := ⟨w.heap.size + 1, 1, none⟩) (by simp) _⟩
        · have hq := Lib.hid (show rdxB b r = ⟨q1, s1⟩ by rw [HRX.out]; congr 1 <;> omega)
          clear HRX hx5 hx6 hbx
          have z0 : wr.cell? ⟨w.heap.size + 1, 0, none⟩ = some (.int .i64 0) := hC3.cell 0 _ rfl
          have z1 : wr.cell? ⟨w.heap.size + 1, 1, none⟩ = some (.int .i64 0) := hC3.cell 1 _ rfl
          have y0 := hC3.frozen 0
          have y1 := hC3.frozen 1
          go_wp2
          have B9 := (hC3.set 0 (.int .i64 q1)).set 1 (.int .i64 s1)
          have d0 := B9.cell 0 (.int .i64 q1) rfl
          have d1 := B9.cell 1 (.int .i64 s1) rfl
          unfold RetSpE
          rw [hfin.out, hq.out]
          exact bodyPost_ret (v := .tuple #[.agg #[.int .i64 q1, .int .i64 s1], .int .i64 0]) (by simp only [results, Try.results29]; simp [go_sem, d0, d1]) rfl ⟨rfl, (hf.setCell (p := ⟨w.heap.size + 1, 0, none⟩) (by simp) _).setCell (p := ⟨w.heap.size + 1, 1, none⟩) (by simp) _⟩

end Go.Proofs.Ytmmknpejlccphaa
