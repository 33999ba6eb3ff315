/- the specification's Bound, by its contract; no statement is proved here. -/
import Derived.Test.YtnnkcbeadiembaaProv4
import Derived.Test.YtnnkcbeadiembaaRLines
import Derived.Deep.QuietTactic
import Derived.BigQuiet
import Derived.StillTailTactics
namespace Go.Proofs.Ytnnkcbeadiembaa
open Go.RowKit Go.PlainAid
set_option linter.unusedVariables false

theorem below_drewB {B n : Nat} {a w : World} (h : Below B a w) : Below B a (w.drewN n) := ⟨h.os, h.tape, h.output, h.size, h.block⟩

theorem tdiv6_low {a b : Int} (hb : 0 < b) (h : a < a.tdiv b * b) : a.tdiv b - 1 = a / b := by
  have h1 := Int.mul_tdiv_add_tmod a b
  have h3 := Int.lt_tmod_of_pos a hb
  rw [Int.mul_comm] at h1
  symm
  rw [Int.ediv_eq_iff_of_pos hb, Int.sub_mul]
  omega
theorem tdiv6_high {a b : Int} (hb : 0 < b) (h : ¬ a < a.tdiv b * b) : a.tdiv b = a / b := by
  have h1 := Int.mul_tdiv_add_tmod a b
  have h2 := Int.tmod_lt_of_pos a hb
  rw [Int.mul_comm] at h1
  symm
  rw [Int.ediv_eq_iff_of_pos hb]
  omega
theorem floor6_any (a b : Int) (w : World) (ha : -6000000000000000000 ≤ a ∧ a ≤ 6000000000000000000) (hb : 0 < b ∧ b ≤ 1000000) :
    Calls Try.prog 84 #[.int .i64 a, .int .i64 b] w fun e w' => e = .returned (.int .i64 (a / b)) ∧ w = w' := by
  obtain ⟨ha1, ha2⟩ := ha
  obtain ⟨hb1, hb2⟩ := hb
  have hq : -6000000000000000000 ≤ a.tdiv b ∧ a.tdiv b ≤ 6000000000000000000 := by
    have h1 := Int.natAbs_tdiv_le_natAbs a b
    constructor <;> omega
  have hm : -7000000000000000000 ≤ a.tdiv b * b ∧ a.tdiv b * b ≤ 7000000000000000000 := by
    have h1 := Int.mul_tdiv_add_tmod a b
    rw [Int.mul_comm] at h1
    have h2 := Int.tmod_lt_of_pos a hb1
    have h3 := Int.lt_tmod_of_pos a hb1
    omega
  obtain ⟨hq1, hq2⟩ := hq
  obtain ⟨hm1, hm2⟩ := hm
  by_cases hlt : a < a.tdiv b * b
  · have hf := Lib.hid (tdiv6_low hb1 hlt)
    go_enter Try.func84, Try.ntmps84
    go_wp2
    go_ret
    exact ⟨ret_int hf.out, rfl⟩
  · have hf := Lib.hid (tdiv6_high hb1 hlt)
    go_enter Try.func84, Try.ntmps84
    go_wp2
    go_ret
    exact ⟨ret_int hf.out, rfl⟩
theorem ceil6_any (a b : Int) (w : World) (ha : -6000000000000000000 ≤ a ∧ a ≤ 6000000000000000000) (hb : 0 < b ∧ b ≤ 1000000) :
    Calls Try.prog 46 #[.int .i64 a, .int .i64 b] w fun e w' => e = .returned (.int .i64 (-(-a / b))) ∧ w = w' := by
  have hd := floor6_any (-a) b
  have hq : -6000000000000000000 ≤ (-a) / b ∧ (-a) / b ≤ 6000000000000000000 := by
    have h1 := Int.natAbs_ediv_le_natAbs (-a) b
    omega
  obtain ⟨ha1, ha2⟩ := ha
  obtain ⟨hb1, hb2⟩ := hb
  obtain ⟨hq1, hq2⟩ := hq
  go_enter Try.func46, Try.ntmps46
  go_wp2_with (go_at_call 84; refine (hd _ (by omega) (by omega)).mono ?_; rintro e w' ⟨rfl, rfl⟩)
  go_ret
  exact ⟨rfl, rfl⟩

theorem allB_mk {ws : List Int} {n : Nat} (h1 : ws.length = n) (h2 : ∀ x ∈ ws, 0 ≤ x ∧ x ≤ 1000) : allBetweenB ws n 0 1000 = true := by
  unfold allBetweenB
  simp only [Bool.and_eq_true, beq_iff_eq, Bool.not_eq_true', List.any_eq_false, h1, true_and]
  intro x hx
  have := h2 x hx
  simp [betweenB]
  omega

theorem bound_no {b : Bat} {s : Int} {ws : List Int} (e : checkB b = 0) (h : ¬ ((0 ≤ s ∧ s ≤ 1000000) ∧ allBetweenB ws (linesB b).length 0 1000 = true)) : boundB b s ws = (0, false, 1) := by
  unfold boundB; rw [if_pos e, if_neg h]

theorem min_pos {c l m : Int} (hc : 0 ≤ c) (h : l ≤ m) : min (c * l) (c * m) = c * l := by
  have := Int.mul_le_mul_of_nonneg_left h hc
  omega
theorem min_neg {c l m : Int} (hc : c ≤ 0) (h : l ≤ m) : min (c * l) (c * m) = c * m := by
  have := Int.mul_le_mul_of_nonpos_left hc h
  omega

set_option maxHeartbeats 4000000 in
set_option maxRecDepth 100000 in
theorem rbound_any (vb : Value) (b : Bat) (s : Int) (vw : Value) (ws : List Int) (w : World) (h : RBat w vb b) (hw : RInts w vw ws) :
    Calls Try.prog 18 #[vb, .agg #[.int .i64 s, vw]] w (RetNBE w (boundB b s ws)) := by
  obtain ⟨a0, k0, a1, k1, a2, k2, a3, k3, rfl⟩ := h.agg
  obtain ⟨pw, jw, rfl, -, ⟨-, lw⟩, hwl⟩ := id hw
  obtain ⟨W, hW⟩ : ∃ W : World, W = (w.alloc (.cells #[.slice a0 b.oxides.length k0, .slice a1 b.mats.length k1, .slice a2 b.shares.length k2, .slice a3 b.props.length k3, .int .i64 b.redox.lo, .int .i64 b.redox.hi, .int .i64 b.wanted] 29)).alloc (.cells #[.int .i64 s, .slice pw ws.length jw] 32) := ⟨_, rfl⟩
  have hA : Below w.heap.size w W := by subst hW; go_grown
  have hB : Blk W w.heap.size #[.slice a0 b.oxides.length k0, .slice a1 b.mats.length k1, .slice a2 b.shares.length k2, .slice a3 b.props.length k3, .int .i64 b.redox.lo, .int .i64 b.redox.hi, .int .i64 b.wanted] 29 := by subst hW; exact (Blk.new _ _ _).alloc _
  have hC : Blk W (w.heap.size + 1) #[.int .i64 s, .slice pw ws.length jw] 32 := by
    subst hW
    have := Blk.new (w.alloc (.cells #[.slice a0 b.oxides.length k0, .slice a1 b.mats.length k1, .slice a2 b.shares.length k2, .slice a3 b.props.length k3, .int .i64 b.redox.lo, .int .i64 b.redox.hi, .int .i64 b.wanted] 29)) #[.int .i64 s, .slice pw ws.length jw] 32
    simpa using this
  go_enter Try.func18, Try.ntmps18
  go_wp2_with fail
  rw [← hW]
  clear hW
  have f0 := hB.cell 0 _ rfl
  have f1 := hB.cell 1 _ rfl
  have f2 := hB.cell 2 _ rfl
  have f3 := hB.cell 3 _ rfl
  have f4 := hB.cell 4 _ rfl
  have f5 := hB.cell 5 _ rfl
  have f6 := hB.cell 6 _ rfl
  refine (rcheck_any _ b W (h.mono (ext_of_below hA))).mono ?_
  rintro e w1 ⟨rfl, hb1⟩
  have hA1 := hA.trans (hb1.mono hA.size)
  have hB1 := hB.below hb1 hB.lt
  have hC1 := hC.below hb1 hC.lt
  clear hA hB hC hb1 f0 f1 f2 f3 f4 f5 f6
  by_cases e1 : checkB b = 0
  case neg =>
    have e1' : (checkB b != 0) = true := by simp [e1]
    have hfin := Lib.hid (show boundB b s ws = (0, false, checkB b) by simp [boundB, e1])
    clear hB1 hC1 e1
    go_wp2
    refine bodyPost_ret (v := .tuple #[.int .i64 0, .bool false, .int .i64 (checkB b)]) (by simp only [results, Try.results18]; simp [go_sem]) rfl ?_
    unfold RetNBE
    rw [hfin.out]
    exact ⟨rfl, hA1⟩
  have e1' : (checkB b != 0) = false := by simp [e1]
  have hok := ok_of e1
  have f0 := hB1.cell 0 _ rfl
  have f1 := hB1.cell 1 _ rfl
  have f2 := hB1.cell 2 _ rfl
  have f3 := hB1.cell 3 _ rfl
  have f4 := hB1.cell 4 _ rfl
  have f5 := hB1.cell 5 _ rfl
  have f6 := hB1.cell 6 _ rfl
  have E1 := Lib.hid e1
  have HOK := Lib.hid hok
  clear e1
  go_wp2_with fail
  refine (rlines_any _ b w1 (h.mono (ext_of_below hA1)) hok).mono ?_
  rintro e w2 ⟨vl, rfl, hvl, hb2⟩
  obtain ⟨pl, jl, rfl, -, ⟨-, lL⟩, hll⟩ := id hvl
  have hA2 := hA1.trans (hb2.mono hA1.size)
  have hB2 := hB1.below hb2 hB1.lt
  have hC2 := hC1.below hb2 hC1.lt
  have hL39 := lines_len hok
  have hmt := hok.mt
  have hlt := line_tight hok
  clear hb2 hA1 hB1 hC1 hvl f0 f1 f2 f3 f4 f5 f6 e1' hok
  have c0 := hC2.cell 0 _ rfl
  have c1 := hC2.cell 1 _ rfl
  by_cases hs1 : s < 0
  · have hfin := Lib.hid (bound_no (s := s) (ws := ws) E1.out (fun x => by omega))
    clear hll hlt
    go_wp2
    refine bodyPost_ret (v := .tuple #[.int .i64 0, .bool false, .int .i64 1]) (by simp only [results, Try.results18]; simp [go_sem]) rfl ?_
    unfold RetNBE
    rw [hfin.out]
    exact ⟨rfl, hA2⟩
  have hs1' : decide (s < 0) = false := decide_eq_false hs1
  by_cases hs2 : 1000000 < s
  · have hfin := Lib.hid (bound_no (s := s) (ws := ws) E1.out (fun x => by omega))
    clear hll hlt
    go_wp2
    refine bodyPost_ret (v := .tuple #[.int .i64 0, .bool false, .int .i64 1]) (by simp only [results, Try.results18]; simp [go_sem]) rfl ?_
    unfold RetNBE
    rw [hfin.out]
    exact ⟨rfl, hA2⟩
  have hs2' : decide (1000000 < s) = false := decide_eq_false hs2
  by_cases hlen : ws.length = (linesB b).length
  case neg =>
    have hfin := Lib.hid (bound_no (s := s) (ws := ws) E1.out (fun x => hlen (allB_iff x.2).1))
    have hd : (((ws.length : Int)) != ((linesB b).length : Int)) = true := by simp; omega
    clear hll hlt hlen
    go_wp2
    refine bodyPost_ret (v := .tuple #[.int .i64 0, .bool false, .int .i64 1]) (by simp only [results, Try.results18]; simp [go_sem]) rfl ?_
    unfold RetNBE
    rw [hfin.out]
    exact ⟨rfl, hA2⟩
  have hd : (((ws.length : Int)) != ((linesB b).length : Int)) = false := by simp; omega
  have HLEN := Lib.hid hlen
  have hle1 : ws.length ≤ (linesB b).length := by omega
  have hle2 : (linesB b).length ≤ ws.length := by omega
  clear hlen
  go_wp2
  clear c0 c1
  go_loopw [9, 10] (fun v i wr => ∃ (k : Nat), k ≤ (linesB b).length ∧ i = .int .i64 k ∧ v = .int .i64 (-(BE (linesB b) ws k)) ∧ Hid ((∀ j, j < k → 0 ≤ ws.getD j 0 ∧ ws.getD j 0 ≤ 1000) ∧ -(10000000000 * (k : Int)) ≤ BE (linesB b) ws k ∧ BE (linesB b) ws k ≤ 0) ∧ Below w2.heap.size w2 wr) (fun _ i _ => (linesB b).length - (intOf i).toNat)
  case atStart => exact ⟨0, Nat.zero_le _, rfl, by simp [BE], ⟨by intro j hj; omega, by simp [BE], by simp [BE]⟩, Below.refl _ _⟩
  case round =>
    obtain ⟨k, hk, rfl, rfl, hx, hb⟩ := hrel
    have hAw := hA2.trans (hb.mono hA2.size)
    by_cases hkl : k < (linesB b).length
    · obtain ⟨b6, o6, rfl, ck, uk, g0, g1, hcr, rfl, hbd⟩ := hll k hkl
      obtain ⟨b7, o7, rfl, q1, -⟩ := hwl k (by omega)
      have hkw : k < ws.length := by omega
      have hlk := hlt _ (List.getElem_mem hkl)
      have hst := BE_succ (linesB b) ws k
      rw [ln_at hkl, show ws.getD k 0 = ws[k] from by simp [List.getD, List.getElem?_eq_getElem hkw]] at hst
      have hmem : ws[k] ∈ ws := List.getElem_mem hkw
      have hno : ¬ (0 ≤ ws[k] ∧ ws[k] ≤ 1000) → boundB b s ws = (0, false, 1) := fun hn => bound_no (s := s) (ws := ws) E1.out (fun x => hn ((allB_iff x.2).2 _ hmem))
      have hnext : (0 ≤ ws[k] ∧ ws[k] ≤ 1000) → ∀ j, j < k + 1 → 0 ≤ ws.getD j 0 ∧ ws.getD j 0 ≤ 1000 := fun hn j hj => by
        by_cases hjk : j = k
        · subst hjk; simp [List.getD, List.getElem?_eq_getElem hkw]; exact hn
        · exact hx.out.1 j (by omega)
      simp only at g0 g1
      simp only [Nat.mul_one] at q1
      replace g1 := ext_of_below hb _ _ g1
      replace q1 := ext_of_below hAw _ _ q1
      have c1 : wr.cell? ⟨w.heap.size + 1, 1, none⟩ = some (.slice (some ⟨b7, o7, none⟩) ws.length jw) := (hC2.below hb hC2.lt).cell 1 _ rfl
      have n1 : (0 : Int) ≤ (k : Int) := Int.natCast_nonneg _
      have n2 : (k : Int) < ((linesB b).length : Int) := by omega
      have n3 : (k : Int) < (ws.length : Int) := by omega
      obtain ⟨-, -, l1, l2⟩ := hlk
      obtain ⟨-, x1, x2⟩ := hx.out
      have HST := Lib.hid hst
      have HNO := Lib.hid hno
      have HNX := Lib.hid hnext
      clear hst hno hnext hmem hll hwl hlt hcr g0 hbd hB2 hC2 hA2 h hw hx
      generalize (linesB b)[k]'hkl = x at *
      generalize ws[k]'hkw = y at *
      generalize hB0 : BE (linesB b) ws k = v0 at *
      clear hB0
      by_cases hy1 : y < 0
      · have hfin := Lib.hid (HNO.out (by omega))
        go_wp2
        refine bodyPost_ret (v := .tuple #[.int .i64 0, .bool false, .int .i64 1]) (by simp only [results, Try.results18]; simp [go_sem]) rfl ?_
        unfold RetNBE
        rw [hfin.out]
        exact ⟨rfl, hAw⟩
      have hy1' : decide (y < 0) = false := decide_eq_false hy1
      by_cases hy2 : 1000 < y
      · have hfin := Lib.hid (HNO.out (by omega))
        go_wp2
        refine bodyPost_ret (v := .tuple #[.int .i64 0, .bool false, .int .i64 1]) (by simp only [results, Try.results18]; simp [go_sem]) rfl ?_
        unfold RetNBE
        rw [hfin.out]
        exact ⟨rfl, hAw⟩
      have hy2' : decide (1000 < y) = false := decide_eq_false hy2
      have p1 := mul_in (A := 1000) (B := 10000000) (a := y) (b := x.bound) (by omega) (by omega)
      have p2 : y * x.bound ≤ 0 := by
        have := Int.mul_nonneg (show 0 ≤ y by omega) (show 0 ≤ -x.bound by omega)
        rw [Int.mul_neg] at this
        omega
      have p3 : -10000000000 ≤ y * x.bound := by omega
      have hxn := Lib.hid (HNX.out (by omega))
      have t1 : -(10000000000 * ((k + 1 : Nat) : Int)) ≤ BE (linesB b) ws (k + 1) ∧ BE (linesB b) ws (k + 1) ≤ 0 := by rw [HST.out]; push_cast; omega
      have T1 := Lib.hid t1
      have i1 : IntKind.i64.wrap (y * x.bound) = y * x.bound := IntWalk.i64_in _ (by omega)
      have i2 : IntKind.i64.wrap (-v0 - y * x.bound) = -v0 - y * x.bound := IntWalk.i64_in _ (by omega)
      clear t1 p1 HNO HNX
      go_wp2_with fail
      go_quiet (fail)
      clear i1 i2
      go_wp2
      go_roundw
      case rel => exact ⟨k + 1, by omega, by go_num, by rw [HST.out]; congr 1; omega, ⟨hxn.out, T1.out.1, T1.out.2⟩, by first | exact hb | exact hb.drew | exact below_drewB hb⟩
      case measure => simp [intOf]; omega
    · have hkk : k = (linesB b).length := by omega
      rw [hkk] at hx ⊢
      have dn1 : decide ((linesB b).length < (linesB b).length) = false := by simp
      have hws : ∀ x ∈ ws, 0 ≤ x ∧ x ≤ 1000 := by
        intro x hm
        obtain ⟨j, hj, rfl⟩ := List.getElem_of_mem hm
        have := hx.out.1 j (by omega)
        simpa [List.getD, List.getElem?_eq_getElem hj] using this
      have hab := allB_mk HLEN.out hws
      have hpf := pf_ok HOK.out (s := s) (by omega) hws HLEN.out
      have hwb := worth_bd HOK.out hpf
      have hfin := Lib.hid (show boundB b s ws = if s = 0 then (0, decide (0 < worthE b s ws), 0) else (-(-(worthE b s ws) / s), false, 0) by unfold boundB; rw [if_pos E1.out, if_pos ⟨by omega, hab⟩])
      have hBE := BE_bd hpf _ (Nat.le_refl _)
      have HPF := Lib.hid hpf
      obtain ⟨v0, v1, v2, v3, ev, z0, z1, z2, z3, -, -, -⟩ := id h
      simp only [Value.agg.injEq, Array.mk.injEq, List.cons.injEq, and_true] at ev
      obtain ⟨rfl, rfl, rfl, rfl, -⟩ := ev
      obtain ⟨a1', k1', e1, -, ⟨-, l1⟩, hl1⟩ := z1
      simp only [Value.slice.injEq, true_and] at e1
      obtain ⟨rfl, rfl⟩ := e1
      have hB3 := hB2.below hb hB2.lt
      have hC3 := hC2.below hb hC2.lt
      have hll3 := fun i (hi : i < (linesB b).length) => (hll i hi).imp fun _ x => x.imp fun _ x => And.intro x.1 (RLn.mono (ext_of_below hb) x.2)
      have hBnd : -400000000000 ≤ BE (linesB b) ws (linesB b).length ∧ BE (linesB b) ws (linesB b).length ≤ 0 := by omega
      have hWE := Lib.hid (show worthE b s ws = -(BE (linesB b) ws (linesB b).length) + beyTo (FE (psB b) (linesB b) s ws (linesB b).length) (lsB b) (msB b) b.mats.length from rfl)
      clear z0 z2 z3 hpf hws hab hx hb hA2 hB2 hC2 hll hBE hlt hk hkl hkk
      have f1 := hB3.cell 1 _ rfl
      generalize BE (linesB b) ws (linesB b).length = be at *
      obtain ⟨w3, hw3⟩ : ∃ w3 : World, w3 = wr := ⟨_, rfl⟩
      subst hw3
      go_wp2
      clear f1 dn1
      go_loopw [9, 11] (fun v i wr => ∃ (k : Nat), k ≤ b.mats.length ∧ i = .int .i64 k ∧ v = .int .i64 (-be + beyTo (FE (psB b) (linesB b) s ws (linesB b).length) (lsB b) (msB b) k) ∧ Below w3.heap.size w3 wr) (fun _ i _ => b.mats.length - (intOf i).toNat)
      case atStart => exact ⟨0, Nat.zero_le _, rfl, by simp [beyTo], Below.refl _ _⟩
      case round =>
        obtain ⟨k, hk, rfl, rfl, hb⟩ := hrel
        have hA3 := hAw.trans (hb.mono hAw.size)
        by_cases hkl : k < b.mats.length
        · obtain ⟨b6, o6, rfl, vc, ⟨g0, g1, g2, g3, g4, g5, g6⟩, hvc, -⟩ := hl1 k hkl
          obtain ⟨ac, kc, rfl, -, -, -⟩ := hvc
          have hmo := HOK.out.mats _ (List.getElem_mem hkl)
          have hP : (psB b).length = b.mats.length := by simp [psB]
          have hkP : k < (psB b).length := by omega
          have hF := FE_bd HPF.out hkP
          have hFs := FE_succ (psB b) (linesB b) s ws
          have hF0 : FE (psB b) (linesB b) s ws 0 k = s * (b.mats[k]).price := by simp [FE, psB, List.getD, List.getElem?_eq_getElem hkl]
          have hst := beyTo_succ (FE (psB b) (linesB b) s ws (linesB b).length) (lsB b) (msB b) k
          rw [show (lsB b).getD k 0 = (b.mats[k]).least from by simp [lsB, List.getD, List.getElem?_eq_getElem hkl], show (msB b).getD k 0 = mostE b.mats[k] from by simp [msB, List.getD, List.getElem?_eq_getElem hkl]] at hst
          have hbd := bey_bd (F := FE (psB b) (linesB b) s ws (linesB b).length) (ls := lsB b) (ms := msB b) (n := b.mats.length) (fun i hi => by have := FE_bd HPF.out (show i < (psB b).length by omega) _ (Nat.le_refl _); omega) (fun i hi => ls_at HOK.out i hi) (fun i hi => ms_at HOK.out i hi) k hk
          have hlns := line_tight HOK.out
          have hll4 := fun i (hi : i < (linesB b).length) => (hll3 i hi).imp fun _ x => x.imp fun _ x => And.intro x.1 (RLn.mono (ext_of_below hb) x.2)
          simp only at g0 g1 g2 g3 g4 g5 g6
          have e3 := ext_of_below hA3
          replace g0 := e3 _ _ g0
          replace g1 := e3 _ _ g1
          replace g2 := e3 _ _ g2
          replace g3 := e3 _ _ g3
          replace g4 := e3 _ _ g4
          replace g5 := e3 _ _ g5
          replace g6 := e3 _ _ g6
          have f1 : wr.cell? ⟨w.heap.size, 1, none⟩ = some (.slice (some ⟨b6, o6, none⟩) b.mats.length k1) := (hB3.below hb hB3.lt).cell 1 _ rfl
          have hC4 := hC3.below hb hC3.lt
          have c0 := hC4.cell 0 _ rfl
          have n1 : (0 : Int) ≤ (k : Int) := Int.natCast_nonneg _
          have n2 : (k : Int) < (b.mats.length : Int) := by omega
          have hmst := most_ok hmo
          have hlea := hmo.least
          have hmx := hmo.most
          have hstp := hmo.step
          have hpr := hmo.price
          have hp0 := mul_in (A := 1000000) (B := 10000) (a := s) (b := (b.mats[k]).price) (by omega) (by omega)
          have HST := Lib.hid hst
          have HF0 := Lib.hid hF0
          have HFS := Lib.hid hFs
          have hXb : Below wr.heap.size wr (wr.alloc (.cells #[.string b.mats[k].name, .int .i64 b.mats[k].price, .int .i64 b.mats[k].redox, .int .i64 b.mats[k].least, .int .i64 b.mats[k].most, .int .i64 b.mats[k].step, .slice ac b.mats[k].content.length kc] 58)) := below_box _ _
          have BX := Blk.new wr #[.string b.mats[k].name, .int .i64 b.mats[k].price, .int .i64 b.mats[k].redox, .int .i64 b.mats[k].least, .int .i64 b.mats[k].most, .int .i64 b.mats[k].step, .slice ac b.mats[k].content.length kc] 58
          have hsz0 : w.heap.size + 1 < wr.heap.size := hC4.lt
          clear hst hF0 hFs hl1 hll3 hwb hP e3
          generalize b.mats[k]'hkl = m at *
          obtain ⟨p1, p2⟩ := hp0
          go_wp2_with fail
          have hbX := hb.trans (hXb.mono hb.size)
          have hC5 := hC4.alloc (.cells #[.string m.name, .int .i64 m.price, .int .i64 m.redox, .int .i64 m.least, .int .i64 m.most, .int .i64 m.step, .slice ac m.content.length kc] 58)
          have hllX := fun i (hi : i < (linesB b).length) => (hll4 i hi).imp fun _ x => x.imp fun _ x => And.intro x.1 (RLn.mono (ext_of_below hXb) x.2)
          have hA4 := hA3.trans (hXb.mono hA3.size)
          clear hXb g0 g1 g2 g3 g4 g5 g6 f1 c0 hll4 hC4 hA3 hb
          generalize wr.alloc (.cells #[.string m.name, .int .i64 m.price, .int .i64 m.redox, .int .i64 m.least, .int .i64 m.most, .int .i64 m.step, .slice ac m.content.length kc] 58) = WX at *
          generalize wr.heap.size = nx at *
          have c0 := hC5.cell 0 _ rfl
          have x1 := BX.cell 1 _ rfl
          go_wp2
          clear c0 x1
          go_loopw [13, 14] (fun v i wr => ∃ (j : Nat), j ≤ (linesB b).length ∧ i = .int .i64 j ∧ v = .int .i64 (FE (psB b) (linesB b) s ws j k) ∧ Below WX.heap.size WX wr) (fun _ i _ => (linesB b).length - (intOf i).toNat)
          case atStart => exact ⟨0, Nat.zero_le _, rfl, by rw [HF0.out], Below.refl _ _⟩
          case round =>
            obtain ⟨j, hj, rfl, rfl, hbj⟩ := hrel
            have hA5 := hA4.trans (hbj.mono hA4.size)
            by_cases hjl : j < (linesB b).length
            · obtain ⟨b7, o7, rfl, ck, uk, y0, y1, hcr, rfl, hbb⟩ := hllX j hjl
              obtain ⟨b8, o8, rfl, q1, -⟩ := hwl j (by omega)
              have hjw : j < ws.length := by omega
              have hkf : k < ((linesB b)[j]).fs.length := by rw [(hlns _ (List.getElem_mem hjl)).1]; exact hkl
              obtain ⟨pf, jf, rfl, -, ⟨-, lf⟩, hfl⟩ := hcr
              obtain ⟨b9, o9, rfl, q2, -⟩ := hfl k hkf
              have hF1 := hF j hj
              have hsb := step_bd HPF.out hjl hkP
              have hs2 := HFS.out j k
              rw [ln_at hjl, show ws.getD j 0 = ws[j] from by simp [List.getD, List.getElem?_eq_getElem hjw], show ((linesB b)[j]).fs.getD k 0 = ((linesB b)[j]).fs[k] from by simp [List.getD, List.getElem?_eq_getElem hkf]] at hsb hs2
              simp only at y0 y1
              simp only [Nat.mul_one] at q1 q2
              replace y0 := ext_of_below hbj _ _ y0
              replace q1 := ext_of_below hA5 _ _ q1
              replace q2 := ext_of_below hbj _ _ q2
              have c1 := (hC5.below hbj hC5.lt).cell 1 _ rfl
              have m1 : (0 : Int) ≤ (j : Int) := Int.natCast_nonneg _
              have m2 : (j : Int) < ((linesB b).length : Int) := by omega
              have m3 : (j : Int) < (ws.length : Int) := by omega
              have m4 : (k : Int) < (((linesB b)[j]).fs.length : Int) := by omega
              have HS2 := Lib.hid hs2
              obtain ⟨r1, r2⟩ := hF1
              obtain ⟨r3, r4⟩ := hsb
              clear hs2 hllX hwl hlns hF hbd hB3 hC3 hC5 BX hfl hbb h hw hA4 hA5 hAw hmo HFS HF0 HST hbX hfin hWE
              generalize FE (psB b) (linesB b) s ws j k = fj at *
              generalize ws[j]'hjw = y at *
              generalize ((linesB b)[j]).fs[k]'hkf = z at *
              generalize ((linesB b)[j]'hjl) = ln at *
              have i1 : IntKind.i64.wrap (y * z) = y * z := IntWalk.i64_in _ (by omega)
              have i2 : IntKind.i64.wrap (fj + y * z) = fj + y * z := IntWalk.i64_in _ (by omega)
              go_wp2_with fail
              go_quiet (fail)
              clear i1 i2
              go_wp2
              go_roundw
              case rel => exact ⟨j + 1, by omega, by go_num, by rw [HS2.out], by first | exact hbj | exact hbj.drew | exact below_drewB hbj⟩
              case measure => simp [intOf]; omega
            · have hjj : j = (linesB b).length := by omega
              rw [hjj]
              have dn2 : decide ((linesB b).length < (linesB b).length) = false := by simp
              have hF1 := hF _ (Nat.le_refl (linesB b).length)
              have hFb : -48370000000000 ≤ FE (psB b) (linesB b) s ws (linesB b).length k ∧ FE (psB b) (linesB b) s ws (linesB b).length k ≤ 48370000000000 := by omega
              have BX5 := BX.below hbj BX.lt
              have hbZ := hbX.trans (hbj.mono hbX.size)
              have x3 := BX5.cell 3 _ rfl
              have x4 := BX5.cell 4 _ rfl
              have x5 := BX5.cell 5 _ rfl
              generalize FE (psB b) (linesB b) s ws (linesB b).length k = c at *
              have q1 := end_bd (l := m.least) hFb (by omega)
              have q2 := end_bd (l := mostE m) hFb (by omega)
              have hbe1 : -6000000000000000000 ≤ beyTo (FE (psB b) (linesB b) s ws (linesB b).length) (lsB b) (msB b) k ∧ beyTo (FE (psB b) (linesB b) s ws (linesB b).length) (lsB b) (msB b) k ≤ 6000000000000000000 := by omega
              generalize beyTo (FE (psB b) (linesB b) s ws (linesB b).length) (lsB b) (msB b) k = v0 at *
              obtain ⟨t1, t2⟩ := hbe1
              obtain ⟨t3, t4⟩ := q1
              obtain ⟨t5, t6⟩ := q2
              clear hF hF1 hbd hllX hwl hlns hB3 hC3 hC5 BX h hw hA4 hAw hmo HFS HF0 hbX hfin hWE hbj hA5 hj hjl hjj BX5
              by_cases hc0 : 0 ≤ c
              · have hmn := min_pos (c := c) (l := m.least) (m := mostE m) hc0 (by omega)
                rw [hmn] at HST
                clear hmn
                go_wp2
                go_roundw
                case rel => exact ⟨k + 1, by omega, by go_num, by rw [HST.out, Int.add_assoc], hbZ⟩
                case measure => simp [intOf]; omega
              · have hmn := min_neg (c := c) (l := m.least) (m := mostE m) (by omega) (by omega)
                rw [hmn] at HST
                clear hmn
                have hc0' : decide (0 ≤ c) = false := decide_eq_false hc0
                have j1 : IntKind.i64.wrap (m.most - m.least) = m.most - m.least := IntWalk.i64_in _ (by omega)
                have j2 : (m.most - m.least).tdiv m.step = stepsE m := by unfold stepsE; rw [Int.tdiv_eq_ediv_of_nonneg (by omega)]
                have j3 : IntKind.i64.wrap (stepsE m) = stepsE m := IntWalk.i64_in _ (by omega)
                have j4 : IntKind.i64.wrap (stepsE m * m.step) = stepsE m * m.step := IntWalk.i64_in _ (by omega)
                have j5 : IntKind.i64.wrap (m.least + stepsE m * m.step) = mostE m := by rw [IntWalk.i64_in _ (by omega)]; rfl
                have j6 : IntKind.i64.wrap (c * mostE m) = c * mostE m := IntWalk.i64_in _ (by omega)
                have j7 : IntKind.i64.wrap (-be + v0 + c * mostE m) = -be + v0 + c * mostE m := IntWalk.i64_in _ (by omega)
                have j8 : (m.step == 0) = false := by simp; omega
                go_wp2_with fail
                go_quiet (fail)
                clear j1 j2 j3 j4 j5 j6 j7 j8
                go_wp2
                go_roundw
                case rel => exact ⟨k + 1, by omega, by go_num, by rw [HST.out, Int.add_assoc], by first | exact hbZ | exact hbZ.drew | exact below_drewB hbZ⟩
                case measure => simp [intOf]; omega
        · have hkk : k = b.mats.length := by omega
          rw [hkk, ← hWE.out]
          have dn3 : decide (b.mats.length < b.mats.length) = false := by simp
          have f1 := (hB3.below hb hB3.lt).cell 1 _ rfl
          have c0 := (hC3.below hb hC3.lt).cell 0 _ rfl
          generalize worthE b s ws = m at *
          obtain ⟨m1, m2⟩ := hwb
          clear hl1 hll3 hwl hB3 hC3 h hw hAw hb hWE hkk hk hkl
          by_cases hs0 : s = 0
          · subst hs0
            go_wp2
            refine bodyPost_ret (v := .tuple #[.int .i64 0, .bool (decide (0 < m)), .int .i64 0]) (by simp only [results, Try.results18]; simp [go_sem]) rfl ?_
            unfold RetNBE
            rw [hfin.out, if_pos trivial]
            exact ⟨rfl, hA3⟩
          · have hs1 : (s == 0) = false := by simp [hs0]
            have hup := fun V => ceil6_any m s V (by omega) (by omega)
            have hf2 := hfin.out
            rw [if_neg hs0] at hf2
            have HF := Lib.hid hf2
            clear hf2 hs0 hfin
            go_wp2_with fail
            refine (hup _).mono ?_
            rintro e w' ⟨rfl, rfl⟩
            go_wp2
            refine bodyPost_ret (v := .tuple #[.int .i64 (-(-m / s)), .bool false, .int .i64 0]) (by simp only [results, Try.results18]; simp [go_sem]) rfl ?_
            unfold RetNBE
            rw [HF.out]
            exact ⟨rfl, hA3⟩

end Go.Proofs.Ytnnkcbeadiembaa
