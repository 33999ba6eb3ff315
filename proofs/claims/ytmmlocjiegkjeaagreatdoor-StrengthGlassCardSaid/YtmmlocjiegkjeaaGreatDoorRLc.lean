/- Whether a lehr may be, by the specification; no statement is proved here. -/
import Derived.Test.YtmmlocjiegkjeaaGreatDoorLeE
import Derived.Test.YtmmlocjiegkjeaaGreatDoorLeN
namespace Go.Proofs.YtmmlocjiegkjeaaGreatDoor
open Go.RowKit Go.PlainAid
set_option linter.unusedVariables false
set_option linter.unusedSimpArgs false
/-- what is wrong with knee number i. -/
def BadK (ks : List Sp) (i : Nat) : Prop := (kn ks i).lo < 0 ∨ 2000 < (kn ks i).lo ∨ (i = 0 ∧ (kn ks i).lo ≠ 0) ∨ (i ≠ 0 ∧ (kn ks i).lo ≤ (kn ks (i - 1)).lo) ∨ (kn ks i).hi < 0 ∨ 10000 < (kn ks i).hi
theorem bad_check {l : Lr} {i : Nat} (h1 : ¬ 24 < l.knees.length) (hi : i < l.knees.length) (hb : BadK l.knees i) : checkL l = 1 := by
  rcases Int.lt_or_le 0 (checkL l) with h | h
  · unfold checkL at *
    rw [if_neg h1] at *
    repeat' split at h
    all_goals first | omega | (repeat' split) 
    all_goals first | rfl | omega | skip
  · have h0 : checkL l = 0 := by have := (checkL_bd l).1; omega
    have hok := okLr_of h0
    obtain ⟨k1, k2, k3, k4⟩ := kOk_iff.1 (hok.knees i hi)
    have hlo := hok.lo0 i hi
    have hz := hok.zero
    rcases hb with h | h | ⟨rfl, h⟩ | ⟨h, h'⟩ | h | h
    · omega
    · omega
    · exact absurd hz h
    · rcases k1 with k1 | k1
      · exact absurd k1 h
      · omega
    · omega
    · omega
def NoBad (ks : List Sp) (k : Nat) : Prop := ∀ i, i < k → ¬ BadK ks i
theorem noBad_check {l : Lr} (h1 : ¬ 24 < l.knees.length) (h2 : ¬ l.knees.length < 2) (h : NoBad l.knees l.knees.length) : checkL l = if l.factor < 0 ∨ 10000 < l.factor then 1 else 0 := by
  have hz : (kn l.knees 0).lo = 0 := by
    have h0 := h 0 (by omega)
    unfold BadK at h0
    omega
  have hal : allK l.knees = true := allK_true.2 fun i hi => by
    have h0 := h i hi
    unfold BadK at h0
    refine kOk_iff.2 ⟨?_, by omega, by omega, by omega⟩
    by_cases e : i = 0
    · exact .inl e
    · exact .inr (by omega)
  rw [checkL_fac h1 h2 hz hal]
  by_cases hf : l.factor < 0 ∨ 10000 < l.factor
  · rw [if_pos hf, if_pos (by unfold btw; exact decide_eq_false (by omega))]
  · rw [if_neg hf, if_neg (by rw [btw_true.2 (by omega)]; decide)]

set_option maxHeartbeats 8000000 in
set_option maxRecDepth 100000 in
theorem rcheckL_any (vl : Value) (l : Lr) (w : World) (h : RLr w vl l) :
    Calls Tryz.prog 32 #[vl] w fun e w' => e = .returned (.int .i64 (checkL l)) ∧ Below w.heap.size w w' := by
  obtain ⟨v0, rfl, hr, i1⟩ := h
  obtain ⟨a, cap, rfl, hc1, ⟨hc2, hm⟩, hl⟩ := hr
  have hA := below_boxS w (.cells #[.slice a l.knees.length cap, .int .i64 l.factor] 24)
  have hB := Blk.new w #[.slice a l.knees.length cap, .int .i64 l.factor] 24
  by_cases h24 : 24 < l.knees.length
  · have hc := Lib.hid (show checkL l = 3 by simp [checkL, h24])
    have hq : decide ((24 : Int) < (l.knees.length : Int)) = true := decide_eq_true (by omega)
    clear hl hB h24
    go_enter Tryz.func32, Tryz.ntmps32
    go_wp2
    go_ret
    exact ⟨ret_int hc.out.symm, hA⟩
  have hq24 : decide ((24 : Int) < (l.knees.length : Int)) = false := decide_eq_false (by omega)
  by_cases h2 : l.knees.length < 2
  · have hc := Lib.hid (show checkL l = 1 by simp [checkL, h24, h2])
    have hq : decide ((l.knees.length : Int) < 2) = true := decide_eq_true (by omega)
    clear hl hB h24 h2
    go_enter Tryz.func32, Tryz.ntmps32
    go_wp2
    go_ret
    exact ⟨ret_int hc.out.symm, hA⟩
  have hq2 : decide ((l.knees.length : Int) < 2) = false := decide_eq_false (by omega)
  obtain ⟨ab, ao, rfl, -⟩ := hl 0 (by omega)
  have H24 := Lib.hid h24
  have H2 := Lib.hid h2
  go_enter Tryz.func32, Tryz.ntmps32
  go_wp2
  generalize w.alloc (.cells #[.slice (some ⟨ab, ao, none⟩) l.knees.length cap, .int .i64 l.factor] 24) = W0 at *
  clear hq24 hq2
  go_loopw [3] (fun i wr => ∃ (k : Nat), k ≤ l.knees.length ∧ i = .int .i64 k ∧ Hid (NoBad l.knees k) ∧ Below W0.heap.size W0 wr) (fun i _ => l.knees.length - (intOf i).toNat)
  case atStart => exact ⟨0, Nat.zero_le _, rfl, fun j h => absurd h (by omega), Below.refl _ _⟩
  case round =>
    obtain ⟨k, hk, rfl, hnb, hb⟩ := hrel
    have hBr := hB.below hb hB.lt
    have hAr := hA.trans (hb.mono hA.size)
    by_cases hlt : k < l.knees.length
    · obtain ⟨b1, o1, he1, p1, p2, -⟩ := hl k hlt
      cases he1
      have hkq := kn_eq hlt
      have hxl := fun (hk0 : k ≠ 0) => hl (k - 1) (by omega)
      have hyq := fun (hk0 : k ≠ 0) => kn_eq (ks := l.knees) (i := k - 1) (by omega)
      have hno : BadK l.knees k → checkL l = 1 := fun h => bad_check H24.out hlt h
      have hyes : ¬ BadK l.knees k → NoBad l.knees (k + 1) := fun h i hi => by
        by_cases e : i = k
        · rw [e]; exact h
        · exact hnb.out i (by omega)
      have hdef : BadK l.knees k ↔ ((kn l.knees k).lo < 0 ∨ 2000 < (kn l.knees k).lo ∨ (k = 0 ∧ (kn l.knees k).lo ≠ 0) ∨ (k ≠ 0 ∧ (kn l.knees k).lo ≤ (kn l.knees (k - 1)).lo) ∨ (kn l.knees k).hi < 0 ∨ 10000 < (kn l.knees k).hi) := Iff.rfl
      rw [← hkq] at p1 p2
      generalize kn l.knees k = y at *
      have y0 := ext_of_below hAr _ _ p1
      have y1 := ext_of_below hAr _ _ p2
      have e0 := hBr.cell 0 _ rfl
      have i3 : (0 : Int) ≤ (k : Int) := Int.natCast_nonneg _
      have i4 : (k : Int) < (l.knees.length : Int) := by omega
      have hbX := Lib.hid (hb.alloc hb.size (.cells #[.int .i64 y.lo, .int .i64 y.hi] 101))
      have hAX := hAr.alloc hAr.size (.cells #[.int .i64 y.lo, .int .i64 y.hi] 101)
      have hX := Blk.new wr #[.int .i64 y.lo, .int .i64 y.hi] 101
      have hBX := hBr.alloc (.cells #[.int .i64 y.lo, .int .i64 y.hi] 101)
      have HNO := Lib.hid hno
      have HYES := Lib.hid hyes
      have HDEF := Lib.hid hdef
      have HXL := Lib.hid hxl
      have HYQ := Lib.hid hyq
      clear hl hno hyes hdef hxl hyq hkq p1 p2 hBr hAr hb hB hA hnb
      go_wp2_with fail
      generalize wr.alloc (.cells #[.int .i64 y.lo, .int .i64 y.hi] 101) = V at *
      clear y0 y1 e0
      have v0 := hX.cell 0 _ rfl
      have v1 := hX.cell 1 _ rfl
      have f0 := hBX.cell 0 _ rfl
      have HAX := Lib.hid hAX
      clear hX hBX hAX
      by_cases h1 : y.lo < 0
      · have g1 : decide (y.lo < 0) = true := decide_eq_true h1
        have HE := Lib.hid (HNO.out (HDEF.out.2 (.inl h1)))
        go_quiet (fail)
        have HF := Lib.hid (below_drewN6 (n := nq) HAX.out)
        clear v0 v1 f0
        go_wp2
        go_ret
        exact ⟨ret_int HE.out.symm, HF.out⟩
      have g1 : decide (y.lo < 0) = false := decide_eq_false h1
      by_cases h2 : 2000 < y.lo
      · have g2 : decide (2000 < y.lo) = true := decide_eq_true h2
        have HE := Lib.hid (HNO.out (HDEF.out.2 (.inr (.inl h2))))
        go_quiet (fail)
        have HF := Lib.hid (below_drewN6 (n := nq) HAX.out)
        clear v0 v1 f0
        go_wp2
        go_ret
        exact ⟨ret_int HE.out.symm, HF.out⟩
      have g2 : decide (2000 < y.lo) = false := decide_eq_false h2
      by_cases hk0 : k = 0
      · subst hk0
        by_cases h3 : y.lo ≠ 0
        · have g3 : (y.lo != 0) = true := (by simpa using h3)
          have HE := Lib.hid (HNO.out (HDEF.out.2 (.inr (.inr (.inl ⟨rfl, h3⟩)))))
          go_quiet (fail)
          have HF := Lib.hid (below_drewN6 (n := nq) HAX.out)
          clear v0 v1 f0
          go_wp2
          go_ret
          exact ⟨ret_int HE.out.symm, HF.out⟩
        have g3 : (y.lo != 0) = false := (by simpa using h3)
        by_cases h5 : y.hi < 0
        · have g5 : decide (y.hi < 0) = true := decide_eq_true h5
          have HE := Lib.hid (HNO.out (HDEF.out.2 (.inr (.inr (.inr (.inr (.inl h5)))))))
          go_quiet (fail)
          have HF := Lib.hid (below_drewN6 (n := nq) HAX.out)
          clear v0 v1 f0
          go_wp2
          go_ret
          exact ⟨ret_int HE.out.symm, HF.out⟩
        have g5 : decide (y.hi < 0) = false := decide_eq_false h5
        by_cases h6 : 10000 < y.hi
        · have g6 : decide (10000 < y.hi) = true := decide_eq_true h6
          have HE := Lib.hid (HNO.out (HDEF.out.2 (.inr (.inr (.inr (.inr (.inr h6)))))))
          go_quiet (fail)
          have HF := Lib.hid (below_drewN6 (n := nq) HAX.out)
          clear v0 v1 f0
          go_wp2
          go_ret
          exact ⟨ret_int HE.out.symm, HF.out⟩
        have g6 : decide (10000 < y.hi) = false := decide_eq_false h6
        have HE := Lib.hid (HYES.out (fun z => by have := HDEF.out.1 z; omega))
        go_quiet (fail)
        have HF := Lib.hid (below_drewN6 (n := nq) hbX.out)
        clear v0 v1 f0
        go_wp2
        go_roundw
        case rel => exact ⟨0 + 1, by omega, by go_num, HE, HF.out⟩
        case measure => simp [intOf]; omega
      obtain ⟨b3, o3, he3, q1, -, -⟩ := HXL.out hk0
      cases he3
      have hxq := HYQ.out hk0
      rw [← hxq] at q1
      generalize kn l.knees (k - 1) = x at *
      have x0 := ext_of_below HAX.out _ _ q1
      have gk : ((k : Int) == 0) = false := by rw [beq_eq_false_iff_ne]; omega
      have gk2 : decide ((0 : Int) < (k : Int)) = true := decide_eq_true (by omega)
      have gk3 : decide (0 < k) = true := decide_eq_true (by omega)
      have i5 : IntKind.i64.wrap ((k : Int) - 1) = ((k - 1 : Nat) : Int) := ((IntWalk.i64_left _).trans (wrap_id _ (by unfold I64; omega))).trans (by omega)
      have i5' : wrap64 ((k : Int) - 1) = ((k - 1 : Nat) : Int) := (wrap_id _ (by unfold I64; omega)).trans (by omega)
      have i6 : (0 : Int) ≤ ((k - 1 : Nat) : Int) := Int.natCast_nonneg _
      have i7 : ((k - 1 : Nat) : Int) < (l.knees.length : Int) := by omega
      clear q1 hxq HXL HYQ
      by_cases h4 : y.lo ≤ x.lo
      · have g4 : decide (y.lo ≤ x.lo) = true := decide_eq_true h4
        have HE := Lib.hid (HNO.out (HDEF.out.2 (.inr (.inr (.inr (.inl ⟨hk0, h4⟩))))))
        go_quiet (fail)
        have HF := Lib.hid (below_drewN6 (n := nq) HAX.out)
        clear v0 v1 f0 x0
        go_wp2
        go_ret
        exact ⟨ret_int HE.out.symm, HF.out⟩
      have g4 : decide (y.lo ≤ x.lo) = false := decide_eq_false h4
      by_cases h5 : y.hi < 0
      · have g5 : decide (y.hi < 0) = true := decide_eq_true h5
        have HE := Lib.hid (HNO.out (HDEF.out.2 (.inr (.inr (.inr (.inr (.inl h5)))))))
        go_quiet (fail)
        have HF := Lib.hid (below_drewN6 (n := nq) HAX.out)
        clear v0 v1 f0 x0
        go_wp2
        go_ret
        exact ⟨ret_int HE.out.symm, HF.out⟩
      have g5 : decide (y.hi < 0) = false := decide_eq_false h5
      by_cases h6 : 10000 < y.hi
      · have g6 : decide (10000 < y.hi) = true := decide_eq_true h6
        have HE := Lib.hid (HNO.out (HDEF.out.2 (.inr (.inr (.inr (.inr (.inr h6)))))))
        go_quiet (fail)
        have HF := Lib.hid (below_drewN6 (n := nq) HAX.out)
        clear v0 v1 f0 x0
        go_wp2
        go_ret
        exact ⟨ret_int HE.out.symm, HF.out⟩
      have g6 : decide (10000 < y.hi) = false := decide_eq_false h6
      have HE := Lib.hid (HYES.out (fun z => by have := HDEF.out.1 z; omega))
      go_quiet (fail)
      have HF := Lib.hid (below_drewN6 (n := nq) hbX.out)
      clear v0 v1 f0 x0
      go_wp2
      go_roundw
      case rel => exact ⟨k + 1, by omega, by go_num, HE, HF.out⟩
      case measure => simp [intOf]; omega
    · have hke : k = l.knees.length := by omega
      subst hke
      have hfac := noBad_check H24.out H2.out hnb.out
      have e0 := hBr.cell 0 _ rfl
      have e1 := hBr.cell 1 _ rfl
      have HF := Lib.hid hfac
      clear hl hfac hnb
      by_cases h1 : l.factor < 0
      · have g1 := decide_eq_true h1
        have HE := Lib.hid (show checkL l = 1 by rw [HF.out, if_pos (.inl h1)])
        go_wp2
        go_ret
        exact ⟨ret_int HE.out.symm, hAr⟩
      have g1 := decide_eq_false h1
      by_cases h2 : 10000 < l.factor
      · have g2 := decide_eq_true h2
        have HE := Lib.hid (show checkL l = 1 by rw [HF.out, if_pos (.inr h2)])
        go_wp2
        go_ret
        exact ⟨ret_int HE.out.symm, hAr⟩
      · have g2 := decide_eq_false h2
        have HE := Lib.hid (show checkL l = 0 by rw [HF.out, if_neg (by omega)])
        go_wp2
        go_ret
        exact ⟨ret_int HE.out.symm, hAr⟩

end Go.Proofs.YtmmlocjiegkjeaaGreatDoor
