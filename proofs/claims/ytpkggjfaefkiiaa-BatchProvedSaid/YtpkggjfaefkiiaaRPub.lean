/- The specification's own Lines, and lists of numbers that are the same; no statement is proved here. -/
import Derived.Test.YtpkggjfaefkiiaaRLines
import Derived.Test.YtpkggjfaefkiiaaRRec
import Derived.Test.YtpkggjfaefkiiaaPubLines
namespace Go.Proofs.Ytpkggjfaefkiiaa
open Go.RowKit Go.PlainAid
set_option linter.unusedVariables false

set_option maxRecDepth 100000 in
theorem rpubLines_any (v : Value) (b : Bat) (w : World) (h : RBat w v b) :
    Calls Try.prog 16 #[v] w (RetLnsE w (pubLinesB b)) := by
  obtain ⟨a0, k0, a1, k1, a2, k2, a3, k3, rfl⟩ := h.agg
  have hA := below_box w (.cells #[.slice a0 b.oxides.length k0, .slice a1 b.mats.length k1, .slice a2 b.shares.length k2, .slice a3 b.props.length k3, .int .i64 b.redox.lo, .int .i64 b.redox.hi, .int .i64 b.wanted] 29)
  have hB := Blk.new w #[.slice a0 b.oxides.length k0, .slice a1 b.mats.length k1, .slice a2 b.shares.length k2, .slice a3 b.props.length k3, .int .i64 b.redox.lo, .int .i64 b.redox.hi, .int .i64 b.wanted] 29
  go_enter Try.func16, Try.ntmps16
  go_wp2_with fail
  generalize w.alloc (.cells #[.slice a0 b.oxides.length k0, .slice a1 b.mats.length k1, .slice a2 b.shares.length k2, .slice a3 b.props.length k3, .int .i64 b.redox.lo, .int .i64 b.redox.hi, .int .i64 b.wanted] 29) = W at *
  refine (rcheck_any _ b _ (h.mono (ext_of_below hA))).mono ?_
  rintro e w1 ⟨rfl, hb1⟩
  have hA1 := hA.trans (hb1.mono hA.size)
  have hB1 := hB.below hb1 hB.lt
  clear hA hB hb1
  by_cases e1 : checkB b = 0
  case neg =>
    have e1' : (checkB b != 0) = true := by simp [e1]
    have hfin := Lib.hid (show pubLinesB b = ([], checkB b) by simp [pubLinesB, e1])
    clear hB1 e1
    go_wp2
    go_ret2
    unfold RetLnsE
    rw [hfin.out]
    exact ⟨_, rfl, RLns_nil _, hA1⟩
  have e1' : (checkB b != 0) = false := by simp [e1]
  have hfin := Lib.hid (show pubLinesB b = (linesB b, 0) by simp [pubLinesB, e1])
  have hok := ok_of e1
  have f0 := hB1.cell 0 (.slice a0 b.oxides.length k0) rfl
  have f1 := hB1.cell 1 (.slice a1 b.mats.length k1) rfl
  have f2 := hB1.cell 2 (.slice a2 b.shares.length k2) rfl
  have f3 := hB1.cell 3 (.slice a3 b.props.length k3) rfl
  have f4 := hB1.cell 4 (.int .i64 b.redox.lo) rfl
  have f5 := hB1.cell 5 (.int .i64 b.redox.hi) rfl
  have f6 := hB1.cell 6 (.int .i64 b.wanted) rfl
  clear e1
  go_wp2_with fail
  refine (rlines_any _ b w1 (h.mono (ext_of_below hA1)) hok).mono ?_
  rintro e w2 ⟨vg, rfl, hvg, hb2⟩
  have hA2 := hA1.trans (hb2.mono hA1.size)
  clear f0 f1 f2 f3 f4 f5 f6 hB1 hA1 hb2
  go_wp2
  go_ret2
  unfold RetLnsE
  rw [hfin.out]
  exact ⟨_, rfl, hvg, hA2⟩


set_option maxRecDepth 100000 in
theorem sameInts_eq (v1 v2 : Value) (a : List Int) (w : World) (h1 : RInts w v1 a) (h2 : RInts w v2 a) :
    Calls Try.prog 19 #[v1, v2] w fun e w' => e = .returned (.bool true) ∧ ∃ n, w' = w.drewN n := by
  obtain ⟨pa, ka, rfl, -, ⟨-, la⟩, hal⟩ := h1
  obtain ⟨pb, kb, rfl, -, ⟨-, lb⟩, hbl⟩ := h2
  go_enter Try.func19, Try.ntmps19
  go_wp2
  go_loopw [5] (fun i wr => ∃ (k n : Nat), k ≤ a.length ∧ i = .int .i64 k ∧ wr = w.drewN n) (fun i _ => a.length - (intOf i).toNat)
  case atStart => exact ⟨0, 0, Nat.zero_le _, rfl, rfl⟩
  case round =>
    obtain ⟨k, n, hk, rfl, rfl⟩ := hrel
    by_cases hlt : k < a.length
    · obtain ⟨b1, o1, rfl, q1, -⟩ := hal k hlt
      obtain ⟨b2, o2, rfl, q2, -⟩ := hbl k hlt
      simp only [Nat.mul_one] at q1 q2
      have j1 : (0 : Int) ≤ (k : Int) := Int.natCast_nonneg _
      have j2 : (k : Int) < (a.length : Int) := by omega
      clear hal hbl
      generalize a[k] = x at *
      go_wp2_with fail
      go_quiet (fail)
      go_wp2
      go_roundw
      case rel => exact ⟨k + 1, _, by omega, by go_num, rfl⟩
      case measure => simp [intOf]; omega
    · go_wp2
      go_ret
      exact ⟨rfl, n, rfl⟩

end Go.Proofs.Ytpkggjfaefkiiaa
