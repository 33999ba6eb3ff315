/- Lines and Value, by their contracts; no statement is proved here. -/
import Derived.Test.YtpkggjfaefkiiaaForm
namespace Go.Proofs.Ytpkggjfaefkiiaa
open Go.RowKit Go.PlainAid
set_option linter.unusedVariables false

def RetLnsE (w : World) (p : List Ln × Int) (e : Ending) (w' : World) : Prop := ∃ v, e = .returned (.tuple #[v, .int .i64 p.2]) ∧ RLns w' v p.1 ∧ Below w.heap.size w w'
def pubLinesB (b : Bat) : List Ln × Int := if checkB b = 0 then (linesB b, 0) else ([], checkB b)

theorem RLns_nil (w : World) : RLns w (.slice none 0 0) [] := ⟨none, 0, rfl, Nat.le_refl _, ⟨by omega, by simp⟩, fun i h => by simp at h⟩

set_option maxRecDepth 100000 in
theorem pubLines_any (v : Value) (b : Bat) (w : World) (h : RBat w v b) :
    Calls Try.prog 15 #[v] w (RetLnsE w (pubLinesB b)) := by
  obtain ⟨a0, k0, a1, k1, a2, k2, a3, k3, rfl⟩ := h.agg
  have hA := below_box w (.cells #[.slice a0 b.oxides.length k0, .slice a1 b.mats.length k1, .slice a2 b.shares.length k2, .slice a3 b.props.length k3, .int .i64 b.redox.lo, .int .i64 b.redox.hi, .int .i64 b.wanted] 29)
  have hB := Blk.new w #[.slice a0 b.oxides.length k0, .slice a1 b.mats.length k1, .slice a2 b.shares.length k2, .slice a3 b.props.length k3, .int .i64 b.redox.lo, .int .i64 b.redox.hi, .int .i64 b.wanted] 29
  go_enter Try.func15, Try.ntmps15
  go_wp2_with fail
  generalize w.alloc (.cells #[.slice a0 b.oxides.length k0, .slice a1 b.mats.length k1, .slice a2 b.shares.length k2, .slice a3 b.props.length k3, .int .i64 b.redox.lo, .int .i64 b.redox.hi, .int .i64 b.wanted] 29) = W at *
  refine (check_any _ b _ (h.mono (ext_of_below hA))).mono ?_
  rintro e w1 ⟨rfl, hb1⟩
  have hA1 := hA.trans (hb1.mono hA.size)
  have hB1 := hB.below hb1 hB.lt
  clear hA hB hb1
  by_cases e1 : checkB b = 0
  case neg =>
    have e1' : (checkB b != 0) = true := by simp [e1]
    have hfin := Lib.hid (show pubLinesB b = ([], checkB b) by simp [pubLinesB, e1])
    clear hB1 e1
    go_wp2
    go_ret2
    unfold RetLnsE
    rw [hfin.out]
    exact ⟨_, rfl, RLns_nil _, hA1⟩
  have e1' : (checkB b != 0) = false := by simp [e1]
  have hfin := Lib.hid (show pubLinesB b = (linesB b, 0) by simp [pubLinesB, e1])
  have hok := ok_of e1
  have f0 := hB1.cell 0 (.slice a0 b.oxides.length k0) rfl
  have f1 := hB1.cell 1 (.slice a1 b.mats.length k1) rfl
  have f2 := hB1.cell 2 (.slice a2 b.shares.length k2) rfl
  have f3 := hB1.cell 3 (.slice a3 b.props.length k3) rfl
  have f4 := hB1.cell 4 (.int .i64 b.redox.lo) rfl
  have f5 := hB1.cell 5 (.int .i64 b.redox.hi) rfl
  have f6 := hB1.cell 6 (.int .i64 b.wanted) rfl
  clear e1
  go_wp2_with fail
  refine (lines_ok _ b w1 (h.mono (ext_of_below hA1)) hok).mono ?_
  rintro e w2 ⟨vg, rfl, hvg, hb2⟩
  have hA2 := hA1.trans (hb2.mono hA1.size)
  clear f0 f1 f2 f3 f4 f5 f6 hB1 hA1 hb2
  go_wp2
  go_ret2
  unfold RetLnsE
  rw [hfin.out]
  exact ⟨_, rfl, hvg, hA2⟩

end Go.Proofs.Ytpkggjfaefkiiaa
