/- The law FormingGap; no statement is proved here. -/
import Derived.Test.YtnldenjdbgfgmaaFmTu
import Derived.Test.YtnldenjdbgfgmaaFmRgp
import Derived.Test.YtnldenjdbgfgmaaFmGm
import Derived.Test.YtnldenjdbgfgmaaFmForm
namespace Go.Proofs.Ytnldenjdbgfgmaa
open Go.RowKit Go.PlainAid
set_option linter.unusedVariables false
set_option linter.unusedSimpArgs false
attribute [local go_sem] beq_self_eq_true bne_self_eq_false

/-- both gaps answer the same. -/
theorem gap_agree {c sh : Int} {la lb : List St} {e1 e2 : Ending} (h1 : GapA c sh la lb e1) (h2 : GapRA c sh la lb e2) :
    ∃ (r : Rt) (b : Bool) (k : Int), e1 = .returned (.tuple #[.agg #[.int .i64 r.n, .int .i64 r.d], .bool b, .int .i64 k]) ∧ e2 = .returned (.tuple #[.agg #[.int .i64 r.n, .int .i64 r.d], .bool b, .int .i64 k]) := by
  have hok : GapOk c sh la lb ↔ GapROk c sh la lb := by
    unfold GapOk GapROk areS
    simp only [decide_eq_true_eq]
    constructor
    · rintro ⟨hc, hs, ha, hb⟩
      exact ⟨hc, by omega, fun s h => (stR_iff hc).2 (ha s h), fun s h => (stR_iff hc).2 (hb s h)⟩
    · rintro ⟨hc, hs, ha, hb⟩
      exact ⟨hc, by omega, fun s h => (stR_iff hc).1 (ha s h), fun s h => (stR_iff hc).1 (hb s h)⟩
  rcases h1 with ⟨hg, rfl⟩ | ⟨hg, rfl⟩
  · rcases h2 with ⟨-, rfl⟩ | ⟨hr, -⟩
    · have hg' := hg
      unfold GapOk areS at hg'
      simp only [decide_eq_true_eq] at hg'
      obtain ⟨hc, hs, ha, hb⟩ := hg'
      rcases gap_same hc hs ha hb with ⟨m1, m2⟩ | ⟨m, g, m1, m2, m3⟩
      · rw [m1, m2]
        have hz : rat 0 1 = ⟨0, 1⟩ := by decide +kernel
        refine ⟨⟨0, 1⟩, true, 0, ?_, rfl⟩
        show Ending.returned (.tuple #[rtV (rat 0 1), .bool true, .int .i64 0]) = _
        rw [hz]; rfl
      · rw [m1, m2]
        refine ⟨g, false, 0, ?_, rfl⟩
        show Ending.returned (.tuple #[rtV (rat m.n m.d), .bool false, .int .i64 0]) = _
        rw [m3]; rfl
    · exact absurd (hok.1 hg) hr
  · rcases h2 with ⟨hr, -⟩ | ⟨-, rfl⟩
    · exact absurd (hok.2 hr) hg
    · exact ⟨⟨0, 0⟩, false, 1, rfl, rfl⟩

set_option maxHeartbeats 8000000 in
set_option maxRecDepth 100000 in
theorem fGapLaw_any (c : Int) (va : Value) (la : List St) (vb : Value) (lb : List St) (sh : Int) (w : World) (hic : I64 c) (hra : RSts w va la) (hrb : RSts w vb lb) (his : I64 sh) :
    Calls Try.prog 4 #[.int .i64 c, va, vb, .int .i64 sh] w (TrueF w) := by
  obtain ⟨aa, ca, rfl, -, ⟨-, hma⟩, -⟩ := id hra
  obtain ⟨ab, cb, rfl, -, ⟨-, hmb⟩, -⟩ := id hrb
  by_cases n1 : 20 < la.length
  · clear hra hrb
    have i1 : (20 : Int) < (la.length : Int) := by omega
    go_enter Try.func4, Try.ntmps4
    go_wp2_with fail
    refine (turns_any _).mono ?_
    rintro e w1 ⟨rfl, hb⟩
    go_wp2
    go_ret
    exact ⟨rfl, hb⟩
  by_cases n2 : 20 < lb.length
  · clear hra hrb
    have i1 : ¬ (20 : Int) < (la.length : Int) := by omega
    have i2 : (20 : Int) < (lb.length : Int) := by omega
    go_enter Try.func4, Try.ntmps4
    go_wp2_with fail
    refine (turns_any _).mono ?_
    rintro e w1 ⟨rfl, hb⟩
    go_wp2
    go_ret
    exact ⟨rfl, hb⟩
  have i1 : ¬ (20 : Int) < (la.length : Int) := by omega
  have i2 : ¬ (20 : Int) < (lb.length : Int) := by omega
  have HL := Lib.hid hra
  have HM := Lib.hid hrb
  clear hra hrb
  go_enter Try.func4, Try.ntmps4
  go_wp2_with fail
  refine (gap_any c sh aa ab ca cb la lb _ HL.out HM.out hic).mono ?_
  rintro e1 w1 ⟨hG1, hb1⟩
  have HR := Lib.hid (fun (V : World) (hV : Below w1.heap.size w1 V) => rgapP_any c sh aa ab ca cb la lb V (HL.out.mono (ext_of_below (hb1.trans (hV.mono hb1.size)))) (HM.out.mono (ext_of_below (hb1.trans (hV.mono hb1.size)))) (fun s h hc => ((stR_iff hc).1 h).sized hc))
  have HE : Hid (∀ e2, GapRA c sh la lb e2 → ∃ (r : Rt) (b : Bool) (k : Int), e1 = .returned (.tuple #[.agg #[.int .i64 r.n, .int .i64 r.d], .bool b, .int .i64 k]) ∧ e2 = .returned (.tuple #[.agg #[.int .i64 r.n, .int .i64 r.d], .bool b, .int .i64 k])) := Lib.hid (fun e2 h => gap_agree hG1 h)
  have hret : ∃ (r : Rt) (b : Bool) (k : Int), e1 = .returned (.tuple #[.agg #[.int .i64 r.n, .int .i64 r.d], .bool b, .int .i64 k]) := by
    rcases hG1 with ⟨-, rfl⟩ | ⟨-, rfl⟩
    · exact ⟨_, _, _, rfl⟩
    · exact ⟨⟨0, 0⟩, _, _, rfl⟩
  obtain ⟨⟨N, D⟩, b, k, rfl⟩ := hret
  clear hG1
  have hB := Blk.new w1 #[.int .i64 N, .int .i64 D] 24
  have hA := hb1.trans ((below_box w1 (.cells #[.int .i64 N, .int .i64 D] 24)).mono hb1.size)
  have hx := HR.out _ (below_box w1 (.cells #[.int .i64 N, .int .i64 D] 24))
  have HX := Lib.hid hx
  clear hx HR hb1 HL HM
  go_wp2_with fail
  generalize (w1.alloc (.cells #[.int .i64 N, .int .i64 D] 24)) = w2 at *
  refine HX.out.mono ?_
  rintro e2 w3 ⟨hG2, hb3⟩
  obtain ⟨⟨N', D'⟩, b', k', h1, rfl⟩ := HE.out e2 hG2
  simp only [Ending.returned.injEq, Value.tuple.injEq, Array.mk.injEq, List.cons.injEq, Value.agg.injEq, Value.int.injEq, Value.bool.injEq, and_true, true_and] at h1
  obtain ⟨⟨rfl, rfl⟩, rfl, rfl⟩ := h1
  clear hG2 HE HX
  have hB3 := (hB.below hb3 hB.lt).alloc (.cells #[.int .i64 N, .int .i64 D] 24)
  have hC3 := Blk.new w3 #[.int .i64 N, .int .i64 D] 24
  have hA3 := hA.trans (hb3.mono hA.size)
  have hA4 := hA3.trans ((below_box w3 (.cells #[.int .i64 N, .int .i64 D] 24)).mono hA3.size)
  have x0 := hB3.cell 0 _ rfl
  have x1 := hB3.cell 1 _ rfl
  have y0 := hC3.cell 0 _ rfl
  have y1 := hC3.cell 1 _ rfl
  have eqq := fun V => eqR N D V
  have eqb : ∀ V, Sem.run Try.prog (Go.binOp .eql 4 (.bool b) (.bool b)) V = .ok (.bool true) V := fun V => by cases b <;> rfl
  clear hA hA3 hB hB3 hC3 hb3
  have HA4 := Lib.hid hA4
  clear hA4
  go_upto_region 5 with fail
  generalize (w3.alloc (.cells #[.int .i64 N, .int .i64 D] 24)) = w4 at *
  go_wp2_with fail
  refine (turns_any _).mono ?_
  rintro e w5 ⟨rfl, hb5⟩
  go_wp2
  go_ret
  exact ⟨rfl, HA4.out.trans (hb5.mono HA4.out.size)⟩
end Go.Proofs.Ytnldenjdbgfgmaa
