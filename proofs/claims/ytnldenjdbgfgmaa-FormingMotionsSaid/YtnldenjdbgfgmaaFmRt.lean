/- within of the specification of layer 4; no statement is proved here. -/
import Derived.Test.YtnldenjdbgfgmaaFmRiF
import Derived.Test.YtnldenjdbgfgmaaFmRiU
import Derived.Test.YtnldenjdbgfgmaaFmRiD
import Derived.Test.YtnldenjdbgfgmaaFmRs
namespace Go.Proofs.Ytnldenjdbgfgmaa
open Go.RowKit Go.PlainAid
set_option linter.unusedVariables false
set_option linter.unusedSimpArgs false

theorem rwithin_any (x y s : Sp) (w : World) (h : LegOk x y) (hs : s.lo ≤ s.hi) (hb1 : -1000000 ≤ s.lo ∧ s.lo ≤ 2000000) (hb2 : -1000000 ≤ s.hi ∧ s.hi ≤ 2000000) :
    Calls Try.prog 52 #[.agg #[.int .i64 x.lo, .int .i64 x.hi], .agg #[.int .i64 y.lo, .int .i64 y.hi], .agg #[.int .i64 s.lo, .int .i64 s.hi]] w fun e w' => WithA x y s e ∧ Below w.heap.size w w' := by
  rcases Int.lt_trichotomy x.hi y.hi with hq | hq | hq
  · exact rwithin_up x y s w h (Lib.hid hq) hs hb1 hb2
  · exact rwithin_flat x y s w h (Lib.hid hq) hs hb1 hb2
  · exact rwithin_down x y s w h (Lib.hid hq) hs hb1 hb2
end Go.Proofs.Ytnldenjdbgfgmaa

namespace Go.Proofs.Ytnldenjdbgfgmaa
open Go.RowKit Go.PlainAid
set_option linter.unusedVariables false
set_option linter.unusedSimpArgs false

/-- what Stretches of the specification answers. -/
def StrB (c h : Int) (l : List Sp) (s : Sp) (e : Ending) (w' : World) : Prop :=
  (chkM c h l ≠ 0 ∧ e = .returned (.tuple #[.slice none 0 0, .int .i64 (chkM c h l)]))
  ∨ (chkM c h l = 0 ∧ ¬ SpOk s ∧ e = .returned (.tuple #[.slice none 0 0, .int .i64 1]))
  ∨ (chkM c h l = 0 ∧ SpOk s ∧ ∃ v, e = .returned (.tuple #[v, .int .i64 0]) ∧ RSts w' v (strE c h l s))

set_option maxHeartbeats 8000000 in
set_option maxRecDepth 100000 in
theorem rStretches_any (c h : Int) (a : Option Addr) (cap : Nat) (l : List Sp) (s : Sp) (w : World) (hr : RSps w (.slice a l.length cap) l) (hs : I64 s.lo ∧ I64 s.hi) :
    Calls Try.prog 12 #[.int .i64 c, .int .i64 h, .slice a l.length cap, .agg #[.int .i64 s.lo, .int .i64 s.hi]] w fun e w' => StrB c h l s e w' ∧ Below w.heap.size w w' := by
  have hA := below_box w (.cells #[.int .i64 s.lo, .int .i64 s.hi] 26)
  have hB := Blk.new w #[.int .i64 s.lo, .int .i64 s.hi] 26
  have HR := Lib.hid hr
  clear hr
  have HCk := Lib.hid (rchkM_any c h a cap l _ (HR.out.mono (ext_of_below hA)))
  go_enter Try.func12, Try.ntmps12
  go_upto_region 1 with fail
  generalize w.alloc (.cells #[.int .i64 s.lo, .int .i64 s.hi] 26) = W at *
  go_wp2_with fail
  refine HCk.out.mono ?_
  rintro e w3 ⟨rfl, hb3⟩
  have hA3 := hA.trans (hb3.mono hA.size)
  have hB3 := hB.below hb3 hB.lt
  clear HCk hA hB hb3
  have t0 := hB3.cell 0 _ rfl
  have t1 := hB3.cell 1 _ rfl
  by_cases hc : chkM c h l = 0
  case neg =>
    have HW : Hid (∀ w', StrB c h l s (.returned (.tuple #[.slice none 0 0, .int .i64 (chkM c h l)])) w') := Lib.hid (fun _ => .inl ⟨hc, rfl⟩)
    obtain ⟨E, hE0⟩ : ∃ E, chkM c h l = E := ⟨_, rfl⟩
    rw [hE0] at hc HW ⊢
    have HA := Lib.hid hA3
    clear hA3 hB3 hE0 t0 t1
    go_wp2
    refine ⟨rfl, .tuple #[.slice none 0 0, .int .i64 E], ?_, HW.out _, HA.out⟩
    simp [results, Try.results12, go_sem]
  rw [hc]
  have HA := Lib.hid hA3
  by_cases hq : SpOk s
  case neg =>
    have HW : Hid (∀ w', StrB c h l s (.returned (.tuple #[.slice none 0 0, .int .i64 1])) w') := Lib.hid (fun _ => .inr (.inl ⟨hc, hq, rfl⟩))
    unfold SpOk at hq
    clear hA3 hB3 hc
    by_cases q1 : s.lo < -1000000
    · clear hq
      go_wp2
      refine ⟨rfl, .tuple #[.slice none 0 0, .int .i64 1], ?_, HW.out _, HA.out⟩
      simp [results, Try.results12, go_sem]
    by_cases q2 : 2000000 < s.lo
    · clear hq
      go_wp2
      refine ⟨rfl, .tuple #[.slice none 0 0, .int .i64 1], ?_, HW.out _, HA.out⟩
      simp [results, Try.results12, go_sem]
    by_cases q3 : s.hi < -1000000
    · clear hq
      go_wp2
      refine ⟨rfl, .tuple #[.slice none 0 0, .int .i64 1], ?_, HW.out _, HA.out⟩
      simp [results, Try.results12, go_sem]
    have q4 : 2000000 < s.hi := by omega
    clear hq
    go_wp2
    refine ⟨rfl, .tuple #[.slice none 0 0, .int .i64 1], ?_, HW.out _, HA.out⟩
    simp [results, Try.results12, go_sem]
  have HW : Hid (∀ v w', RSts w' v (strE c h l s) → StrB c h l s (.returned (.tuple #[v, .int .i64 0])) w') := Lib.hid (fun v w' hv => .inr (.inr ⟨hc, hq, v, rfl, hv⟩))
  have HS := Lib.hid (rstretches_any c h a cap l s w3 (HR.out.mono (ext_of_below hA3)) hc (fun i V hV hi => rpiece_any c h a cap l i V hV hi) (fun hss x y V hxy => rwithin_any x y s V hxy hss hq.1 hq.2))
  unfold SpOk at hq
  obtain ⟨⟨q1, q2⟩, q3, q4⟩ := hq
  have p1 : ¬ s.lo < -1000000 := by omega
  have p2 : ¬ 2000000 < s.lo := by omega
  have p3 : ¬ s.hi < -1000000 := by omega
  have p4 : ¬ 2000000 < s.hi := by omega
  clear hA3 hB3 hc
  go_wp2_with fail
  refine HS.out.mono ?_
  rintro e w4 ⟨⟨v, rfl, hv⟩, hb4⟩
  have hE := HA.out.trans (hb4.mono HA.out.size)
  have HV := Lib.hid (HW.out v w4 (hv.mono fun p x hp => (vis_cell.1 hp).2))
  clear hv hb4 HA HS HW t0 t1
  go_wp2
  refine ⟨rfl, .tuple #[v, .int .i64 0], ?_, HV.out, hE⟩
  simp [results, Try.results12, go_sem]
end Go.Proofs.Ytnldenjdbgfgmaa
