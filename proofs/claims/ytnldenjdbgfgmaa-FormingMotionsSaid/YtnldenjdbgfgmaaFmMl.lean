/- Two lists of stretches compared by the laws of layer 4; no statement is proved here. -/
import Derived.Test.YtnldenjdbgfgmaaFmTu
import Derived.Test.YtnldenjdbgfgmaaFmForm
import Derived.Test.YtnldenjdbgfgmaaFmRw
import Derived.Test.YtnldenjdbgfgmaaFmRt
namespace Go.Proofs.Ytnldenjdbgfgmaa
open Go.RowKit Go.PlainAid
set_option linter.unusedVariables false
set_option linter.unusedSimpArgs false
attribute [local go_sem] beq_self_eq_true bne_self_eq_false

set_option maxHeartbeats 4000000 in
set_option maxRecDepth 100000 in
theorem same_any (va vb : Value) (L : List St) (w : World) (ha : RSts w va L) (hb : RSts w vb L) :
    Calls Try.prog 13 #[va, vb] w (TrueF w) := by
  obtain ⟨aa, ca, rfl, -, ⟨-, hma⟩, -⟩ := id ha
  obtain ⟨ab, cb, rfl, -, ⟨-, hmb⟩, -⟩ := id hb
  have HV := Lib.hid (fun V (hV : Below w.heap.size w V) => And.intro (ha.mono (ext_of_below hV)) (hb.mono (ext_of_below hV)))
  clear ha hb
  go_enter Try.func13, Try.ntmps13
  go_wp2_with fail
  go_loopw [5] (fun i wr => ∃ k : Nat, k ≤ L.length ∧ i = .int .i64 k ∧ Below w.heap.size w wr) (fun i _ => L.length - (intOf i).toNat)
  case atStart => exact ⟨0, Nat.zero_le _, rfl, Below.refl _ _⟩
  case round =>
    obtain ⟨k, hk, rfl, hB⟩ := hrel
    by_cases hlt : k < L.length
    · skip
      obtain ⟨hA1, hA2⟩ := HV.out _ hB
      obtain ⟨a', c', he, -, -, h4⟩ := hA1
      simp only [Value.slice.injEq, true_and] at he
      obtain ⟨rfl, rfl⟩ := he
      obtain ⟨a', c', he, -, -, h5⟩ := hA2
      simp only [Value.slice.injEq, true_and] at he
      obtain ⟨rfl, rfl⟩ := he
      have i2 : (0 : Int) ≤ (k : Int) := Int.natCast_nonneg _
      have i3 : (k : Int) < (L.length : Int) := by omega
      have zk := wrap_id ((k : Int) + 1) (by unfold I64; omega)
      obtain ⟨b1, o1, rfl, ⟨x0, x1, x2, x3⟩, -⟩ := h4 k hlt
      obtain ⟨b2, o2, rfl, ⟨y0, y1, y2, y3⟩, -⟩ := h5 k hlt
      generalize L[k] = x at *
      clear h4 h5 HV
      go_wp2_with fail
      go_quiet (fail)
      have hB2 := hB.trans ((below_dr wr nq).mono hB.size)
      clear x0 x1 x2 x3 y0 y1 y2 y3
      generalize wr.drewN nq = wq at *
      go_wp2_with fail
      go_roundw
      case rel => exact ⟨k + 1, by omega, by go_num, hB2⟩
      case measure => simp [intOf]; omega
    · have i3 : ¬ (k : Int) < (L.length : Int) := by omega
      go_wp2
      go_ret
      exact ⟨rfl, hB⟩
end Go.Proofs.Ytnldenjdbgfgmaa

namespace Go.Proofs.Ytnldenjdbgfgmaa
open Go.RowKit Go.PlainAid
set_option linter.unusedVariables false
set_option linter.unusedSimpArgs false
attribute [local go_sem] beq_self_eq_true bne_self_eq_false

/-- both positions are the same. -/
theorem where_agree {c h : Int} {l : List Sp} {tn td : Int} {e1 e2 : Ending} (h1 : WhereA c h l tn td e1) (h2 : WhereA c h l tn td e2) :
    e1 = e2 ∧ ∃ (N D k : Int), e1 = .returned (.tuple #[.agg #[.int .i64 N, .int .i64 D], .int .i64 k]) := by
  rcases h1 with ⟨a1, rfl⟩ | ⟨a1, a2, rfl⟩ | ⟨a1, a2, i, hi, rfl⟩
  · rcases h2 with ⟨-, rfl⟩ | ⟨b1, -⟩ | ⟨b1, -⟩
    · exact ⟨rfl, _, _, _, rfl⟩
    · exact absurd b1 a1
    · exact absurd b1 a1
  · rcases h2 with ⟨b1, -⟩ | ⟨-, -, rfl⟩ | ⟨-, b2, -⟩
    · exact absurd a1 b1
    · exact ⟨rfl, _, _, _, rfl⟩
    · exact absurd b2 a2
  · rcases h2 with ⟨b1, -⟩ | ⟨-, b2, -⟩ | ⟨-, -, j, hj, rfl⟩
    · exact absurd a1 b1
    · exact absurd a2 b2
    · rw [hi.unique hj]
      exact ⟨rfl, _, _, _, rfl⟩
theorem sts_nil (w : World) : RSts w (.slice none 0 0) [] := own_RSts (World.ownsRow_nil w 0 41 4) (by simp) (fun x hx => by simp at hx)
/-- both lists of stretches are the same. -/
theorem strA_out {c h : Int} {l : List Sp} {s : Sp} {e : Ending} {w w' : World} (h1 : StrA c h l s w e w') : ∃ (v : Value) (k : Int) (L : List St), e = .returned (.tuple #[v, .int .i64 k]) ∧ RSts w' v L ∧ (∀ e2 w2, StrB c h l s e2 w2 → ∃ v2, e2 = .returned (.tuple #[v2, .int .i64 k]) ∧ RSts w2 v2 L) := by
  rcases h1 with ⟨a1, rfl⟩ | ⟨a1, a2, rfl⟩ | ⟨a1, a2, v, rfl, hv⟩
  · refine ⟨_, _, [], rfl, sts_nil _, fun e2 w2 h2 => ?_⟩
    rcases h2 with ⟨-, rfl⟩ | ⟨b1, -⟩ | ⟨b1, -⟩
    · exact ⟨_, rfl, sts_nil _⟩
    · exact absurd b1 a1
    · exact absurd b1 a1
  · refine ⟨_, _, [], rfl, sts_nil _, fun e2 w2 h2 => ?_⟩
    rcases h2 with ⟨b1, -⟩ | ⟨-, -, rfl⟩ | ⟨-, b2, -⟩
    · exact absurd a1 b1
    · exact ⟨_, rfl, sts_nil _⟩
    · exact absurd b2 a2
  · refine ⟨_, _, strE c h l s, rfl, sts_vis hv, fun e2 w2 h2 => ?_⟩
    rcases h2 with ⟨b1, -⟩ | ⟨-, b2, -⟩ | ⟨-, -, v2, rfl, hv2⟩
    · exact absurd a1 b1
    · exact absurd a2 b2
    · exact ⟨_, rfl, hv2⟩

set_option maxHeartbeats 8000000 in
set_option maxRecDepth 100000 in
theorem fMotionsLaw_any (c h : Int) (va : Value) (l : List Sp) (t : Rt) (s : Sp) (w : World) (hic : I64 c) (hih : I64 h) (hr : RSps w va l) (ht : I64 t.n ∧ I64 t.d) (hs : I64 s.lo ∧ I64 s.hi) :
    Calls Try.prog 3 #[.int .i64 c, .int .i64 h, va, .agg #[.int .i64 t.n, .int .i64 t.d], .agg #[.int .i64 s.lo, .int .i64 s.hi]] w (TrueF w) := by
  obtain ⟨aa, ca, rfl, -, ⟨hca, hma⟩, -⟩ := id hr
  have hT := (Blk.new w #[.int .i64 t.n, .int .i64 t.d] 24).alloc (.cells #[.int .i64 s.lo, .int .i64 s.hi] 26)
  have hS := Blk.new (w.alloc (.cells #[.int .i64 t.n, .int .i64 t.d] 24)) #[.int .i64 s.lo, .int .i64 s.hi] 26
  simp only [World.size_alloc] at hS
  have hA := (below_box w (.cells #[.int .i64 t.n, .int .i64 t.d] 24)).alloc (by simp) (.cells #[.int .i64 s.lo, .int .i64 s.hi] 26)
  have hr := hr.mono (ext_of_below hA)
  have ltn := ht.1
  by_cases n1 : 100 < l.length
  · clear hr hS hT
    have i1 : (100 : Int) < (l.length : Int) := by omega
    go_enter Try.func3, Try.ntmps3
    go_upto_region 1 with fail
    generalize ((w.alloc (.cells #[.int .i64 t.n, .int .i64 t.d] 24)).alloc (.cells #[.int .i64 s.lo, .int .i64 s.hi] 26)) = w1 at *
    go_wp2_with fail
    refine (turns_any _).mono ?_
    rintro e wz ⟨rfl, hb⟩
    have hA := hA.trans (hb.mono hA.size)
    go_wp2
    go_ret
    exact ⟨rfl, hA⟩
  have i1 : ¬ (100 : Int) < (l.length : Int) := by omega
  have t0 := hT.cell 0 _ rfl
  have t1 := hT.cell 1 _ rfl
  go_enter Try.func3, Try.ntmps3
  go_upto_region 1 with fail
  generalize ((w.alloc (.cells #[.int .i64 t.n, .int .i64 t.d] 24)).alloc (.cells #[.int .i64 s.lo, .int .i64 s.hi] 26)) = w1 at *
  have HW := Lib.hid (fun V (hV : RSps V (.slice aa l.length ca) l) => where_any c h aa ca l t.n t.d V hV ltn)
  have HV := Lib.hid (fun V (hV : RSps V (.slice aa l.length ca) l) => rWhere_any c h aa ca l t.n t.d V hV ltn)
  have HR := Lib.hid (fun V (hV : Below w1.heap.size w1 V) => hr.mono (ext_of_below hV))
  clear hr
  have HWc := Lib.hid (HW.out _ (HR.out _ (Below.refl _ _)))
  go_wp2_with fail
  refine HWc.out.mono ?_
  rintro e1 w2 ⟨hG1, hb2⟩
  obtain ⟨-, N, D, k, rfl⟩ := where_agree hG1 hG1
  have HAG := Lib.hid (fun e2 (h2 : WhereA c h l t.n t.d e2) => (where_agree hG1 h2).1.symm)
  have hbx := below_box w2 (.cells #[.int .i64 N, .int .i64 D] 24)
  have hb3 := hb2.trans (hbx.mono hb2.size)
  have HVc := Lib.hid (HV.out _ (HR.out _ hb3))
  have hX := Blk.new w2 #[.int .i64 N, .int .i64 D] 24
  have hT3 := hT.below hb3 hT.lt
  clear HW HV HWc t0 t1 hG1 hb2 hbx
  have t0 := hT3.cell 0 _ rfl
  have t1 := hT3.cell 1 _ rfl
  go_upto_region 4 with fail
  generalize (w2.alloc (.cells #[.int .i64 N, .int .i64 D] 24)) = w3 at *
  go_wp2_with fail
  refine HVc.out.mono ?_
  rintro e2 w4 ⟨hG2, hb4⟩
  obtain rfl := HAG.out e2 hG2
  clear HAG hG2 HVc t0 t1
  have hbx := below_box w4 (.cells #[.int .i64 N, .int .i64 D] 24)
  have hb5 := hb3.trans ((hb4.trans (hbx.mono hb4.size)).mono hb3.size)
  have hX5 := (hX.below hb4 hX.lt).alloc (.cells #[.int .i64 N, .int .i64 D] 24)
  have hY5 := Blk.new w4 #[.int .i64 N, .int .i64 D] 24
  have hS5 := hS.below hb5 hS.lt
  have x0 := hX5.cell 0 _ rfl
  have x1 := hX5.cell 1 _ rfl
  have y0 := hY5.cell 0 _ rfl
  have y1 := hY5.cell 1 _ rfl
  have s0 := hS5.cell 0 _ rfl
  have s1 := hS5.cell 1 _ rfl
  have hA5 := hA.trans (hb5.mono hA.size)
  have HSc := Lib.hid (stretches_any c h aa ca l s _ (HR.out _ hb5) hs)
  clear hb3 hb4 hbx hX hT3 hT hX5 hY5 hA
  go_upto_region 5 with fail
  generalize (w4.alloc (.cells #[.int .i64 N, .int .i64 D] 24)) = w5 at *
  go_wp2_with fail
  refine HSc.out.mono ?_
  rintro e3 w6 ⟨hG3, hb6⟩
  obtain ⟨v1, k1, L, rfl, hv1, hall⟩ := strA_out hG3
  have HALL := Lib.hid hall
  have hb7 := hb5.trans (hb6.mono hb5.size)
  have hS6 := hS5.below hb6 hS5.lt
  have hA6 := hA5.trans (hb6.mono hA5.size)
  have HTc := Lib.hid (rStretches_any c h aa ca l s _ (HR.out _ hb7) hs)
  clear hG3 hall HSc x0 x1 y0 y1 s0 s1 hb6 hb5 hS5 hA5 hb7 HR
  have s0 := hS6.cell 0 _ rfl
  have s1 := hS6.cell 1 _ rfl
  go_wp2_with fail
  refine HTc.out.mono ?_
  rintro e4 w7 ⟨hG4, hb7⟩
  obtain ⟨v2, rfl, hv2⟩ := HALL.out e4 w7 hG4
  have hv1 := hv1.mono (ext_of_below hb7)
  have HA7 := Lib.hid (hA6.trans (hb7.mono hA6.size))
  clear hG4 HTc HALL hA6 hS6 s0 s1 hb7
  have HC := Lib.hid (fun V (hV : Below w7.heap.size w7 V) => same_any v1 v2 L V (hv1.mono (ext_of_below hV)) (hv2.mono (ext_of_below hV)))
  clear hv1 hv2
  go_wp2_with fail
  refine (HC.out _ (Below.refl _ _)).mono ?_
  rintro e w8 ⟨rfl, hb8⟩
  have HA8 := Lib.hid (HA7.out.trans (hb8.mono HA7.out.size))
  clear HC HA7 hb8
  go_wp2_with fail
  refine (turns_any _).mono ?_
  rintro e w9 ⟨rfl, hb9⟩
  go_wp2
  go_ret
  exact ⟨rfl, HA8.out.trans (hb9.mono HA8.out.size)⟩
end Go.Proofs.Ytnldenjdbgfgmaa
