/- What is proved: whatever batch and whatever ask is given, the law BatchBounds returns true (Bound answers as the specification does), and what was given reads as it did. Conditions: those of the row's form alone (each thing read takes less than 2^47 bytes); no domain, no premise of its own. -/
import Derived.Test.YtnnkcbeadiembaaForm
import Derived.Test.YtnnkcbeadiembaaRows
import Derived.WalkKit
import Derived.ProofKit
import Derived.SizedLaws
import Derived.JoinedCond
import Derived.Test.YtnnkcbeadiembaaRBnd
namespace Go.Proofs.Ytnnkcbeadiembaa
open Go.RowKit Go.PlainAid
set_option linter.unusedVariables false

set_option maxHeartbeats 1000000 in
set_option maxRecDepth 100000 in
theorem bndLaw_any (vb vx : Value) (b : Bat) (x : Ask) (w : World) (h : RBat w vb b) (hx : RAsk w vx x) :
    Calls Try.prog 4 #[vb, vx] w (TrueB w) := by
  obtain ⟨a0, k0, a1, k1, a2, k2, a3, k3, rfl⟩ := h.agg
  obtain ⟨b0, j0, b1, j1, b5, j5, rfl⟩ := hx.agg
  obtain ⟨-, -, hr5⟩ := asks hx
  have hA := below_two w (.cells #[.slice a0 b.oxides.length k0, .slice a1 b.mats.length k1, .slice a2 b.shares.length k2, .slice a3 b.props.length k3, .int .i64 b.redox.lo, .int .i64 b.redox.hi, .int .i64 b.wanted] 29) (.cells #[.slice b0 x.recipe.length j0, .slice b1 x.other.length j1, .int .i64 x.property, .int .i64 x.lots, .int .i64 x.scale, .slice b5 x.weights.length j5] 34)
  have hB := (Blk.new w #[.slice a0 b.oxides.length k0, .slice a1 b.mats.length k1, .slice a2 b.shares.length k2, .slice a3 b.props.length k3, .int .i64 b.redox.lo, .int .i64 b.redox.hi, .int .i64 b.wanted] 29).alloc (.cells #[.slice b0 x.recipe.length j0, .slice b1 x.other.length j1, .int .i64 x.property, .int .i64 x.lots, .int .i64 x.scale, .slice b5 x.weights.length j5] 34)
  have hC : Blk ((w.alloc (.cells #[.slice a0 b.oxides.length k0, .slice a1 b.mats.length k1, .slice a2 b.shares.length k2, .slice a3 b.props.length k3, .int .i64 b.redox.lo, .int .i64 b.redox.hi, .int .i64 b.wanted] 29)).alloc (.cells #[.slice b0 x.recipe.length j0, .slice b1 x.other.length j1, .int .i64 x.property, .int .i64 x.lots, .int .i64 x.scale, .slice b5 x.weights.length j5] 34)) (w.heap.size + 1) #[.slice b0 x.recipe.length j0, .slice b1 x.other.length j1, .int .i64 x.property, .int .i64 x.lots, .int .i64 x.scale, .slice b5 x.weights.length j5] 34 := by
    have := Blk.new (w.alloc (.cells #[.slice a0 b.oxides.length k0, .slice a1 b.mats.length k1, .slice a2 b.shares.length k2, .slice a3 b.props.length k3, .int .i64 b.redox.lo, .int .i64 b.redox.hi, .int .i64 b.wanted] 29)) #[.slice b0 x.recipe.length j0, .slice b1 x.other.length j1, .int .i64 x.property, .int .i64 x.lots, .int .i64 x.scale, .slice b5 x.weights.length j5] 34
    simpa using this
  go_enter Try.func4, Try.ntmps4
  go_wp2_with fail
  generalize (w.alloc (.cells #[.slice a0 b.oxides.length k0, .slice a1 b.mats.length k1, .slice a2 b.shares.length k2, .slice a3 b.props.length k3, .int .i64 b.redox.lo, .int .i64 b.redox.hi, .int .i64 b.wanted] 29)).alloc (.cells #[.slice b0 x.recipe.length j0, .slice b1 x.other.length j1, .int .i64 x.property, .int .i64 x.lots, .int .i64 x.scale, .slice b5 x.weights.length j5] 34) = W at *
  refine (great_any _ b _ (h.mono (ext_of_below hA))).mono ?_
  rintro e w1 ⟨t1, rfl, hb1⟩
  have hA1 := hA.trans (hb1.mono hA.size)
  have hB1 := hB.below hb1 hB.lt
  have hC1 := hC.below hb1 hC.lt
  clear hA hB hC hb1
  cases t1
  case true =>
    go_wp2_with fail
    refine (lives_any _).mono ?_
    rintro e w2 ⟨rfl, hb2⟩
    have hA2 := hA1.trans (hb2.mono hA1.size)
    clear hb2 hB1 hC1
    go_wp2
    go_ret
    exact ⟨rfl, hA2⟩
  have c0 := hC1.cell 0 _ rfl
  have c1 := hC1.cell 1 _ rfl
  have c2 := hC1.cell 2 _ rfl
  have c3 := hC1.cell 3 _ rfl
  have c4 := hC1.cell 4 _ rfl
  have c5 := hC1.cell 5 _ rfl
  go_wp2_with fail
  refine (wide_any _ x _ ?_).mono ?_
  · exact hx.mono (ext_of_below hA1)
  rintro e w2 ⟨t2, rfl, hb2⟩
  have hA2 := hA1.trans (hb2.mono hA1.size)
  have hB2 := hB1.below hb2 hB1.lt
  have hC2 := hC1.below hb2 hC1.lt
  clear hA1 hB1 hC1 hb2 c0 c1 c2 c3 c4 c5
  cases t2
  case true =>
    go_wp2_with fail
    refine (lives_any _).mono ?_
    rintro e wl ⟨rfl, hbl⟩
    have hAl := hA2.trans (hbl.mono hA2.size)
    clear hbl hB2 hC2
    go_wp2
    go_ret
    exact ⟨rfl, hAl⟩
  have hb1 := fun V e => bound_any _ b x.scale _ x.weights V (h.mono e) (hr5.mono e)
  have hb2 := fun V e => rbound_any _ b x.scale _ x.weights V (h.mono e) (hr5.mono e)
  generalize boundB b x.scale x.weights = r at *
  obtain ⟨n, t, er⟩ := r
  have f0 := hB2.cell 0 _ rfl
  have f1 := hB2.cell 1 _ rfl
  have f2 := hB2.cell 2 _ rfl
  have f3 := hB2.cell 3 _ rfl
  have f4 := hB2.cell 4 _ rfl
  have f5 := hB2.cell 5 _ rfl
  have f6 := hB2.cell 6 _ rfl
  have c4 := hC2.cell 4 _ rfl
  have c5 := hC2.cell 5 _ rfl
  go_wp2_with fail
  refine (hb1 _ (ext_of_below hA2)).mono ?_
  rintro e w3 ⟨rfl, hx3⟩
  have hA3 := hA2.trans (hx3.mono hA2.size)
  have hB3 := hB2.below hx3 hB2.lt
  have hC3 := hC2.below hx3 hC2.lt
  clear hA2 hB2 hC2 hx3 f0 f1 f2 f3 f4 f5 f6 c4 c5
  have f0 := hB3.cell 0 _ rfl
  have f1 := hB3.cell 1 _ rfl
  have f2 := hB3.cell 2 _ rfl
  have f3 := hB3.cell 3 _ rfl
  have f4 := hB3.cell 4 _ rfl
  have f5 := hB3.cell 5 _ rfl
  have f6 := hB3.cell 6 _ rfl
  have c4 := hC3.cell 4 _ rfl
  have c5 := hC3.cell 5 _ rfl
  go_wp2_with fail
  refine (hb2 _ (ext_of_below hA3)).mono ?_
  rintro e w4 ⟨rfl, hx4⟩
  have hA4 := hA3.trans (hx4.mono hA3.size)
  clear hA3 hB3 hC3 hx4 f0 f1 f2 f3 f4 f5 f6 c4 c5 hb1 hb2
  go_wp2_with fail
  refine (lives_any _).mono ?_
  rintro e wl ⟨rfl, hbl⟩
  have hAl := hA4.trans (hbl.mono hA4.size)
  clear hbl
  go_wp2
  go_ret
  exact ⟨rfl, hAl⟩

end Go.Proofs.Ytnnkcbeadiembaa

namespace Go.Proofs.Ytnnkcbeadiembaa
open Go.ChangeShapes Go.WideShapes Go.ChangeAt Go.RowKit Go.PlainAid
set_option linter.unusedVariables false

set_option maxRecDepth 100000 in
theorem bounds_lifted (os : Os) (started : os.Started) (H : Type) (enc : TypeId × Value → H) :
    ReturnsInHanded {} Try.checked os 4 .any (Rows.batchBoundsSpec.pre6 enc Try.prog Try.f4 Rows.batchBoundsRow.domain false) (Rows.batchBoundsSpec.post enc Try.prog Try.f4 false true false false) := by
  refine returnsInHanded_of_change_sized (C := Try.checked) own started (by kernel_rfl) Try.func4
    (ChangeSpec.witness6 (enc := enc) (C := Try.checked) false ⟨#[], #[.agg #[.slice none 0 0, .slice none 0 0, .slice none 0 0, .slice none 0 0, .int .i64 0, .int .i64 0, .int .i64 0], .agg #[.slice none 0 0, .slice none 0 0, .int .i64 0, .int .i64 0, .int .i64 0, .slice none 0 0]], []⟩ 8 (by kernel_rfl) (by kernel_rfl) (by kernel_rfl) (by kernel_rfl)) ?_
  intro W base args ds gs before hval0 hW _ hsz0 _
  have hsz : (DataW.weightsEach Try.prog (Try.f4.params.toList ++ Rows.batchBoundsSpec.plain.varTypes Try.prog) (ds ++ gs)).all (· ≤ reachBytes) = true := hsz0
  clear hsz0
  have hval : ∀ (j : Nat) t v, Try.f4.params[j]? = some t → args[j]? = some v → Value.okWide Try.prog W .any base t v := hval0
  have hW' := hW
  obtain ⟨p, q, hA0, hV, rfl, _, _⟩ := hW
  have hA : DataW.TrodAll enc Try.prog W 0 (fun _ => true) true Try.f4.params.toList args.toList ds p := hA0
  rw [Try.params4] at hA hval hsz
  obtain ⟨v0, v1, d0, d1, p0, p1, rfl, rfl, rfl, h0, h1⟩ := trodAll_two hA
  obtain ⟨rfl, rfl⟩ := trodVars_none hV
  clear hA0 hval0
  simp only [List.append_nil] at hW'
  have hlt : ∀ x ∈ p0 ++ p1, x.block < W.heap.size := fun x hx => by simpa using hW'.lt x hx
  obtain ⟨cb, rfl, -⟩ := okWide_struct Try.underlying29 (hval 0 29 v0 rfl rfl)
  obtain ⟨cx, rfl, -⟩ := okWide_struct Try.underlying34 (hval 1 34 v1 rfl rfl)
  have t0 := h0
  have t1 := h1
  obtain ⟨n0, h0⟩ := h0
  obtain ⟨n1, h1⟩ := h1
  obtain ⟨b, hb⟩ := rd_bat _ _ _ h0 (light_of hsz (j := 0) rfl rfl)
  obtain ⟨x, hx⟩ := rd_ask _ _ _ h1 (light_of hsz (j := 1) rfl rfl)
  refine (bndLaw_any _ _ b x W (by simpa [Value.cells] using hb) (by simpa [Value.cells] using hx)).mono fun e W' ⟨he, hn⟩ => ?_
  subst he
  refine ⟨_, rfl, _, _, _, [], p0 ++ p1, [], hW', ?_, ?_, rfl, hn.frame _, fun h => by cases h⟩
  · exact trodAll_cons_mk (shut_bool Try.underlying4 _) trodAll_mk0
  · exact trodAll_mk2 (Below.trod laidOut (by kernel_rfl) (of_decide_eq_true (by kernel_rfl)) t0 hn (fun x hx => hlt x (List.mem_append_left _ hx))) (Below.trod laidOut (by kernel_rfl) (of_decide_eq_true (by kernel_rfl)) t1 hn (fun x hx => hlt x (List.mem_append_right _ hx)))

theorem batchBounds_proved : Rows.BatchBoundsSaid :=
  OpenClaim.holds_of_wide 4 Try.f4 rfl rfl rfl rfl rfl rfl rfl ⟨rfl, rfl, rfl, rfl, rfl⟩ rfl rfl rfl rfl rfl (by kernel_rfl) Try.func4 (by kernel_rfl)
    (of_decide_eq_true (by kernel_rfl)) (by unfold Func.isWrapper; first | (rw [if_pos (by decide +kernel)]; kernel_rfl) | (rw [if_neg (by decide +kernel)]; exact ⟨rfl, rfl⟩))
    (fun os started H enc _ => bounds_lifted os started H enc)

end Go.Proofs.Ytnnkcbeadiembaa
