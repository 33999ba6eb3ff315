/- What is proved: The statement PlanResults: what any plan pulls, makes, lacks and costs is told by the specification., and what was given reads as it did. Conditions: those of the row's form alone (each thing read takes less than 2^47 bytes); no domain, no premise of its own. -/
import Derived.Test.YtdffhkbncencgaaPlReL
import Derived.Test.YtdffhkbncencgaaPlForm
import Derived.Test.YtdffhkbncencgaaRows
namespace Go.Proofs.Ytdffhkbncencgaa
open Go.ChangeShapes Go.WideShapes Go.ChangeAt Go.RowKit Go.PlainAid
set_option linter.unusedVariables false

set_option maxRecDepth 100000 in
theorem planResults_lifted (os : Os) (started : os.Started) (H : Type) (enc : TypeId × Value → H) :
    ReturnsInHanded {} Try.checked os 4 .any (Rows.planResultsSpec.pre6 enc Try.prog Try.f4 Rows.planResultsRow.domain false) (Rows.planResultsSpec.post enc Try.prog Try.f4 false true false false) := by
  refine returnsInHanded_of_change_sized (C := Try.checked) own started (by kernel_rfl) Try.func4
    (ChangeSpec.witness6 (enc := enc) (C := Try.checked) false ⟨#[], #[.agg #[.int .i64 0, .slice none 0 0, .slice none 0 0, .slice none 0 0, .slice none 0 0, .slice none 0 0, .slice none 0 0], .agg #[.slice none 0 0, .slice none 0 0, .int .i64 0, .slice none 0 0]], []⟩ 8 (by kernel_rfl) (by kernel_rfl) (by kernel_rfl) (by kernel_rfl)) ?_
  intro W base args ds gs before hval0 hW _ hsz0 _
  have hsz : (DataW.weightsEach Try.prog (Try.f4.params.toList ++ Rows.planResultsSpec.plain.varTypes Try.prog) (ds ++ gs)).all (· ≤ reachBytes) = true := hsz0
  clear hsz0
  have hval : ∀ (j : Nat) t v, Try.f4.params[j]? = some t → args[j]? = some v → Value.okWide Try.prog W .any base t v := hval0
  have hW' := hW
  obtain ⟨p, q, hA0, hV, rfl, _, _⟩ := hW
  have hA : DataW.TrodAll enc Try.prog W 0 (fun _ => true) true Try.f4.params.toList args.toList ds p := hA0
  rw [Try.params4] at hA hval hsz
  obtain ⟨v0, v1, d0, d1, p0, p1, rfl, rfl, rfl, h0, h1⟩ := trodAll_two hA
  obtain ⟨rfl, rfl⟩ := trodVars_none hV
  clear hA0 hval0
  simp only [List.append_nil] at hW'
  have hlt : ∀ x ∈ p0 ++ p1, x.block < W.heap.size := fun x hx => hW'.lt x (by simpa only [List.append_assoc, List.append_nil] using hx)
  obtain ⟨c0, rfl, -⟩ := okWide_struct Try.underlying28 (hval 0 28 v0 rfl rfl)
  obtain ⟨c1, rfl, -⟩ := okWide_struct Try.underlying32 (hval 1 32 v1 rfl rfl)
  have t0 := h0
  have t1 := h1
  obtain ⟨n0, h0⟩ := h0
  obtain ⟨n1, h1⟩ := h1
  obtain ⟨y0, u1, u2, u3, u4, u5, u6, e0, r0⟩ := rd_season _ _ _ h0 (light_of hsz (j := 0) rfl rfl)
  obtain ⟨y1, z0, z1, z3, e1, r1⟩ := rd_ask8 _ _ _ h1 (light_of hsz (j := 1) rfl rfl)
  obtain rfl : c0 = #[.int .i64 y0.days, u1, u2, u3, u4, u5, u6] := by cases c0; simpa [Value.cells] using e0
  obtain rfl : c1 = #[z0, z1, .int .i64 y1.oven, z3] := by cases c1; simpa [Value.cells] using e1
  obtain ⟨d, ⟨rfl, rfl, rfl, rfl, rfl, rfl⟩, r0⟩ := r0.open
  refine (fResultsLaw_any y0 d y1 _ _ _ W r0 r1).mono fun e W' ⟨he, hn⟩ => ?_
  subst he
  refine ⟨_, rfl, _, _, _, [], p0 ++ p1, [], hW', ?_, ?_, rfl, hn.frame _, fun h => by cases h⟩
  · exact trodAll_cons_mk (shut_bool Try.underlying4 _) trodAll_mk0
  · exact trodAll_mk2 (Below.trod laidOut (by kernel_rfl) (of_decide_eq_true (by kernel_rfl)) t0 hn (fun x hx => hlt x (List.mem_append_left _ hx))) (Below.trod laidOut (by kernel_rfl) (of_decide_eq_true (by kernel_rfl)) t1 hn (fun x hx => hlt x (List.mem_append_right _ hx)))

theorem planResults_proved : Rows.PlanResultsSaid :=
  OpenClaim.holds_of_wide 4 Try.f4 rfl rfl rfl rfl rfl rfl rfl ⟨rfl, rfl, rfl, rfl, rfl⟩ rfl rfl rfl rfl rfl (by kernel_rfl) Try.func4 (by kernel_rfl)
    (of_decide_eq_true (by kernel_rfl)) (by unfold Func.isWrapper; first | (rw [if_pos (by decide +kernel)]; kernel_rfl) | (rw [if_neg (by decide +kernel)]; exact ⟨rfl, rfl⟩))
    (fun os started H enc _ => planResults_lifted os started H enc)

end Go.Proofs.Ytdffhkbncencgaa
