/- What every statement's text leans on; no statement is proved here. -/
import Derived.Test.YtpkggjfaefkiiaaOpen2
import Derived.WalkKit
import Derived.ProofKit
import Derived.SizedLaws
import Derived.JoinedCond
namespace Go.Proofs.Ytpkggjfaefkiiaa
open Go.ChangeShapes Go.WideShapes Go.ChangeAt Go.RowKit Go.PlainAid
set_option linter.unusedVariables false

theorem asks {w : World} {a0 a1 a5 : Option Addr} {k0 k1 k5 : Nat} {x : Ask} (h : RAsk w (.agg #[.slice a0 x.recipe.length k0, .slice a1 x.other.length k1, .int .i64 x.property, .int .i64 x.lots, .int .i64 x.scale, .slice a5 x.weights.length k5]) x) :
    RInts w (.slice a0 x.recipe.length k0) x.recipe ∧ RInts w (.slice a1 x.other.length k1) x.other ∧ RInts w (.slice a5 x.weights.length k5) x.weights := by
  obtain ⟨v0, v1, v5, e, h2, h3, h4, h5⟩ := h
  simp only [Value.agg.injEq, Array.mk.injEq, List.cons.injEq, and_true] at e
  obtain ⟨rfl, rfl, -, -, -, rfl⟩ := e
  exact ⟨h2, h3, h4⟩

def TrueB (w : World) (e : Ending) (w' : World) : Prop := e = .returned (.bool true) ∧ Below w.heap.size w w'

theorem own : ownKnob Try.prog.godebug = none := by kernel_rfl
theorem laidOut : laidOutB Try.prog = true := by kernel_rfl

theorem light_of {H : Type} {ts : List TypeId} {ds : List (DataW H)} (h : (DataW.weightsEach Try.prog ts ds).all (· ≤ reachBytes) = true) {j : Nat} {t : TypeId} {d : DataW H} (ht : ts[j]? = some t) (hd : ds[j]? = some d) : Light t d := by
  intro n hn
  have := List.all_eq_true.1 h n (DataW.weights_mem_each ht hd n hn)
  have := of_decide_eq_true this
  simpa [reachBytes] using this


end Go.Proofs.Ytpkggjfaefkiiaa
