/- What every statement's text of layer 5 leans on; no statement is proved here. -/
import Derived.Test.YtaldpalhckdcdaaGreatDoorSData
import Derived.WalkKit
import Derived.ProofKit
import Derived.SizedLaws
import Derived.JoinedCond
import Derived.LaidMore
import Derived.OpenShut
import Derived.Stop.Joined
import Derived.Test.YtaldpalhckdcdaaGreatDoorThick
namespace Go.Proofs.YtaldpalhckdcdaaGreatDoor
open Go.ChangeShapes Go.WideShapes Go.ChangeAt Go.RowKit Go.PlainAid
set_option linter.unusedVariables false
theorem own : ownKnob Tryz.prog.godebug = none := by kernel_rfl
theorem laidOut : laidOutB Tryz.prog = true := by kernel_rfl

theorem light_of {H : Type} {ts : List TypeId} {ds : List (DataW H)} (h : (DataW.weightsEach Tryz.prog ts ds).all (· ≤ reachBytes) = true) {j : Nat} {t : TypeId} {d : DataW H} (ht : ts[j]? = some t) (hd : ds[j]? = some d) : Light t d := by
  intro n hn
  have := List.all_eq_true.1 h n (DataW.weights_mem_each ht hd n hn)
  have := of_decide_eq_true this
  simpa [reachBytes] using this

def laidL : List (String × DataW Unit) := [("cullet/strength.lessThanCircle", Rows.laid_cullet_strength_lessThanCircle), ("cullet/strength.moreThanCircle", Rows.laid_cullet_strength_moreThanCircle)]
theorem gLess : Tryz.prog.globalNamed "cullet/strength.lessThanCircle" = some 1 := by kernel_rfl
theorem gMore : Tryz.prog.globalNamed "cullet/strength.moreThanCircle" = some 0 := by kernel_rfl
theorem tLess : (Tryz.prog.globals[1]?).map (·.type) = some 96 := by kernel_rfl
theorem tMore : (Tryz.prog.globals[0]?).map (·.type) = some 96 := by kernel_rfl

/-- The door's own heap meets the condition: three closed facts. -/
theorem door_met (os : Os) (args : Array Value) : laidMetH Tryz.prog laidL ((World.doorLaid Tryz.prog 400 os).forCall (fun _ _ => 0) ⟨#[], args, []⟩).memory :=
  laidMetH_of_parts3 (fuel := 8) (laidMet_of_run' 8 (by kernel_rfl) (by kernel_rfl)) (by kernel_rfl) (by kernel_rfl)

theorem quot_cells {H : Type} {enc : TypeId × Value → H} {W : World} {base : Nat} {spare : Nat → Bool} {held : Bool} {fuel : Nat} {cs : List Value} {x : DataW H × List MemPlace} {p q : Int}
    (h : DataW.trod enc Tryz.prog W base spare held fuel 96 cs = some x) (hx : x.1 = .agg [.lit (.int .i64 p), .lit (.int .i64 q)]) : cs = [.int .i64 p, .int .i64 q] := by
  obtain ⟨xs, n, rfl, rfl, hcl, hxl, hf⟩ := DataW.trod_struct Tryz.underlying96 h
  rw [show Tryz.prog.cellsOf 96 = 2 by kernel_rfl] at hcl
  obtain ⟨c0, c1, rfl⟩ := len2 hcl
  have h0 : DataW.trod enc Tryz.prog W base spare held n 3 (([c0, c1].drop 0).take (Tryz.prog.cellsOf 3)) = xs[0]? := hf 0 _ rfl
  have h1 : DataW.trod enc Tryz.prog W base spare held n 3 (([c0, c1].drop 1).take (Tryz.prog.cellsOf 3)) = xs[1]? := hf 1 _ rfl
  simp only [cells_int, List.drop_zero, List.drop_succ_cons, List.take_succ_cons, List.take_zero] at h0 h1
  have hl : xs.length = 2 := hxl
  obtain ⟨x0, x1, rfl⟩ := len2 hl
  simp only [List.getElem?_cons_zero, List.getElem?_cons_succ] at h0 h1
  simp only [List.map_cons, List.map_nil, DataW.agg.injEq, List.cons.injEq, and_true] at hx
  obtain ⟨a, ea, ea2, -⟩ := DataW.trod_int Tryz.underlying3 h0
  obtain ⟨b, eb, eb2, -⟩ := DataW.trod_int Tryz.underlying3 h1
  rw [ea2, eb2] at hx
  simp only [DataW.lit.injEq, Lit.int.injEq, true_and] at hx
  obtain ⟨rfl, rfl⟩ := hx
  simp only [List.cons.injEq, and_true] at ea eb
  rw [ea, eb]

/-- WHAT THE CONDITION GIVES: the circle's number from both sides. -/
theorem circ_of {W : World} (h : laidMetH Tryz.prog laidL W) : Circ W := by
  rw [MakeChecks.laidMetH_plain _ _ _ (by kernel_rfl)] at h
  obtain ⟨ps, ⟨g0, t0, cs0, f0, p0, q0, hg0, ht0, hv0, hd0, ⟨g1, t1, cs1, f1, p1, q1, hg1, ht1, hv1, hd1, _, _⟩, _⟩, _, _⟩ := h
  obtain rfl := Option.some.inj (gLess.symm.trans hg0)
  obtain rfl := Option.some.inj (gMore.symm.trans hg1)
  obtain rfl := Option.some.inj (tLess.symm.trans ht0)
  obtain rfl := Option.some.inj (tMore.symm.trans ht1)
  have e0 := quot_cells (p := 333) (q := 106) hd0 rfl
  have e1 := quot_cells (p := 355) (q := 113) hd1 rfl
  obtain ⟨l0⟩ := cs0
  obtain ⟨l1⟩ := cs1
  simp only at e0 e1
  subst e0 e1
  exact ⟨by simpa using World.var?_cell hg1 hv1 0, by simpa using World.var?_cell hg1 hv1 1, by simpa using World.var?_cell hg0 hv0 0, by simpa using World.var?_cell hg0 hv0 1⟩

end Go.Proofs.YtaldpalhckdcdaaGreatDoor
