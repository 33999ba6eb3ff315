/-
  NARROWER THAN 'FOR EVERY INPUT', by the rows' own cells (each row's printed sentence says how): StrengthLehrs: laid · StrengthShocks: laid · StrengthSlower: laid · StrengthRecipes: laid · StrengthStresses: laid · StrengthChecks: laid.
  DERIVED. THE GIVEN ROWS OF THIS SEAT. 6 by the template 'for every input the law returns true; each argument reads behind the call as it read before'; 0 by the template 'total and deterministic' (their statements: YtmmlocjiegkjeaaDoorTotals.lean).
  GIVEN WITH THE SEED: the statements are not yours to turn. If you find one false, say at which input.
  Laid BY PROGRAM, IN A SANDBOX (cutbox-rows.mjs): the forced cells as the released guide's own fill.sh prints them over the translation ad0daca733bbef2c… (all of the seat's roots in one cut). By AI agents, Wed Nov 11 2026. No macro, syntax, notation, axiom, sorry.
-/
import Derived.Test.YtmmlocjiegkjeaaDoorChecked
import GoSem.Claim
import GoSem.ClaimJoined
import GoSem.ClaimMapViews
import Derived.JoinedTies
import Derived.KernelRfl
namespace Go.Proofs.YtmmlocjiegkjeaaDoor
/- THE CELL 'sum', in the pinned program and in every row, IS THE sha256 OF THE DUMP (.gsa) THAT YtmmlocjiegkjeaaDoorProg.lean LOADS. Nothing in Lean hashes anything: it is a label: what it is worth is what the hold of that sum in a sandbox is worth. -/
noncomputable def Tryd.pinned : Pinned := { name := "ytmmlocjiegkjeaadoor", sum := "ad0daca733bbef2c48a86f3743fb1d015ed03d15936fcea8f7be55babfd2095a", checked := Tryd.checked }
namespace Rows
def none {H : Type} : Left H := { results := [], args := [] }

/- WHAT THE LISTED PACKAGE-LEVEL VARIABLES READ AS WHEN THE CALL BEGINS. Each datum BY PROGRAM (the guide's laid-datum.mjs) off the statement by which the dump's own 'gosem.cut.vars' lays the variable. In a bare row this is a premise. The card (YtmmlocjiegkjeaaDoorCards.lean) ties it to the program's text. -/
def laid_cullet_strength_lessThanCircle {H : Type} : DataW H := .agg [.lit (.int .i64 333), .lit (.int .i64 106)]
def laid_cullet_strength_moreThanCircle {H : Type} : DataW H := .agg [.lit (.int .i64 355), .lit (.int .i64 113)]

/-- 'culletlaw05.StrengthLehrs': WHATEVER THE INPUT: true; the input reads as it did. -/
def strengthLehrsSpec : ChangeSpec := { name := "strengthLehrs", fn := fun _ => fun
  | [d1, d2] => { results := [.lit (.bool true)], args := [d1, d2] }
  | _ => none }
def strengthLehrsRow : OpenClaim := { program := "ytmmlocjiegkjeaadoor", sum := "ad0daca733bbef2c48a86f3743fb1d015ed03d15936fcea8f7be55babfd2095a", func := "cullet/culletlaw05.StrengthLehrs", spec := "strengthLehrs", unfollowed := true, recurses := true, named := ["cullet/strength.moreThanCircle", "cullet/strength.lessThanCircle"], apart := false, laid := [("cullet/strength.lessThanCircle", laid_cullet_strength_lessThanCircle), ("cullet/strength.moreThanCircle", laid_cullet_strength_moreThanCircle)] }
def StrengthLehrsSaid : Prop := strengthLehrsRow.holds Tryd.pinned (OpenSpec.ofChange strengthLehrsSpec)

/-- ITS FALSE NEIGHBOUR: 'it returns false'. Refute it at one input. -/
def strengthLehrsWrong : ChangeSpec := { name := "strengthLehrs", fn := fun _ => fun
  | [d1, d2] => { results := [.lit (.bool false)], args := [d1, d2] }
  | _ => none }
def StrengthLehrsWrongFalsely : Prop := strengthLehrsRow.holds Tryd.pinned (OpenSpec.ofChange strengthLehrsWrong)

/-- 'culletlaw05.StrengthShocks': WHATEVER THE INPUT: true; the input reads as it did. -/
def strengthShocksSpec : ChangeSpec := { name := "strengthShocks", fn := fun _ => fun
  | [d1, d2, d3] => { results := [.lit (.bool true)], args := [d1, d2, d3] }
  | _ => none }
def strengthShocksRow : OpenClaim := { program := "ytmmlocjiegkjeaadoor", sum := "ad0daca733bbef2c48a86f3743fb1d015ed03d15936fcea8f7be55babfd2095a", func := "cullet/culletlaw05.StrengthShocks", spec := "strengthShocks", unfollowed := true, recurses := true, named := ["cullet/strength.moreThanCircle", "cullet/strength.lessThanCircle"], apart := false, laid := [("cullet/strength.lessThanCircle", laid_cullet_strength_lessThanCircle), ("cullet/strength.moreThanCircle", laid_cullet_strength_moreThanCircle)] }
def StrengthShocksSaid : Prop := strengthShocksRow.holds Tryd.pinned (OpenSpec.ofChange strengthShocksSpec)

/-- ITS FALSE NEIGHBOUR: 'it returns false'. Refute it at one input. -/
def strengthShocksWrong : ChangeSpec := { name := "strengthShocks", fn := fun _ => fun
  | [d1, d2, d3] => { results := [.lit (.bool false)], args := [d1, d2, d3] }
  | _ => none }
def StrengthShocksWrongFalsely : Prop := strengthShocksRow.holds Tryd.pinned (OpenSpec.ofChange strengthShocksWrong)

/-- 'culletlaw05.StrengthSlower': WHATEVER THE INPUT: true; the input reads as it did. -/
def strengthSlowerSpec : ChangeSpec := { name := "strengthSlower", fn := fun _ => fun
  | [d1, d2, d3] => { results := [.lit (.bool true)], args := [d1, d2, d3] }
  | _ => none }
def strengthSlowerRow : OpenClaim := { program := "ytmmlocjiegkjeaadoor", sum := "ad0daca733bbef2c48a86f3743fb1d015ed03d15936fcea8f7be55babfd2095a", func := "cullet/culletlaw05.StrengthSlower", spec := "strengthSlower", unfollowed := true, recurses := true, named := ["cullet/strength.moreThanCircle", "cullet/strength.lessThanCircle"], apart := false, laid := [("cullet/strength.lessThanCircle", laid_cullet_strength_lessThanCircle), ("cullet/strength.moreThanCircle", laid_cullet_strength_moreThanCircle)] }
def StrengthSlowerSaid : Prop := strengthSlowerRow.holds Tryd.pinned (OpenSpec.ofChange strengthSlowerSpec)

/-- ITS FALSE NEIGHBOUR: 'it returns false'. Refute it at one input. -/
def strengthSlowerWrong : ChangeSpec := { name := "strengthSlower", fn := fun _ => fun
  | [d1, d2, d3] => { results := [.lit (.bool false)], args := [d1, d2, d3] }
  | _ => none }
def StrengthSlowerWrongFalsely : Prop := strengthSlowerRow.holds Tryd.pinned (OpenSpec.ofChange strengthSlowerWrong)

/-- 'culletlaw05.StrengthRecipes': WHATEVER THE INPUT: true; the input reads as it did. -/
def strengthRecipesSpec : ChangeSpec := { name := "strengthRecipes", fn := fun _ => fun
  | [d1, d2, d3] => { results := [.lit (.bool true)], args := [d1, d2, d3] }
  | _ => none }
def strengthRecipesRow : OpenClaim := { program := "ytmmlocjiegkjeaadoor", sum := "ad0daca733bbef2c48a86f3743fb1d015ed03d15936fcea8f7be55babfd2095a", func := "cullet/culletlaw05.StrengthRecipes", spec := "strengthRecipes", unfollowed := true, recurses := true, named := ["cullet/strength.moreThanCircle", "cullet/strength.lessThanCircle"], apart := false, laid := [("cullet/strength.lessThanCircle", laid_cullet_strength_lessThanCircle), ("cullet/strength.moreThanCircle", laid_cullet_strength_moreThanCircle)] }
def StrengthRecipesSaid : Prop := strengthRecipesRow.holds Tryd.pinned (OpenSpec.ofChange strengthRecipesSpec)

/-- ITS FALSE NEIGHBOUR: 'it returns false'. Refute it at one input. -/
def strengthRecipesWrong : ChangeSpec := { name := "strengthRecipes", fn := fun _ => fun
  | [d1, d2, d3] => { results := [.lit (.bool false)], args := [d1, d2, d3] }
  | _ => none }
def StrengthRecipesWrongFalsely : Prop := strengthRecipesRow.holds Tryd.pinned (OpenSpec.ofChange strengthRecipesWrong)

/-- 'culletlaw05.StrengthStresses': WHATEVER THE INPUT: true; the input reads as it did. -/
def strengthStressesSpec : ChangeSpec := { name := "strengthStresses", fn := fun _ => fun
  | [d1, d2] => { results := [.lit (.bool true)], args := [d1, d2] }
  | _ => none }
def strengthStressesRow : OpenClaim := { program := "ytmmlocjiegkjeaadoor", sum := "ad0daca733bbef2c48a86f3743fb1d015ed03d15936fcea8f7be55babfd2095a", func := "cullet/culletlaw05.StrengthStresses", spec := "strengthStresses", unfollowed := true, recurses := true, named := ["cullet/strength.moreThanCircle", "cullet/strength.lessThanCircle"], apart := false, laid := [("cullet/strength.lessThanCircle", laid_cullet_strength_lessThanCircle), ("cullet/strength.moreThanCircle", laid_cullet_strength_moreThanCircle)] }
def StrengthStressesSaid : Prop := strengthStressesRow.holds Tryd.pinned (OpenSpec.ofChange strengthStressesSpec)

/-- ITS FALSE NEIGHBOUR: 'it returns false'. Refute it at one input. -/
def strengthStressesWrong : ChangeSpec := { name := "strengthStresses", fn := fun _ => fun
  | [d1, d2] => { results := [.lit (.bool false)], args := [d1, d2] }
  | _ => none }
def StrengthStressesWrongFalsely : Prop := strengthStressesRow.holds Tryd.pinned (OpenSpec.ofChange strengthStressesWrong)

/-- 'culletlaw05.StrengthChecks': WHATEVER THE INPUT: true; the input reads as it did. -/
def strengthChecksSpec : ChangeSpec := { name := "strengthChecks", fn := fun _ => fun
  | [d1, d2] => { results := [.lit (.bool true)], args := [d1, d2] }
  | _ => none }
def strengthChecksRow : OpenClaim := { program := "ytmmlocjiegkjeaadoor", sum := "ad0daca733bbef2c48a86f3743fb1d015ed03d15936fcea8f7be55babfd2095a", func := "cullet/culletlaw05.StrengthChecks", spec := "strengthChecks", unfollowed := true, recurses := true, named := ["cullet/strength.moreThanCircle", "cullet/strength.lessThanCircle"], apart := false, laid := [("cullet/strength.lessThanCircle", laid_cullet_strength_lessThanCircle), ("cullet/strength.moreThanCircle", laid_cullet_strength_moreThanCircle)] }
def StrengthChecksSaid : Prop := strengthChecksRow.holds Tryd.pinned (OpenSpec.ofChange strengthChecksSpec)

/-- ITS FALSE NEIGHBOUR: 'it returns false'. Refute it at one input. -/
def strengthChecksWrong : ChangeSpec := { name := "strengthChecks", fn := fun _ => fun
  | [d1, d2] => { results := [.lit (.bool false)], args := [d1, d2] }
  | _ => none }
def StrengthChecksWrongFalsely : Prop := strengthChecksRow.holds Tryd.pinned (OpenSpec.ofChange strengthChecksWrong)

/- THE SECOND FORM. 'bulk': how many values and letters a reading holds, each counted each time it is reached (what is shared counts as often as it is met; a slice's spare places count too). A statement '..UptoSaid' is the law's where the arguments, and the package variables that the reading takes, are together of bulk at most 1048576: NARROWER than '..Said'. Prove '..Said' where nothing that the law and all that it calls make is longer than what came in: it says more and counts as full. Else prove '..UptoSaid'. A law counts once. -/
mutual
def uptoBulk {H : Type} : DataW H → Nat
  | .lit (.string bytes) => bytes.length + 1
  | .lit _ => 1
  | .nil => 1
  | .ptr d => uptoBulk d + 1
  | .slice elems spare => uptoBulkAll elems + uptoBulkAll spare + 1
  | .agg parts => uptoBulkAll parts + 1
  | .iface _ d => uptoBulk d + 1
  | .map entries => uptoBulkEntries entries + 1
  | .held _ => 1
def uptoBulkAll {H : Type} : List (DataW H) → Nat
  | [] => 0
  | d :: r => uptoBulk d + uptoBulkAll r
def uptoBulkEntries {H : Type} : List (Lit × DataW H) → Nat
  | [] => 0
  | x :: r => uptoBulkEntry x + uptoBulkEntries r
def uptoBulkEntry {H : Type} : Lit × DataW H → Nat
  | (.string bytes, d) => bytes.length + uptoBulk d + 1
  | (_, d) => uptoBulk d + 1
 end
def uptoSmall : (H : Type) → List (DataW H) → Bool := fun _ ds => decide (uptoBulkAll ds ≤ 1048576)
def OpenSpec.upto (s : _root_.Go.ChangeSpec) : _root_.Go.OpenSpec := { _root_.Go.OpenSpec.ofChange s with cond := some uptoSmall }

/-- 'culletlaw05.StrengthLehrs', WHERE WHAT IT READS IS OF BULK AT MOST 1048576: true; the input reads as it did. -/
def strengthLehrsUptoRow : OpenClaim := { program := "ytmmlocjiegkjeaadoor", sum := "ad0daca733bbef2c48a86f3743fb1d015ed03d15936fcea8f7be55babfd2095a", func := "cullet/culletlaw05.StrengthLehrs", spec := "strengthLehrs", unfollowed := true, recurses := true, named := ["cullet/strength.moreThanCircle", "cullet/strength.lessThanCircle"], apart := false, laid := [("cullet/strength.lessThanCircle", laid_cullet_strength_lessThanCircle), ("cullet/strength.moreThanCircle", laid_cullet_strength_moreThanCircle)], narrowed := true }
def StrengthLehrsUptoSaid : Prop := strengthLehrsUptoRow.holds Tryd.pinned (OpenSpec.upto strengthLehrsSpec)

/-- 'culletlaw05.StrengthShocks', WHERE WHAT IT READS IS OF BULK AT MOST 1048576: true; the input reads as it did. -/
def strengthShocksUptoRow : OpenClaim := { program := "ytmmlocjiegkjeaadoor", sum := "ad0daca733bbef2c48a86f3743fb1d015ed03d15936fcea8f7be55babfd2095a", func := "cullet/culletlaw05.StrengthShocks", spec := "strengthShocks", unfollowed := true, recurses := true, named := ["cullet/strength.moreThanCircle", "cullet/strength.lessThanCircle"], apart := false, laid := [("cullet/strength.lessThanCircle", laid_cullet_strength_lessThanCircle), ("cullet/strength.moreThanCircle", laid_cullet_strength_moreThanCircle)], narrowed := true }
def StrengthShocksUptoSaid : Prop := strengthShocksUptoRow.holds Tryd.pinned (OpenSpec.upto strengthShocksSpec)

/-- 'culletlaw05.StrengthSlower', WHERE WHAT IT READS IS OF BULK AT MOST 1048576: true; the input reads as it did. -/
def strengthSlowerUptoRow : OpenClaim := { program := "ytmmlocjiegkjeaadoor", sum := "ad0daca733bbef2c48a86f3743fb1d015ed03d15936fcea8f7be55babfd2095a", func := "cullet/culletlaw05.StrengthSlower", spec := "strengthSlower", unfollowed := true, recurses := true, named := ["cullet/strength.moreThanCircle", "cullet/strength.lessThanCircle"], apart := false, laid := [("cullet/strength.lessThanCircle", laid_cullet_strength_lessThanCircle), ("cullet/strength.moreThanCircle", laid_cullet_strength_moreThanCircle)], narrowed := true }
def StrengthSlowerUptoSaid : Prop := strengthSlowerUptoRow.holds Tryd.pinned (OpenSpec.upto strengthSlowerSpec)

/-- 'culletlaw05.StrengthRecipes', WHERE WHAT IT READS IS OF BULK AT MOST 1048576: true; the input reads as it did. -/
def strengthRecipesUptoRow : OpenClaim := { program := "ytmmlocjiegkjeaadoor", sum := "ad0daca733bbef2c48a86f3743fb1d015ed03d15936fcea8f7be55babfd2095a", func := "cullet/culletlaw05.StrengthRecipes", spec := "strengthRecipes", unfollowed := true, recurses := true, named := ["cullet/strength.moreThanCircle", "cullet/strength.lessThanCircle"], apart := false, laid := [("cullet/strength.lessThanCircle", laid_cullet_strength_lessThanCircle), ("cullet/strength.moreThanCircle", laid_cullet_strength_moreThanCircle)], narrowed := true }
def StrengthRecipesUptoSaid : Prop := strengthRecipesUptoRow.holds Tryd.pinned (OpenSpec.upto strengthRecipesSpec)

/-- 'culletlaw05.StrengthStresses', WHERE WHAT IT READS IS OF BULK AT MOST 1048576: true; the input reads as it did. -/
def strengthStressesUptoRow : OpenClaim := { program := "ytmmlocjiegkjeaadoor", sum := "ad0daca733bbef2c48a86f3743fb1d015ed03d15936fcea8f7be55babfd2095a", func := "cullet/culletlaw05.StrengthStresses", spec := "strengthStresses", unfollowed := true, recurses := true, named := ["cullet/strength.moreThanCircle", "cullet/strength.lessThanCircle"], apart := false, laid := [("cullet/strength.lessThanCircle", laid_cullet_strength_lessThanCircle), ("cullet/strength.moreThanCircle", laid_cullet_strength_moreThanCircle)], narrowed := true }
def StrengthStressesUptoSaid : Prop := strengthStressesUptoRow.holds Tryd.pinned (OpenSpec.upto strengthStressesSpec)

/-- 'culletlaw05.StrengthChecks', WHERE WHAT IT READS IS OF BULK AT MOST 1048576: true; the input reads as it did. -/
def strengthChecksUptoRow : OpenClaim := { program := "ytmmlocjiegkjeaadoor", sum := "ad0daca733bbef2c48a86f3743fb1d015ed03d15936fcea8f7be55babfd2095a", func := "cullet/culletlaw05.StrengthChecks", spec := "strengthChecks", unfollowed := true, recurses := true, named := ["cullet/strength.moreThanCircle", "cullet/strength.lessThanCircle"], apart := false, laid := [("cullet/strength.lessThanCircle", laid_cullet_strength_lessThanCircle), ("cullet/strength.moreThanCircle", laid_cullet_strength_moreThanCircle)], narrowed := true }
def StrengthChecksUptoSaid : Prop := strengthChecksUptoRow.holds Tryd.pinned (OpenSpec.upto strengthChecksSpec)

end Rows
end Go.Proofs.YtmmlocjiegkjeaaDoor
