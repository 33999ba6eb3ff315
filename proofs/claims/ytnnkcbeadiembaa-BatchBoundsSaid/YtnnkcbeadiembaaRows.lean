/-
  No cell of these rows narrows 'for every input' (looked for: loops, veiled, ifaces, maps, wideKeys, modest, calm, conditions, laid).
  DERIVED. THE GIVEN ROWS OF THIS SEAT. 5 by the template 'for every input the law returns true; each argument reads behind the call as it read before'; 0 by the template 'total and deterministic' (their statements: YtnnkcbeadiembaaTotals.lean).
  GIVEN WITH THE SEED: the statements are not yours to turn. If you find one false, say at which input.
  Laid BY PROGRAM, IN A SANDBOX (cutbox-rows.mjs): the forced cells as the released guide's own fill.sh prints them over the translation 88dae89bedb6ba7f… (all of the seat's roots in one cut). By AI agents, Wed Nov 11 2026. No macro, syntax, notation, axiom, sorry.
-/
import Derived.Test.YtnnkcbeadiembaaChecked
import GoSem.Claim
import GoSem.ClaimJoined
import GoSem.ClaimMapViews
import Derived.JoinedTies
import Derived.KernelRfl
namespace Go.Proofs.Ytnnkcbeadiembaa
/- THE CELL 'sum', in the pinned program and in every row, IS THE sha256 OF THE DUMP (.gsa) THAT YtnnkcbeadiembaaProg.lean LOADS. Nothing in Lean hashes anything: it is a label: what it is worth is what the hold of that sum in a sandbox is worth. -/
noncomputable def Try.pinned : Pinned := { name := "ytnnkcbeadiembaa", sum := "88dae89bedb6ba7f6a1fad8c55d7ddda4e2879c8912102388621cc63359eff31", checked := Try.checked }
namespace Rows
def none {H : Type} : Left H := { results := [], args := [] }

/-- 'culletlaw01.BatchBests': WHATEVER THE INPUT: true; the input reads as it did. -/
def batchBestsSpec : ChangeSpec := { name := "batchBests", fn := fun _ => fun
  | [d1, d2] => { results := [.lit (.bool true)], args := [d1, d2] }
  | _ => none }
def batchBestsRow : OpenClaim := { program := "ytnnkcbeadiembaa", sum := "88dae89bedb6ba7f6a1fad8c55d7ddda4e2879c8912102388621cc63359eff31", func := "cullet/culletlaw01.BatchBests", spec := "batchBests", unfollowed := true, recurses := true, apart := false }
def BatchBestsSaid : Prop := batchBestsRow.holds Try.pinned (OpenSpec.ofChange batchBestsSpec)

/-- ITS FALSE NEIGHBOUR: 'it returns false'. Refute it at one input. -/
def batchBestsWrong : ChangeSpec := { name := "batchBests", fn := fun _ => fun
  | [d1, d2] => { results := [.lit (.bool false)], args := [d1, d2] }
  | _ => none }
def BatchBestsWrongFalsely : Prop := batchBestsRow.holds Try.pinned (OpenSpec.ofChange batchBestsWrong)

/-- 'culletlaw01.BatchBounds': WHATEVER THE INPUT: true; the input reads as it did. -/
def batchBoundsSpec : ChangeSpec := { name := "batchBounds", fn := fun _ => fun
  | [d1, d2] => { results := [.lit (.bool true)], args := [d1, d2] }
  | _ => none }
def batchBoundsRow : OpenClaim := { program := "ytnnkcbeadiembaa", sum := "88dae89bedb6ba7f6a1fad8c55d7ddda4e2879c8912102388621cc63359eff31", func := "cullet/culletlaw01.BatchBounds", spec := "batchBounds", unfollowed := true, recurses := true, apart := false }
def BatchBoundsSaid : Prop := batchBoundsRow.holds Try.pinned (OpenSpec.ofChange batchBoundsSpec)

/-- ITS FALSE NEIGHBOUR: 'it returns false'. Refute it at one input. -/
def batchBoundsWrong : ChangeSpec := { name := "batchBounds", fn := fun _ => fun
  | [d1, d2] => { results := [.lit (.bool false)], args := [d1, d2] }
  | _ => none }
def BatchBoundsWrongFalsely : Prop := batchBoundsRow.holds Try.pinned (OpenSpec.ofChange batchBoundsWrong)

/-- 'culletlaw01.BatchInside': WHATEVER THE INPUT: true; the input reads as it did. -/
def batchInsideSpec : ChangeSpec := { name := "batchInside", fn := fun _ => fun
  | [d1, d2, d3] => { results := [.lit (.bool true)], args := [d1, d2, d3] }
  | _ => none }
def batchInsideRow : OpenClaim := { program := "ytnnkcbeadiembaa", sum := "88dae89bedb6ba7f6a1fad8c55d7ddda4e2879c8912102388621cc63359eff31", func := "cullet/culletlaw01.BatchInside", spec := "batchInside", unfollowed := true, recurses := true, apart := false }
def BatchInsideSaid : Prop := batchInsideRow.holds Try.pinned (OpenSpec.ofChange batchInsideSpec)

/-- ITS FALSE NEIGHBOUR: 'it returns false'. Refute it at one input. -/
def batchInsideWrong : ChangeSpec := { name := "batchInside", fn := fun _ => fun
  | [d1, d2, d3] => { results := [.lit (.bool false)], args := [d1, d2, d3] }
  | _ => none }
def BatchInsideWrongFalsely : Prop := batchInsideRow.holds Try.pinned (OpenSpec.ofChange batchInsideWrong)

/-- 'culletlaw01.BatchProved': WHATEVER THE INPUT: true; the input reads as it did. -/
def batchProvedSpec : ChangeSpec := { name := "batchProved", fn := fun _ => fun
  | [d1, d2] => { results := [.lit (.bool true)], args := [d1, d2] }
  | _ => none }
def batchProvedRow : OpenClaim := { program := "ytnnkcbeadiembaa", sum := "88dae89bedb6ba7f6a1fad8c55d7ddda4e2879c8912102388621cc63359eff31", func := "cullet/culletlaw01.BatchProved", spec := "batchProved", unfollowed := true, recurses := true, apart := false }
def BatchProvedSaid : Prop := batchProvedRow.holds Try.pinned (OpenSpec.ofChange batchProvedSpec)

/-- ITS FALSE NEIGHBOUR: 'it returns false'. Refute it at one input. -/
def batchProvedWrong : ChangeSpec := { name := "batchProved", fn := fun _ => fun
  | [d1, d2] => { results := [.lit (.bool false)], args := [d1, d2] }
  | _ => none }
def BatchProvedWrongFalsely : Prop := batchProvedRow.holds Try.pinned (OpenSpec.ofChange batchProvedWrong)

/-- 'culletlaw01.BatchCheapest': WHATEVER THE INPUT: true; the input reads as it did. -/
def batchCheapestSpec : ChangeSpec := { name := "batchCheapest", fn := fun _ => fun
  | [d1, d2] => { results := [.lit (.bool true)], args := [d1, d2] }
  | _ => none }
def batchCheapestRow : OpenClaim := { program := "ytnnkcbeadiembaa", sum := "88dae89bedb6ba7f6a1fad8c55d7ddda4e2879c8912102388621cc63359eff31", func := "cullet/culletlaw01.BatchCheapest", spec := "batchCheapest", unfollowed := true, recurses := true, apart := false }
def BatchCheapestSaid : Prop := batchCheapestRow.holds Try.pinned (OpenSpec.ofChange batchCheapestSpec)

/-- ITS FALSE NEIGHBOUR: 'it returns false'. Refute it at one input. -/
def batchCheapestWrong : ChangeSpec := { name := "batchCheapest", fn := fun _ => fun
  | [d1, d2] => { results := [.lit (.bool false)], args := [d1, d2] }
  | _ => none }
def BatchCheapestWrongFalsely : Prop := batchCheapestRow.holds Try.pinned (OpenSpec.ofChange batchCheapestWrong)

/- THE SECOND FORM. 'bulk': how many values and letters a reading holds, each counted each time it is reached (what is shared counts as often as it is met; a slice's spare places count too). A statement '..UptoSaid' is the law's where the arguments, and the package variables that the reading takes, are together of bulk at most 1048576: NARROWER than '..Said'. Prove '..Said' where nothing that the law and all that it calls make is longer than what came in: it says more and counts as full. Else prove '..UptoSaid'. A law counts once. -/
mutual
def uptoBulk {H : Type} : DataW H → Nat
  | .lit (.string bytes) => bytes.length + 1
  | .lit _ => 1
  | .nil => 1
  | .ptr d => uptoBulk d + 1
  | .slice elems spare => uptoBulkAll elems + uptoBulkAll spare + 1
  | .agg parts => uptoBulkAll parts + 1
  | .iface _ d => uptoBulk d + 1
  | .map entries => uptoBulkEntries entries + 1
  | .held _ => 1
def uptoBulkAll {H : Type} : List (DataW H) → Nat
  | [] => 0
  | d :: r => uptoBulk d + uptoBulkAll r
def uptoBulkEntries {H : Type} : List (Lit × DataW H) → Nat
  | [] => 0
  | x :: r => uptoBulkEntry x + uptoBulkEntries r
def uptoBulkEntry {H : Type} : Lit × DataW H → Nat
  | (.string bytes, d) => bytes.length + uptoBulk d + 1
  | (_, d) => uptoBulk d + 1
 end
def uptoSmall : (H : Type) → List (DataW H) → Bool := fun _ ds => decide (uptoBulkAll ds ≤ 1048576)
def OpenSpec.upto (s : _root_.Go.ChangeSpec) : _root_.Go.OpenSpec := { _root_.Go.OpenSpec.ofChange s with cond := some uptoSmall }

/-- 'culletlaw01.BatchBests', WHERE WHAT IT READS IS OF BULK AT MOST 1048576: true; the input reads as it did. -/
def batchBestsUptoRow : OpenClaim := { program := "ytnnkcbeadiembaa", sum := "88dae89bedb6ba7f6a1fad8c55d7ddda4e2879c8912102388621cc63359eff31", func := "cullet/culletlaw01.BatchBests", spec := "batchBests", unfollowed := true, recurses := true, apart := false, narrowed := true }
def BatchBestsUptoSaid : Prop := batchBestsUptoRow.holds Try.pinned (OpenSpec.upto batchBestsSpec)

/-- 'culletlaw01.BatchBounds', WHERE WHAT IT READS IS OF BULK AT MOST 1048576: true; the input reads as it did. -/
def batchBoundsUptoRow : OpenClaim := { program := "ytnnkcbeadiembaa", sum := "88dae89bedb6ba7f6a1fad8c55d7ddda4e2879c8912102388621cc63359eff31", func := "cullet/culletlaw01.BatchBounds", spec := "batchBounds", unfollowed := true, recurses := true, apart := false, narrowed := true }
def BatchBoundsUptoSaid : Prop := batchBoundsUptoRow.holds Try.pinned (OpenSpec.upto batchBoundsSpec)

/-- 'culletlaw01.BatchInside', WHERE WHAT IT READS IS OF BULK AT MOST 1048576: true; the input reads as it did. -/
def batchInsideUptoRow : OpenClaim := { program := "ytnnkcbeadiembaa", sum := "88dae89bedb6ba7f6a1fad8c55d7ddda4e2879c8912102388621cc63359eff31", func := "cullet/culletlaw01.BatchInside", spec := "batchInside", unfollowed := true, recurses := true, apart := false, narrowed := true }
def BatchInsideUptoSaid : Prop := batchInsideUptoRow.holds Try.pinned (OpenSpec.upto batchInsideSpec)

/-- 'culletlaw01.BatchProved', WHERE WHAT IT READS IS OF BULK AT MOST 1048576: true; the input reads as it did. -/
def batchProvedUptoRow : OpenClaim := { program := "ytnnkcbeadiembaa", sum := "88dae89bedb6ba7f6a1fad8c55d7ddda4e2879c8912102388621cc63359eff31", func := "cullet/culletlaw01.BatchProved", spec := "batchProved", unfollowed := true, recurses := true, apart := false, narrowed := true }
def BatchProvedUptoSaid : Prop := batchProvedUptoRow.holds Try.pinned (OpenSpec.upto batchProvedSpec)

/-- 'culletlaw01.BatchCheapest', WHERE WHAT IT READS IS OF BULK AT MOST 1048576: true; the input reads as it did. -/
def batchCheapestUptoRow : OpenClaim := { program := "ytnnkcbeadiembaa", sum := "88dae89bedb6ba7f6a1fad8c55d7ddda4e2879c8912102388621cc63359eff31", func := "cullet/culletlaw01.BatchCheapest", spec := "batchCheapest", unfollowed := true, recurses := true, apart := false, narrowed := true }
def BatchCheapestUptoSaid : Prop := batchCheapestUptoRow.holds Try.pinned (OpenSpec.upto batchCheapestSpec)

end Rows
end Go.Proofs.Ytnnkcbeadiembaa
