/- A form's factor; no statement is proved here. -/
import Derived.Test.YtnnkcbeadiembaaLines1
namespace Go.Proofs.Ytnnkcbeadiembaa
open Go.RowKit Go.PlainAid
set_option linter.unusedVariables false

/-- one side of what is wanted of a glass. -/
structure Fm where
  coefs : List Int
  up : Bool
  t : Sp

def overB (f : Fm) (c : Int) : Int := if f.up = true then wrap64 (c - f.t.hi) else wrap64 (f.t.lo - c)
def fmFn (f : Fm) : Nat := if f.up = true then 123 else 124

/-- what a form's two cells hold. -/
def FmIs (w : World) (c u : Value) (f : Fm) : Prop :=
  ∃ p, u = .func (.func (fmFn f)) #[] #[.pointer (some ⟨p, 0, none⟩)] ∧ RInts w c f.coefs ∧ w.cell? ⟨p, 0, none⟩ = some (.int .i64 f.t.lo) ∧ w.cell? ⟨p, 1, none⟩ = some (.int .i64 f.t.hi)
theorem FmIs.mono {w w' : World} (e : Ext w w') {c u : Value} {f : Fm} (h : FmIs w c u f) : FmIs w' c u f := by
  obtain ⟨p, h1, h2, h3, h4⟩ := h
  exact ⟨p, h1, h2.mono e, e _ _ h3, e _ _ h4⟩

theorem side1 (c hi : Int) (p : Nat) (w : World) (h : w.cell? ⟨p, 1, none⟩ = some (.int .i64 hi)) :
    Calls Try.prog 123 #[.int .i64 c, .pointer (some ⟨p, 0, none⟩)] w fun e w' => e = .returned (.int .i64 (wrap64 (c - hi))) ∧ w = w' := by
  go_enter Try.func123, Try.ntmps123
  go_wp2
  go_ret
  exact ⟨rfl, rfl⟩

theorem side2 (c lo : Int) (p : Nat) (w : World) (h : w.cell? ⟨p, 0, none⟩ = some (.int .i64 lo)) :
    Calls Try.prog 124 #[.int .i64 c, .pointer (some ⟨p, 0, none⟩)] w fun e w' => e = .returned (.int .i64 (wrap64 (lo - c))) ∧ w = w' := by
  go_enter Try.func124, Try.ntmps124
  go_wp2
  go_ret
  exact ⟨rfl, rfl⟩

theorem over_any (f : Fm) (c : Int) (p : Nat) (w : World) (h0 : w.cell? ⟨p, 0, none⟩ = some (.int .i64 f.t.lo)) (h1 : w.cell? ⟨p, 1, none⟩ = some (.int .i64 f.t.hi)) :
    Calls Try.prog (fmFn f) #[.int .i64 c, .pointer (some ⟨p, 0, none⟩)] w fun e w' => e = .returned (.int .i64 (overB f c)) ∧ w = w' := by
  unfold fmFn overB
  cases f.up
  · exact side2 c _ p w h0
  · exact side1 c _ p w h1

theorem isFn_side1 : IsFn 123 := fun xs w => by kernel_rfl
theorem isFn_side2 : IsFn 124 := fun xs w => by kernel_rfl
theorem isFn_over (f : Fm) : IsFn (fmFn f) := by
  unfold fmFn
  cases f.up
  · exact isFn_side2
  · exact isFn_side1

def facTo (f : Fm) (l : List Sp) (k : Nat) : Int := ((List.range k).map fun i => grB (overB f (f.coefs.getD i 0)) (l.getD i ⟨0, 0⟩)).sum
def facB (f : Fm) (m : Mat) : Int := wrap64 (facTo f m.content m.content.length)

theorem facTo_succ (f : Fm) (l : List Sp) (k : Nat) (x : Int) (hx : x = wrap64 (facTo f l k)) : wrap64 (x + grB (overB f (f.coefs.getD k 0)) (l.getD k ⟨0, 0⟩)) = wrap64 (facTo f l (k + 1)) := by
  rw [hx, wrap_add]
  unfold facTo
  rw [List.range_succ, List.map_append, List.map_singleton, sum_snoc]

end Go.Proofs.Ytnnkcbeadiembaa
