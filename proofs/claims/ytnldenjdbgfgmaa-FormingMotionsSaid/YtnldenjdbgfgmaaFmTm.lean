/- The numbers of the examples of chapter 04 that the laws about motions end with; no statement is proved here. -/
import Derived.Test.YtnldenjdbgfgmaaFmGap
import Derived.Test.YtnldenjdbgfgmaaFmStrW
import Derived.Test.YtnldenjdbgfgmaaFmWhere
namespace Go.Proofs.Ytnldenjdbgfgmaa
open Go.RowKit Go.PlainAid
set_option linter.unusedVariables false
set_option linter.unusedSimpArgs false

def hndL : List Sp := [⟨0, 0⟩, ⟨20, 100⟩, ⟨60, 100⟩, ⟨80, 0⟩]
def tuX : List St := [⟨⟨10, 1⟩, ⟨70, 1⟩⟩]
def tuY : List St := [⟨⟨0, 1⟩, ⟨0, 1⟩⟩, ⟨⟨80, 1⟩, ⟨100, 1⟩⟩]
def tuZ : List St := [⟨⟨80, 1⟩, ⟨100, 1⟩⟩]
theorem t_chk : chkM 100 0 hndL = 0 := by decide +kernel
theorem t_where {n d : Int} {r : Rt} (i : Nat) (h1 : TimeOk n d) (h2 : LegIs 100 0 hndL d (n % (100 * d)) i) (h3 : posF (lgA 0 hndL i) (lgB 100 0 hndL i) d (n % (100 * d)) = r) {e : Ending} (h : WhereA 100 0 hndL n d e) :
    e = .returned (.tuple #[.agg #[.int .i64 r.n, .int .i64 r.d], .int .i64 0]) := by
  rcases h with ⟨h, -⟩ | ⟨-, h, -⟩ | ⟨-, -, j, hj, rfl⟩
  · exact absurd t_chk h
  · exact absurd h1 h
  · obtain rfl := hj.unique h2
    rw [h3]; rfl
theorem t_w1 {e : Ending} (h : WhereA 100 0 hndL 10 1 e) : e = .returned (.tuple #[.agg #[.int .i64 50, .int .i64 1], .int .i64 0]) :=
  t_where (r := ⟨50, 1⟩) 0 ⟨by decide +kernel, by decide⟩ ⟨by decide +kernel, by decide +kernel, fun j hj => by omega⟩ (by decide +kernel) h
theorem t_w2 {e : Ending} (h : WhereA 100 0 hndL 130 1 e) : e = .returned (.tuple #[.agg #[.int .i64 100, .int .i64 1], .int .i64 0]) :=
  t_where (r := ⟨100, 1⟩) 1 ⟨by decide +kernel, by decide⟩ ⟨by decide +kernel, by decide +kernel, fun j hj => by
    have : j = 0 := by omega
    subst this; decide +kernel⟩ (by decide +kernel) h
theorem t_w3 {e : Ending} (h : WhereA 100 0 hndL 1 3 e) : e = .returned (.tuple #[.agg #[.int .i64 5, .int .i64 3], .int .i64 0]) :=
  t_where (r := ⟨5, 3⟩) 0 ⟨by decide +kernel, by decide⟩ ⟨by decide +kernel, by decide +kernel, fun j hj => by omega⟩ (by decide +kernel) h
theorem t_str {s : Sp} {L : List St} (h1 : SpOk s) (h2 : strE 100 0 hndL s = L) {w w' : World} {e : Ending} (h : StrA 100 0 hndL s w e w') : ∃ v, e = .returned (.tuple #[v, .int .i64 0]) ∧ RSts (vis (w.heap.size ≤ ·) w') v L := by
  rcases h with ⟨h, -⟩ | ⟨-, h, -⟩ | ⟨-, -, h⟩
  · exact absurd t_chk h
  · exact absurd h1 h
  · rwa [h2] at h
theorem t_s1 {w w' : World} {e : Ending} (h : StrA 100 0 hndL ⟨50, 100⟩ w e w') : ∃ v, e = .returned (.tuple #[v, .int .i64 0]) ∧ RSts (vis (w.heap.size ≤ ·) w') v tuX := t_str (by unfold SpOk; decide) (by decide +kernel) h
theorem t_s2 {w w' : World} {e : Ending} (h : StrA 100 0 hndL ⟨0, 0⟩ w e w') : ∃ v, e = .returned (.tuple #[v, .int .i64 0]) ∧ RSts (vis (w.heap.size ≤ ·) w') v tuY := t_str (by unfold SpOk; decide) (by decide +kernel) h
theorem t_gap {sh : Int} {r : Rt} (h1 : GapOk 100 sh tuX tuZ) (h2 : rat (lsN (leastG (distL 100 sh tuX tuZ))).n (lsN (leastG (distL 100 sh tuX tuZ))).d = r) (h3 : (leastG (distL 100 sh tuX tuZ)).isNone = false) {e : Ending} (h : GapA 100 sh tuX tuZ e) :
    e = .returned (.tuple #[.agg #[.int .i64 r.n, .int .i64 r.d], .bool false, .int .i64 0]) := by
  rcases h with ⟨-, rfl⟩ | ⟨h, -⟩
  · rw [h2, h3]; rfl
  · exact absurd h1 h
theorem t_g1 {e : Ending} (h : GapA 100 0 tuX tuZ e) : e = .returned (.tuple #[.agg #[.int .i64 10, .int .i64 1], .bool false, .int .i64 0]) := t_gap (r := ⟨10, 1⟩) (by unfold GapOk; decide +kernel) (by decide +kernel) (by decide +kernel) h
theorem t_g2 {e : Ending} (h : GapA 100 15 tuX tuZ e) : e = .returned (.tuple #[.agg #[.int .i64 0, .int .i64 1], .bool false, .int .i64 0]) := t_gap (r := ⟨0, 1⟩) (by unfold GapOk; decide +kernel) (by decide +kernel) (by decide +kernel) h

/-- a slice of stretches, its cells in a world. -/
theorem sts_cells {w : World} {v : Value} {L : List St} (h : RSts w v L) (hL : 0 < L.length) : ∃ b o c, v = .slice (some ⟨b, o, none⟩) L.length c ∧ ∀ i (hi : i < L.length), w.cell? ⟨b, o + i * 4, none⟩ = some (.int .i64 (L[i]'hi).a.n) ∧ w.cell? ⟨b, o + i * 4 + 1, none⟩ = some (.int .i64 (L[i]'hi).a.d) ∧ w.cell? ⟨b, o + i * 4 + 2, none⟩ = some (.int .i64 (L[i]'hi).b.n) ∧ w.cell? ⟨b, o + i * 4 + 3, none⟩ = some (.int .i64 (L[i]'hi).b.d) := by
  obtain ⟨a, c, rfl, -, -, hl⟩ := h
  obtain ⟨b, o, rfl, -⟩ := hl 0 hL
  refine ⟨b, o, c, rfl, fun i hi => ?_⟩
  obtain ⟨b', o', e, ⟨q0, q1, q2, q3⟩, -⟩ := hl i hi
  simp only [Option.some.injEq, Addr.mk.injEq, and_true] at e
  obtain ⟨rfl, rfl⟩ := e
  exact ⟨q0, q1, q2, q3⟩
theorem sts_vis {P : Nat → Prop} {w : World} {v : Value} {L : List St} (h : RSts (vis P w) v L) : RSts w v L := h.mono fun p x hp => (vis_cell.1 hp).2
end Go.Proofs.Ytnldenjdbgfgmaa
