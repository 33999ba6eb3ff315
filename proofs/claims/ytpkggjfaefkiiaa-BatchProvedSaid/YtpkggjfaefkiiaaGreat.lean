/- What is too great for a statement: these calls return, whatever they answer; no statement is proved here. -/
import Derived.Test.YtpkggjfaefkiiaaSame
namespace Go.Proofs.Ytpkggjfaefkiiaa
open Go.RowKit Go.PlainAid
set_option linter.unusedVariables false

def SomeB (w : World) (e : Ending) (w' : World) : Prop := ∃ t : Bool, e = .returned (.bool t) ∧ Below w.heap.size w w'

set_option maxRecDepth 100000 in
theorem great_any (v : Value) (b : Bat) (w : World) (h : RBat w v b) : Calls Try.prog 13 #[v] w (SomeB w) := by
  obtain ⟨v0, v1, v2, v3, rfl, h0, h1, h2, h3, i1, i2, i3⟩ := h
  obtain ⟨a0, k0, rfl, -, ⟨-, l0⟩, hl0⟩ := h0
  obtain ⟨a1, k1, rfl, -, ⟨-, l1⟩, hl1⟩ := h1
  obtain ⟨a2, k2, rfl, -, ⟨-, l2⟩, hl2⟩ := h2
  obtain ⟨a3, k3, rfl, -, ⟨-, l3⟩, hl3⟩ := h3
  have hA := below_box w (.cells #[.slice a0 b.oxides.length k0, .slice a1 b.mats.length k1, .slice a2 b.shares.length k2, .slice a3 b.props.length k3, .int .i64 b.redox.lo, .int .i64 b.redox.hi, .int .i64 b.wanted] 29)
  have hB := Blk.new w #[.slice a0 b.oxides.length k0, .slice a1 b.mats.length k1, .slice a2 b.shares.length k2, .slice a3 b.props.length k3, .int .i64 b.redox.lo, .int .i64 b.redox.hi, .int .i64 b.wanted] 29
  by_cases g0 : 20 < b.oxides.length
  · clear hl0 hl1 hl2 hl3 hB
    go_enter Try.func13, Try.ntmps13
    go_wp2
    go_ret
    exact ⟨_, rfl, hA⟩
  have d0 : decide ((20 : Int) < (b.oxides.length : Int)) = false := decide_eq_false (by omega)
  by_cases g1 : 20 < b.mats.length
  · clear hl0 hl1 hl2 hl3 hB
    go_enter Try.func13, Try.ntmps13
    go_wp2
    go_ret
    exact ⟨_, rfl, hA⟩
  have d1 : decide ((20 : Int) < (b.mats.length : Int)) = false := decide_eq_false (by omega)
  by_cases g2 : 20 < b.shares.length
  · clear hl0 hl1 hl2 hl3 hB
    go_enter Try.func13, Try.ntmps13
    go_wp2
    go_ret
    exact ⟨_, rfl, hA⟩
  have d2 : decide ((20 : Int) < (b.shares.length : Int)) = false := decide_eq_false (by omega)
  by_cases g3 : 20 < b.props.length
  · clear hl0 hl1 hl2 hl3 hB
    go_enter Try.func13, Try.ntmps13
    go_wp2
    go_ret
    exact ⟨_, rfl, hA⟩
  have d3 : decide ((20 : Int) < (b.props.length : Int)) = false := decide_eq_false (by omega)
  go_enter Try.func13, Try.ntmps13
  go_wp2
  generalize w.alloc (.cells #[.slice a0 b.oxides.length k0, .slice a1 b.mats.length k1, .slice a2 b.shares.length k2, .slice a3 b.props.length k3, .int .i64 b.redox.lo, .int .i64 b.redox.hi, .int .i64 b.wanted] 29) = W at *
  have f0 := hB.cell 0 (.slice a0 b.oxides.length k0) rfl
  have f1 := hB.cell 1 (.slice a1 b.mats.length k1) rfl
  have f3 := hB.cell 3 (.slice a3 b.props.length k3) rfl
  clear d0 d1 d2 d3 g0 g1 g2 g3
  go_loop [3, 4] (fun n i => ∃ (k : Nat) (x : Int), k ≤ b.oxides.length ∧ i = .int .i64 k ∧ n = .int .i64 x) (fun _ i => b.oxides.length - (intOf i).toNat)
  case atStart => exact ⟨0, 0, Nat.zero_le _, rfl, rfl⟩
  case round =>
    obtain ⟨k, x, hk, rfl, rfl⟩ := hrel
    by_cases hlt : k < b.oxides.length
    · obtain ⟨b1, o1, rfl, q1, q2⟩ := hl0 k hlt
      simp only [Nat.mul_one] at q1
      replace q1 := ext_of_below hA _ _ q1
      clear hl0 hl1 hl2 hl3
      generalize b.oxides[k] = s at *
      go_wp2
      go_round
      case rel => exact ⟨k + 1, _, by omega, by go_num, rfl⟩
      case measure => simp [intOf]; omega
    · clear hl0
      go_wp2
      clear hlt hk
      go_loop [3, 5] (fun n i => ∃ (k : Nat) (x : Int), k ≤ b.mats.length ∧ i = .int .i64 k ∧ n = .int .i64 x) (fun _ i => b.mats.length - (intOf i).toNat)
      case atStart => exact ⟨0, _, Nat.zero_le _, rfl, rfl⟩
      case round =>
        obtain ⟨k, x, hk, rfl, rfl⟩ := hrel
        by_cases hlt : k < b.mats.length
        · obtain ⟨b1, o1, rfl, vc, ⟨q0, q1, q2, q3, q4, q5, q6⟩, hc, hs⟩ := hl1 k hlt
          obtain ⟨ac, kc, rfl, -, ⟨-, hcm⟩, -⟩ := id hc
          simp only at q0 q6
          replace q0 := ext_of_below hA _ _ q0
          replace q6 := ext_of_below hA _ _ q6
          have hsn := hs.1
          clear hl1 hl2 hl3 hc hs q1 q2 q3 q4 q5
          generalize b.mats[k] = s at *
          by_cases h20 : 20 < s.content.length
          · go_wp2
            go_ret
            exact ⟨_, rfl, hA⟩
          · go_wp2
            go_round
            case rel => exact ⟨k + 1, _, by omega, by go_num, rfl⟩
            case measure => simp [intOf]; omega
        · clear hl1
          go_wp2
          clear hlt hk
          go_loop [3, 6] (fun n i => ∃ (k : Nat) (x : Int), k ≤ b.props.length ∧ i = .int .i64 k ∧ n = .int .i64 x) (fun _ i => b.props.length - (intOf i).toNat)
          case atStart => exact ⟨0, _, Nat.zero_le _, rfl, rfl⟩
          case round =>
            obtain ⟨k, x, hk, rfl, rfl⟩ := hrel
            by_cases hlt : k < b.props.length
            · obtain ⟨b1, o1, rfl, vc, ⟨q0, q1, q2, q3⟩, hc, hs⟩ := hl3 k hlt
              obtain ⟨ac, kc, rfl, -, ⟨-, hcm⟩, -⟩ := id hc
              simp only at q0 q1
              replace q0 := ext_of_below hA _ _ q0
              replace q1 := ext_of_below hA _ _ q1
              have hsn := hs.1
              clear hl2 hl3 hc hs q2 q3
              generalize b.props[k] = s at *
              by_cases h20 : 20 < s.coefs.length
              · go_wp2
                go_ret
                exact ⟨_, rfl, hA⟩
              · go_wp2
                go_round
                case rel => exact ⟨k + 1, _, by omega, by go_num, rfl⟩
                case measure => simp [intOf]; omega
            · clear hl3 hl2
              by_cases hx : 2000 < x
              · go_wp2
                go_ret
                exact ⟨_, rfl, hA⟩
              · go_wp2
                go_ret
                exact ⟨_, rfl, hA⟩

/-- what is asked of a batch. -/
structure Ask where
  recipe : List Int
  other : List Int
  property : Int
  lots : Int
  scale : Int
  weights : List Int

def RAsk (w : World) (v : Value) (x : Ask) : Prop :=
  ∃ v0 v1 v5, v = .agg #[v0, v1, .int .i64 x.property, .int .i64 x.lots, .int .i64 x.scale, v5] ∧ RInts w v0 x.recipe ∧ RInts w v1 x.other ∧ RInts w v5 x.weights ∧ I64 x.property ∧ I64 x.lots ∧ I64 x.scale
theorem RAsk.mono {w w' : World} (e : Ext w w') {v : Value} {x : Ask} (h : RAsk w v x) : RAsk w' v x := by
  obtain ⟨v0, v1, v5, h1, h2, h3, h4, h5⟩ := h
  exact ⟨v0, v1, v5, h1, h2.mono e, h3.mono e, h4.mono e, h5⟩
theorem RAsk.agg {w : World} {v : Value} {x : Ask} (h : RAsk w v x) : ∃ a0 k0 a1 k1 a5 k5, v = .agg #[.slice a0 x.recipe.length k0, .slice a1 x.other.length k1, .int .i64 x.property, .int .i64 x.lots, .int .i64 x.scale, .slice a5 x.weights.length k5] := by
  obtain ⟨v0, v1, v5, rfl, h2, h3, h4, h5⟩ := h
  obtain ⟨a0, k0, rfl, -, -, -⟩ := h2
  obtain ⟨a1, k1, rfl, -, -, -⟩ := h3
  obtain ⟨a5, k5, rfl, -, -, -⟩ := h4
  exact ⟨a0, k0, a1, k1, a5, k5, rfl⟩
theorem RAsk.rd {w : World} {a0 k0 n0 a1 n1 k1 x2 x3 x4 a5 n5 k5} {x : Ask} (h : RAsk w (.agg #[.slice a0 n0 k0, .slice a1 n1 k1, x2, x3, x4, .slice a5 n5 k5]) x) : RInts w (.slice a0 n0 k0) x.recipe ∧ RInts w (.slice a1 n1 k1) x.other ∧ RInts w (.slice a5 n5 k5) x.weights := by
  obtain ⟨v0, v1, v5, e, h2, h3, h4, h5⟩ := h
  simp only [Value.agg.injEq, Array.mk.injEq, List.cons.injEq, and_true] at e
  obtain ⟨rfl, rfl, -, -, -, rfl⟩ := e
  exact ⟨h2, h3, h4⟩

set_option maxRecDepth 100000 in
theorem wide_any (v : Value) (x : Ask) (w : World) (h : RAsk w v x) : Calls Try.prog 20 #[v] w (SomeB w) := by
  obtain ⟨a0, k0, a1, k1, a5, k5, rfl⟩ := h.agg
  have hA := below_box w (.cells #[.slice a0 x.recipe.length k0, .slice a1 x.other.length k1, .int .i64 x.property, .int .i64 x.lots, .int .i64 x.scale, .slice a5 x.weights.length k5] 44)
  clear h
  by_cases g0 : 100 < x.recipe.length
  · go_enter Try.func20, Try.ntmps20
    go_wp2
    go_ret
    exact ⟨_, rfl, hA⟩
  by_cases g1 : 100 < x.other.length
  · go_enter Try.func20, Try.ntmps20
    go_wp2
    go_ret
    exact ⟨_, rfl, hA⟩
  by_cases g2 : 100 < x.weights.length
  · go_enter Try.func20, Try.ntmps20
    go_wp2
    go_ret
    exact ⟨_, rfl, hA⟩
  go_enter Try.func20, Try.ntmps20
  go_wp2
  go_ret
  exact ⟨_, rfl, hA⟩

end Go.Proofs.Ytpkggjfaefkiiaa
