/- The example of chapter 8: culletlaw08's Example and lives; no statement is proved here. -/
import Derived.Test.YtdffhkbncencgaaPlCost
namespace Go.Proofs.Ytdffhkbncencgaa
open Go.RowKit Go.PlainAid
set_option linter.unusedVariables false
set_option linter.unusedSimpArgs false

def exS : Sn := ⟨2, [⟨⟨#[112, 105, 110, 116]⟩, 0, 3000⟩, ⟨⟨#[113, 117, 97, 114, 116]⟩, 0, 6000⟩], [⟨10000, 60000⟩], [⟨0, [100000, 60000], 500, 0⟩], [[⟨0, 0⟩, ⟨144, 100⟩], [⟨144, 100⟩, ⟨0, 0⟩]], [[⟨0, 0⟩]], [⟨0, 100000, 1, 1⟩, ⟨1, 50000, 1, 1⟩]⟩
def exT : List (List Int) := [[0, 1]]
theorem exS_keE : keE exS exT = 0 := by decide +kernel
theorem exS_cost : costA exS exT = 100 := by decide +kernel

theorem rsl_of {α : Type} {sz : Nat} {R : World → Addr → α → Prop} {w : World} {p : Nat} {l : List α} (hn : l.length ≤ 100) (h : ∀ i (hi : i < l.length), R w ⟨p, i * sz, none⟩ (l[i]'hi)) : RSl sz R w (.slice (some ⟨p, 0, none⟩) l.length l.length) l :=
  ⟨_, _, rfl, Nat.le_refl _, ⟨by omega, by omega⟩, fun i hi => ⟨p, 0, rfl, by rw [Nat.zero_add]; exact h i hi⟩⟩
theorem two_of {α : Type} {a b : α} {Q : Nat → α → Prop} (h0 : Q 0 a) (h1 : Q 1 b) : ∀ i (hi : i < [a, b].length), Q i ([a, b][i]'hi) := fun i hi => by
  have : i = 0 ∨ i = 1 := by have : i < 2 := hi; omega
  rcases this with rfl | rfl
  · exact h0
  · exact h1
theorem one_of {α : Type} {a : α} {Q : Nat → α → Prop} (h0 : Q 0 a) : ∀ i (hi : i < [a].length), Q i ([a][i]'hi) := fun i hi => by
  have : i = 0 := by have : i < 1 := hi; omega
  subst this
  exact h0
theorem i64P (n : Int) (h : -9223372036854775808 ≤ n ∧ n ≤ 9223372036854775807 := by decide) : I64 n := by unfold I64; omega
def ExA (w : World) (e : Ending) (w' : World) : Prop := ∃ d : SA, e = .returned (.agg #[.int .i64 exS.days, .slice d.a1 exS.arts.length d.c1, .slice d.a2 exS.ovens.length d.c2, .slice d.a3 exS.mks.length d.c3, .slice d.a4 exS.jobs.length d.c4, .slice d.a5 exS.cols.length d.c5, .slice d.a6 exS.ods.length d.c6]) ∧ SnD w' exS d ∧ Below w.heap.size w w'

set_option maxHeartbeats 4000000 in
set_option maxRecDepth 100000 in
theorem Example8_any (w : World) : Calls Try.prog 31 #[] w (ExA w) := by
  go_enter Try.func31, Try.ntmps31
  go_wp2
  have b0 := Blk.new w #[.int .i64 2, .slice (some ⟨w.heap.size + 1 + 1, 0, none⟩) 2 2, .slice (some ⟨w.heap.size + 1 + 1 + 1, 0, none⟩) 1 1, .slice (some ⟨w.heap.size + 1 + 1 + 1 + 1 + 1, 0, none⟩) 1 1, .slice (some ⟨w.heap.size + 1 + 1 + 1 + 1 + 1 + 1 + 1 + 1, 0, none⟩) 2 2, .slice (some ⟨w.heap.size + 1 + 1 + 1 + 1 + 1 + 1 + 1 + 1 + 1 + 1, 0, none⟩) 1 1, .slice (some ⟨w.heap.size + 1 + 1 + 1 + 1 + 1 + 1 + 1 + 1 + 1 + 1 + 1, 0, none⟩) 2 2] 28
  have hA := below_box w (.cells #[.int .i64 2, .slice (some ⟨w.heap.size + 1 + 1, 0, none⟩) 2 2, .slice (some ⟨w.heap.size + 1 + 1 + 1, 0, none⟩) 1 1, .slice (some ⟨w.heap.size + 1 + 1 + 1 + 1 + 1, 0, none⟩) 1 1, .slice (some ⟨w.heap.size + 1 + 1 + 1 + 1 + 1 + 1 + 1 + 1, 0, none⟩) 2 2, .slice (some ⟨w.heap.size + 1 + 1 + 1 + 1 + 1 + 1 + 1 + 1 + 1 + 1, 0, none⟩) 1 1, .slice (some ⟨w.heap.size + 1 + 1 + 1 + 1 + 1 + 1 + 1 + 1 + 1 + 1 + 1, 0, none⟩) 2 2] 28)
  have z1 : (w.alloc (.cells #[.int .i64 2, .slice (some ⟨w.heap.size + 1 + 1, 0, none⟩) 2 2, .slice (some ⟨w.heap.size + 1 + 1 + 1, 0, none⟩) 1 1, .slice (some ⟨w.heap.size + 1 + 1 + 1 + 1 + 1, 0, none⟩) 1 1, .slice (some ⟨w.heap.size + 1 + 1 + 1 + 1 + 1 + 1 + 1 + 1, 0, none⟩) 2 2, .slice (some ⟨w.heap.size + 1 + 1 + 1 + 1 + 1 + 1 + 1 + 1 + 1 + 1, 0, none⟩) 1 1, .slice (some ⟨w.heap.size + 1 + 1 + 1 + 1 + 1 + 1 + 1 + 1 + 1 + 1 + 1, 0, none⟩) 2 2] 28)).heap.size = w.heap.size + 1 := by simp
  generalize w.alloc (.cells #[.int .i64 2, .slice (some ⟨w.heap.size + 1 + 1, 0, none⟩) 2 2, .slice (some ⟨w.heap.size + 1 + 1 + 1, 0, none⟩) 1 1, .slice (some ⟨w.heap.size + 1 + 1 + 1 + 1 + 1, 0, none⟩) 1 1, .slice (some ⟨w.heap.size + 1 + 1 + 1 + 1 + 1 + 1 + 1 + 1, 0, none⟩) 2 2, .slice (some ⟨w.heap.size + 1 + 1 + 1 + 1 + 1 + 1 + 1 + 1 + 1 + 1, 0, none⟩) 1 1, .slice (some ⟨w.heap.size + 1 + 1 + 1 + 1 + 1 + 1 + 1 + 1 + 1 + 1 + 1, 0, none⟩) 2 2] 28) = E1 at *
  have b1 := Blk.new E1 #[.int .i64 144, .int .i64 100] 100
  rw [z1] at b1
  replace b0 := b0.alloc (.cells #[.int .i64 144, .int .i64 100] 100)
  replace hA := hA.alloc hA.size (.cells #[.int .i64 144, .int .i64 100] 100)
  have z2 : (E1.alloc (.cells #[.int .i64 144, .int .i64 100] 100)).heap.size = w.heap.size + 1 + 1 := by simp [z1]
  clear z1
  generalize E1.alloc (.cells #[.int .i64 144, .int .i64 100] 100) = E2 at *
  have b2 := Blk.new E2 #[.string ⟨#[112, 105, 110, 116]⟩, .int .i64 0, .int .i64 3000, .string ⟨#[113, 117, 97, 114, 116]⟩, .int .i64 0, .int .i64 6000] 57
  rw [z2] at b2
  replace b0 := b0.alloc (.cells #[.string ⟨#[112, 105, 110, 116]⟩, .int .i64 0, .int .i64 3000, .string ⟨#[113, 117, 97, 114, 116]⟩, .int .i64 0, .int .i64 6000] 57)
  replace b1 := b1.alloc (.cells #[.string ⟨#[112, 105, 110, 116]⟩, .int .i64 0, .int .i64 3000, .string ⟨#[113, 117, 97, 114, 116]⟩, .int .i64 0, .int .i64 6000] 57)
  replace hA := hA.alloc hA.size (.cells #[.string ⟨#[112, 105, 110, 116]⟩, .int .i64 0, .int .i64 3000, .string ⟨#[113, 117, 97, 114, 116]⟩, .int .i64 0, .int .i64 6000] 57)
  have z3 : (E2.alloc (.cells #[.string ⟨#[112, 105, 110, 116]⟩, .int .i64 0, .int .i64 3000, .string ⟨#[113, 117, 97, 114, 116]⟩, .int .i64 0, .int .i64 6000] 57)).heap.size = w.heap.size + 1 + 1 + 1 := by simp [z2]
  clear z2
  generalize E2.alloc (.cells #[.string ⟨#[112, 105, 110, 116]⟩, .int .i64 0, .int .i64 3000, .string ⟨#[113, 117, 97, 114, 116]⟩, .int .i64 0, .int .i64 6000] 57) = E3 at *
  have b3 := Blk.new E3 #[.int .i64 10000, .int .i64 60000] 51
  rw [z3] at b3
  replace b0 := b0.alloc (.cells #[.int .i64 10000, .int .i64 60000] 51)
  replace b1 := b1.alloc (.cells #[.int .i64 10000, .int .i64 60000] 51)
  replace b2 := b2.alloc (.cells #[.int .i64 10000, .int .i64 60000] 51)
  replace hA := hA.alloc hA.size (.cells #[.int .i64 10000, .int .i64 60000] 51)
  have z4 : (E3.alloc (.cells #[.int .i64 10000, .int .i64 60000] 51)).heap.size = w.heap.size + 1 + 1 + 1 + 1 := by simp [z3]
  clear z3
  generalize E3.alloc (.cells #[.int .i64 10000, .int .i64 60000] 51) = E4 at *
  have b4 := Blk.new E4 #[.int .i64 100000, .int .i64 60000] 3
  rw [z4] at b4
  replace b0 := b0.alloc (.cells #[.int .i64 100000, .int .i64 60000] 3)
  replace b1 := b1.alloc (.cells #[.int .i64 100000, .int .i64 60000] 3)
  replace b2 := b2.alloc (.cells #[.int .i64 100000, .int .i64 60000] 3)
  replace b3 := b3.alloc (.cells #[.int .i64 100000, .int .i64 60000] 3)
  replace hA := hA.alloc hA.size (.cells #[.int .i64 100000, .int .i64 60000] 3)
  have z5 : (E4.alloc (.cells #[.int .i64 100000, .int .i64 60000] 3)).heap.size = w.heap.size + 1 + 1 + 1 + 1 + 1 := by simp [z4]
  clear z4
  generalize E4.alloc (.cells #[.int .i64 100000, .int .i64 60000] 3) = E5 at *
  have b5 := Blk.new E5 #[.int .i64 0, .slice (some ⟨w.heap.size + 1 + 1 + 1 + 1, 0, none⟩) 2 2, .int .i64 500, .int .i64 0] 53
  rw [z5] at b5
  replace b0 := b0.alloc (.cells #[.int .i64 0, .slice (some ⟨w.heap.size + 1 + 1 + 1 + 1, 0, none⟩) 2 2, .int .i64 500, .int .i64 0] 53)
  replace b1 := b1.alloc (.cells #[.int .i64 0, .slice (some ⟨w.heap.size + 1 + 1 + 1 + 1, 0, none⟩) 2 2, .int .i64 500, .int .i64 0] 53)
  replace b2 := b2.alloc (.cells #[.int .i64 0, .slice (some ⟨w.heap.size + 1 + 1 + 1 + 1, 0, none⟩) 2 2, .int .i64 500, .int .i64 0] 53)
  replace b3 := b3.alloc (.cells #[.int .i64 0, .slice (some ⟨w.heap.size + 1 + 1 + 1 + 1, 0, none⟩) 2 2, .int .i64 500, .int .i64 0] 53)
  replace b4 := b4.alloc (.cells #[.int .i64 0, .slice (some ⟨w.heap.size + 1 + 1 + 1 + 1, 0, none⟩) 2 2, .int .i64 500, .int .i64 0] 53)
  replace hA := hA.alloc hA.size (.cells #[.int .i64 0, .slice (some ⟨w.heap.size + 1 + 1 + 1 + 1, 0, none⟩) 2 2, .int .i64 500, .int .i64 0] 53)
  have z6 : (E5.alloc (.cells #[.int .i64 0, .slice (some ⟨w.heap.size + 1 + 1 + 1 + 1, 0, none⟩) 2 2, .int .i64 500, .int .i64 0] 53)).heap.size = w.heap.size + 1 + 1 + 1 + 1 + 1 + 1 := by simp [z5]
  clear z5
  generalize E5.alloc (.cells #[.int .i64 0, .slice (some ⟨w.heap.size + 1 + 1 + 1 + 1, 0, none⟩) 2 2, .int .i64 500, .int .i64 0] 53) = E6 at *
  have b6 := Blk.new E6 #[.int .i64 0, .int .i64 0, .int .i64 144, .int .i64 100] 100
  rw [z6] at b6
  replace b0 := b0.alloc (.cells #[.int .i64 0, .int .i64 0, .int .i64 144, .int .i64 100] 100)
  replace b1 := b1.alloc (.cells #[.int .i64 0, .int .i64 0, .int .i64 144, .int .i64 100] 100)
  replace b2 := b2.alloc (.cells #[.int .i64 0, .int .i64 0, .int .i64 144, .int .i64 100] 100)
  replace b3 := b3.alloc (.cells #[.int .i64 0, .int .i64 0, .int .i64 144, .int .i64 100] 100)
  replace b4 := b4.alloc (.cells #[.int .i64 0, .int .i64 0, .int .i64 144, .int .i64 100] 100)
  replace b5 := b5.alloc (.cells #[.int .i64 0, .int .i64 0, .int .i64 144, .int .i64 100] 100)
  replace hA := hA.alloc hA.size (.cells #[.int .i64 0, .int .i64 0, .int .i64 144, .int .i64 100] 100)
  have z7 : (E6.alloc (.cells #[.int .i64 0, .int .i64 0, .int .i64 144, .int .i64 100] 100)).heap.size = w.heap.size + 1 + 1 + 1 + 1 + 1 + 1 + 1 := by simp [z6]
  clear z6
  generalize E6.alloc (.cells #[.int .i64 0, .int .i64 0, .int .i64 144, .int .i64 100] 100) = E7 at *
  have b7 := Blk.new E7 #[.int .i64 144, .int .i64 100, .int .i64 0, .int .i64 0] 100
  rw [z7] at b7
  replace b0 := b0.alloc (.cells #[.int .i64 144, .int .i64 100, .int .i64 0, .int .i64 0] 100)
  replace b1 := b1.alloc (.cells #[.int .i64 144, .int .i64 100, .int .i64 0, .int .i64 0] 100)
  replace b2 := b2.alloc (.cells #[.int .i64 144, .int .i64 100, .int .i64 0, .int .i64 0] 100)
  replace b3 := b3.alloc (.cells #[.int .i64 144, .int .i64 100, .int .i64 0, .int .i64 0] 100)
  replace b4 := b4.alloc (.cells #[.int .i64 144, .int .i64 100, .int .i64 0, .int .i64 0] 100)
  replace b5 := b5.alloc (.cells #[.int .i64 144, .int .i64 100, .int .i64 0, .int .i64 0] 100)
  replace b6 := b6.alloc (.cells #[.int .i64 144, .int .i64 100, .int .i64 0, .int .i64 0] 100)
  replace hA := hA.alloc hA.size (.cells #[.int .i64 144, .int .i64 100, .int .i64 0, .int .i64 0] 100)
  have z8 : (E7.alloc (.cells #[.int .i64 144, .int .i64 100, .int .i64 0, .int .i64 0] 100)).heap.size = w.heap.size + 1 + 1 + 1 + 1 + 1 + 1 + 1 + 1 := by simp [z7]
  clear z7
  generalize E7.alloc (.cells #[.int .i64 144, .int .i64 100, .int .i64 0, .int .i64 0] 100) = E8 at *
  have b8 := Blk.new E8 #[.slice (some ⟨w.heap.size + 1 + 1 + 1 + 1 + 1 + 1, 0, none⟩) 2 2, .slice (some ⟨w.heap.size + 1 + 1 + 1 + 1 + 1 + 1 + 1, 0, none⟩) 2 2] 58
  rw [z8] at b8
  replace b0 := b0.alloc (.cells #[.slice (some ⟨w.heap.size + 1 + 1 + 1 + 1 + 1 + 1, 0, none⟩) 2 2, .slice (some ⟨w.heap.size + 1 + 1 + 1 + 1 + 1 + 1 + 1, 0, none⟩) 2 2] 58)
  replace b1 := b1.alloc (.cells #[.slice (some ⟨w.heap.size + 1 + 1 + 1 + 1 + 1 + 1, 0, none⟩) 2 2, .slice (some ⟨w.heap.size + 1 + 1 + 1 + 1 + 1 + 1 + 1, 0, none⟩) 2 2] 58)
  replace b2 := b2.alloc (.cells #[.slice (some ⟨w.heap.size + 1 + 1 + 1 + 1 + 1 + 1, 0, none⟩) 2 2, .slice (some ⟨w.heap.size + 1 + 1 + 1 + 1 + 1 + 1 + 1, 0, none⟩) 2 2] 58)
  replace b3 := b3.alloc (.cells #[.slice (some ⟨w.heap.size + 1 + 1 + 1 + 1 + 1 + 1, 0, none⟩) 2 2, .slice (some ⟨w.heap.size + 1 + 1 + 1 + 1 + 1 + 1 + 1, 0, none⟩) 2 2] 58)
  replace b4 := b4.alloc (.cells #[.slice (some ⟨w.heap.size + 1 + 1 + 1 + 1 + 1 + 1, 0, none⟩) 2 2, .slice (some ⟨w.heap.size + 1 + 1 + 1 + 1 + 1 + 1 + 1, 0, none⟩) 2 2] 58)
  replace b5 := b5.alloc (.cells #[.slice (some ⟨w.heap.size + 1 + 1 + 1 + 1 + 1 + 1, 0, none⟩) 2 2, .slice (some ⟨w.heap.size + 1 + 1 + 1 + 1 + 1 + 1 + 1, 0, none⟩) 2 2] 58)
  replace b6 := b6.alloc (.cells #[.slice (some ⟨w.heap.size + 1 + 1 + 1 + 1 + 1 + 1, 0, none⟩) 2 2, .slice (some ⟨w.heap.size + 1 + 1 + 1 + 1 + 1 + 1 + 1, 0, none⟩) 2 2] 58)
  replace b7 := b7.alloc (.cells #[.slice (some ⟨w.heap.size + 1 + 1 + 1 + 1 + 1 + 1, 0, none⟩) 2 2, .slice (some ⟨w.heap.size + 1 + 1 + 1 + 1 + 1 + 1 + 1, 0, none⟩) 2 2] 58)
  replace hA := hA.alloc hA.size (.cells #[.slice (some ⟨w.heap.size + 1 + 1 + 1 + 1 + 1 + 1, 0, none⟩) 2 2, .slice (some ⟨w.heap.size + 1 + 1 + 1 + 1 + 1 + 1 + 1, 0, none⟩) 2 2] 58)
  have z9 : (E8.alloc (.cells #[.slice (some ⟨w.heap.size + 1 + 1 + 1 + 1 + 1 + 1, 0, none⟩) 2 2, .slice (some ⟨w.heap.size + 1 + 1 + 1 + 1 + 1 + 1 + 1, 0, none⟩) 2 2] 58)).heap.size = w.heap.size + 1 + 1 + 1 + 1 + 1 + 1 + 1 + 1 + 1 := by simp [z8]
  clear z8
  generalize E8.alloc (.cells #[.slice (some ⟨w.heap.size + 1 + 1 + 1 + 1 + 1 + 1, 0, none⟩) 2 2, .slice (some ⟨w.heap.size + 1 + 1 + 1 + 1 + 1 + 1 + 1, 0, none⟩) 2 2] 58) = E9 at *
  have b9 := Blk.new E9 #[.int .i64 0, .int .i64 0] 100
  rw [z9] at b9
  replace b0 := b0.alloc (.cells #[.int .i64 0, .int .i64 0] 100)
  replace b1 := b1.alloc (.cells #[.int .i64 0, .int .i64 0] 100)
  replace b2 := b2.alloc (.cells #[.int .i64 0, .int .i64 0] 100)
  replace b3 := b3.alloc (.cells #[.int .i64 0, .int .i64 0] 100)
  replace b4 := b4.alloc (.cells #[.int .i64 0, .int .i64 0] 100)
  replace b5 := b5.alloc (.cells #[.int .i64 0, .int .i64 0] 100)
  replace b6 := b6.alloc (.cells #[.int .i64 0, .int .i64 0] 100)
  replace b7 := b7.alloc (.cells #[.int .i64 0, .int .i64 0] 100)
  replace b8 := b8.alloc (.cells #[.int .i64 0, .int .i64 0] 100)
  replace hA := hA.alloc hA.size (.cells #[.int .i64 0, .int .i64 0] 100)
  have z10 : (E9.alloc (.cells #[.int .i64 0, .int .i64 0] 100)).heap.size = w.heap.size + 1 + 1 + 1 + 1 + 1 + 1 + 1 + 1 + 1 + 1 := by simp [z9]
  clear z9
  generalize E9.alloc (.cells #[.int .i64 0, .int .i64 0] 100) = E10 at *
  have b10 := Blk.new E10 #[.slice (some ⟨w.heap.size + 1 + 1 + 1 + 1 + 1 + 1 + 1 + 1 + 1, 0, none⟩) 1 1] 58
  rw [z10] at b10
  replace b0 := b0.alloc (.cells #[.slice (some ⟨w.heap.size + 1 + 1 + 1 + 1 + 1 + 1 + 1 + 1 + 1, 0, none⟩) 1 1] 58)
  replace b1 := b1.alloc (.cells #[.slice (some ⟨w.heap.size + 1 + 1 + 1 + 1 + 1 + 1 + 1 + 1 + 1, 0, none⟩) 1 1] 58)
  replace b2 := b2.alloc (.cells #[.slice (some ⟨w.heap.size + 1 + 1 + 1 + 1 + 1 + 1 + 1 + 1 + 1, 0, none⟩) 1 1] 58)
  replace b3 := b3.alloc (.cells #[.slice (some ⟨w.heap.size + 1 + 1 + 1 + 1 + 1 + 1 + 1 + 1 + 1, 0, none⟩) 1 1] 58)
  replace b4 := b4.alloc (.cells #[.slice (some ⟨w.heap.size + 1 + 1 + 1 + 1 + 1 + 1 + 1 + 1 + 1, 0, none⟩) 1 1] 58)
  replace b5 := b5.alloc (.cells #[.slice (some ⟨w.heap.size + 1 + 1 + 1 + 1 + 1 + 1 + 1 + 1 + 1, 0, none⟩) 1 1] 58)
  replace b6 := b6.alloc (.cells #[.slice (some ⟨w.heap.size + 1 + 1 + 1 + 1 + 1 + 1 + 1 + 1 + 1, 0, none⟩) 1 1] 58)
  replace b7 := b7.alloc (.cells #[.slice (some ⟨w.heap.size + 1 + 1 + 1 + 1 + 1 + 1 + 1 + 1 + 1, 0, none⟩) 1 1] 58)
  replace b8 := b8.alloc (.cells #[.slice (some ⟨w.heap.size + 1 + 1 + 1 + 1 + 1 + 1 + 1 + 1 + 1, 0, none⟩) 1 1] 58)
  replace b9 := b9.alloc (.cells #[.slice (some ⟨w.heap.size + 1 + 1 + 1 + 1 + 1 + 1 + 1 + 1 + 1, 0, none⟩) 1 1] 58)
  replace hA := hA.alloc hA.size (.cells #[.slice (some ⟨w.heap.size + 1 + 1 + 1 + 1 + 1 + 1 + 1 + 1 + 1, 0, none⟩) 1 1] 58)
  have z11 : (E10.alloc (.cells #[.slice (some ⟨w.heap.size + 1 + 1 + 1 + 1 + 1 + 1 + 1 + 1 + 1, 0, none⟩) 1 1] 58)).heap.size = w.heap.size + 1 + 1 + 1 + 1 + 1 + 1 + 1 + 1 + 1 + 1 + 1 := by simp [z10]
  clear z10
  generalize E10.alloc (.cells #[.slice (some ⟨w.heap.size + 1 + 1 + 1 + 1 + 1 + 1 + 1 + 1 + 1, 0, none⟩) 1 1] 58) = E11 at *
  have b11 := Blk.new E11 #[.int .i64 0, .int .i64 100000, .int .i64 1, .int .i64 1, .int .i64 1, .int .i64 50000, .int .i64 1, .int .i64 1] 55
  rw [z11] at b11
  replace b0 := b0.alloc (.cells #[.int .i64 0, .int .i64 100000, .int .i64 1, .int .i64 1, .int .i64 1, .int .i64 50000, .int .i64 1, .int .i64 1] 55)
  replace b1 := b1.alloc (.cells #[.int .i64 0, .int .i64 100000, .int .i64 1, .int .i64 1, .int .i64 1, .int .i64 50000, .int .i64 1, .int .i64 1] 55)
  replace b2 := b2.alloc (.cells #[.int .i64 0, .int .i64 100000, .int .i64 1, .int .i64 1, .int .i64 1, .int .i64 50000, .int .i64 1, .int .i64 1] 55)
  replace b3 := b3.alloc (.cells #[.int .i64 0, .int .i64 100000, .int .i64 1, .int .i64 1, .int .i64 1, .int .i64 50000, .int .i64 1, .int .i64 1] 55)
  replace b4 := b4.alloc (.cells #[.int .i64 0, .int .i64 100000, .int .i64 1, .int .i64 1, .int .i64 1, .int .i64 50000, .int .i64 1, .int .i64 1] 55)
  replace b5 := b5.alloc (.cells #[.int .i64 0, .int .i64 100000, .int .i64 1, .int .i64 1, .int .i64 1, .int .i64 50000, .int .i64 1, .int .i64 1] 55)
  replace b6 := b6.alloc (.cells #[.int .i64 0, .int .i64 100000, .int .i64 1, .int .i64 1, .int .i64 1, .int .i64 50000, .int .i64 1, .int .i64 1] 55)
  replace b7 := b7.alloc (.cells #[.int .i64 0, .int .i64 100000, .int .i64 1, .int .i64 1, .int .i64 1, .int .i64 50000, .int .i64 1, .int .i64 1] 55)
  replace b8 := b8.alloc (.cells #[.int .i64 0, .int .i64 100000, .int .i64 1, .int .i64 1, .int .i64 1, .int .i64 50000, .int .i64 1, .int .i64 1] 55)
  replace b9 := b9.alloc (.cells #[.int .i64 0, .int .i64 100000, .int .i64 1, .int .i64 1, .int .i64 1, .int .i64 50000, .int .i64 1, .int .i64 1] 55)
  replace b10 := b10.alloc (.cells #[.int .i64 0, .int .i64 100000, .int .i64 1, .int .i64 1, .int .i64 1, .int .i64 50000, .int .i64 1, .int .i64 1] 55)
  replace hA := hA.alloc hA.size (.cells #[.int .i64 0, .int .i64 100000, .int .i64 1, .int .i64 1, .int .i64 1, .int .i64 50000, .int .i64 1, .int .i64 1] 55)
  have z12 : (E11.alloc (.cells #[.int .i64 0, .int .i64 100000, .int .i64 1, .int .i64 1, .int .i64 1, .int .i64 50000, .int .i64 1, .int .i64 1] 55)).heap.size = w.heap.size + 1 + 1 + 1 + 1 + 1 + 1 + 1 + 1 + 1 + 1 + 1 + 1 := by simp [z11]
  clear z11
  generalize E11.alloc (.cells #[.int .i64 0, .int .i64 100000, .int .i64 1, .int .i64 1, .int .i64 1, .int .i64 50000, .int .i64 1, .int .i64 1] 55) = E12 at *
  clear z12
  have hr : RInts E12 (.slice (some ⟨w.heap.size + 1 + 1 + 1 + 1, 0, none⟩) 2 2) [100000, 60000] := rsl_of (by simp) (two_of (Q := fun i x => _) ⟨b4.cell 0 _ rfl, i64P _⟩ ⟨b4.cell 1 _ rfl, i64P _⟩)
  have hj0 : RSps E12 (.slice (some ⟨w.heap.size + 1 + 1 + 1 + 1 + 1 + 1, 0, none⟩) 2 2) [⟨0, 0⟩, ⟨144, 100⟩] := rsl_of (by simp) (two_of (Q := fun i x => _) ⟨b6.cell 0 _ rfl, b6.cell 1 _ rfl, i64P _, i64P _⟩ ⟨b6.cell 2 _ rfl, b6.cell 3 _ rfl, i64P _, i64P _⟩)
  have hj1 : RSps E12 (.slice (some ⟨w.heap.size + 1 + 1 + 1 + 1 + 1 + 1 + 1, 0, none⟩) 2 2) [⟨144, 100⟩, ⟨0, 0⟩] := rsl_of (by simp) (two_of (Q := fun i x => _) ⟨b7.cell 0 _ rfl, b7.cell 1 _ rfl, i64P _, i64P _⟩ ⟨b7.cell 2 _ rfl, b7.cell 3 _ rfl, i64P _, i64P _⟩)
  have hc0 : RSps E12 (.slice (some ⟨w.heap.size + 1 + 1 + 1 + 1 + 1 + 1 + 1 + 1 + 1, 0, none⟩) 1 1) [⟨0, 0⟩] := rsl_of (by simp) (one_of (Q := fun i x => _) ⟨b9.cell 0 _ rfl, b9.cell 1 _ rfl, i64P _, i64P _⟩)
  have hS : SnD E12 exS ⟨some ⟨w.heap.size + 1 + 1, 0, none⟩, some ⟨w.heap.size + 1 + 1 + 1, 0, none⟩, some ⟨w.heap.size + 1 + 1 + 1 + 1 + 1, 0, none⟩, some ⟨w.heap.size + 1 + 1 + 1 + 1 + 1 + 1 + 1 + 1, 0, none⟩, some ⟨w.heap.size + 1 + 1 + 1 + 1 + 1 + 1 + 1 + 1 + 1 + 1, 0, none⟩, some ⟨w.heap.size + 1 + 1 + 1 + 1 + 1 + 1 + 1 + 1 + 1 + 1 + 1, 0, none⟩, none, 2, 1, 1, 2, 1, 2, 0⟩ := by
    refine ⟨?_, ?_, ?_, ?_, ?_, ?_, i64P _⟩
    · exact rsl_of (l := exS.arts) (by decide) (two_of (Q := fun i x => RArt E12 ⟨w.heap.size + 1 + 1, i * 3, none⟩ x) ⟨⟨b2.cell 0 _ rfl, b2.cell 1 _ rfl, b2.cell 2 _ rfl⟩, by decide, i64P _, i64P _⟩ ⟨⟨b2.cell 3 _ rfl, b2.cell 4 _ rfl, b2.cell 5 _ rfl⟩, by decide, i64P _, i64P _⟩)
    · exact rsl_of (l := exS.ovens) (by decide) (one_of (Q := fun i x => RSp E12 ⟨w.heap.size + 1 + 1 + 1, i * 2, none⟩ x) ⟨b3.cell 0 _ rfl, b3.cell 1 _ rfl, i64P _, i64P _⟩)
    · exact rsl_of (l := exS.mks) (by decide) (one_of (Q := fun i x => RMk E12 ⟨w.heap.size + 1 + 1 + 1 + 1 + 1, i * 4, none⟩ x) ⟨_, ⟨b5.cell 0 _ rfl, b5.cell 1 _ rfl, b5.cell 2 _ rfl, b5.cell 3 _ rfl⟩, i64P _, hr, i64P _, i64P _⟩)
    · exact rsl_of (l := exS.jobs) (by decide) (two_of (Q := fun i x => RTrn E12 ⟨w.heap.size + 1 + 1 + 1 + 1 + 1 + 1 + 1 + 1, i * 1, none⟩ x) ⟨_, b8.cell 0 _ rfl, hj0⟩ ⟨_, b8.cell 1 _ rfl, hj1⟩)
    · exact rsl_of (l := exS.cols) (by decide) (one_of (Q := fun i x => RTrn E12 ⟨w.heap.size + 1 + 1 + 1 + 1 + 1 + 1 + 1 + 1 + 1 + 1, i * 1, none⟩ x) ⟨_, b10.cell 0 _ rfl, hc0⟩)
    · exact rsl_of (l := exS.ods) (by decide) (two_of (Q := fun i x => ROd E12 ⟨w.heap.size + 1 + 1 + 1 + 1 + 1 + 1 + 1 + 1 + 1 + 1 + 1, i * 4, none⟩ x) ⟨⟨b11.cell 0 _ rfl, b11.cell 1 _ rfl, b11.cell 2 _ rfl, b11.cell 3 _ rfl⟩, i64P _, i64P _, i64P _, i64P _⟩ ⟨⟨b11.cell 4 _ rfl, b11.cell 5 _ rfl, b11.cell 6 _ rfl, b11.cell 7 _ rfl⟩, i64P _, i64P _, i64P _, i64P _⟩)
  refine ⟨rfl, _, res_one (by rfl) rfl (lv_blk b0 Try.underlying28 rfl (by rw [sz_season]; rfl)), ?_⟩
  exact ⟨_, rfl, hS, hA⟩

set_option maxHeartbeats 4000000 in
set_option maxRecDepth 100000 in
theorem lives_any (w : World) : Calls Try.prog 11 #[] w fun e w' => e = .returned (.bool true) ∧ Below w.heap.size w w' := by
  go_enter Try.func11, Try.ntmps11
  go_wp2_with fail
  refine (Example8_any w).mono ?_
  rintro e W ⟨d, rfl, hS, hA⟩
  have b1 := (Blk.new W #[.int .i64 0, .int .i64 1] 3).alloc (.cells #[.slice (some ⟨W.heap.size, 0, none⟩) 2 2] 30)
  have b2 := Blk.new (W.alloc (.cells #[.int .i64 0, .int .i64 1] 3)) #[.slice (some ⟨W.heap.size, 0, none⟩) 2 2] 30
  simp only [World.size_alloc] at b2
  have hb : Below W.heap.size W ((W.alloc (.cells #[.int .i64 0, .int .i64 1] 3)).alloc (.cells #[.slice (some ⟨W.heap.size, 0, none⟩) 2 2] 30)) := (below_box W _).alloc (by simp) _
  have hS2 := hS.mono (ext_of_below hb)
  have hA2 := hA.trans (hb.mono hA.size)
  have hT : RRows ((W.alloc (.cells #[.int .i64 0, .int .i64 1] 3)).alloc (.cells #[.slice (some ⟨W.heap.size, 0, none⟩) 2 2] 30)) (.slice (some ⟨W.heap.size + 1, 0, none⟩) 1 1) exT :=
    rsl_of (l := exT) (by decide) (one_of (Q := fun i x => RRow ((W.alloc (.cells #[.int .i64 0, .int .i64 1] 3)).alloc (.cells #[.slice (some ⟨W.heap.size, 0, none⟩) 2 2] 30)) ⟨W.heap.size + 1, i * 1, none⟩ x) ⟨_, b2.cell 0 _ rfl, rsl_of (l := [0, 1]) (by decide) (two_of (Q := fun i x => RInt ((W.alloc (.cells #[.int .i64 0, .int .i64 1] 3)).alloc (.cells #[.slice (some ⟨W.heap.size, 0, none⟩) 2 2] 30)) ⟨W.heap.size, i * 1, none⟩ x) ⟨b1.cell 0 _ rfl, i64P _⟩ ⟨b1.cell 1 _ rfl, i64P _⟩)⟩)
  have hC := Cost_any exS d exT _ _ hS2 hT
  rw [exS_cost, exS_keE] at hC
  have HA2 := Lib.hid hA2
  clear hS hA b1 b2 hb hS2 hA2 hT
  go_wp2_with fail
  refine hC.mono ?_
  rintro e W2 ⟨rfl, hb2⟩
  have HB := Lib.hid (HA2.out.trans (hb2.mono HA2.out.size))
  clear hC hb2
  go_wp2
  go_ret
  exact ⟨rfl, HB.out⟩

set_option maxHeartbeats 4000000 in
set_option maxRecDepth 100000 in
theorem planned8_any (w : World) : Calls Try.prog 29 #[] w fun e w' => e = .returned (.bool true) ∧ Below w.heap.size w w' := by
  go_enter Try.func29, Try.ntmps29
  go_wp2_with fail
  refine (Example8_any w).mono ?_
  rintro e W ⟨d, rfl, hS, hA⟩
  have b1 := (Blk.new W #[.int .i64 0, .int .i64 1] 3).alloc (.cells #[.slice (some ⟨W.heap.size, 0, none⟩) 2 2] 30)
  have b2 := Blk.new (W.alloc (.cells #[.int .i64 0, .int .i64 1] 3)) #[.slice (some ⟨W.heap.size, 0, none⟩) 2 2] 30
  simp only [World.size_alloc] at b2
  have hb : Below W.heap.size W ((W.alloc (.cells #[.int .i64 0, .int .i64 1] 3)).alloc (.cells #[.slice (some ⟨W.heap.size, 0, none⟩) 2 2] 30)) := (below_box W _).alloc (by simp) _
  have hS2 := hS.mono (ext_of_below hb)
  have hA2 := hA.trans (hb.mono hA.size)
  have hT : RRows ((W.alloc (.cells #[.int .i64 0, .int .i64 1] 3)).alloc (.cells #[.slice (some ⟨W.heap.size, 0, none⟩) 2 2] 30)) (.slice (some ⟨W.heap.size + 1, 0, none⟩) 1 1) exT :=
    rsl_of (l := exT) (by decide) (one_of (Q := fun i x => RRow ((W.alloc (.cells #[.int .i64 0, .int .i64 1] 3)).alloc (.cells #[.slice (some ⟨W.heap.size, 0, none⟩) 2 2] 30)) ⟨W.heap.size + 1, i * 1, none⟩ x) ⟨_, b2.cell 0 _ rfl, rsl_of (l := [0, 1]) (by decide) (two_of (Q := fun i x => RInt ((W.alloc (.cells #[.int .i64 0, .int .i64 1] 3)).alloc (.cells #[.slice (some ⟨W.heap.size, 0, none⟩) 2 2] 30)) ⟨W.heap.size, i * 1, none⟩ x) ⟨b1.cell 0 _ rfl, i64P _⟩ ⟨b1.cell 1 _ rfl, i64P _⟩)⟩)
  have hC := Cost_any exS d exT _ _ hS2 hT
  rw [exS_cost, exS_keE] at hC
  have HA2 := Lib.hid hA2
  clear hS hA b1 b2 hb hS2 hA2 hT
  go_wp2_with fail
  refine hC.mono ?_
  rintro e W2 ⟨rfl, hb2⟩
  have HB := Lib.hid (HA2.out.trans (hb2.mono HA2.out.size))
  clear hC hb2
  go_wp2
  go_ret
  exact ⟨rfl, HB.out⟩
end Go.Proofs.Ytdffhkbncencgaa
