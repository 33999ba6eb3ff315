/- A number of a span by its place; whether spans lie in others; no statement is proved here. -/
import Derived.Test.YtokgnbagegcnpaaDoorSCells
import Derived.Test.YtokgnbagegcnpaaDoorInM
import Derived.Test.YtokgnbagegcnpaaDoorTill
namespace Go.Proofs.YtokgnbagegcnpaaDoor
open Go.RowKit Go.PlainAid
set_option linter.unusedVariables false
attribute [local go_sem] Oper.semAt_some

set_option maxHeartbeats 1000000 in
set_option maxRecDepth 100000 in
theorem pick_any (s : Sp) (m : Int) (w : World) (hs : 0 ≤ s.lo ∧ s.lo ≤ s.hi ∧ s.hi ≤ 1000000) (hm : 0 ≤ m ∧ m ≤ 255) :
    Calls Tryd.prog 47 #[.agg #[.int .i64 s.lo, .int .i64 s.hi], .int .u8 m] w fun e w' => ∃ n, e = .returned (.int .i64 n) ∧ (s.lo ≤ n ∧ n ≤ s.hi) ∧ Below w.heap.size w w' := by
  have hA := below_boxS w (.cells #[.int .i64 s.lo, .int .i64 s.hi] 29)
  have hB := Blk.new w #[.int .i64 s.lo, .int .i64 s.hi] 29
  go_enter Tryd.func47, Tryd.ntmps47
  by_cases hlt : s.hi ≤ s.lo
  · have HA := Lib.hid hA
    clear hA hB
    go_wp2
    go_ret
    exact ⟨s.lo, rfl, by omega, HA.out⟩
  · have c0 := hB.cell 0 _ rfl
    have c1 := hB.cell 1 _ rfl
    have q0 : IntKind.i64.wrap m = m := (IntWalk.i64_left _).trans (wrap_id _ (by unfold I64; omega))
    have q1 : IntKind.i64.wrap (s.hi - s.lo) = s.hi - s.lo := (IntWalk.i64_left _).trans (wrap_id _ (by unfold I64; omega))
    have q2 : IntKind.i64.wrap (s.hi - s.lo + 1) = s.hi - s.lo + 1 := (IntWalk.i64_left _).trans (wrap_id _ (by unfold I64; omega))
    have q3 : ¬ (s.hi - s.lo + 1) = 0 := by omega
    have q4 : m.tmod (s.hi - s.lo + 1) = m % (s.hi - s.lo + 1) := Int.tmod_eq_emod_of_nonneg hm.1
    have r1 := Int.emod_nonneg m q3
    have r2 := Int.emod_lt_of_pos m (show 0 < s.hi - s.lo + 1 by omega)
    obtain ⟨d, hd⟩ : ∃ d, m % (s.hi - s.lo + 1) = d := ⟨_, rfl⟩
    rw [hd] at q4 r1 r2
    have q5 : IntKind.i64.wrap d = d := (IntWalk.i64_left _).trans (wrap_id _ (by unfold I64; omega))
    have q6 : IntKind.i64.wrap (s.lo + d) = s.lo + d := (IntWalk.i64_left _).trans (wrap_id _ (by unfold I64; omega))
    have D0 := hA.drew
    have HA := Lib.hid D0
    have R1 := Lib.hid (And.intro r1 r2)
    clear hd hA hB D0
    go_wp2_with fail
    refine wp_region_till (fun w' : World => w'.cell? ⟨w.heap.size, 0, none⟩ = some (.int .i64 s.lo) ∧ w'.cell? ⟨w.heap.size, 1, none⟩ = some (.int .i64 s.hi)) 99 (by kernel_rfl) ⟨c0, c1⟩ (fun hHeld => ?_)
    refine Till.take 0 (some 12) (v := ?_) rfl rfl (by kernel_rfl) (by kernel_rfl) (by kernel_rfl) (by kernel_rfl) (fun _ _ _ h => h) (Or.inl ⟨by rfl, ?_⟩) (by assumption) ?_
    rotate_left
    · (intro w hSw; (try dsimp only at hSw); go_simp; try with_reducible rfl)
    try simp only [Act.put, List.setIfInBounds_toArray, List.set_cons_zero, List.set_cons_succ]
    refine Till.take 1 (some 13) (v := ?_) rfl rfl (by kernel_rfl) (by kernel_rfl) (by kernel_rfl) (by kernel_rfl) (fun _ _ _ h => h) (Or.inl ⟨by rfl, ?_⟩) (by assumption) ?_
    rotate_left
    · (intro w hSw; (try dsimp only at hSw); go_simp; try with_reducible rfl)
    try simp only [Act.put, List.setIfInBounds_toArray, List.set_cons_zero, List.set_cons_succ]
    refine Till.take 2 (some 14) (v := ?_) rfl rfl (by kernel_rfl) (by kernel_rfl) (by kernel_rfl) (by kernel_rfl) (fun _ _ _ h => h) (Or.inl ⟨by rfl, ?_⟩) (by assumption) ?_
    rotate_left
    · (intro w hSw; (try dsimp only at hSw); go_simp; try with_reducible rfl)
    try simp only [Act.put, List.setIfInBounds_toArray, List.set_cons_zero, List.set_cons_succ]
    refine Till.take 3 (some 15) (v := ?_) rfl rfl (by kernel_rfl) (by kernel_rfl) (by kernel_rfl) (by kernel_rfl) (fun _ _ _ h => h) (Or.inl ⟨by rfl, ?_⟩) (by assumption) ?_
    rotate_left
    · (intro w hSw; (try dsimp only at hSw); go_simp; try with_reducible rfl)
    try simp only [Act.put, List.setIfInBounds_toArray, List.set_cons_zero, List.set_cons_succ]
    refine Till.take 4 (some 16) (v := ?_) rfl rfl (by kernel_rfl) (by kernel_rfl) (by kernel_rfl) (by kernel_rfl) (fun _ _ _ h => h) (Or.inl ⟨by rfl, ?_⟩) (by assumption) ?_
    rotate_left
    · (intro w hSw; (try dsimp only at hSw); go_simp; try with_reducible rfl)
    try simp only [Act.put, List.setIfInBounds_toArray, List.set_cons_zero, List.set_cons_succ]
    refine Till.take 5 (some 17) (v := ?_) rfl rfl (by kernel_rfl) (by kernel_rfl) (by kernel_rfl) (by kernel_rfl) (fun _ _ _ h => h) (Or.inl ⟨by rfl, ?_⟩) (by assumption) ?_
    rotate_left
    · (intro w hSw; (try dsimp only at hSw); go_simp; try with_reducible rfl)
    try simp only [Act.put, List.setIfInBounds_toArray, List.set_cons_zero, List.set_cons_succ]
    refine Till.take 6 (some 18) (v := ?_) rfl rfl (by kernel_rfl) (by kernel_rfl) (by kernel_rfl) (by kernel_rfl) (fun _ _ _ h => h) (Or.inl ⟨by rfl, ?_⟩) (by assumption) ?_
    rotate_left
    · (intro w hSw; (try dsimp only at hSw); go_simp; try with_reducible rfl)
    try simp only [Act.put, List.setIfInBounds_toArray, List.set_cons_zero, List.set_cons_succ]
    refine Till.take 7 (some 19) (v := ?_) rfl rfl (by kernel_rfl) (by kernel_rfl) (by kernel_rfl) (by kernel_rfl) (fun _ _ _ h => h) (Or.inl ⟨by rfl, ?_⟩) (by assumption) ?_
    rotate_left
    · (intro w hSw; (try dsimp only at hSw); go_simp; try with_reducible rfl)
    try simp only [Act.put, List.setIfInBounds_toArray, List.set_cons_zero, List.set_cons_succ]
    refine Till.take 8 (some 20) (v := ?_) rfl rfl (by kernel_rfl) (by kernel_rfl) (by kernel_rfl) (by kernel_rfl) (fun _ _ _ h => h) (Or.inl ⟨by rfl, ?_⟩) (by assumption) ?_
    rotate_left
    · (intro w hSw; (try dsimp only at hSw); go_simp; try with_reducible rfl)
    try simp only [Act.put, List.setIfInBounds_toArray, List.set_cons_zero, List.set_cons_succ]
    refine Till.take 9 (some 21) (v := ?_) rfl rfl (by kernel_rfl) (by kernel_rfl) (by kernel_rfl) (by kernel_rfl) (fun _ _ _ h => h) (Or.inl ⟨by rfl, ?_⟩) (by assumption) ?_
    rotate_left
    · (intro w hSw; (try dsimp only at hSw); go_simp; try with_reducible rfl)
    try simp only [Act.put, List.setIfInBounds_toArray, List.set_cons_zero, List.set_cons_succ]
    refine Till.take 10 (some 22) (v := ?_) rfl rfl (by kernel_rfl) (by kernel_rfl) (by kernel_rfl) (by kernel_rfl) (fun _ _ _ h => h) (Or.inl ⟨by rfl, ?_⟩) (by assumption) ?_
    rotate_left
    · (intro w hSw; (try dsimp only at hSw); go_simp; try with_reducible rfl)
    try simp only [Act.put, List.setIfInBounds_toArray, List.set_cons_zero, List.set_cons_succ]
    refine Till.take 11 (some 23) (v := ?_) rfl rfl (by kernel_rfl) (by kernel_rfl) (by kernel_rfl) (by kernel_rfl) (fun _ _ _ h => h) (Or.inl ⟨by rfl, ?_⟩) (by assumption) ?_
    rotate_left
    · (intro w hSw; (try dsimp only at hSw); go_simp; try with_reducible rfl)
    try simp only [Act.put, List.setIfInBounds_toArray, List.set_cons_zero, List.set_cons_succ]
    refine Till.take 12 (some 4) (v := ?_) rfl rfl (by kernel_rfl) (by kernel_rfl) (by kernel_rfl) (by kernel_rfl) (fun _ _ _ h => h) (Or.inl ⟨by rfl, ?_⟩) (by assumption) ?_
    rotate_left
    · (intro w hSw; (try dsimp only at hSw); go_simp; try with_reducible rfl)
    try simp only [Act.put, List.setIfInBounds_toArray, List.set_cons_zero, List.set_cons_succ]
    refine Till.done (by kernel_rfl) ?_ _
    clear hHeld c0 c1 q0 q1 q2 q3 q4 q5 q6
    go_wp2
    go_ret
    exact ⟨s.lo + d, rfl, by have := R1.out; omega, HA.out⟩

theorem below_drewN5 {B n : Nat} {a w : World} (h : Below B a w) : Below B a (w.drewN n) := ⟨h.os, h.tape, h.output, h.size, h.block⟩
/-- spans that lie in others, number by number. -/
def InL (a b : List Sp) : Prop := a.length = b.length ∧ ∀ j (h : j < a.length) (h' : j < b.length), InS a[j] b[j]

set_option maxHeartbeats 1000000 in
set_option maxRecDepth 100000 in
theorem inside_any (v1 v2 : Value) (a b : List Sp) (w : World) (ha : RSps w v1 a) (hb : RSps w v2 b) (hin : InL a b) :
    Calls Tryd.prog 49 #[v1, v2] w fun e w' => e = .returned (.bool true) ∧ Below w.heap.size w w' := by
  obtain ⟨pa, ka, rfl, -, ⟨-, la⟩, hal⟩ := ha
  obtain ⟨pb, kb, rfl, -, ⟨-, lb⟩, hbl⟩ := hb
  obtain ⟨hl, hin⟩ := hin
  have hq : ((a.length : Int) != (b.length : Int)) = false := by rw [bne_eq_false_iff_eq]; omega
  have hle : a.length ≤ b.length := by omega
  clear hl
  go_enter Tryd.func49, Tryd.ntmps49
  go_wp2
  go_loopw [5] (fun i wr => ∃ (k : Nat), k ≤ a.length ∧ i = .int .i64 k ∧ Below w.heap.size w wr) (fun i _ => a.length - (intOf i).toNat)
  case atStart => exact ⟨0, Nat.zero_le _, rfl, Below.refl _ _⟩
  case round =>
    obtain ⟨k, hk, rfl, hB⟩ := hrel
    clear hq
    by_cases hlt : k < a.length
    · obtain ⟨b1, o1, rfl, q1, q2, -, -⟩ := hal k hlt
      obtain ⟨b2, o2, rfl, s1, s2, -, -⟩ := hbl k (by omega)
      have hkk := hin k hlt (by omega)
      simp only at q1 q2 s1 s2
      have k1 := ext_of_below hB _ _ q1
      have k2 := ext_of_below hB _ _ q2
      have k3 := ext_of_below hB _ _ s1
      have k4 := ext_of_below hB _ _ s2
      have i1 : (0 : Int) ≤ (k : Int) := Int.natCast_nonneg _
      have i2 : (k : Int) < (a.length : Int) := by omega
      have i3 : (k : Int) < (b.length : Int) := by omega
      clear hal hbl q1 q2 s1 s2
      generalize a[k]'hlt = x at *
      generalize b[k]'(by omega) = y at *
      have z1 := hkk.lo
      have z2 := hkk.hi
      go_wp2_with fail
      have hb0 : Below w.heap.size w wr.drew := hB.drew
      clear hkk
      go_quiet (fail)
      go_wp2
      go_roundw
      case rel => exact ⟨k + 1, by omega, by go_num, below_drewN5 hB⟩
      case measure => simp [intOf]; omega
    · obtain rfl : k = a.length := by omega
      have HB := Lib.hid hB
      clear hal hbl hB
      go_wp2
      go_ret
      exact ⟨rfl, HB.out⟩

end Go.Proofs.YtokgnbagegcnpaaDoor
