/- The small functions of package strength, inside a fence of the program's own functions; no statement is proved here. -/
import Derived.Test.YtaldpalhckdcdaaGreatDoorSMath
import Derived.Test.YtaldpalhckdcdaaGreatDoorRange
import Derived.WalkLawsBesides
namespace Go.Proofs.YtaldpalhckdcdaaGreatDoor
open Go.RowKit Go.PlainAid
set_option linter.unusedVariables false
/-- the fence: the functions of the program, to any depth. -/
def Fp : Fence := { fn := fun f => ∃ g, Tryz.prog.funcs[f]? = some g, depth := none, alive := false }
theorem fp_round : Fp.round = none := rfl
theorem fp_depth : Fp.depth = none := rfl
attribute [local go_sem] fp_round fp_depth
theorem room_p (n : Nat) : Fp.room n := fun _ h => by simp [Fp] at h
theorem calls_p {n : Nat} {f : FuncId} {args : Array Value} {w : World} {R : Ending → World → Prop} (h : CallsIn Fp n Tryz.prog f args w R) : Calls Tryz.prog f args w R := h.calls room_p

def failV (n : Int) : Value := .iface 132 (.agg #[.int .i64 n])
def failC (n : Int) : List PanicEntry := [{ v := failV n, recovered := false }]

/-- it ends well just if the number is 0; else it goes wrong with it. -/
def Need (w : World) (n : Int) (e : Ending) (w' : World) : Prop := ((n = 0 ∧ e = .returned (.tuple #[])) ∨ (n ≠ 0 ∧ e = .panicked (failC n))) ∧ Below w.heap.size w w'

theorem fp_need : Fp.fn 49 := ⟨_, Tryz.func49⟩
theorem fp_within : Fp.fn 70 := ⟨_, Tryz.func70⟩
theorem fp_between : Fp.fn 50 := ⟨_, Tryz.func50⟩
theorem fp_needRing : Fp.fn 97 := ⟨_, Tryz.func97⟩
theorem fp_rings : Fp.fn 24 := ⟨_, Tryz.func24⟩
theorem fp_rings1 : Fp.fn 72 := ⟨_, Tryz.func72⟩

theorem below_boxS (w : World) (a : Obj) : Below w.heap.size w (w.alloc a) := by go_grown

set_option maxRecDepth 100000 in
theorem need_ok (n : Int) (w : World) (k : Nat) : CallsIn Fp k Tryz.prog 49 #[.bool true, .int .i64 n] w fun e w' => e = .returned (.tuple #[]) ∧ w' = w := by
  refine callsIn_of_wp Tryz.func49 rfl fp_need ?_ rfl
  simp only [Tryz.ntmps49, List.size_toArray, List.length_cons, List.length_nil, Nat.reduceAdd, Nat.reduceSub, Array.replicate_succ, Array.replicate_zero, List.push_toArray, List.append_toArray, List.nil_append, List.cons_append]
  gi_wp2
  go_end0
  exact ⟨rfl, rfl⟩

set_option maxRecDepth 100000 in
theorem need_no (n : Int) (w : World) (k : Nat) : CallsIn Fp k Tryz.prog 49 #[.bool false, .int .i64 n] w fun e w' => e = .panicked (failC n) ∧ w' = w := by
  have hpi := run_panic_iface (P := Tryz.prog)
  refine callsIn_of_wp Tryz.func49 rfl fp_need ?_ rfl
  simp only [Tryz.ntmps49, List.size_toArray, List.length_cons, List.length_nil, Nat.reduceAdd, Nat.reduceSub, Array.replicate_succ, Array.replicate_zero, List.push_toArray, List.append_toArray, List.nil_append, List.cons_append]
  gi_wp2
  exact ⟨rfl, rfl, rfl⟩

set_option maxRecDepth 100000 in
theorem within_in (s : Sp) (l m : Int) (w : World) (k : Nat) : CallsIn Fp k Tryz.prog 70 #[.agg #[.int .i64 s.lo, .int .i64 s.hi], .int .i64 l, .int .i64 m] w fun e w' => e = .returned (.bool (wi s l m)) ∧ Below w.heap.size w w' := by
  have hA : Below w.heap.size w (w.alloc (.cells #[.int .i64 s.lo, .int .i64 s.hi] 27)) := by go_grown
  refine callsIn_of_wp Tryz.func70 rfl fp_within ?_ rfl
  simp only [Tryz.ntmps70, List.size_toArray, List.length_cons, List.length_nil, Nat.reduceAdd, Nat.reduceSub, Array.replicate_succ, Array.replicate_zero, List.push_toArray, List.append_toArray, List.nil_append, List.cons_append]
  by_cases h1 : l ≤ s.lo
  · by_cases h2 : s.lo ≤ s.hi
    · gi_wp2
      go_ret
      exact ⟨ret_bool (by simp [wi, h1, h2]), hA⟩
    · gi_wp2
      go_ret
      exact ⟨ret_bool (by simp [wi, h1]; omega), hA⟩
  · gi_wp2
    go_ret
    exact ⟨ret_bool (by simp [wi]; omega), hA⟩

set_option maxRecDepth 100000 in
theorem between_in (n l m : Int) (w : World) (k : Nat) : CallsIn Fp k Tryz.prog 50 #[.int .i64 n, .int .i64 l, .int .i64 m] w fun e w' => e = .returned (.bool (btw n l m)) ∧ w' = w := by
  refine callsIn_of_wp Tryz.func50 rfl fp_between ?_ rfl
  simp only [Tryz.ntmps50, List.size_toArray, List.length_cons, List.length_nil, Nat.reduceAdd, Nat.reduceSub, Array.replicate_succ, Array.replicate_zero, List.push_toArray, List.append_toArray, List.nil_append, List.cons_append]
  by_cases h1 : l ≤ n
  · gi_wp2
    go_ret
    exact ⟨ret_bool (by simp [btw, h1]), rfl⟩
  · gi_wp2
    go_ret
    exact ⟨ret_bool (by simp [btw]; omega), rfl⟩

set_option maxRecDepth 100000 in
theorem rings_in (v0 : Value) (b : Bot) (w : World) (k : Nat) : CallsIn Fp k Tryz.prog 24 #[.agg #[v0, .int .i64 b.flaw, .int .i64 b.tough]] w fun e w' =>
    e = .returned (.func (.func 72) #[] #[.pointer (some ⟨w.heap.size, 0, none⟩)]) ∧ w' = w.alloc (.cells #[v0, .int .i64 b.flaw, .int .i64 b.tough] 24) := by
  have hmf : ∀ (fn : Fn) (first cap : Array Value) (w : World), (Instr.makeFunc fn first cap).run Tryz.prog w = .ok (.func fn first cap) w := fun _ _ _ _ => rfl
  refine callsIn_of_wp Tryz.func24 rfl fp_rings ?_ rfl
  simp only [Tryz.ntmps24, List.size_toArray, List.length_cons, List.length_nil, Nat.reduceAdd, Nat.reduceSub, Array.replicate_succ, Array.replicate_zero, List.push_toArray, List.append_toArray, List.nil_append, List.cons_append]
  gi_wp2
  go_ret
  exact ⟨rfl, rfl⟩

theorem rg_box (w : World) (r : Rg) : ∀ j x, (rgCells r)[j]? = some x → (w.alloc (.cells (rgCells r).toArray 63)).cell? ⟨w.heap.size, j, none⟩ = some x :=
  fun j x hj => (Blk.new w (rgCells r).toArray 63).cell j x (by simpa using hj)

set_option maxRecDepth 100000 in
set_option maxHeartbeats 1000000 in
theorem needRing_in (r : Rg) (w : World) (k : Nat) : CallsIn Fp k Tryz.prog 97 #[.agg (rgCells r).toArray] w fun e w' =>
    ((okR r = true ∧ e = .returned (.tuple #[])) ∨ (okR r = false ∧ e = .panicked (failC 1))) ∧ Below w.heap.size w w' := by
  have hA := below_boxS w (.cells (rgCells r).toArray 63)
  have hB := Blk.new w (rgCells r).toArray 63
  refine callsIn_of_wp Tryz.func97 rfl fp_needRing ?_ rfl
  simp only [rgCells, Tryz.ntmps97, List.size_toArray, List.length_cons, List.length_nil, Nat.reduceAdd, Nat.reduceSub, Array.replicate_succ, Array.replicate_zero, List.push_toArray, List.append_toArray, List.nil_append, List.cons_append] at hA hB ⊢
  have c0 := hB.cell 0 _ rfl
  have c1 := hB.cell 1 _ rfl
  gi_wp2_with fail
  refine ⟨fp_within, ?_⟩
  refine (within_in r.radius 1 1000 _ _).mono ?_
  rintro e w1 ⟨rfl, hb1⟩
  have hA1 := hA.trans (hb1.mono hA.size)
  have hB1 := hB.below hb1 hB.lt
  clear hb1 c0 c1 hB hA
  cases h1 : wi r.radius 1 1000 with
  | false =>
    gi_wp2_with fail
    refine ⟨fp_need, ?_⟩
    refine (need_no 1 _ _).mono ?_
    rintro e w' ⟨rfl, rfl⟩
    exact ⟨rfl, .inr ⟨by simp [okR, h1], rfl⟩, hA1⟩
  | true =>
  gi_wp2_with fail
  refine ⟨fp_need, ?_⟩
  refine (need_ok 1 _ _).mono ?_
  rintro e w' ⟨rfl, rfl⟩
  have c2 := hB1.cell 2 _ rfl
  have c3 := hB1.cell 3 _ rfl
  gi_wp2_with fail
  refine ⟨fp_within, ?_⟩
  refine (within_in r.height 1 5000 _ _).mono ?_
  rintro e w2 ⟨rfl, hb2⟩
  have hA2 := hA1.trans (hb2.mono hA1.size)
  have hB2 := hB1.below hb2 hB1.lt
  clear hb2 c2 c3 hB1 hA1
  cases h2 : wi r.height 1 5000 with
  | false =>
    gi_wp2_with fail
    refine ⟨fp_need, ?_⟩
    refine (need_no 1 _ _).mono ?_
    rintro e w' ⟨rfl, rfl⟩
    exact ⟨rfl, .inr ⟨by simp [okR, h1, h2], rfl⟩, hA2⟩
  | true =>
  gi_wp2_with fail
  refine ⟨fp_need, ?_⟩
  refine (need_ok 1 _ _).mono ?_
  rintro e w' ⟨rfl, rfl⟩
  have c4 := hB2.cell 4 _ rfl
  have c5 := hB2.cell 5 _ rfl
  gi_wp2_with fail
  refine ⟨fp_within, ?_⟩
  refine (within_in r.share 0 1000 _ _).mono ?_
  rintro e w3 ⟨rfl, hb3⟩
  have hA3 := hA2.trans (hb3.mono hA2.size)
  have hB3 := hB2.below hb3 hB2.lt
  clear hb3 c4 c5 hB2 hA2
  cases h3 : wi r.share 0 1000 with
  | false =>
    gi_wp2_with fail
    refine ⟨fp_need, ?_⟩
    refine (need_no 1 _ _).mono ?_
    rintro e w' ⟨rfl, rfl⟩
    exact ⟨rfl, .inr ⟨by simp [okR, h1, h2, h3], rfl⟩, hA3⟩
  | true =>
  gi_wp2_with fail
  refine ⟨fp_need, ?_⟩
  refine (need_ok 1 _ _).mono ?_
  rintro e w' ⟨rfl, rfl⟩
  have c6 := hB3.cell 6 _ rfl
  have c7 := hB3.cell 7 _ rfl
  gi_wp2_with fail
  refine ⟨fp_within, ?_⟩
  refine (within_in r.factor 0 10000 _ _).mono ?_
  rintro e w4 ⟨rfl, hb4⟩
  have hA4 := hA3.trans (hb4.mono hA3.size)
  have hB4 := hB3.below hb4 hB3.lt
  clear hb4 c6 c7 hB3 hA3
  cases h4 : wi r.factor 0 10000 with
  | false =>
    gi_wp2_with fail
    refine ⟨fp_need, ?_⟩
    refine (need_no 1 _ _).mono ?_
    rintro e w' ⟨rfl, rfl⟩
    exact ⟨rfl, .inr ⟨by simp [okR, h1, h2, h3, h4], rfl⟩, hA4⟩
  | true =>
  gi_wp2_with fail
  refine ⟨fp_need, ?_⟩
  refine (need_ok 1 _ _).mono ?_
  rintro e w' ⟨rfl, rfl⟩
  have c8 := hB4.cell 8 _ rfl
  have c9 := hB4.cell 9 _ rfl
  gi_wp2_with fail
  refine ⟨fp_within, ?_⟩
  refine (within_in r.hit 0 10000 _ _).mono ?_
  rintro e w5 ⟨rfl, hb5⟩
  have hA5 := hA4.trans (hb5.mono hA4.size)
  have hB5 := hB4.below hb5 hB4.lt
  clear hb5 c8 c9 hB4 hA4
  cases h5 : wi r.hit 0 10000 with
  | false =>
    gi_wp2_with fail
    refine ⟨fp_need, ?_⟩
    refine (need_no 1 _ _).mono ?_
    rintro e w' ⟨rfl, rfl⟩
    exact ⟨rfl, .inr ⟨by simp [okR, h1, h2, h3, h4, h5], rfl⟩, hA5⟩
  | true =>
  gi_wp2_with fail
  refine ⟨fp_need, ?_⟩
  refine (need_ok 1 _ _).mono ?_
  rintro e w' ⟨rfl, rfl⟩
  gi_wp2
  go_end0
  exact ⟨.inl ⟨by simp [okR, h1, h2, h3, h4, h5], rfl⟩, hA5⟩
end Go.Proofs.YtaldpalhckdcdaaGreatDoor
