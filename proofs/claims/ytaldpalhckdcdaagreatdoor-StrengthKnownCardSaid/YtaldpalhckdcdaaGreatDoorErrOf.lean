/- What goes wrong is caught: errorOf's contract; no statement is proved here. -/
import Derived.Test.YtaldpalhckdcdaaGreatDoorSmall
import Derived.Tactics
import Derived.Tactics2
import Derived.Defers
import Derived.Recover
import Derived.Laws.Pointers
namespace Go.Proofs.YtaldpalhckdcdaaGreatDoor
open Go.RowKit Go.PlainAid
set_option linter.unusedVariables false
theorem assert_fail (n : Int) (w : World) : Sem.run Tryz.prog (Instr.typeAssert (.iface 132 (.agg #[.int .i64 n])) 20 132 true) w = .ok (.tuple #[.agg #[.int .i64 n], .bool true]) w := by kernel_rfl
theorem assert_nil (w : World) : Sem.run Tryz.prog (Instr.typeAssert .nilIface 20 132 true) w = .ok (.tuple #[.agg #[.int .i64 0], .bool false]) w := by kernel_rfl

set_option maxRecDepth 100000 in
theorem catch_panic (p : Addr) (x n : Int) (older : List PanicEntry) (w : World) (hc : w.cell? p = some (.int .i64 x)) (hz : w.frozen? p = false) :
    CallsD Tryz.prog 96 #[.pointer (some p)] (.panicking ({ v := failV n, recovered := false } :: older)) w fun e u' w' =>
      e = .returned (.tuple #[]) ∧ u' = .panicking ({ v := failV n, recovered := true } :: older) ∧ w' = (w.alloc (.cells #[.int .i64 n] 132)).setCell p (.int .i64 n) := by
  have hta := assert_fail n
  have hl := cell_lt hc
  have hc1 : (w.alloc (.cells #[.int .i64 n] 132)).cell? p = some (.int .i64 x) := ext_of_below (below_boxS w _) _ _ hc
  have hz1 : (w.alloc (.cells #[.int .i64 n] 132)).frozen? p = false := by rw [(below_boxS w _).frozen hl]; exact hz
  refine callsD_of_wpS Tryz.func96 rfl fun c₀ cs hu => ?_
  apply wpS_seq
  apply wpS_region
  simp [wpOpsS, go_sem, recoverD, hu, Tryz.ntmps96, Exit.thenS, failV, hta]
  apply wpS_seq
  apply wpS_region
  simp [wpOpsS, go_sem, Exit.thenS]
  refine wpS_cond (t := true) (by simp [Act.eval, Array.replicate]) ?_
  simp only [if_true]
  apply wpS_region
  simp [wpOpsS, go_sem, hc1, hz1, bodyPostS, results, Tryz.results96]

set_option maxRecDepth 100000 in
theorem catch_none (p : Addr) (w : World) :
    CallsD Tryz.prog 96 #[.pointer (some p)] .returning w fun e u' w' =>
      e = .returned (.tuple #[]) ∧ u' = .returning ∧ w' = w.alloc (.cells #[.int .i64 0] 132) := by
  have hta := assert_nil
  refine callsD_of_wpS Tryz.func96 rfl fun c₀ cs hu => ?_
  apply wpS_seq
  apply wpS_region
  simp [wpOpsS, go_sem, recoverD, hu, Tryz.ntmps96, Exit.thenS, hta]
  apply wpS_seq
  apply wpS_region
  simp [wpOpsS, go_sem, Exit.thenS]
  refine wpS_cond (t := false) (by simp [Act.eval, Array.replicate]) ?_
  simp only [Bool.false_eq_true, if_false]
  refine wpS_of_wp (wp_skip ?_)
  cases c₀
  simp_all [bodyPostS, results, Tryz.results96]

set_option maxRecDepth 100000 in
theorem errorOf_any (gf : Nat) (caps : Array Value) (w : World) (hfn : IsFn gf) (A : World → Prop) (B : Int → World → Prop)
    (h : Calls Tryz.prog gf caps (w.alloc (.cells #[.int .i64 8] 29)) fun e w' => Blk w' w.heap.size #[.int .i64 8] 29 ∧ ((e = .returned (.tuple #[]) ∧ A w') ∨ (∃ n, e = .panicked (failC n) ∧ B n w'))) :
    Calls Tryz.prog 63 #[.func (.func gf) #[] caps] w fun e w' =>
      (∃ w2, e = .returned (.int .i64 0) ∧ A w2 ∧ w' = (w2.setCell ⟨w.heap.size, 0, none⟩ (.int .i64 0)).alloc (.cells #[.int .i64 0] 132)) ∨
      (∃ n w2, e = .returned (.int .i64 n) ∧ B n w2 ∧ w' = (w2.alloc (.cells #[.int .i64 n] 132)).setCell ⟨w.heap.size, 0, none⟩ (.int .i64 n)) := by
  have hmf : ∀ (fn : Fn) (first cap : Array Value) (w : World), (Instr.makeFunc fn first cap).run Tryz.prog w = .ok (.func fn first cap) w := fun _ _ _ _ => rfl
  have hen := fun xs w => hfn xs w
  go_enter_defers Tryz.func63, Tryz.ntmps63
  go_wp2_with fail
  refine h.mono ?_
  rintro e w1 ⟨hB, (⟨rfl, hA⟩ | ⟨m, rfl, hBm⟩)⟩
  · have c0 := hB.cell 0 _ rfl
    have g0 := hB.frozen 0
    have hcF : ((w1.setCell ⟨w.heap.size, 0, none⟩ (.int .i64 0)).alloc (.cells #[.int .i64 0] 132)).cell? ⟨w.heap.size, 0, none⟩ = some (.int .i64 0) :=
      ((hB.set 0 (.int .i64 0)).alloc _).cell 0 _ (by simp)
    have HA := Lib.hid hA
    have HF := Lib.hid hcF
    clear h hB hA hcF
    go_wp2
    refine leaves_cons (f := 96) (args := #[.pointer (some ⟨w.heap.size, 0, none⟩)]) (by simp) (by simp [go_sem]) ?_
    refine (catch_none _ _).mono ?_
    rintro e u' w'' ⟨rfl, rfl, rfl⟩
    have hcF := HF.out
    refine ⟨.int .i64 0, ?_, .inl ⟨w1, rfl, HA.out, rfl⟩⟩
    simp [results, Tryz.results63, go_sem, hcF]
  · have c0 := hB.cell 0 _ rfl
    have g0 := hB.frozen 0
    have hcF : ((w1.alloc (.cells #[.int .i64 m] 132)).setCell ⟨w.heap.size, 0, none⟩ (.int .i64 m)).cell? ⟨w.heap.size, 0, none⟩ = some (.int .i64 m) :=
      ((hB.alloc _).set 0 (.int .i64 m)).cell 0 _ (by simp)
    clear h hB
    go_wp2
    refine leaves_cons (f := 96) (args := #[.pointer (some ⟨w.heap.size, 0, none⟩)]) (by simp) (by simp [go_sem]) ?_
    refine (catch_panic _ 8 m [] _ c0 g0).mono ?_
    rintro e u' w'' ⟨rfl, rfl, rfl⟩
    refine ⟨.int .i64 m, ?_, .inr ⟨m, w1, rfl, hBm, rfl⟩⟩
    simp [results, Tryz.results63, go_sem, hcF]

end Go.Proofs.YtaldpalhckdcdaaGreatDoor
