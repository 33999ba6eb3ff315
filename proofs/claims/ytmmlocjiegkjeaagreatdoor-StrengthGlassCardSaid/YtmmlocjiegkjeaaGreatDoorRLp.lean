/- The specification's Steepest, Held, Strain; no statement is proved here. -/
import Derived.Test.YtmmlocjiegkjeaaGreatDoorRLc
import Derived.Test.YtmmlocjiegkjeaaGreatDoorRLe
import Derived.Test.YtmmlocjiegkjeaaGreatDoorRLe2
import Derived.Test.YtmmlocjiegkjeaaGreatDoorLeC
namespace Go.Proofs.YtmmlocjiegkjeaaGreatDoor
open Go.RowKit Go.PlainAid
set_option linter.unusedVariables false
set_option linter.unusedSimpArgs false
set_option maxHeartbeats 2000000 in
set_option maxRecDepth 100000 in
theorem rstrainF_any (a : Option Addr) (cap : Nat) (l : Lr) (n d th : Int) (w : World) (hf : 0 ≤ l.factor ∧ l.factor ≤ 10000) (hq : QOk (n, d)) (hth : 1 ≤ th ∧ th ≤ 2000) :
    Calls Tryz.prog 34 #[.agg #[.slice a l.knees.length cap, .int .i64 l.factor], .agg #[.int .i64 n, .int .i64 d], .int .i64 th] w fun e w' => e = .returned (.int .i64 (strQ l.factor (n, d) th)) ∧ Below w.heap.size w w' := by
  have hA : Below w.heap.size w ((w.alloc (.cells #[.slice a l.knees.length cap, .int .i64 l.factor] 24)).alloc (.cells #[.int .i64 n, .int .i64 d] 78)) := (below_boxS w _).alloc (by simp) _
  have hB := (Blk.new w #[.slice a l.knees.length cap, .int .i64 l.factor] 24).alloc (.cells #[.int .i64 n, .int .i64 d] 78)
  have hS := Blk.new (w.alloc (.cells #[.slice a l.knees.length cap, .int .i64 l.factor] 24)) #[.int .i64 n, .int .i64 d] 78
  rw [World.size_alloc] at hS
  obtain ⟨b1, b2, b3, b4⟩ := strQ_bd (f := l.factor) (th := th) hq hf hth
  have hs : strQ l.factor (n, d) th = (l.factor * n * th * th + 1000000 * d - 1) / (1000000 * d) := rfl
  have hq3 := hq.d1
  have hq4 := hq.d2
  simp only at b1 b2 b3 b4 hq3 hq4
  have HS := Lib.hid hs
  clear hs
  have z1 := wrap_id (l.factor * n) (by unfold I64; omega)
  have z2 := wrap_id (l.factor * n * th) (by unfold I64; omega)
  have z3 := wrap_id (l.factor * n * th * th) (by unfold I64; omega)
  have z4 := wrap_id (1000000 * d) (by unfold I64; omega)
  have hup := fun V => rup_any (l.factor * n * th * th) (1000000 * d) V (by omega) (by omega)
  have c1 := hB.cell 1 _ rfl
  have s0 := hS.cell 0 _ rfl
  have s1 := hS.cell 1 _ rfl
  go_enter Tryz.func34, Tryz.ntmps34
  go_wp2_with fail
  generalize (w.alloc (.cells #[.slice a l.knees.length cap, .int .i64 l.factor] 24)).alloc (.cells #[.int .i64 n, .int .i64 d] 78) = W at *
  refine (hup _).mono ?_
  rintro e w3 ⟨rfl, rfl⟩
  clear hup
  go_wp2
  go_ret
  exact ⟨ret_int HS.out.symm, hA⟩

end Go.Proofs.YtmmlocjiegkjeaaGreatDoor
