/- Steepest, Held, Strain, CheckLehr of package strength, by their contracts; no statement is proved here. -/
import Derived.Test.YtmmlocjiegkjeaaGreatDoorLeP
import Derived.Test.YtmmlocjiegkjeaaGreatDoorLeN
import Derived.Test.YtmmlocjiegkjeaaGreatDoorToldR
import Derived.Test.YtmmlocjiegkjeaaGreatDoorToldI
namespace Go.Proofs.YtmmlocjiegkjeaaGreatDoor
open Go.RowKit Go.PlainAid
set_option linter.unusedVariables false
set_option linter.unusedSimpArgs false
section
attribute [local go_sem] Oper.semAt_some fp_round fp_depth
end
set_option maxHeartbeats 1000000 in
set_option maxRecDepth 100000 in
theorem strainF_any (a : Option Addr) (cap : Nat) (l : Lr) (t : Sp) (th : Int) (w : World) (h : RLr w (.agg #[.slice a l.knees.length cap, .int .i64 l.factor]) l) (hok : OkLr l) (hth : 1 ≤ th ∧ th ≤ 2000) :
    Calls Tryz.prog 31 #[.agg #[.slice a l.knees.length cap, .int .i64 l.factor], .agg #[.int .i64 t.lo, .int .i64 t.hi], .int .i64 th] w fun e w' => e = .returned (.int .i64 (strainL l t th)) ∧ Below w.heap.size w w' := by
  have hA : Below w.heap.size w ((w.alloc (.cells #[.slice a l.knees.length cap, .int .i64 l.factor] 24)).alloc (.cells #[.int .i64 t.lo, .int .i64 t.hi] 30)) := (below_boxS w _).alloc (by simp) _
  have hB := (Blk.new w #[.slice a l.knees.length cap, .int .i64 l.factor] 24).alloc (.cells #[.int .i64 t.lo, .int .i64 t.hi] 30)
  have hS := Blk.new (w.alloc (.cells #[.slice a l.knees.length cap, .int .i64 l.factor] 24)) #[.int .i64 t.lo, .int .i64 t.hi] 30
  rw [World.size_alloc] at hS
  have hq := steepL_ok hok t
  have hf := hok.factor
  obtain ⟨b1, b2, b3, b4⟩ := strQ_bd (f := l.factor) (th := th) hq hf hth
  have hs : strainL l t th = (l.factor * (steepL l t).1 * th * th + 1000000 * (steepL l t).2 - 1) / (1000000 * (steepL l t).2) := rfl
  have hq3 := hq.d1
  have hq4 := hq.d2
  go_enter Tryz.func31, Tryz.ntmps31
  have c0 := hB.cell 0 _ rfl
  have c1 := hB.cell 1 _ rfl
  have s0 := hS.cell 0 _ rfl
  have s1 := hS.cell 1 _ rfl
  go_wp2_with fail
  generalize (w.alloc (.cells #[.slice a l.knees.length cap, .int .i64 l.factor] 24)).alloc (.cells #[.int .i64 t.lo, .int .i64 t.hi] 30) = W at *
  refine (steepestF_any a cap l t W (h.mono (ext_of_below hA)) hok).mono ?_
  rintro e w1 ⟨rfl, hb1⟩
  have HS := Lib.hid hs
  clear hs hq
  generalize steepL l t = q at *
  have hA1 := hA.trans (hb1.mono hA.size)
  have hB1 := hB.below hb1 hB.lt
  have hA2 := hA1.alloc hA1.size (.cells #[.int .i64 q.1, .int .i64 q.2] 66)
  have hB2 := hB1.alloc (.cells #[.int .i64 q.1, .int .i64 q.2] 66)
  have hQ2 := Blk.new w1 #[.int .i64 q.1, .int .i64 q.2] 66
  clear c0 c1 s0 s1 hB hS hA hb1
  have e1 := hB2.cell 1 _ rfl
  have d0 := hQ2.cell 0 _ rfl
  have d1 := hQ2.cell 1 _ rfl
  have z1 := wrap_id (l.factor * q.1) (by unfold I64; omega)
  have z2 := wrap_id (l.factor * q.1 * th) (by unfold I64; omega)
  have z3 := wrap_id (l.factor * q.1 * th * th) (by unfold I64; omega)
  have z4 := wrap_id (1000000 * q.2) (by unfold I64; omega)
  have hup := fun V => up_any (l.factor * q.1 * th * th) (1000000 * q.2) V (by omega) (by omega)
  go_wp2_with fail
  refine (hup _).mono ?_
  rintro e w3 ⟨rfl, hb3⟩
  have hF := hA2.trans (hb3.mono hA2.size)
  clear hup hb3
  go_wp2
  go_ret
  exact ⟨ret_int HS.out.symm, hF⟩

theorem tempsE_ok {l : Lr} {t : Sp} (h : tempsE l t = 0) : OkLr l ∧ wi t 0 10000 = true := by
  unfold tempsE at h
  split at h
  · rename_i hc
    split at h
    · rename_i hw; exact ⟨okLr_of hc, hw⟩
    · cases h
  · rename_i hc; exact absurd h hc

/-- what Steepest answers. -/
def SteepA (w : World) (l : Lr) (t : Sp) (e : Ending) (w' : World) : Prop := e = .returned (.tuple #[.agg #[.int .i64 (steepS l t).1.1, .int .i64 (steepS l t).1.2], .int .i64 (steepS l t).2]) ∧ Below w.heap.size w w'

theorem heldE_ok {l : Lr} {t : Int} (h : heldE l t = 0) : OkLr l ∧ 0 ≤ t ∧ t ≤ 10000 := by
  unfold heldE at h
  split at h
  · rename_i hc
    split at h
    · rename_i hw; exact ⟨okLr_of hc, btw_true.1 hw⟩
    · cases h
  · rename_i hc; exact absurd h hc

/-- what Held answers. -/
def HeldA (w : World) (l : Lr) (t : Int) (e : Ending) (w' : World) : Prop := e = .returned (.tuple #[.int .i64 (heldS l t).1, .int .i64 (heldS l t).2]) ∧ Below w.heap.size w w'

theorem strainE_ok {l : Lr} {t : Sp} {th : Int} (h : strainE l t th = 0) : OkLr l ∧ wi t 0 10000 = true ∧ 1 ≤ th ∧ th ≤ 2000 := by
  unfold strainE at h
  split at h
  · rename_i hc
    split at h
    · rename_i hw
      obtain ⟨h1, h2⟩ := tempsE_ok hc
      exact ⟨h1, h2, btw_true.1 hw⟩
    · cases h
  · rename_i hc; exact absurd h hc

/-- what Strain answers. -/
def StrainA (w : World) (l : Lr) (t : Sp) (th : Int) (e : Ending) (w' : World) : Prop := e = .returned (.tuple #[.int .i64 (strainS l t th).1, .int .i64 (strainS l t th).2]) ∧ Below w.heap.size w w'

end Go.Proofs.YtmmlocjiegkjeaaGreatDoor
