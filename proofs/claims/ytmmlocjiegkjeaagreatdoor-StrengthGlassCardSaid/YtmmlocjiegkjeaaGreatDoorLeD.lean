/- What Go's lehrs read as; no statement is proved here. -/
import Derived.Test.YtmmlocjiegkjeaaGreatDoorLeM
namespace Go.Proofs.YtmmlocjiegkjeaaGreatDoor
open Go.RowKit Go.PlainAid Go.ChangeShapes Go.WideShapes Go.ChangeAt
set_option linter.unusedVariables false
section
variable {H : Type} {enc : TypeId × Value → H} {w : World} {base : Nat} {spare : Nat → Bool} {held : Bool}
theorem cells_knee : Tryz.prog.cellsOf 101 = 2 := by kernel_rfl
theorem cells_knees : Tryz.prog.cellsOf 22 = 1 := by kernel_rfl
theorem cells_lehr : Tryz.prog.cellsOf 24 = 2 := by kernel_rfl
theorem rd_knee : Rd enc w base spare held 101 CSp := fun fuel cs x h hl => by
  obtain ⟨hc, hf⟩ := struct_field Tryz.underlying101 h hl
  rw [cells_knee] at hc
  obtain ⟨c0, c1, rfl⟩ := len2 hc
  obtain ⟨n0, y0, h0, l0⟩ := hf 0 3 0 rfl
  obtain ⟨n1, y1, h1, l1⟩ := hf 1 3 1 rfl
  simp only [cells_int, List.drop_zero, List.drop_succ_cons, List.take_succ_cons, List.take_zero] at h0 h1
  obtain ⟨a, e0, i0⟩ := rd_int _ _ _ h0 l0
  obtain ⟨b, e1, i1⟩ := rd_int _ _ _ h1 l1
  simp only [List.cons.injEq, and_true] at e0 e1
  subst e0 e1
  exact ⟨⟨a, b⟩, rfl, i0, i1⟩
theorem rd_knees : Rd enc w base spare held 22 fun cs l => ∃ v, cs = [v] ∧ RSps w v l :=
  rd_slice Tryz.underlying22 cells_knee (by decide) (by rw [show Tryz.prog.bytesOf 101 = 16 from by kernel_rfl]; decide) rd_knee fun b o cs a ⟨h1, h2, h3⟩ _ hc => by
    subst h1
    exact ⟨by simpa using hc 0 (by simp), by simpa using hc 1 (by simp), h2, h3⟩
theorem rd_lehr : Rd enc w base spare held 24 fun cs l => RLr w (.agg cs.toArray) l := fun fuel cs x h hl => by
  obtain ⟨hc, hf⟩ := struct_field Tryz.underlying24 h hl
  rw [cells_lehr] at hc
  obtain ⟨c0, c1, rfl⟩ := len2 hc
  obtain ⟨n0, y0, h0, l0⟩ := hf 0 22 0 rfl
  obtain ⟨n1, y1, h1, l1⟩ := hf 1 3 1 rfl
  simp only [cells_int, cells_knees, List.drop_zero, List.drop_succ_cons, List.take_succ_cons, List.take_zero] at h0 h1
  obtain ⟨a0, v0, e0, i0⟩ := rd_knees _ _ _ h0 l0
  obtain ⟨a1, e1, i1⟩ := rd_int _ _ _ h1 l1
  simp only [List.cons.injEq, and_true] at e0 e1
  subst e0 e1
  exact ⟨⟨a0, a1⟩, _, rfl, i0, i1⟩
end
end Go.Proofs.YtmmlocjiegkjeaaGreatDoor
