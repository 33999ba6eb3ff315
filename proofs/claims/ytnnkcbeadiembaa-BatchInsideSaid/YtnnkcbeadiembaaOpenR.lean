/- What contents that a delivery really had read as; no statement is proved here. -/
import Derived.Test.YtnnkcbeadiembaaOpen2
namespace Go.Proofs.Ytnnkcbeadiembaa
open Go.RowKit Go.PlainAid Go.ChangeShapes Go.WideShapes Go.ChangeAt
set_option linter.unusedVariables false

def RU8 (w : World) (p : Addr) (x : Int) : Prop := w.cell? p = some (.int .u8 x) ∧ 0 ≤ x ∧ x ≤ 255
def RU8s := RSl 1 RU8
def RRow (w : World) (p : Addr) (l : List Int) : Prop := ∃ v, w.cell? p = some v ∧ RU8s w v l
def RU8ss := RSl 1 RRow
def RReal (w : World) (v : Value) (P : List (List Int)) : Prop := ∃ v0, v = .agg #[v0] ∧ RU8ss w v0 P

theorem RU8.mono {w w' : World} (e : Ext w w') {p : Addr} {x : Int} (h : RU8 w p x) : RU8 w' p x := ⟨e _ _ h.1, h.2⟩
theorem RU8s.mono {w w' : World} (e : Ext w w') {v : Value} {x : List Int} (h : RU8s w v x) : RU8s w' v x := RSl.mono h fun _ _ _ => RU8.mono e
theorem RRow.mono {w w' : World} (e : Ext w w') {p : Addr} {x : List Int} (h : RRow w p x) : RRow w' p x := by
  obtain ⟨v, h1, h2⟩ := h
  exact ⟨v, e _ _ h1, RU8s.mono e h2⟩
theorem RU8ss.mono {w w' : World} (e : Ext w w') {v : Value} {x : List (List Int)} (h : RU8ss w v x) : RU8ss w' v x := RSl.mono h fun _ _ _ => RRow.mono e
theorem RReal.mono {w w' : World} (e : Ext w w') {v : Value} {x : List (List Int)} (h : RReal w v x) : RReal w' v x := by
  obtain ⟨v, h1, h2⟩ := h
  exact ⟨v, h1, RU8ss.mono e h2⟩

section
variable {H : Type} {enc : TypeId × Value → H} {w : World} {base : Nat} {spare : Nat → Bool} {held : Bool}

theorem wf_U8 {n : Int} (h : (Lit.int .u8 n).wf = true) : 0 ≤ n ∧ n ≤ 255 := by
  simp only [Lit.wf, Bool.and_eq_true, IntKind.min, IntKind.max, IntKind.signed, IntKind.bits] at h
  simp at h
  omega

def CU8 (cs : List Value) (n : Int) : Prop := cs = [.int .u8 n] ∧ 0 ≤ n ∧ n ≤ 255
theorem rd_u8 : Rd enc w base spare held 5 CU8 := fun fuel cs x h _ => by
  obtain ⟨n, rfl, _, hw⟩ := DataW.trod_int Try.underlying5 h
  exact ⟨n, rfl, wf_U8 hw⟩
theorem rd_u8s : Rd enc w base spare held 96 fun cs l => ∃ v, cs = [v] ∧ RU8s w v l :=
  rd_slice Try.underlying96 (by kernel_rfl) (by decide) (by rw [show Try.prog.bytesOf 5 = 1 from by kernel_rfl]; decide) rd_u8 fun b o cs a ⟨h1, h2⟩ _ hc => by
    subst h1
    exact ⟨by simpa using hc 0 (by simp), h2⟩
theorem rd_u8ss : Rd enc w base spare held 46 fun cs l => ∃ v, cs = [v] ∧ RU8ss w v l :=
  rd_slice Try.underlying46 (by kernel_rfl) (by decide) (by rw [show Try.prog.bytesOf 96 = 24 from by kernel_rfl]; decide) rd_u8s fun b o cs a ⟨v, h1, h2⟩ _ hc => by
    subst h1
    exact ⟨v, by simpa using hc 0 (by simp), h2⟩

theorem cells_real : Try.prog.cellsOf 48 = 1 := by kernel_rfl
theorem cells_u8ss : Try.prog.cellsOf 46 = 1 := by kernel_rfl
theorem len1 {α : Type} : ∀ {cs : List α}, cs.length = 1 → ∃ c0, cs = [c0]
  | [c0], _ => ⟨_, rfl⟩

theorem rd_real : Rd enc w base spare held 48 fun cs P => RReal w (.agg cs.toArray) P := fun fuel cs x h hl => by
  obtain ⟨hc, hf⟩ := struct_field Try.underlying48 h hl
  rw [cells_real] at hc
  obtain ⟨c0, rfl⟩ := len1 hc
  obtain ⟨n0, y0, h0, l0⟩ := hf 0 46 0 rfl
  simp only [cells_u8ss, List.drop_zero, List.take_succ_cons, List.take_zero] at h0
  obtain ⟨a0, v0, e0, i0⟩ := rd_u8ss _ _ _ h0 l0
  simp only [List.cons.injEq, and_true] at e0
  subst e0
  exact ⟨a0, _, rfl, i0⟩

end
end Go.Proofs.Ytnnkcbeadiembaa
