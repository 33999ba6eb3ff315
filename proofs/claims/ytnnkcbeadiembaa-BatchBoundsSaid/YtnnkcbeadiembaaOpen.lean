/- What the arguments of the statements read as; no statement is proved here. -/
import Derived.Test.YtnnkcbeadiembaaExact
import Derived.Deep.Slices
import Derived.SizedLaws
import Derived.ProofKit
namespace Go.Proofs.Ytnnkcbeadiembaa
open Go.RowKit Go.PlainAid Go.ChangeShapes Go.WideShapes Go.ChangeAt
set_option linter.unusedVariables false

section
variable {H : Type} {enc : TypeId × Value → H} {w : World} {base : Nat} {spare : Nat → Bool} {held : Bool}

def Light (t : TypeId) (d : DataW H) : Prop := ∀ n ∈ d.weights Try.prog t, n ≤ 140737488351232

/-- cells that read at a type are those of something. -/
def Rd {α : Type} (enc : TypeId × Value → H) (w : World) (base : Nat) (spare : Nat → Bool) (held : Bool) (t : TypeId) (V : List Value → α → Prop) : Prop :=
  ∀ fuel cs x, DataW.trod enc Try.prog w base spare held fuel t cs = some x → Light t x.1 → ∃ a, V cs a

theorem wf_I64 {n : Int} (h : (Lit.int .i64 n).wf = true) : I64 n := by
  simp only [Lit.wf, Bool.and_eq_true, decide_eq_true_eq, IntKind.min, IntKind.max, IntKind.signed, IntKind.bits] at h
  unfold I64
  simp at h
  omega

def CInt (cs : List Value) (n : Int) : Prop := cs = [.int .i64 n] ∧ I64 n
theorem rd_int : Rd enc w base spare held 3 CInt := fun fuel cs x h _ => by
  obtain ⟨n, rfl, _, hw⟩ := DataW.trod_int Try.underlying3 h
  exact ⟨n, rfl, wf_I64 hw⟩

def CStr (cs : List Value) (s : ByteArray) : Prop := cs = [.string s] ∧ s.size ≤ 140737488351232
theorem rd_str : Rd enc w base spare held 9 CStr := fun fuel cs x h hl => by
  obtain ⟨s, rfl, rfl, hw⟩ := DataW.trod_string Try.underlying9 h
  refine ⟨s, rfl, ?_⟩
  have := hl s.data.toList.length (by simp [DataW.weights])
  simpa using this

theorem plain_add (b off k : Nat) : (⟨b, off, none⟩ : Addr).add k = ⟨b, off + k, none⟩ := by
  unfold Addr.add
  split
  · rename_i h; subst h; rfl
  · rfl

theorem weights_elem {e : TypeId} : ∀ {l : List (DataW H)} {d : DataW H}, d ∈ l → ∀ n ∈ d.weights Try.prog e, n ∈ DataW.weightsAll Try.prog e l
  | a :: l, d, h, n, hn => by
    simp only [DataW.weightsAll, List.mem_append]
    rcases List.mem_cons.1 h with rfl | h
    · exact .inl hn
    · exact .inr (weights_elem h n hn)

theorem rd_slice {α : Type} {t e : TypeId} {sz : Nat} {V : List Value → α → Prop} {R : World → Addr → α → Prop} (ht : Try.prog.underlying t = some (.slice e)) (hC : Try.prog.cellsOf e = sz) (h0 : 0 < sz) (hb : 0 < Try.prog.bytesOf e)
    (he : Rd enc w base spare held e V) (hlink : ∀ b o cs a, V cs a → cs.length = sz → (∀ j (h : j < cs.length), w.cell? ⟨b, o + j, none⟩ = some (cs[j]'h)) → R w ⟨b, o, none⟩ a) :
    Rd enc w base spare held t fun cs l => ∃ v, cs = [v] ∧ RSl sz R w v l := by
  intro fuel cs x h hl
  rcases DataW.trod_slice ht h with ⟨rfl, rfl⟩ | ⟨a, len, cap, elems, rest, n, rfl, rfl, rfl, _, hlc, hcm, hlen, hel, _, _⟩
  · exact ⟨[], _, rfl, none, 0, rfl, Nat.le_refl _, ⟨by omega, by simp⟩, fun i hi => by simp at hi⟩
  · have hw : len ≤ 140737488351232 := by
      have := hl ((elems.length + rest.length) * Try.prog.bytesOf e) (by simp [DataW.weights, ht])
      have h1 : len * 1 ≤ (elems.length + rest.length) * Try.prog.bytesOf e := Nat.mul_le_mul (by omega) hb
      omega
    have key : ∀ i, i < len → ∃ x : α, (∃ cs', V cs' x ∧ cs'.length = sz ∧ ∀ j, j < sz → w.cell? (a.add (i * sz + j)) = cs'[j]?) := by
      intro i hi
      have h1 := hel i hi
      rw [List.getElem?_eq_getElem (by omega)] at h1
      obtain ⟨cs', hc, ht'⟩ := Option.bind_eq_some_iff.1 h1
      rw [hC] at hc
      obtain ⟨_, hcl, hat⟩ := World.cells?_some hc
      obtain ⟨x, hx⟩ := he _ _ _ ht' fun m hm => hl m (by
        simp only [DataW.weights, ht, List.mem_cons, List.mem_append]
        exact .inr (.inl (weights_elem (List.mem_map_of_mem (List.getElem_mem (by omega))) m hm)))
      refine ⟨x, cs', hx, hcl, fun j hj => ?_⟩
      rw [← Go.Deep.add_add]
      exact hat j hj
    refine ⟨(List.range len).attach.map fun i => (key i.1 (List.mem_range.1 i.2)).choose, _, rfl, some a, cap, by simp, by simpa using hlc, ⟨by simpa [maxLen] using hcm, by simpa using hw⟩, fun i hi => ?_⟩
    have hi' : i < len := by simpa using hi
    obtain ⟨cs', hV, hcl, hat⟩ := (key i hi').choose_spec
    obtain ⟨b, off, spot⟩ := a
    have hspot : spot = none := by
      by_cases hi0 : i = 0
      · subst hi0
        have := hat 0 h0
        rw [List.getElem?_eq_getElem (by omega)] at this
        simp only [Nat.zero_mul, Nat.add_zero, Addr.add, if_true] at this
        exact World.cell?_spot this
      · have hl0 : 0 < len := by omega
        obtain ⟨cs0, _, hcl0, hat0⟩ := (key 0 hl0).choose_spec
        have := hat0 0 h0
        rw [List.getElem?_eq_getElem (by omega)] at this
        simp only [Nat.zero_mul, Nat.add_zero, Addr.add, if_true] at this
        exact World.cell?_spot this
    subst hspot
    refine ⟨b, off, rfl, ?_⟩
    have hget : ((List.range len).attach.map fun i => (key i.1 (List.mem_range.1 i.2)).choose)[i]'hi = (key i hi').choose := by simp only [List.getElem_map, List.getElem_attach, List.getElem_range]
    rw [hget]
    refine hlink _ _ cs' _ hV hcl fun j hj => ?_
    have h2 := hat j (by omega)
    rw [List.getElem?_eq_getElem hj] at h2
    rw [plain_add] at h2
    rw [Nat.add_assoc]
    exact h2

theorem rd_ints : Rd enc w base spare held 30 fun cs l => ∃ v, cs = [v] ∧ RInts w v l :=
  rd_slice Try.underlying30 (by kernel_rfl) (by decide) (by rw [show Try.prog.bytesOf 3 = 8 from by kernel_rfl]; decide) rd_int fun b o cs a ⟨h1, h2⟩ _ hc => by
    subst h1
    exact ⟨by simpa using hc 0 (by simp), h2⟩

theorem rd_strs : Rd enc w base spare held 22 fun cs l => ∃ v, cs = [v] ∧ RStrs w v l :=
  rd_slice Try.underlying22 (by kernel_rfl) (by decide) (by rw [show Try.prog.bytesOf 9 = 16 from by kernel_rfl]; decide) rd_str fun b o cs a ⟨h1, h2⟩ _ hc => by
    subst h1
    exact ⟨by simpa using hc 0 (by simp), h2⟩

end
end Go.Proofs.Ytnnkcbeadiembaa
