/- The forms of a batch: the two loops; no statement is proved here. -/
import Derived.Test.YtnnkcbeadiembaaForms
import Derived.Deep.RegionLaw
namespace Go.Proofs.Ytnnkcbeadiembaa
open Go.RowKit Go.PlainAid
set_option linter.unusedVariables false

def pc (u : Value × Value) : List Value := [u.1, u.2]

/-- what is seen without a slice's own block. -/
def offOwn (v : Value) (b : Nat) : Prop := v.ownBlock ≠ some b

/-- a slice of the call's own whose elements, two cells each, stand for a list; what they lead to lies outside of its block. -/
def OwnPairs {α : Type} (R : World → Value → Value → α → Prop) (T : Nat → Prop) (w : World) (base : Nat) (e : TypeId) (v : Value) (l : List α) : Prop :=
  ∃ us : List (Value × Value), us.length = l.length ∧ w.ownsRow base e 2 v l.length (us.flatMap pc) ∧ (∀ u ∈ us, u.1.oneCell' = true ∧ u.2.oneCell' = true) ∧ ∀ i (h : i < l.length) (h' : i < us.length), R (vis (fun b => T b ∧ offOwn v b) w) (us[i]'h').1 (us[i]'h').2 (l[i]'h)

theorem ownPairs_nil {α : Type} (R : World → Value → Value → α → Prop) (T : Nat → Prop) (w : World) (base : Nat) (e : TypeId) : OwnPairs R T w base e (.slice none 0 0) ([] : List α) :=
  ⟨[], rfl, World.ownsRow_nil w base e 2, by simp, fun i h => by simp at h⟩

theorem OwnPairs.below {α : Type} {R : World → Value → Value → α → Prop} (hR : ∀ (w w1 : World), Ext w w1 → ∀ c u x, R w c u x → R w1 c u x) {T : Nat → Prop} {w w1 : World} {base : Nat} {e : TypeId} {v : Value} {l : List α} (h : OwnPairs R T w base e v l) (hb : Below w.heap.size w w1) : OwnPairs R T w1 base e v l := by
  obtain ⟨us, h1, h2, h3, h4⟩ := h
  exact ⟨us, h1, own_below h2 hb (own_lt h2), h3, fun i h h' => hR _ _ (ext_vis_of (ext_of_below hb) (fun _ _ h => h)) _ _ _ (h4 i h h')⟩

/-- with what was appended: g: the new slice's block. -/
theorem ownPairs_snoc {α : Type} {R : World → Value → Value → α → Prop} (hR : ∀ (w w1 : World), Ext w w1 → ∀ c u x, R w c u x → R w1 c u x) {T : Nat → Prop} {w w1 : World} {base : Nat} {e : TypeId} {v : Value} {l l2 : List α} {us us2 : List (Value × Value)} {g n cap : Nat} (h1 : us.length = l.length) (h2 : us2.length = l2.length)
    (hown : w1.ownsRow base e 2 (.slice (some ⟨g, 0, none⟩) n cap) (l.length + l2.length) (us.flatMap pc ++ us2.flatMap pc)) (hg : w.grownBy w1 v.ownBlock) (hat : v.ownBlock = some g ∨ g = w.heap.size)
    (h3 : ∀ u ∈ us, u.1.oneCell' = true ∧ u.2.oneCell' = true) (h3' : ∀ u ∈ us2, u.1.oneCell' = true ∧ u.2.oneCell' = true)
    (h4 : ∀ i (h : i < l.length) (h' : i < us.length), R (vis (fun b => T b ∧ offOwn v b) w) (us[i]'h').1 (us[i]'h').2 (l[i]'h)) (h5 : ∀ i (h : i < l2.length) (h' : i < us2.length), R (vis (fun b => T b ∧ offOwn v b) w) (us2[i]'h').1 (us2[i]'h').2 (l2[i]'h)) : OwnPairs R T w1 base e (.slice (some ⟨g, 0, none⟩) n cap) (l ++ l2) := by
  have hE : Ext (vis (fun b => T b ∧ offOwn v b) w) (vis (fun b => T b ∧ offOwn (.slice (some ⟨g, 0, none⟩) n cap) b) w1) := ext_vis fun p x hp hx => by
    refine ⟨⟨hp.1, ?_⟩, hg.cell hx (fun e => hp.2 e.symm)⟩
    intro e
    simp only [Value.ownBlock, Option.some.injEq] at e
    rcases hat with hat | hat
    · exact hp.2 (by rw [hat, e])
    · have := cell_lt hx
      omega
  refine ⟨us ++ us2, by simp [h1, h2], by rw [List.length_append, List.flatMap_append]; exact hown, ?_, ?_⟩
  · intro u hu
    rcases List.mem_append.1 hu with hu | hu
    · exact h3 u hu
    · exact h3' u hu
  · intro i h h'
    by_cases hi : i < l.length
    · rw [List.getElem_append_left (by omega), List.getElem_append_left hi]
      exact hR _ _ hE _ _ _ (h4 i hi (by omega))
    · simp only [List.length_append] at h h'
      rw [List.getElem_append_right (by omega), List.getElem_append_right (by omega)]
      have := hR _ _ hE _ _ _ (h5 (i - l.length) (by omega) (by omega))
      simpa [h1] using this

theorem pc_one (us : List (Value × Value)) (h : ∀ u ∈ us, u.1.oneCell' = true ∧ u.2.oneCell' = true) : ∀ x ∈ us.flatMap pc, x.oneCell' = true := by
  intro x hx
  obtain ⟨u, hu, hx⟩ := List.mem_flatMap.1 hx
  simp only [pc, List.mem_cons, List.not_mem_nil, or_false] at hx
  rcases hx with rfl | rfl
  · exact (h u hu).1
  · exact (h u hu).2

/-- what a list that is read has in its cells. -/
theorem pairs_of {α : Type} {R : World → Value → Value → α → Prop} {w : World} {b off : Nat} {l : List α} (hR1 : ∀ w c u x, R w c u x → c.oneCell' = true ∧ u.oneCell' = true)
    (h : ∀ i (h : i < l.length), ∃ c u, w.cell? ⟨b, off + i * 2, none⟩ = some c ∧ w.cell? ⟨b, off + i * 2 + 1, none⟩ = some u ∧ R w c u (l[i]'h)) :
    ∃ us : List (Value × Value), us.length = l.length ∧ (∀ j x, (us.flatMap pc)[j]? = some x → w.cell? ⟨b, off + j, none⟩ = some x) ∧ (∀ u ∈ us, u.1.oneCell' = true ∧ u.2.oneCell' = true) ∧ ∀ i (h : i < l.length) (h' : i < us.length), R w (us[i]'h').1 (us[i]'h').2 (l[i]'h) := by
  induction l generalizing off with
  | nil => exact ⟨[], rfl, by simp, by simp, fun i h => by simp at h⟩
  | cons a l ih =>
    obtain ⟨c, u, g1, g2, g3⟩ := h 0 (by simp)
    obtain ⟨us, k1, k2, k3, k4⟩ := ih (off := off + 2) (fun i hi => by
      obtain ⟨c, u, g1, g2, g3⟩ := h (i + 1) (by simpa using hi)
      exact ⟨c, u, by rw [show off + 2 + i * 2 = off + (i + 1) * 2 from by omega]; exact g1, by rw [show off + 2 + i * 2 + 1 = off + (i + 1) * 2 + 1 from by omega]; exact g2, by simpa using g3⟩)
    refine ⟨(c, u) :: us, by simp [k1], ?_, ?_, ?_⟩
    · intro j x hx
      rw [List.flatMap_cons] at hx
      match j with
      | 0 => simp only [pc, List.cons_append, List.getElem?_cons_zero, Option.some.injEq] at hx; subst hx; simpa using g1
      | 1 => simp only [pc, List.cons_append, List.getElem?_cons_succ, List.getElem?_cons_zero, Option.some.injEq] at hx; subst hx; simpa using g2
      | j + 2 =>
        simp only [pc, List.cons_append, List.getElem?_cons_succ, List.nil_append] at hx
        have := k2 j x hx
        rw [show off + (j + 2) = off + 2 + j from by omega]
        exact this
    · intro v hv
      rcases List.mem_cons.1 hv with rfl | hv
      · exact hR1 _ _ _ _ g3
      · exact k3 v hv
    · intro i hi hi'
      cases i with
      | zero => simpa using g3
      | succ i => simpa using k4 i (by simpa using hi) (by simpa using hi')

theorem fmMono : ∀ (w w1 : World), Ext w w1 → ∀ c u x, FmIs w c u x → FmIs w1 c u x := fun _ _ e _ _ _ h => h.mono e
theorem FmIs.one (w : World) (c u : Value) (f : Fm) (h : FmIs w c u f) : c.oneCell' = true ∧ u.oneCell' = true := by
  obtain ⟨p, rfl, hc, _⟩ := h
  obtain ⟨a, k, rfl, _⟩ := hc
  exact ⟨rfl, rfl⟩

theorem own_pairs_RSl {α : Type} {R : World → Value → Value → α → Prop} (hR : ∀ (w w1 : World), Ext w w1 → ∀ c u x, R w c u x → R w1 c u x) {T : Nat → Prop} {w : World} {base : Nat} {e : TypeId} {v : Value} {l : List α} (h : OwnPairs R T w base e v l) (hT : ∀ g, base ≤ g → T g) (hm : l.length ≤ 140737488351232) :
    RSl 2 (fun w p x => ∃ c u, w.cell? p = some c ∧ w.cell? ⟨p.block, p.off + 1, none⟩ = some u ∧ R w c u x) (vis T w) v l := by
  obtain ⟨us, h1, h2, h3, h4⟩ := h
  refine own_RSl (own_vis h2 (fun g hg => hT g (h2.lt g hg).1)) hm fun g cap _ hc i hi => ?_
  have hi' : i < us.length := by omega
  exact ⟨(us[i]'hi').1, (us[i]'hi').2, flat_cell (c := pc) (n := 2) (fun _ => rfl) hc i 0 hi' (by omega) _ rfl, flat_cell (c := pc) (n := 2) (fun _ => rfl) hc i 1 hi' (by omega) _ rfl, hR _ _ (ext_vis_of (Ext.refl _) (fun _ _ h => h.1)) _ _ _ (h4 i hi hi')⟩

theorem ext_drew (w : World) : Ext w w.drew := fun _ _ h => h
theorem own_drew {w : World} {base : Nat} {e : TypeId} {size : Nat} {v : Value} {n : Nat} {xs : List Value} (h : w.ownsRow base e size v n xs) : w.drew.ownsRow base e size v n xs := h

theorem fms_two {S : Nat → Prop} {w : World} {v : Value} {c : List Int} {t : Sp} (h : RFms (vis S w) v (sidesB c t)) :
    ∃ b off cap, ∃ us : List (Value × Value), v = .slice (some ⟨b, off, none⟩) 2 cap ∧ us.length = 2 ∧ (us.flatMap pc).length = 2 * 2 ∧ (∀ j x, (us.flatMap pc)[j]? = some x → w.cell? ((⟨b, off, none⟩ : Addr).add j) = some x) ∧ (∀ u ∈ us, u.1.oneCell' = true ∧ u.2.oneCell' = true) ∧ (∀ x ∈ us.flatMap pc, x.oneCell' = true) ∧
      ∀ i (h : i < (sidesB c t).length) (h' : i < us.length), FmIs (vis S w) (us[i]'h').1 (us[i]'h').2 ((sidesB c t)[i]'h) := by
  obtain ⟨a, cap, rfl, h1, h2, h3⟩ := h
  obtain ⟨b, off, rfl, -⟩ := h3 0 (by simp [sidesB])
  obtain ⟨us, k1, k2, k3, k4⟩ := pairs_of (R := FmIs) (w := vis S w) (b := b) (off := off) (l := sidesB c t) FmIs.one (fun i hi => by
    obtain ⟨b', off', e, c', u', q1, q2, q3⟩ := h3 i hi
    simp only [Option.some.injEq, Addr.mk.injEq, and_true] at e
    obtain ⟨rfl, rfl⟩ := e
    exact ⟨c', u', q1, q2, q3⟩)
  refine ⟨b, off, cap, us, rfl, k1, by rw [flat_len pc 2 (fun _ => rfl), k1]; rfl, fun j x hx => ?_, k3, pc_one us k3, k4⟩
  rw [show ((⟨b, off, none⟩ : Addr).add j) = ⟨b, off + j, none⟩ from by unfold Addr.add; split <;> simp_all]
  exact vis_ext _ _ _ _ (k2 j x hx)

theorem keep9 {w1 w2 : World} {B1 B2 : Nat} {x0 x1 x2 x3 x4 x5 x6 y0 y1 : Value} (hb : Below w1.heap.size w1 w2) (h : w1.cell? ⟨B1, 0, none⟩ = some x0 ∧ w1.cell? ⟨B1, 1, none⟩ = some x1 ∧ w1.cell? ⟨B1, 2, none⟩ = some x2 ∧ w1.cell? ⟨B1, 3, none⟩ = some x3 ∧ w1.cell? ⟨B1, 4, none⟩ = some x4 ∧ w1.cell? ⟨B1, 5, none⟩ = some x5 ∧ w1.cell? ⟨B1, 6, none⟩ = some x6 ∧ w1.cell? ⟨B2, 0, none⟩ = some y0 ∧ w1.cell? ⟨B2, 1, none⟩ = some y1) :
    w2.cell? ⟨B1, 0, none⟩ = some x0 ∧ w2.cell? ⟨B1, 1, none⟩ = some x1 ∧ w2.cell? ⟨B1, 2, none⟩ = some x2 ∧ w2.cell? ⟨B1, 3, none⟩ = some x3 ∧ w2.cell? ⟨B1, 4, none⟩ = some x4 ∧ w2.cell? ⟨B1, 5, none⟩ = some x5 ∧ w2.cell? ⟨B1, 6, none⟩ = some x6 ∧ w2.cell? ⟨B2, 0, none⟩ = some y0 ∧ w2.cell? ⟨B2, 1, none⟩ = some y1 := ⟨keepCell hb h.1, keepCell hb h.2.1, keepCell hb h.2.2.1, keepCell hb h.2.2.2.1, keepCell hb h.2.2.2.2.1, keepCell hb h.2.2.2.2.2.1, keepCell hb h.2.2.2.2.2.2.1, keepCell hb h.2.2.2.2.2.2.2.1, keepCell hb h.2.2.2.2.2.2.2.2⟩
theorem grow9 {w1 w2 : World} {row : Option Nat} {B1 B2 : Nat} {x0 x1 x2 x3 x4 x5 x6 y0 y1 : Value} (hg : w1.grownBy w2 row) (n1 : some B1 ≠ row) (n2 : some B2 ≠ row) (h : w1.cell? ⟨B1, 0, none⟩ = some x0 ∧ w1.cell? ⟨B1, 1, none⟩ = some x1 ∧ w1.cell? ⟨B1, 2, none⟩ = some x2 ∧ w1.cell? ⟨B1, 3, none⟩ = some x3 ∧ w1.cell? ⟨B1, 4, none⟩ = some x4 ∧ w1.cell? ⟨B1, 5, none⟩ = some x5 ∧ w1.cell? ⟨B1, 6, none⟩ = some x6 ∧ w1.cell? ⟨B2, 0, none⟩ = some y0 ∧ w1.cell? ⟨B2, 1, none⟩ = some y1) :
    w2.cell? ⟨B1, 0, none⟩ = some x0 ∧ w2.cell? ⟨B1, 1, none⟩ = some x1 ∧ w2.cell? ⟨B1, 2, none⟩ = some x2 ∧ w2.cell? ⟨B1, 3, none⟩ = some x3 ∧ w2.cell? ⟨B1, 4, none⟩ = some x4 ∧ w2.cell? ⟨B1, 5, none⟩ = some x5 ∧ w2.cell? ⟨B1, 6, none⟩ = some x6 ∧ w2.cell? ⟨B2, 0, none⟩ = some y0 ∧ w2.cell? ⟨B2, 1, none⟩ = some y1 := ⟨hg.cell h.1 n1, hg.cell h.2.1 n1, hg.cell h.2.2.1 n1, hg.cell h.2.2.2.1 n1, hg.cell h.2.2.2.2.1 n1, hg.cell h.2.2.2.2.2.1 n1, hg.cell h.2.2.2.2.2.2.1 n1, hg.cell h.2.2.2.2.2.2.2.1 n2, hg.cell h.2.2.2.2.2.2.2.2 n2⟩

theorem keep7 {w1 w2 : World} {B1 : Nat} {x0 x1 x2 x3 x4 x5 x6 : Value} (hb : Below w1.heap.size w1 w2) (h : w1.cell? ⟨B1, 0, none⟩ = some x0 ∧ w1.cell? ⟨B1, 1, none⟩ = some x1 ∧ w1.cell? ⟨B1, 2, none⟩ = some x2 ∧ w1.cell? ⟨B1, 3, none⟩ = some x3 ∧ w1.cell? ⟨B1, 4, none⟩ = some x4 ∧ w1.cell? ⟨B1, 5, none⟩ = some x5 ∧ w1.cell? ⟨B1, 6, none⟩ = some x6) :
    w2.cell? ⟨B1, 0, none⟩ = some x0 ∧ w2.cell? ⟨B1, 1, none⟩ = some x1 ∧ w2.cell? ⟨B1, 2, none⟩ = some x2 ∧ w2.cell? ⟨B1, 3, none⟩ = some x3 ∧ w2.cell? ⟨B1, 4, none⟩ = some x4 ∧ w2.cell? ⟨B1, 5, none⟩ = some x5 ∧ w2.cell? ⟨B1, 6, none⟩ = some x6 := ⟨keepCell hb h.1, keepCell hb h.2.1, keepCell hb h.2.2.1, keepCell hb h.2.2.2.1, keepCell hb h.2.2.2.2.1, keepCell hb h.2.2.2.2.2.1, keepCell hb h.2.2.2.2.2.2⟩
theorem grow7 {w1 w2 : World} {row : Option Nat} {B1 : Nat} {x0 x1 x2 x3 x4 x5 x6 : Value} (hg : w1.grownBy w2 row) (n1 : some B1 ≠ row) (h : w1.cell? ⟨B1, 0, none⟩ = some x0 ∧ w1.cell? ⟨B1, 1, none⟩ = some x1 ∧ w1.cell? ⟨B1, 2, none⟩ = some x2 ∧ w1.cell? ⟨B1, 3, none⟩ = some x3 ∧ w1.cell? ⟨B1, 4, none⟩ = some x4 ∧ w1.cell? ⟨B1, 5, none⟩ = some x5 ∧ w1.cell? ⟨B1, 6, none⟩ = some x6) :
    w2.cell? ⟨B1, 0, none⟩ = some x0 ∧ w2.cell? ⟨B1, 1, none⟩ = some x1 ∧ w2.cell? ⟨B1, 2, none⟩ = some x2 ∧ w2.cell? ⟨B1, 3, none⟩ = some x3 ∧ w2.cell? ⟨B1, 4, none⟩ = some x4 ∧ w2.cell? ⟨B1, 5, none⟩ = some x5 ∧ w2.cell? ⟨B1, 6, none⟩ = some x6 := ⟨hg.cell h.1 n1, hg.cell h.2.1 n1, hg.cell h.2.2.1 n1, hg.cell h.2.2.2.1 n1, hg.cell h.2.2.2.2.1 n1, hg.cell h.2.2.2.2.2.1 n1, hg.cell h.2.2.2.2.2.2 n1⟩

theorem info_form : (Try.prog.info? 132).map (fun i => (i.zero, i.size, i.bytes)) = some (some (.agg #[.slice none 0 0, .nilFunc]), 2, 32) := by kernel_rfl

end Go.Proofs.Ytnnkcbeadiembaa
