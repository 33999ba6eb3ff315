/- Slices of a call's own whose elements are structs of several cells; no statement is proved here. -/
import Derived.Test.YtpkggjfaefkiiaaRCheck
import Derived.Test.YtpkggjfaefkiiaaSwap
import Derived.Maps.AppendAt
namespace Go.Proofs.Ytpkggjfaefkiiaa
open Go.RowKit Go.PlainAid
set_option linter.unusedVariables false

theorem flatten_len {sz : Nat} : ∀ {us : List (List Value)}, (∀ u ∈ us, u.length = sz) → us.flatten.length = us.length * sz
  | [], _ => by simp
  | u :: us, h => by
    rw [List.flatten_cons, List.length_append, h u List.mem_cons_self, flatten_len fun v hv => h v (List.mem_cons_of_mem _ hv), List.length_cons, Nat.succ_mul, Nat.add_comm]

theorem flatten_at {sz : Nat} : ∀ {us : List (List Value)}, (∀ u ∈ us, u.length = sz) → ∀ (i j : Nat) (hi : i < us.length), j < sz → us.flatten[i * sz + j]? = (us[i]'hi)[j]?
  | [], _, i, j, hi, _ => by simp at hi
  | u :: us, h, 0, j, hi, hj => by
    rw [List.flatten_cons, Nat.zero_mul, Nat.zero_add, List.getElem?_append_left (by rw [h u List.mem_cons_self]; exact hj)]; rfl
  | u :: us, h, i + 1, j, hi, hj => by
    have hu := h u List.mem_cons_self
    rw [List.flatten_cons, List.getElem?_append_right (by rw [hu, Nat.succ_mul]; omega), hu, show (i + 1) * sz + j - sz = i * sz + j from by rw [Nat.succ_mul]; omega, flatten_at (fun v hv => h v (List.mem_cons_of_mem _ hv)) i j (by simpa using hi) hj]
    rfl

/-- a slice of the call's own whose elements stand for a list; what they lead to lies outside of its block. -/
def OwnEls {α : Type} (sz : Nat) (R : World → List Value → α → Prop) (T : Nat → Prop) (w : World) (base : Nat) (e : TypeId) (v : Value) (l : List α) : Prop :=
  ∃ us : List (List Value), us.length = l.length ∧ w.ownsRow base e sz v l.length us.flatten ∧ (∀ u ∈ us, u.length = sz ∧ ∀ x ∈ u, x.oneCell' = true) ∧ ∀ i (h : i < l.length) (h' : i < us.length), R (vis (fun b => T b ∧ offOwn v b) w) (us[i]'h') (l[i]'h)

theorem ownEls_nil {α : Type} (sz : Nat) (R : World → List Value → α → Prop) (T : Nat → Prop) (w : World) (base : Nat) (e : TypeId) : OwnEls sz R T w base e (.slice none 0 0) ([] : List α) :=
  ⟨[], rfl, World.ownsRow_nil w base e sz, by simp, fun i h => by simp at h⟩

theorem OwnEls.below {α : Type} {sz : Nat} {R : World → List Value → α → Prop} (hR : ∀ (w w1 : World), Ext w w1 → ∀ u x, R w u x → R w1 u x) {T : Nat → Prop} {w w1 : World} {base : Nat} {e : TypeId} {v : Value} {l : List α} (h : OwnEls sz R T w base e v l) (hb : Below w.heap.size w w1) : OwnEls sz R T w1 base e v l := by
  obtain ⟨us, h1, h2, h3, h4⟩ := h
  exact ⟨us, h1, own_below h2 hb (own_lt h2), h3, fun i h h' => hR _ _ (ext_vis_of (ext_of_below hb) (fun _ _ h => h)) _ _ (h4 i h h')⟩

theorem ownEls_snoc {α : Type} {sz : Nat} {R : World → List Value → α → Prop} (hR : ∀ (w w1 : World), Ext w w1 → ∀ u x, R w u x → R w1 u x) {T : Nat → Prop} {w w1 : World} {base : Nat} {e : TypeId} {v v' : Value} {l l2 : List α} {us us2 : List (List Value)} (h1 : us.length = l.length) (h2 : us2.length = l2.length)
    (hown : w1.ownsRow base e sz v' (l.length + l2.length) (us.flatten ++ us2.flatten)) (hg : w.grownBy w1 v.ownBlock) (hat : v'.ownBlock = v.ownBlock ∨ v'.ownBlock = some w.heap.size)
    (h3 : ∀ u ∈ us, u.length = sz ∧ ∀ x ∈ u, x.oneCell' = true) (h3' : ∀ u ∈ us2, u.length = sz ∧ ∀ x ∈ u, x.oneCell' = true)
    (h4 : ∀ i (h : i < l.length) (h' : i < us.length), R (vis (fun b => T b ∧ offOwn v b) w) (us[i]'h') (l[i]'h)) (h5 : ∀ i (h : i < l2.length) (h' : i < us2.length), R (vis (fun b => T b ∧ offOwn v b) w) (us2[i]'h') (l2[i]'h)) : OwnEls sz R T w1 base e v' (l ++ l2) := by
  have hE : Ext (vis (fun b => T b ∧ offOwn v b) w) (vis (fun b => T b ∧ offOwn v' b) w1) := ext_vis fun p x hp hx => by
    refine ⟨⟨hp.1, ?_⟩, hg.cell hx (fun e => hp.2 e.symm)⟩
    intro e
    rcases hat with hat | hat
    · exact hp.2 (by rw [← hat, e])
    · rw [hat, Option.some.injEq] at e
      have := cell_lt hx
      omega
  refine ⟨us ++ us2, by simp [h1, h2], by rw [List.length_append, List.flatten_append]; exact hown, ?_, ?_⟩
  · intro u hu
    rcases List.mem_append.1 hu with hu | hu
    · exact h3 u hu
    · exact h3' u hu
  · intro i h h'
    by_cases hi : i < l.length
    · rw [List.getElem_append_left (by omega), List.getElem_append_left hi]
      exact hR _ _ hE _ _ (h4 i hi (by omega))
    · simp only [List.length_append] at h h'
      rw [List.getElem_append_right (by omega), List.getElem_append_right (by omega)]
      have := hR _ _ hE _ _ (h5 (i - l.length) (by omega) (by omega))
      simpa [h1] using this

theorem els_one {sz : Nat} {us : List (List Value)} (h : ∀ u ∈ us, u.length = sz ∧ ∀ x ∈ u, x.oneCell' = true) : ∀ x ∈ us.flatten, x.oneCell' = true := by
  intro x hx
  obtain ⟨u, hu, hx⟩ := List.mem_flatten.1 hx
  exact (h u hu).2 x hx

/-- what a list that is read has in its cells. -/
theorem els_of {α : Type} {sz : Nat} {R : World → List Value → α → Prop} {w : World} {b : Nat} : ∀ {l : List α} {off : Nat}, (∀ i (h : i < l.length), ∃ u : List Value, u.length = sz ∧ (∀ x ∈ u, x.oneCell' = true) ∧ (∀ j x, u[j]? = some x → w.cell? ⟨b, off + i * sz + j, none⟩ = some x) ∧ R w u (l[i]'h)) →
    ∃ us : List (List Value), us.length = l.length ∧ (∀ u ∈ us, u.length = sz ∧ ∀ x ∈ u, x.oneCell' = true) ∧ (∀ j x, us.flatten[j]? = some x → w.cell? ⟨b, off + j, none⟩ = some x) ∧ ∀ i (h : i < l.length) (h' : i < us.length), R w (us[i]'h') (l[i]'h)
  | [], off, _ => ⟨[], rfl, by simp, by simp, fun i h => by simp at h⟩
  | a :: l, off, h => by
    obtain ⟨u, g1, g2, g3, g4⟩ := h 0 (by simp)
    obtain ⟨us, k1, k2, k3, k4⟩ := els_of (sz := sz) (R := R) (w := w) (b := b) (l := l) (off := off + sz) (fun i hi => by
      obtain ⟨u, g1, g2, g3, g4⟩ := h (i + 1) (by simpa using hi)
      exact ⟨u, g1, g2, fun j x hx => by rw [show off + sz + i * sz + j = off + (i + 1) * sz + j from by rw [Nat.succ_mul]; omega]; exact g3 j x hx, by simpa using g4⟩)
    refine ⟨u :: us, by simp [k1], ?_, ?_, ?_⟩
    · intro v hv
      rcases List.mem_cons.1 hv with rfl | hv
      · exact ⟨g1, g2⟩
      · exact k2 v hv
    · intro j x hx
      rw [List.flatten_cons] at hx
      by_cases hj : j < sz
      · rw [List.getElem?_append_left (by omega)] at hx
        simpa using g3 j x hx
      · rw [List.getElem?_append_right (by omega), g1] at hx
        rw [show off + j = off + sz + (j - sz) from by omega]
        exact k3 _ _ hx
    · intro i hi hi'
      cases i with
      | zero => simpa using g4
      | succ i => simpa using k4 i (by simpa using hi) (by simpa using hi')

theorem ownEls_RSl {α : Type} {sz : Nat} {R : World → List Value → α → Prop} (hR : ∀ (w w1 : World), Ext w w1 → ∀ u x, R w u x → R w1 u x) {T : Nat → Prop} {w : World} {base : Nat} {e : TypeId} {v : Value} {l : List α} (h : OwnEls sz R T w base e v l) (hT : ∀ g, base ≤ g → T g) (hm : l.length ≤ 140737488351232) :
    RSl sz (fun w p x => ∃ (u : List Value) (b o : Nat), p = ⟨b, o, none⟩ ∧ (∀ j (hj : j < u.length), w.cell? ⟨b, o + j, none⟩ = some (u[j]'hj)) ∧ u.length = sz ∧ R w u x) (vis T w) v l := by
  obtain ⟨us, h1, h2, h3, h4⟩ := h
  refine own_RSl (own_vis h2 (fun g hg => hT g (h2.lt g hg).1)) hm fun g cap _ hc i hi => ?_
  have hi' : i < us.length := by omega
  have hu := (h3 _ (List.getElem_mem hi')).1
  refine ⟨us[i]'hi', g, i * sz, rfl, fun j hj => ?_, hu, hR _ _ (ext_vis_of (Ext.refl _) (fun _ _ h => h.1)) _ _ (h4 i hi hi')⟩
  have h5 := flatten_at (fun u hu => (h3 u hu).1) i j hi' (by omega)
  rw [List.getElem?_eq_getElem hj] at h5
  obtain ⟨h6, h7⟩ := List.getElem?_eq_some_iff.1 h5
  show (vis T w).cell? ⟨g, i * sz + j, none⟩ = _
  rw [hc _ h6, h7]

def PrpIs (w : World) (u : List Value) (p : Prp) : Prop := ∃ c, u = [.string p.name, c, .int .i64 p.target.lo, .int .i64 p.target.hi] ∧ RInts w c p.coefs ∧ p.name.size ≤ 140737488351232 ∧ I64 p.target.lo ∧ I64 p.target.hi
theorem prpMono : ∀ (w w1 : World), Ext w w1 → ∀ u x, PrpIs w u x → PrpIs w1 u x := fun _ _ e u x ⟨c, h1, h2, h3⟩ => ⟨c, h1, h2.mono e, h3⟩

theorem prps_els {w : World} {b off n cap : Nat} {l : List Prp} (h : RPrps w (.slice (some ⟨b, off, none⟩) n cap) l) :
    ∃ us : List (List Value), us.length = l.length ∧ (∀ u ∈ us, u.length = 4 ∧ ∀ x ∈ u, x.oneCell' = true) ∧ (∀ j x, us.flatten[j]? = some x → w.cell? ⟨b, off + j, none⟩ = some x) ∧ ∀ i (h : i < l.length) (h' : i < us.length), PrpIs w (us[i]'h') (l[i]'h) := by
  obtain ⟨a', cap', e, h1, h2, h3⟩ := h
  simp only [Value.slice.injEq] at e
  obtain ⟨rfl, rfl, rfl⟩ := e
  refine els_of fun i hi => ?_
  obtain ⟨b', off', e, c, ⟨q0, q1, q2, q3⟩, hc, hs⟩ := h3 i hi
  simp only [Option.some.injEq, Addr.mk.injEq, and_true] at e
  obtain ⟨rfl, rfl⟩ := e
  obtain ⟨ac, kc, rfl, -, -, -⟩ := id hc
  refine ⟨_, rfl, ?_, ?_, ⟨_, rfl, hc, hs⟩⟩
  · intro x hx
    simp only [List.mem_cons, List.not_mem_nil, or_false] at hx
    rcases hx with rfl | rfl | rfl | rfl <;> rfl
  · intro j x hx
    match j, hx with
    | 0, hx => simp only [List.getElem?_cons_zero, Option.some.injEq] at hx; subst hx; exact q0
    | 1, hx => simp only [List.getElem?_cons_succ, List.getElem?_cons_zero, Option.some.injEq] at hx; subst hx; exact q1
    | 2, hx => simp only [List.getElem?_cons_succ, List.getElem?_cons_zero, Option.some.injEq] at hx; subst hx; exact q2
    | 3, hx => simp only [List.getElem?_cons_succ, List.getElem?_cons_zero, Option.some.injEq] at hx; subst hx; exact q3
    | j + 4, hx => simp at hx

theorem ownEls_RPrps {T : Nat → Prop} {w : World} {base : Nat} {e : TypeId} {v : Value} {l : List Prp} (h : OwnEls 4 PrpIs T w base e v l) (hT : ∀ g, base ≤ g → T g) (hm : l.length ≤ 140737488351232) : RPrps (vis T w) v l :=
  RSl.mono (ownEls_RSl prpMono h hT hm) fun p x _ ⟨u, b, o, hp, hc, hlen, c, hu, hR⟩ => by
    subst hu hp
    exact ⟨c, ⟨hc 0 (by simp), hc 1 (by simp), hc 2 (by simp), hc 3 (by simp)⟩, hR⟩

theorem info_prp : (Try.prog.info? 70).map (fun i => (i.zero, i.size, i.bytes)) = some (some (.agg #[.string ⟨#[]⟩, .slice none 0 0, .int .i64 0, .int .i64 0]), 4, 56) := by kernel_rfl

end Go.Proofs.Ytpkggjfaefkiiaa
