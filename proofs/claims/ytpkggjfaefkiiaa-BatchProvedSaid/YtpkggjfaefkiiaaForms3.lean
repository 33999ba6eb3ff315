/- The forms of a batch; no statement is proved here. -/
import Derived.Test.YtpkggjfaefkiiaaNewLine
import Derived.Deep.RegionLaw
namespace Go.Proofs.Ytpkggjfaefkiiaa
open Go.RowKit Go.PlainAid
set_option linter.unusedVariables false

def RFm (w : World) (p : Addr) (f : Fm) : Prop := ∃ c u, w.cell? p = some c ∧ w.cell? ⟨p.block, p.off + 1, none⟩ = some u ∧ FmIs w c u f
theorem RFm.mono {w w' : World} (e : Ext w w') {p : Addr} {f : Fm} (h : RFm w p f) : RFm w' p f := by
  obtain ⟨c, u, h1, h2, h3⟩ := h
  exact ⟨c, u, e _ _ h1, e _ _ h2, h3.mono e⟩
def RFms := RSl 2 RFm
theorem RFms.mono {w w' : World} (e : Ext w w') {v : Value} {l : List Fm} (h : RFms w v l) : RFms w' v l := RSl.mono h fun _ _ _ => RFm.mono e

def sidesB (coefs : List Int) (t : Sp) : List Fm := [⟨coefs, true, t⟩, ⟨coefs, false, t⟩]

/-- S: the blocks that the arguments were seen in. -/
def RetFms (S : Nat → Prop) (w : World) (l : List Fm) (e : Ending) (w' : World) : Prop := ∃ v, e = .returned v ∧ RFms (vis (fun b => S b ∨ w.heap.size ≤ b) w') v l ∧ Below w.heap.size w w'

theorem sides_any (S : Nat → Prop) (v : Value) (coefs : List Int) (t : Sp) (w : World) (h : RInts (vis S w) v coefs) :
    Calls Try.prog 127 #[v, .agg #[.int .i64 t.lo, .int .i64 t.hi]] w (RetFms S w (sidesB coefs t)) := by
  obtain ⟨a, k, rfl, -, ⟨-, -⟩, -⟩ := id h
  go_enter Try.func127, Try.ntmps127
  go_wp2
  go_ret
  obtain ⟨B1, B2⟩ : Blk ((w.alloc (.cells #[.int .i64 t.lo, .int .i64 t.hi] 27)).alloc (.cells #[.slice a coefs.length k, .func (.func 142) #[] #[.pointer (some ⟨w.heap.size, 0, none⟩)], .slice a coefs.length k, .func (.func 143) #[] #[.pointer (some ⟨w.heap.size, 0, none⟩)]] 121)) w.heap.size #[.int .i64 t.lo, .int .i64 t.hi] 27 ∧
    Blk ((w.alloc (.cells #[.int .i64 t.lo, .int .i64 t.hi] 27)).alloc (.cells #[.slice a coefs.length k, .func (.func 142) #[] #[.pointer (some ⟨w.heap.size, 0, none⟩)], .slice a coefs.length k, .func (.func 143) #[] #[.pointer (some ⟨w.heap.size, 0, none⟩)]] 121)) (w.heap.size + 1) #[.slice a coefs.length k, .func (.func 142) #[] #[.pointer (some ⟨w.heap.size, 0, none⟩)], .slice a coefs.length k, .func (.func 143) #[] #[.pointer (some ⟨w.heap.size, 0, none⟩)]] 121 := by
    refine ⟨(Blk.new w _ _).alloc _, ?_⟩
    have := Blk.new (w.alloc (.cells #[.int .i64 t.lo, .int .i64 t.hi] 27)) #[.slice a coefs.length k, .func (.func 142) #[] #[.pointer (some ⟨w.heap.size, 0, none⟩)], .slice a coefs.length k, .func (.func 143) #[] #[.pointer (some ⟨w.heap.size, 0, none⟩)]] 121
    simpa using this
  have hA := below_two w (.cells #[.int .i64 t.lo, .int .i64 t.hi] 27) (.cells #[.slice a coefs.length k, .func (.func 142) #[] #[.pointer (some ⟨w.heap.size, 0, none⟩)], .slice a coefs.length k, .func (.func 143) #[] #[.pointer (some ⟨w.heap.size, 0, none⟩)]] 121)
  refine ⟨_, rfl, ⟨some ⟨w.heap.size + 1, 0, none⟩, 2, rfl, Nat.le_refl _, ⟨by omega, by simp [sidesB]⟩, fun i hi => ⟨w.heap.size + 1, 0, rfl, ?_⟩⟩, hA⟩
  have hi2 : i < 2 := hi
  match i, hi2 with
  | 0, _ => exact ⟨_, _, vis_cell.2 ⟨Or.inr (by simp), B2.cell 0 _ rfl⟩, vis_cell.2 ⟨Or.inr (by simp), B2.cell 1 _ rfl⟩, w.heap.size, rfl, h.mono (ext_vis_of (ext_of_below hA) (fun _ _ h => Or.inl h)), vis_cell.2 ⟨Or.inr (by simp), B1.cell 0 _ rfl⟩, vis_cell.2 ⟨Or.inr (by simp), B1.cell 1 _ rfl⟩⟩
  | 1, _ => exact ⟨_, _, vis_cell.2 ⟨Or.inr (by simp), B2.cell 2 _ rfl⟩, vis_cell.2 ⟨Or.inr (by simp), B2.cell 3 _ rfl⟩, w.heap.size, rfl, h.mono (ext_vis_of (ext_of_below hA) (fun _ _ h => Or.inl h)), vis_cell.2 ⟨Or.inr (by simp), B1.cell 0 _ rfl⟩, vis_cell.2 ⟨Or.inr (by simp), B1.cell 1 _ rfl⟩⟩

/-- the coefficients with which a form is the share of an oxide. -/
def shareB (n i : Nat) : List Int := (List.replicate n (0 : Int)).set i 1000

theorem share_I64 (n i : Nat) : ∀ x ∈ shareB n i, I64 x := by
  intro x hx
  rcases List.mem_or_eq_of_mem_set hx with h4 | h4
  · rw [(List.mem_replicate.1 h4).2]; unfold I64; omega
  · rw [h4]; unfold I64; omega

def RetInts (w : World) (l : List Int) (e : Ending) (w' : World) : Prop := ∃ v, e = .returned v ∧ RInts (vis (w.heap.size ≤ ·) w') v l ∧ Below w.heap.size w w'

theorem shareCoefs_any (vb : Value) (b : Bat) (i : Nat) (w : World) (h : RBat w vb b) (hi : i < b.oxides.length) (hn : b.oxides.length ≤ 1000000) :
    Calls Try.prog 66 #[vb, .int .i64 i] w (RetInts w (shareB b.oxides.length i)) := by
  obtain ⟨a0, k0, a1, k1, a2, k2, a3, k3, rfl⟩ := h.agg
  obtain ⟨i0, hi', hz0, hz1, hz2⟩ := info_parts info_int
  have hA0 := below_box w (.cells #[.slice a0 b.oxides.length k0, .slice a1 b.mats.length k1, .slice a2 b.shares.length k2, .slice a3 b.props.length k3, .int .i64 b.redox.lo, .int .i64 b.redox.hi, .int .i64 b.wanted] 29)
  have j1 : (0 : Int) ≤ (i : Int) := Int.natCast_nonneg _
  have j2 : (i : Int) < (b.oxides.length : Int) := by omega
  go_enter Try.func66, Try.ntmps66
  go_wp2_with (at_make; refine wpList_make_full _ rfl _ _ _ rfl (w.heap.size + 1) 3 i0 (.int .i64 0) 1 Try.underlying37 hi' hz0 hz1 .i64 .i64 _ _ b.oxides.length rfl rfl rfl rfl ?_ ?_ ?_ ?_)
  · rw [hz2]; omega
  · unfold maxLen; omega
  · simp
  intro W1 hown hgrow
  have hA1 := hA0.grown hgrow (by simp) (by intro k hk; cases hk)
  rw [toList_madeCells_one, show List.replicate b.oxides.length (Value.int .i64 0) = (List.replicate b.oxides.length (0 : Int)).map (Value.int .i64) from by simp] at hown
  have e1 := hown.cellAt i (by omega)
  rw [List.getElem?_map, List.getElem?_eq_getElem (by simpa using hi), Option.map_some] at e1
  have e2 := hown.frozenAt i
  have hown2 := (hown.stored i (.int .i64 1000)).1
  rw [← List.map_set] at hown2
  have hfin := hA1.setCell (p := ⟨w.heap.size + 1, i, none⟩) (by simp) (.int .i64 1000)
  have hRI := own_RInts (l := shareB b.oxides.length i) (by unfold shareB; rw [List.length_set, List.length_replicate]; exact own_vis (S := (w.heap.size ≤ ·)) hown2 (by intro g hg; simp [Value.ownBlock] at hg; omega)) (by unfold shareB; rw [List.length_set, List.length_replicate]; omega)
    (share_I64 _ _)
  clear hown2 hown hgrow hA0 hA1 h
  simp only [List.getElem_replicate] at e1
  go_wp2
  go_ret
  exact ⟨_, rfl, hRI, hfin⟩

end Go.Proofs.Ytpkggjfaefkiiaa

namespace Go.Proofs.Ytpkggjfaefkiiaa
open Go.RowKit Go.PlainAid
set_option linter.unusedVariables false

def pc (u : Value × Value) : List Value := [u.1, u.2]

/-- what is seen without a slice's own block. -/
def offOwn (v : Value) (b : Nat) : Prop := v.ownBlock ≠ some b

/-- a slice of the call's own whose elements, two cells each, stand for a list; what they lead to lies outside of its block. -/
def OwnPairs {α : Type} (R : World → Value → Value → α → Prop) (T : Nat → Prop) (w : World) (base : Nat) (e : TypeId) (v : Value) (l : List α) : Prop :=
  ∃ us : List (Value × Value), us.length = l.length ∧ w.ownsRow base e 2 v l.length (us.flatMap pc) ∧ (∀ u ∈ us, u.1.oneCell' = true ∧ u.2.oneCell' = true) ∧ ∀ i (h : i < l.length) (h' : i < us.length), R (vis (fun b => T b ∧ offOwn v b) w) (us[i]'h').1 (us[i]'h').2 (l[i]'h)

theorem ownPairs_nil {α : Type} (R : World → Value → Value → α → Prop) (T : Nat → Prop) (w : World) (base : Nat) (e : TypeId) : OwnPairs R T w base e (.slice none 0 0) ([] : List α) :=
  ⟨[], rfl, World.ownsRow_nil w base e 2, by simp, fun i h => by simp at h⟩

theorem OwnPairs.below {α : Type} {R : World → Value → Value → α → Prop} (hR : ∀ (w w1 : World), Ext w w1 → ∀ c u x, R w c u x → R w1 c u x) {T : Nat → Prop} {w w1 : World} {base : Nat} {e : TypeId} {v : Value} {l : List α} (h : OwnPairs R T w base e v l) (hb : Below w.heap.size w w1) : OwnPairs R T w1 base e v l := by
  obtain ⟨us, h1, h2, h3, h4⟩ := h
  exact ⟨us, h1, own_below h2 hb (own_lt h2), h3, fun i h h' => hR _ _ (ext_vis_of (ext_of_below hb) (fun _ _ h => h)) _ _ _ (h4 i h h')⟩

/-- with what was appended: g: the new slice's block. -/
theorem ownPairs_snoc {α : Type} {R : World → Value → Value → α → Prop} (hR : ∀ (w w1 : World), Ext w w1 → ∀ c u x, R w c u x → R w1 c u x) {T : Nat → Prop} {w w1 : World} {base : Nat} {e : TypeId} {v : Value} {l l2 : List α} {us us2 : List (Value × Value)} {g n cap : Nat} (h1 : us.length = l.length) (h2 : us2.length = l2.length)
    (hown : w1.ownsRow base e 2 (.slice (some ⟨g, 0, none⟩) n cap) (l.length + l2.length) (us.flatMap pc ++ us2.flatMap pc)) (hg : w.grownBy w1 v.ownBlock) (hat : v.ownBlock = some g ∨ g = w.heap.size)
    (h3 : ∀ u ∈ us, u.1.oneCell' = true ∧ u.2.oneCell' = true) (h3' : ∀ u ∈ us2, u.1.oneCell' = true ∧ u.2.oneCell' = true)
    (h4 : ∀ i (h : i < l.length) (h' : i < us.length), R (vis (fun b => T b ∧ offOwn v b) w) (us[i]'h').1 (us[i]'h').2 (l[i]'h)) (h5 : ∀ i (h : i < l2.length) (h' : i < us2.length), R (vis (fun b => T b ∧ offOwn v b) w) (us2[i]'h').1 (us2[i]'h').2 (l2[i]'h)) : OwnPairs R T w1 base e (.slice (some ⟨g, 0, none⟩) n cap) (l ++ l2) := by
  have hE : Ext (vis (fun b => T b ∧ offOwn v b) w) (vis (fun b => T b ∧ offOwn (.slice (some ⟨g, 0, none⟩) n cap) b) w1) := ext_vis fun p x hp hx => by
    refine ⟨⟨hp.1, ?_⟩, hg.cell hx (fun e => hp.2 e.symm)⟩
    intro e
    simp only [Value.ownBlock, Option.some.injEq] at e
    rcases hat with hat | hat
    · exact hp.2 (by rw [hat, e])
    · have := cell_lt hx
      omega
  refine ⟨us ++ us2, by simp [h1, h2], by rw [List.length_append, List.flatMap_append]; exact hown, ?_, ?_⟩
  · intro u hu
    rcases List.mem_append.1 hu with hu | hu
    · exact h3 u hu
    · exact h3' u hu
  · intro i h h'
    by_cases hi : i < l.length
    · rw [List.getElem_append_left (by omega), List.getElem_append_left hi]
      exact hR _ _ hE _ _ _ (h4 i hi (by omega))
    · simp only [List.length_append] at h h'
      rw [List.getElem_append_right (by omega), List.getElem_append_right (by omega)]
      have := hR _ _ hE _ _ _ (h5 (i - l.length) (by omega) (by omega))
      simpa [h1] using this

theorem pc_one (us : List (Value × Value)) (h : ∀ u ∈ us, u.1.oneCell' = true ∧ u.2.oneCell' = true) : ∀ x ∈ us.flatMap pc, x.oneCell' = true := by
  intro x hx
  obtain ⟨u, hu, hx⟩ := List.mem_flatMap.1 hx
  simp only [pc, List.mem_cons, List.not_mem_nil, or_false] at hx
  rcases hx with rfl | rfl
  · exact (h u hu).1
  · exact (h u hu).2

/-- what a list that is read has in its cells. -/
theorem pairs_of {α : Type} {R : World → Value → Value → α → Prop} {w : World} {b off : Nat} {l : List α} (hR1 : ∀ w c u x, R w c u x → c.oneCell' = true ∧ u.oneCell' = true)
    (h : ∀ i (h : i < l.length), ∃ c u, w.cell? ⟨b, off + i * 2, none⟩ = some c ∧ w.cell? ⟨b, off + i * 2 + 1, none⟩ = some u ∧ R w c u (l[i]'h)) :
    ∃ us : List (Value × Value), us.length = l.length ∧ (∀ j x, (us.flatMap pc)[j]? = some x → w.cell? ⟨b, off + j, none⟩ = some x) ∧ (∀ u ∈ us, u.1.oneCell' = true ∧ u.2.oneCell' = true) ∧ ∀ i (h : i < l.length) (h' : i < us.length), R w (us[i]'h').1 (us[i]'h').2 (l[i]'h) := by
  induction l generalizing off with
  | nil => exact ⟨[], rfl, by simp, by simp, fun i h => by simp at h⟩
  | cons a l ih =>
    obtain ⟨c, u, g1, g2, g3⟩ := h 0 (by simp)
    obtain ⟨us, k1, k2, k3, k4⟩ := ih (off := off + 2) (fun i hi => by
      obtain ⟨c, u, g1, g2, g3⟩ := h (i + 1) (by simpa using hi)
      exact ⟨c, u, by rw [show off + 2 + i * 2 = off + (i + 1) * 2 from by omega]; exact g1, by rw [show off + 2 + i * 2 + 1 = off + (i + 1) * 2 + 1 from by omega]; exact g2, by simpa using g3⟩)
    refine ⟨(c, u) :: us, by simp [k1], ?_, ?_, ?_⟩
    · intro j x hx
      rw [List.flatMap_cons] at hx
      match j with
      | 0 => simp only [pc, List.cons_append, List.getElem?_cons_zero, Option.some.injEq] at hx; subst hx; simpa using g1
      | 1 => simp only [pc, List.cons_append, List.getElem?_cons_succ, List.getElem?_cons_zero, Option.some.injEq] at hx; subst hx; simpa using g2
      | j + 2 =>
        simp only [pc, List.cons_append, List.getElem?_cons_succ, List.nil_append] at hx
        have := k2 j x hx
        rw [show off + (j + 2) = off + 2 + j from by omega]
        exact this
    · intro v hv
      rcases List.mem_cons.1 hv with rfl | hv
      · exact hR1 _ _ _ _ g3
      · exact k3 v hv
    · intro i hi hi'
      cases i with
      | zero => simpa using g3
      | succ i => simpa using k4 i (by simpa using hi) (by simpa using hi')

theorem fmMono : ∀ (w w1 : World), Ext w w1 → ∀ c u x, FmIs w c u x → FmIs w1 c u x := fun _ _ e _ _ _ h => h.mono e
theorem FmIs.one (w : World) (c u : Value) (f : Fm) (h : FmIs w c u f) : c.oneCell' = true ∧ u.oneCell' = true := by
  obtain ⟨p, rfl, hc, _⟩ := h
  obtain ⟨a, k, rfl, _⟩ := hc
  exact ⟨rfl, rfl⟩

theorem own_pairs_RSl {α : Type} {R : World → Value → Value → α → Prop} (hR : ∀ (w w1 : World), Ext w w1 → ∀ c u x, R w c u x → R w1 c u x) {T : Nat → Prop} {w : World} {base : Nat} {e : TypeId} {v : Value} {l : List α} (h : OwnPairs R T w base e v l) (hT : ∀ g, base ≤ g → T g) (hm : l.length ≤ 140737488351232) :
    RSl 2 (fun w p x => ∃ c u, w.cell? p = some c ∧ w.cell? ⟨p.block, p.off + 1, none⟩ = some u ∧ R w c u x) (vis T w) v l := by
  obtain ⟨us, h1, h2, h3, h4⟩ := h
  refine own_RSl (own_vis h2 (fun g hg => hT g (h2.lt g hg).1)) hm fun g cap _ hc i hi => ?_
  have hi' : i < us.length := by omega
  exact ⟨(us[i]'hi').1, (us[i]'hi').2, flat_cell (c := pc) (n := 2) (fun _ => rfl) hc i 0 hi' (by omega) _ rfl, flat_cell (c := pc) (n := 2) (fun _ => rfl) hc i 1 hi' (by omega) _ rfl, hR _ _ (ext_vis_of (Ext.refl _) (fun _ _ h => h.1)) _ _ _ (h4 i hi hi')⟩

theorem ext_drew (w : World) : Ext w w.drew := fun _ _ h => h
theorem own_drew {w : World} {base : Nat} {e : TypeId} {size : Nat} {v : Value} {n : Nat} {xs : List Value} (h : w.ownsRow base e size v n xs) : w.drew.ownsRow base e size v n xs := h

theorem fms_two {S : Nat → Prop} {w : World} {v : Value} {c : List Int} {t : Sp} (h : RFms (vis S w) v (sidesB c t)) :
    ∃ b off cap, ∃ us : List (Value × Value), v = .slice (some ⟨b, off, none⟩) 2 cap ∧ us.length = 2 ∧ (us.flatMap pc).length = 2 * 2 ∧ (∀ j x, (us.flatMap pc)[j]? = some x → w.cell? ((⟨b, off, none⟩ : Addr).add j) = some x) ∧ (∀ u ∈ us, u.1.oneCell' = true ∧ u.2.oneCell' = true) ∧ (∀ x ∈ us.flatMap pc, x.oneCell' = true) ∧
      ∀ i (h : i < (sidesB c t).length) (h' : i < us.length), FmIs (vis S w) (us[i]'h').1 (us[i]'h').2 ((sidesB c t)[i]'h) := by
  obtain ⟨a, cap, rfl, h1, h2, h3⟩ := h
  obtain ⟨b, off, rfl, -⟩ := h3 0 (by simp [sidesB])
  obtain ⟨us, k1, k2, k3, k4⟩ := pairs_of (R := FmIs) (w := vis S w) (b := b) (off := off) (l := sidesB c t) FmIs.one (fun i hi => by
    obtain ⟨b', off', e, c', u', q1, q2, q3⟩ := h3 i hi
    simp only [Option.some.injEq, Addr.mk.injEq, and_true] at e
    obtain ⟨rfl, rfl⟩ := e
    exact ⟨c', u', q1, q2, q3⟩)
  refine ⟨b, off, cap, us, rfl, k1, by rw [flat_len pc 2 (fun _ => rfl), k1]; rfl, fun j x hx => ?_, k3, pc_one us k3, k4⟩
  rw [show ((⟨b, off, none⟩ : Addr).add j) = ⟨b, off + j, none⟩ from by unfold Addr.add; split <;> simp_all]
  exact vis_ext _ _ _ _ (k2 j x hx)

theorem keep9 {w1 w2 : World} {B1 B2 : Nat} {x0 x1 x2 x3 x4 x5 x6 y0 y1 : Value} (hb : Below w1.heap.size w1 w2) (h : w1.cell? ⟨B1, 0, none⟩ = some x0 ∧ w1.cell? ⟨B1, 1, none⟩ = some x1 ∧ w1.cell? ⟨B1, 2, none⟩ = some x2 ∧ w1.cell? ⟨B1, 3, none⟩ = some x3 ∧ w1.cell? ⟨B1, 4, none⟩ = some x4 ∧ w1.cell? ⟨B1, 5, none⟩ = some x5 ∧ w1.cell? ⟨B1, 6, none⟩ = some x6 ∧ w1.cell? ⟨B2, 0, none⟩ = some y0 ∧ w1.cell? ⟨B2, 1, none⟩ = some y1) :
    w2.cell? ⟨B1, 0, none⟩ = some x0 ∧ w2.cell? ⟨B1, 1, none⟩ = some x1 ∧ w2.cell? ⟨B1, 2, none⟩ = some x2 ∧ w2.cell? ⟨B1, 3, none⟩ = some x3 ∧ w2.cell? ⟨B1, 4, none⟩ = some x4 ∧ w2.cell? ⟨B1, 5, none⟩ = some x5 ∧ w2.cell? ⟨B1, 6, none⟩ = some x6 ∧ w2.cell? ⟨B2, 0, none⟩ = some y0 ∧ w2.cell? ⟨B2, 1, none⟩ = some y1 := ⟨keepCell hb h.1, keepCell hb h.2.1, keepCell hb h.2.2.1, keepCell hb h.2.2.2.1, keepCell hb h.2.2.2.2.1, keepCell hb h.2.2.2.2.2.1, keepCell hb h.2.2.2.2.2.2.1, keepCell hb h.2.2.2.2.2.2.2.1, keepCell hb h.2.2.2.2.2.2.2.2⟩
theorem grow9 {w1 w2 : World} {row : Option Nat} {B1 B2 : Nat} {x0 x1 x2 x3 x4 x5 x6 y0 y1 : Value} (hg : w1.grownBy w2 row) (n1 : some B1 ≠ row) (n2 : some B2 ≠ row) (h : w1.cell? ⟨B1, 0, none⟩ = some x0 ∧ w1.cell? ⟨B1, 1, none⟩ = some x1 ∧ w1.cell? ⟨B1, 2, none⟩ = some x2 ∧ w1.cell? ⟨B1, 3, none⟩ = some x3 ∧ w1.cell? ⟨B1, 4, none⟩ = some x4 ∧ w1.cell? ⟨B1, 5, none⟩ = some x5 ∧ w1.cell? ⟨B1, 6, none⟩ = some x6 ∧ w1.cell? ⟨B2, 0, none⟩ = some y0 ∧ w1.cell? ⟨B2, 1, none⟩ = some y1) :
    w2.cell? ⟨B1, 0, none⟩ = some x0 ∧ w2.cell? ⟨B1, 1, none⟩ = some x1 ∧ w2.cell? ⟨B1, 2, none⟩ = some x2 ∧ w2.cell? ⟨B1, 3, none⟩ = some x3 ∧ w2.cell? ⟨B1, 4, none⟩ = some x4 ∧ w2.cell? ⟨B1, 5, none⟩ = some x5 ∧ w2.cell? ⟨B1, 6, none⟩ = some x6 ∧ w2.cell? ⟨B2, 0, none⟩ = some y0 ∧ w2.cell? ⟨B2, 1, none⟩ = some y1 := ⟨hg.cell h.1 n1, hg.cell h.2.1 n1, hg.cell h.2.2.1 n1, hg.cell h.2.2.2.1 n1, hg.cell h.2.2.2.2.1 n1, hg.cell h.2.2.2.2.2.1 n1, hg.cell h.2.2.2.2.2.2.1 n1, hg.cell h.2.2.2.2.2.2.2.1 n2, hg.cell h.2.2.2.2.2.2.2.2 n2⟩

theorem keep7 {w1 w2 : World} {B1 : Nat} {x0 x1 x2 x3 x4 x5 x6 : Value} (hb : Below w1.heap.size w1 w2) (h : w1.cell? ⟨B1, 0, none⟩ = some x0 ∧ w1.cell? ⟨B1, 1, none⟩ = some x1 ∧ w1.cell? ⟨B1, 2, none⟩ = some x2 ∧ w1.cell? ⟨B1, 3, none⟩ = some x3 ∧ w1.cell? ⟨B1, 4, none⟩ = some x4 ∧ w1.cell? ⟨B1, 5, none⟩ = some x5 ∧ w1.cell? ⟨B1, 6, none⟩ = some x6) :
    w2.cell? ⟨B1, 0, none⟩ = some x0 ∧ w2.cell? ⟨B1, 1, none⟩ = some x1 ∧ w2.cell? ⟨B1, 2, none⟩ = some x2 ∧ w2.cell? ⟨B1, 3, none⟩ = some x3 ∧ w2.cell? ⟨B1, 4, none⟩ = some x4 ∧ w2.cell? ⟨B1, 5, none⟩ = some x5 ∧ w2.cell? ⟨B1, 6, none⟩ = some x6 := ⟨keepCell hb h.1, keepCell hb h.2.1, keepCell hb h.2.2.1, keepCell hb h.2.2.2.1, keepCell hb h.2.2.2.2.1, keepCell hb h.2.2.2.2.2.1, keepCell hb h.2.2.2.2.2.2⟩
theorem grow7 {w1 w2 : World} {row : Option Nat} {B1 : Nat} {x0 x1 x2 x3 x4 x5 x6 : Value} (hg : w1.grownBy w2 row) (n1 : some B1 ≠ row) (h : w1.cell? ⟨B1, 0, none⟩ = some x0 ∧ w1.cell? ⟨B1, 1, none⟩ = some x1 ∧ w1.cell? ⟨B1, 2, none⟩ = some x2 ∧ w1.cell? ⟨B1, 3, none⟩ = some x3 ∧ w1.cell? ⟨B1, 4, none⟩ = some x4 ∧ w1.cell? ⟨B1, 5, none⟩ = some x5 ∧ w1.cell? ⟨B1, 6, none⟩ = some x6) :
    w2.cell? ⟨B1, 0, none⟩ = some x0 ∧ w2.cell? ⟨B1, 1, none⟩ = some x1 ∧ w2.cell? ⟨B1, 2, none⟩ = some x2 ∧ w2.cell? ⟨B1, 3, none⟩ = some x3 ∧ w2.cell? ⟨B1, 4, none⟩ = some x4 ∧ w2.cell? ⟨B1, 5, none⟩ = some x5 ∧ w2.cell? ⟨B1, 6, none⟩ = some x6 := ⟨hg.cell h.1 n1, hg.cell h.2.1 n1, hg.cell h.2.2.1 n1, hg.cell h.2.2.2.1 n1, hg.cell h.2.2.2.2.1 n1, hg.cell h.2.2.2.2.2.1 n1, hg.cell h.2.2.2.2.2.2 n1⟩

theorem info_form : (Try.prog.info? 121).map (fun i => (i.zero, i.size, i.bytes)) = some (some (.agg #[.slice none 0 0, .nilFunc]), 2, 32) := by kernel_rfl

end Go.Proofs.Ytpkggjfaefkiiaa

namespace Go.Proofs.Ytpkggjfaefkiiaa
open Go.RowKit Go.PlainAid
set_option linter.unusedVariables false

def fmsTo1 (b : Bat) (k : Nat) : List Fm := (List.range k).flatMap fun i => sidesB (shareB b.oxides.length i) (b.shares.getD i ⟨0, 0⟩)
def fmsTo2 (b : Bat) (k : Nat) : List Fm := fmsTo1 b b.shares.length ++ (b.props.take k).flatMap fun p => sidesB p.coefs p.target
def formsB (b : Bat) : List Fm := fmsTo2 b b.props.length

theorem fmsTo1_len (b : Bat) (k : Nat) : (fmsTo1 b k).length = 2 * k := by
  unfold fmsTo1
  induction k with
  | zero => rfl
  | succ k ih => rw [List.range_succ, List.flatMap_append, List.length_append, ih]; simp [sidesB]; omega
theorem fmsTo1_succ (b : Bat) (k : Nat) (h : k < b.shares.length) : fmsTo1 b (k + 1) = fmsTo1 b k ++ sidesB (shareB b.oxides.length k) b.shares[k] := by
  unfold fmsTo1
  rw [List.range_succ, List.flatMap_append, List.flatMap_singleton]
  simp [List.getD, List.getElem?_eq_getElem h]
theorem fmsTo2_len (b : Bat) (k : Nat) (h : k ≤ b.props.length) : (fmsTo2 b k).length = 2 * b.shares.length + 2 * k := by
  unfold fmsTo2
  rw [List.length_append, fmsTo1_len]
  congr 1
  induction k with
  | zero => rfl
  | succ k ih => rw [List.take_succ_eq_append_getElem (by omega), List.flatMap_append, List.length_append, ih (by omega)]; simp [sidesB]; omega
theorem fmsTo2_succ (b : Bat) (k : Nat) (h : k < b.props.length) : fmsTo2 b (k + 1) = fmsTo2 b k ++ sidesB b.props[k].coefs b.props[k].target := by
  unfold fmsTo2
  rw [List.take_succ_eq_append_getElem h, List.flatMap_append, List.flatMap_singleton, List.append_assoc]


set_option maxRecDepth 100000 in
theorem forms_any (S : Nat → Prop) (vb : Value) (b : Bat) (w : World) (h : RBat (vis S w) vb b) (hT : ∀ b, S b → b < w.heap.size) (hS : b.shares.length ≤ b.oxides.length) (hn : b.oxides.length ≤ 1000000) (hp : b.props.length ≤ 1000000) :
    Calls Try.prog 94 #[vb] w (RetFms S w (formsB b)) := by
  obtain ⟨v0, v1, v2, v3, rfl, h0, h1, h2, h3, i1, i2, i3⟩ := id h
  obtain ⟨a0, k0, rfl, -, ⟨-, l0⟩, -⟩ := h0
  obtain ⟨a1, k1, rfl, -, ⟨-, l1⟩, -⟩ := h1
  obtain ⟨a2, k2, rfl, -, ⟨-, l2⟩, hl2⟩ := h2
  obtain ⟨a3, k3, rfl, -, ⟨-, l3⟩, hl3⟩ := h3
  obtain ⟨i0, hi, hz0, hz1, hz2⟩ := info_parts info_form
  have hA := below_box w (.cells #[.slice a0 b.oxides.length k0, .slice a1 b.mats.length k1, .slice a2 b.shares.length k2, .slice a3 b.props.length k3, .int .i64 b.redox.lo, .int .i64 b.redox.hi, .int .i64 b.wanted] 29)
  have hB := Blk.new w #[.slice a0 b.oxides.length k0, .slice a1 b.mats.length k1, .slice a2 b.shares.length k2, .slice a3 b.props.length k3, .int .i64 b.redox.lo, .int .i64 b.redox.hi, .int .i64 b.wanted] 29
  have hsz : w.heap.size + 1 ≤ (w.alloc (.cells #[.slice a0 b.oxides.length k0, .slice a1 b.mats.length k1, .slice a2 b.shares.length k2, .slice a3 b.props.length k3, .int .i64 b.redox.lo, .int .i64 b.redox.hi, .int .i64 b.wanted] 29)).heap.size := by simp
  go_enter Try.func94, Try.ntmps94
  go_wp2
  generalize w.alloc (.cells #[.slice a0 b.oxides.length k0, .slice a1 b.mats.length k1, .slice a2 b.shares.length k2, .slice a3 b.props.length k3, .int .i64 b.redox.lo, .int .i64 b.redox.hi, .int .i64 b.wanted] 29) = W at *
  go_loopw [3, 11] (fun v i wr => ∃ (k : Nat) (l : List Fm), k ≤ b.shares.length ∧ i = .int .i64 k ∧ Hid (l = fmsTo1 b k) ∧ OwnPairs FmIs (fun b => S b ∨ w.heap.size ≤ b) wr (w.heap.size + 1) 121 v l ∧ Below (w.heap.size + 1) W wr) (fun _ i _ => b.shares.length - (intOf i).toNat)
  case atStart => exact ⟨0, [], Nat.zero_le _, rfl, rfl, ownPairs_nil _ _ _ _ _, Below.refl _ _⟩
  case round =>
    obtain ⟨k, l, hk, rfl, hx, hown, hb⟩ := hrel
    have hfinB := hA.trans (hb.mono (by omega))
    have hBr := hB.below hb (by omega)
    by_cases hlt : k < b.shares.length
    · have hst := Lib.hid (fmsTo1_succ b k hlt)
      have hll : l.length ≤ 2000000 := by rw [hx.out, fmsTo1_len]; omega
      obtain ⟨b1, o1, rfl, g1, g2, -, -⟩ := hl2 k hlt
      replace g1 := vis_ext _ _ _ _ g1
      replace g2 := vis_ext _ _ _ _ g2
      have hbl := cell_lt g1
      simp only at g1 g2 hbl
      obtain ⟨hcc, hzz⟩ := bcell hfinB
      clear hl2 hl3
      generalize b.shares[k] = s at *
      go_wp2_with fail
      have W2 := below_box wr (.cells #[.int .i64 s.lo, .int .i64 s.hi] 27)
      have B2 := Blk.new wr #[.int .i64 s.lo, .int .i64 s.hi] 27
      have hW3 := hb.trans (W2.mono (by have := hb.size; omega))
      have hfin3 := hfinB.trans (W2.mono hfinB.size)
      have hown' : wr.ownsRow (w.heap.size + 1) 121 2 u3 l.length _ := hown.choose_spec.2.1
      obtain ⟨us, hus, hown3, hone3, hR3⟩ := hown.below fmMono W2
      have hB3 := hBr.below W2 hBr.lt
      generalize hszr : wr.heap.size = nr at *
      generalize wr.alloc (.cells #[.int .i64 s.lo, .int .i64 s.hi] 27) = W3 at *
      have hRB := ((h.mono (vis_ext _ _)).mono (ext_of_below hfin3)).mono (ext_drew W3)
      have c0 : W3.cell? ⟨w.heap.size, 0, none⟩ = some (.slice a0 b.oxides.length k0) := hB3.cell 0 _ rfl
      have c1 : W3.cell? ⟨w.heap.size, 1, none⟩ = some (.slice a1 b.mats.length k1) := hB3.cell 1 _ rfl
      have c2 : W3.cell? ⟨w.heap.size, 2, none⟩ = some (.slice (some ⟨b1, o1, none⟩) b.shares.length k2) := hB3.cell 2 _ rfl
      have c3 : W3.cell? ⟨w.heap.size, 3, none⟩ = some (.slice a3 b.props.length k3) := hB3.cell 3 _ rfl
      have c4 : W3.cell? ⟨w.heap.size, 4, none⟩ = some (.int .i64 b.redox.lo) := hB3.cell 4 _ rfl
      have c5 : W3.cell? ⟨w.heap.size, 5, none⟩ = some (.int .i64 b.redox.hi) := hB3.cell 5 _ rfl
      have c6 : W3.cell? ⟨w.heap.size, 6, none⟩ = some (.int .i64 b.wanted) := hB3.cell 6 _ rfl
      have j0 : W3.cell? ⟨nr, 0, none⟩ = some (.int .i64 s.lo) := B2.cell 0 _ rfl
      have j1 : W3.cell? ⟨nr, 1, none⟩ = some (.int .i64 s.hi) := B2.cell 1 _ rfl
      have hltx : k < b.oxides.length := by omega
      have N1 : some w.heap.size ≠ u3.ownBlock := by
        intro e
        have := hown3.lt _ e.symm
        omega
      have N2 : some nr ≠ u3.ownBlock := by
        intro e
        have := own_lt hown' _ e.symm
        omega
      clear g1 g2 hcc hzz hown hown' W2 B2 hszr hBr hfinB hb hB3
      go_region_held3 (fun w' => w'.cell? ⟨w.heap.size, 0, none⟩ = some (.slice a0 b.oxides.length k0) ∧ w'.cell? ⟨w.heap.size, 1, none⟩ = some (.slice a1 b.mats.length k1) ∧ w'.cell? ⟨w.heap.size, 2, none⟩ = some (.slice (some ⟨b1, o1, none⟩) b.shares.length k2) ∧ w'.cell? ⟨w.heap.size, 3, none⟩ = some (.slice a3 b.props.length k3) ∧ w'.cell? ⟨w.heap.size, 4, none⟩ = some (.int .i64 b.redox.lo) ∧ w'.cell? ⟨w.heap.size, 5, none⟩ = some (.int .i64 b.redox.hi) ∧ w'.cell? ⟨w.heap.size, 6, none⟩ = some (.int .i64 b.wanted) ∧ w'.cell? ⟨nr, 0, none⟩ = some (.int .i64 s.lo) ∧ w'.cell? ⟨nr, 1, none⟩ = some (.int .i64 s.hi))
        (first | go_keep | (exact keep9 (by assumption) (by assumption)) | (exact grow9 (by assumption) N1 N2 (by assumption)) | (refine ⟨?_, ?_, ?_, ?_, ?_, ?_, ?_, ?_, ?_⟩ <;> exact keepCell (by assumption) (by assumption)))
        (first
        | (go_at_call 66; refine (shareCoefs_any _ b k _ hRB hltx hn).mono ?_; rintro e w1 ⟨v1, rfl, hv1, hb1⟩)
        | (go_at_call 127; refine (sides_any (W3.drew.heap.size ≤ ·) _ _ s _ hv1).mono ?_; rintro e w2 ⟨v2, rfl, hv2, hb2⟩; have hown4 := own_below (own_below (own_drew hown3) hb1 (own_lt hown3)) hb2 (own_lt (own_below (own_drew hown3) hb1 (own_lt hown3))); obtain ⟨b5, o5, k5, us5, rfl, n1, n2, n3, n4, n5, n6⟩ := fms_two hv2; have hsz2 : w.heap.size + 1 ≤ w2.heap.size := by (have := hb2.size; have := hb1.size; have := hW3.size; simp at *; omega))
        | (refine step_append_lies _ (by rfl) _ _ _ (by rfl) (w.heap.size + 1) 121 i0 _ 2 32 Try.underlying117 hi hz0 hz1 hz2 rfl (by omega) _ l.length _ (by rfl) hown4 ⟨b5, o5, none⟩ 2 k5 (us5.flatMap pc) (by rfl) n2 n3 n5 (by omega) (by unfold maxLen; omega) (by omega) hsz2 _ rfl ?_; intro g6 k6 w3 hown6 hgrow6 hat6 hlt6))
      have hb12 : Below W3.heap.size W3 w2 := ((Below.refl _ _).drew.trans (hb1.mono (Nat.le_refl _))).trans (hb2.mono hb1.size)
      have hownF := ownPairs_snoc (R := FmIs) fmMono (w := w2) (l2 := sidesB (shareB b.oxides.length k) s) hus n1 hown6 hgrow6 hat6 hone3 n4 (fun i h h' => FmIs.mono (ext_vis_of (ext_of_below hb12) (fun _ _ h => h)) (hR3 i h h'))
        (fun i h h' => FmIs.mono (ext_vis_of (Ext.refl _) (fun b _ hbS => ⟨Or.inr (by
          have h1 := hb1.size
          have h2 := hfin3.size
          simp only [World.size_drew] at h1 hbS
          rcases hbS with h3 | h3 <;> omega), fun e => by
          have := own_lt hown3 b e
          have h1 := hb1.size
          simp only [World.size_drew] at h1 hbS
          rcases hbS with h2 | h2
          · omega
          · omega⟩)) (n6 i h h'))
      rw [show l ++ sidesB (shareB b.oxides.length k) s = fmsTo1 b (k + 1) by rw [hst.out, hx.out]] at hownF
      have hB4 := (hW3.trans (hb12.mono (by have := hW3.size; omega))).grown hgrow6 hsz2 (fun q hq => (hown3.lt q hq).1)
      clear hb12 hgrow6 hown6 hown4 hown3 hR3 n6 hb1 hb2 hv1 hv2 hRB hB hW3 hfin3 hat6
      go_wp2
      go_roundw
      case rel => exact ⟨k + 1, _, by omega, by go_num, rfl, hownF, hB4⟩
      case measure => simp [intOf]; omega
    · have hxx := hx.out
      rw [show k = b.shares.length from by omega] at hxx
      have m3 : wr.cell? ⟨w.heap.size, 3, none⟩ = some (.slice a3 b.props.length k3) := hBr.cell 3 _ rfl
      have HX := Lib.hid hxx
      clear hxx hx hl2
      have hB0 := hB.below hb (by omega)
      have hsz0 : w.heap.size + 1 ≤ wr.heap.size := by have := hb.size; omega
      clear hBr hB hb hA
      go_wp2
      clear m3 hlt hk
      obtain ⟨wo, rfl⟩ : ∃ wo : World, wo = wr := ⟨_, rfl⟩
      go_loopw [3, 27] (fun v i wr => ∃ (k : Nat) (l : List Fm), k ≤ b.props.length ∧ i = .int .i64 k ∧ Hid (l = fmsTo2 b k) ∧ OwnPairs FmIs (fun b => S b ∨ w.heap.size ≤ b) wr (w.heap.size + 1) 121 v l ∧ Below (w.heap.size + 1) wo wr) (fun _ i _ => b.props.length - (intOf i).toNat)
      case atStart => exact ⟨0, l, Nat.zero_le _, rfl, by unfold fmsTo2; simpa [Hid] using HX.out, hown, Below.refl _ _⟩
      case round =>
        clear hown HX
        obtain ⟨k, l, hk, rfl, hx, hown, hb⟩ := hrel
        have hfinC := hfinB.trans (hb.mono (by omega))
        by_cases hlt : k < b.props.length
        · have hst := Lib.hid (fmsTo2_succ b k hlt)
          have hll : l.length ≤ 4000000 := by rw [hx.out, fmsTo2_len b k hk]; omega
          obtain ⟨b1, o1, rfl, c, ⟨g0, g1, g2, g3⟩, hc, hs⟩ := hl3 k hlt
          replace g0 := vis_ext _ _ _ _ g0
          replace g1 := vis_ext _ _ _ _ g1
          replace g2 := vis_ext _ _ _ _ g2
          replace g3 := vis_ext _ _ _ _ g3
          have hbl := cell_lt g0
          simp only at g0 g1 g2 g3 hbl
          obtain ⟨ac, kc, rfl, -, -, -⟩ := id hc
          obtain ⟨hcc, hzz⟩ := bcell hfinC
          clear hl3
          generalize b.props[k] = s at *
          go_wp2_with fail
          have W2 := below_box wr (.cells #[.string s.name, .slice ac s.coefs.length kc, .int .i64 s.target.lo, .int .i64 s.target.hi] 70)
          have hW3 := hb.trans (W2.mono (by have := hb.size; omega))
          have hfin3 := hfinC.trans (W2.mono hfinC.size)
          have hown2 := hown.below fmMono W2
          generalize wr.alloc (.cells #[.string s.name, .slice ac s.coefs.length kc, .int .i64 s.target.lo, .int .i64 s.target.hi] 70) = W3 at *
          refine (sides_any S _ s.coefs s.target _ (hc.mono (ext_vis_of (ext_of_below hfin3) (fun _ _ h => h)))).mono ?_
          rintro e w2 ⟨v2, rfl, hv2, hb2⟩
          obtain ⟨us, hus, hown4, hone, hR4⟩ := hown2.below fmMono hb2
          obtain ⟨b5, o5, k5, us5, rfl, n1, n2, n3, n4, n5, n6⟩ := fms_two hv2
          have hW5 := hW3.trans (hb2.mono (by have := hW3.size; omega))
          have hsz2 : w.heap.size + 1 ≤ w2.heap.size := by have := hW5.size; omega
          have hbs := hb2.size
          have hown3 : ∀ q, u3.ownBlock = some q → w.heap.size + 1 ≤ q ∧ q < W3.heap.size := fun q hq => (hown2.choose_spec.2.1).lt q hq
          clear hown hown2 W2 hcc hzz g0 g1 g2 g3 hc hb
          go_wp2_with (at_builtin; refine wpList_append_lies _ rfl _ _ _ rfl (w.heap.size + 1) 121 i0 _ 2 32 Try.underlying117 hi hz0 hz1 hz2 rfl (by omega) _ l.length _ rfl hown4 ⟨b5, o5, none⟩ 2 k5 (us5.flatMap pc) rfl n2 n3 n5 (by omega) (by unfold maxLen; omega) (by omega) hsz2 _ rfl ?_; intro g6 k6 w3 hown6 hgrow6 hat6 hlt6)
          have hownF := ownPairs_snoc (R := FmIs) fmMono (w := w2) (l2 := sidesB s.coefs s.target) hus n1 hown6 hgrow6 hat6 hone n4 hR4
            (fun i h h' => FmIs.mono (ext_vis_of (Ext.refl _) (fun b _ hbS => ⟨(by
              have h1 := hfin3.size
              rcases hbS with h2 | h2
              · exact Or.inl h2
              · exact Or.inr (by omega)), fun e => by
              have h3 := hown3 b e
              rcases hbS with h2 | h2
              · have := hT b h2
                omega
              · omega⟩)) (n6 i h h'))
          rw [show l ++ sidesB s.coefs s.target = fmsTo2 b (k + 1) by rw [hst.out, hx.out]] at hownF
          have hB4 := hW5.grown hgrow6 hsz2 (fun q hq => (hown3 q hq).1)
          clear hgrow6 hown6 hown4 hown3 hR4 n6 hb2 hv2 hW3 hW5 hfin3 hat6
          go_wp2
          go_roundw
          case rel => exact ⟨k + 1, _, by omega, by go_num, rfl, hownF, hB4⟩
          case measure => simp [intOf]; omega
        · have hxx := hx.out
          rw [show k = b.props.length from by omega] at hxx
          have hF : l = formsB b := hxx
          have hlen : l.length ≤ 140737488351232 := by rw [hxx, fmsTo2_len b _ (Nat.le_refl _)]; omega
          have hres := own_pairs_RSl fmMono hown (fun g hg => Or.inr (by omega)) hlen
          rw [hF] at hres
          have HR := Lib.hid hres
          clear hxx hx hl3 hown hres hF hlen
          go_wp2
          go_ret
          exact ⟨_, rfl, HR.out, hfinC⟩

end Go.Proofs.Ytpkggjfaefkiiaa
