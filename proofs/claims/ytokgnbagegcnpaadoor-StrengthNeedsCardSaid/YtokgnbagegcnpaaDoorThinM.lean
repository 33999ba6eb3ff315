/- What a glass bears, by the statements; rows of spans that are changed in place; no statement is proved here. -/
import Derived.Test.YtokgnbagegcnpaaDoorNeedP
import Derived.Test.YtokgnbagegcnpaaDoorStP
import Derived.Test.YtokgnbagegcnpaaDoorSCells
namespace Go.Proofs.YtokgnbagegcnpaaDoor
open Go.RowKit Go.PlainAid
set_option linter.unusedVariables false
set_option linter.unusedSimpArgs false

theorem min_if5 (a b : Int) : (if b < a then b else a) = min a b := by rw [Int.min_def]; split <;> split <;> omega
theorem max_if5 (a b : Int) : (if a < b then b else a) = max a b := by rw [Int.max_def]; split <;> split <;> omega
theorem root_lt {q m : Int} (h : IsRoot q m) (hq : q ≤ 1000000000000000) : m < 100000000 := by
  by_cases hlt : m < 100000000
  · exact hlt
  · have h1 := Int.mul_le_mul (show (100000000 : Int) ≤ m by omega) (show (100000000 : Int) ≤ m by omega) (by omega) h.ge
    have := h.sq
    omega
theorem OkS.q_le {b : Bot} (h : OkS b) : b.tough / b.flaw ≤ 1000000000000000 := by
  have h1 := h.tough
  have h2 := Int.ediv_le_self b.flaw h1.1
  omega

def BearsP (w : World) (b : Bot) (s : Int) (e : Ending) (w' : World) : Prop := ∃ r, e = .returned (.bool r) ∧ (r = true ↔ s ≤ rootF (b.tough / b.flaw)) ∧ Below w.heap.size w w'
set_option maxHeartbeats 1000000 in
set_option maxRecDepth 100000 in
theorem bearsL_any (vb : Value) (b : Bot) (s : Int) (w : World) (h : RBot w vb b) (hok : OkS b) (hs : 0 ≤ s ∧ s ≤ 8000000000000) :
    Calls Tryd.prog 50 #[vb, .int .i64 s] w (BearsP w b s) := by
  obtain ⟨v0, rfl, hr, hI⟩ := h
  obtain ⟨a, cap, rfl, -, -, -⟩ := hr
  have hA := below_boxS w (.cells #[.slice a b.rings.length cap, .int .i64 b.flaw, .int .i64 b.tough] 24)
  have hB := Blk.new w #[.slice a b.rings.length cap, .int .i64 b.flaw, .int .i64 b.tough] 24
  have hrt := hok.root
  have hlt := root_lt hrt hok.q_le
  have hfl := hok.flaw
  have hto := hok.tough
  have hq1 := hok.q
  have hq2 := hok.q_le
  have c1 := hB.cell 1 _ rfl
  have c2 := hB.cell 2 _ rfl
  have HA := Lib.hid hA
  by_cases hbig : s < 100000000
  · have m0 : 0 ≤ s * s := Int.mul_nonneg hs.1 hs.1
    have m1 : s * s ≤ 100000000 * 100000000 := Int.mul_le_mul (by omega) (by omega) hs.1 (by omega)
    have q1 : wrap64 (s * s) = s * s := wrap_id _ (by unfold I64; omega)
    have hn : ¬ b.flaw = 0 := by omega
    have q2 : wrap64 (b.tough.tdiv b.flaw) = b.tough / b.flaw := by
      rw [Int.tdiv_eq_ediv_of_nonneg hto.1]
      exact wrap_id _ (by unfold I64; omega)
    have HI : Hid (s ≤ rootF (b.tough / b.flaw) ↔ s * s ≤ b.tough / b.flaw) := Lib.hid (hrt.le_iff hs.1)
    clear hrt hlt hB hA hfl hto hq1 hq2
    obtain ⟨Q, hQ⟩ : ∃ Q, b.tough / b.flaw = Q := ⟨_, rfl⟩
    rw [hQ] at q2
    have HQ := Lib.hid hQ
    clear hQ
    by_cases hle : s * s ≤ Q
    · go_enter Tryd.func50, Tryd.ntmps50
      go_wp2
      go_ret
      exact ⟨true, rfl, by rw [HI.out, HQ.out]; simpa using hle, HA.out⟩
    · go_enter Tryd.func50, Tryd.ntmps50
      go_wp2
      go_ret
      exact ⟨false, rfl, by rw [HI.out, HQ.out]; simpa using hle, HA.out⟩
  · have HL := Lib.hid hlt
    clear hrt hlt hB hA hfl hto hq1 hq2
    go_enter Tryd.func50, Tryd.ntmps50
    go_wp2
    go_ret
    exact ⟨false, rfl, ⟨fun h => (by cases h), fun h => (by have := HL.out; omega)⟩, HA.out⟩

/-- a block whose cells begin with those of spans. -/
def SpBlk (w : World) (g : Nat) (us : List Sp) : Prop := ∃ cur, Blk w g cur 29 ∧ ∀ i (h : i < us.length), cur[i * 2]? = some (.int .i64 us[i].lo) ∧ cur[i * 2 + 1]? = some (.int .i64 us[i].hi)
theorem SpBlk.lt {w : World} {g : Nat} {us : List Sp} (h : SpBlk w g us) : g < w.heap.size := by obtain ⟨cur, h1, -⟩ := h; exact h1.lt
theorem SpBlk.below {B : Nat} {w w' : World} {g : Nat} {us : List Sp} (h : SpBlk w g us) (hb : Below B w w') (hg : g < B) : SpBlk w' g us := by
  obtain ⟨cur, h1, h2⟩ := h
  exact ⟨cur, h1.below hb hg, h2⟩
theorem SpBlk.cell0 {w : World} {g : Nat} {us : List Sp} (h : SpBlk w g us) {k : Nat} (hk : k < us.length) : w.cell? ⟨g, k * 2, none⟩ = some (.int .i64 us[k].lo) := by
  obtain ⟨cur, h1, h2⟩ := h
  exact h1.cell _ _ (h2 k hk).1
theorem SpBlk.cell1 {w : World} {g : Nat} {us : List Sp} (h : SpBlk w g us) {k : Nat} (hk : k < us.length) : w.cell? ⟨g, k * 2 + 1, none⟩ = some (.int .i64 us[k].hi) := by
  obtain ⟨cur, h1, h2⟩ := h
  exact h1.cell _ _ (h2 k hk).2
theorem SpBlk.frozen {w : World} {g : Nat} {us : List Sp} (h : SpBlk w g us) (i : Nat) : w.frozen? ⟨g, i, none⟩ = false := by
  obtain ⟨cur, h1, h2⟩ := h
  exact h1.frozen i
theorem SpBlk.set {w : World} {g : Nat} {us : List Sp} (h : SpBlk w g us) {k : Nat} (hk : k < us.length) (T : Sp) : SpBlk ((w.setCell ⟨g, k * 2, none⟩ (.int .i64 T.lo)).setCell ⟨g, k * 2 + 1, none⟩ (.int .i64 T.hi)) g (us.set k T) := by
  obtain ⟨cur, h1, h2⟩ := h
  refine ⟨_, (h1.set (k * 2) (.int .i64 T.lo)).set (k * 2 + 1) (.int .i64 T.hi), fun i hi => ?_⟩
  have hi' : i < us.length := by simpa using hi
  obtain ⟨h3, h4⟩ := h2 i hi'
  have hs3 := (Array.getElem?_eq_some_iff.1 h3).1
  have hs4 := (Array.getElem?_eq_some_iff.1 h4).1
  by_cases e : i = k
  · subst e
    simp only [List.getElem_set_self]
    constructor
    · rw [Array.getElem?_setIfInBounds, if_neg (by omega), Array.getElem?_setIfInBounds, if_pos rfl, if_pos hs3]
    · rw [Array.getElem?_setIfInBounds, if_pos rfl, if_pos (by simpa using hs4)]
  · rw [List.getElem_set_ne (by omega)]
    constructor
    · rw [Array.getElem?_setIfInBounds, if_neg (by omega), Array.getElem?_setIfInBounds, if_neg (by omega)]; exact h3
    · rw [Array.getElem?_setIfInBounds, if_neg (by omega), Array.getElem?_setIfInBounds, if_neg (by omega)]; exact h4
theorem SpBlk.reads {w : World} {g cap : Nat} {us : List Sp} (h : SpBlk w g us) (hc : us.length ≤ cap) (hcm : cap ≤ 9223372036854775807) (hm : us.length ≤ 140737488351232) (hi : ∀ x ∈ us, I64s x) : RSps w (.slice (some ⟨g, 0, none⟩) us.length cap) us := by
  refine ⟨_, cap, rfl, hc, ⟨hcm, hm⟩, fun i hi' => ⟨g, 0, rfl, ?_⟩⟩
  have h3 := h.cell0 hi'
  have h4 := h.cell1 hi'
  exact ⟨by simpa using h3, by simpa using h4, hi _ (List.getElem_mem hi')⟩
theorem spBlk_of_own {w : World} {base n : Nat} {v : Value} {us : List Sp} (h : w.ownsRow base 29 2 v us.length (us.flatMap spCells)) (hne : 0 < us.length) :
    ∃ g cap, v = .slice (some ⟨g, 0, none⟩) us.length cap ∧ base ≤ g ∧ us.length ≤ cap ∧ cap ≤ 9223372036854775807 ∧ SpBlk w g us := by
  have h' := h
  obtain ⟨hl, h | ⟨g, cap, cur, hv, hg, hh, h1, h2, h3, h4⟩⟩ := h
  · omega
  · refine ⟨g, cap, hv, hg, h1, by simpa [maxLen] using h2, cur, hh, fun i hi => ?_⟩
    have hc : ∀ j (hj : j < (us.flatMap spCells).length), w.cell? ⟨g, j, none⟩ = some ((us.flatMap spCells)[j]'hj) := by
      rcases own_cells h' with ⟨e1, e2⟩ | ⟨g2, cap2, e1, e2, e3, e4⟩
      · omega
      · rw [hv] at e1
        simp only [Value.slice.injEq, Option.some.injEq, Addr.mk.injEq, true_and, and_true] at e1
        rw [e1.1]
        exact e4
    have k0 := flat_cell (c := spCells) (n := 2) (fun _ => rfl) hc i 0 hi (by omega) _ rfl
    have k1 := flat_cell (c := spCells) (n := 2) (fun _ => rfl) hc i 1 hi (by omega) _ rfl
    have hB : Blk w g cur 29 := hh
    constructor
    · rw [← k0]
      unfold World.cell?
      rw [hh]
      rfl
    · rw [← k1]
      unfold World.cell?
      rw [hh]
      rfl

/-- the thicknesses that are asked of Stress: those that are needed, or 1. -/
noncomputable def thinL (b : Bot) (l : Ld) : List Sp := (needS b l).map fun n => ⟨max n 1, max n 1⟩
theorem thinL_len (b : Bot) (l : Ld) : (thinL b l).length = (needS b l).length := by simp [thinL]
theorem thinL_at {b : Bot} {l : Ld} {k : Nat} (h : k < (thinL b l).length) (h' : k < (needS b l).length) : (thinL b l)[k] = ⟨max (needS b l)[k] 1, max (needS b l)[k] 1⟩ := by simp [thinL]
theorem thinL_ok {b : Bot} {l : Ld} (hb : OkS b) (hl : OkL l) : ∀ x ∈ thinL b l, OkT x := fun x hx => by
  unfold thinL at hx
  obtain ⟨n, hn, rfl⟩ := List.mem_map.1 hx
  have := needS_bd hb hl n hn
  exact ⟨by simp only; omega, by simp only; omega, by simp only; omega⟩
theorem okT_I {t : Sp} (h : OkT t) : I64s t := by
  have h1 := h.lo
  have h2 := h.le
  have h3 := h.hi
  unfold I64s I64
  omega
theorem wallS_of {b : Bot} {us : List Sp} {l : Ld} (h : bothS b l = 0) (hlen : us.length = b.rings.length) (hT : ∀ x ∈ us, OkT x) : wallS b us l = 0 := by
  obtain ⟨-, hl⟩ := both_ok h
  have hc : checkS b = 0 := by
    unfold bothS at h
    split at h
    · assumption
    · exact h
  have hT2 : allT us = true := allT_true.2 (fun i hi => hT _ (List.getElem_mem hi))
  simp [wallS, hc, hlen, hT2, loadS_of hl]

theorem strS_at {b : Bot} {us : List Sp} {l : Ld} (h : wallS b us l = 0) {k : Nat} (hk : k < (strS b us l).length) (h1 : k < b.rings.length) (h2 : k < us.length) : (strS b us l)[k] = strR b.rings[k] us[k] l := by
  have e : strS b us l = strL b us l := by rw [strS, if_pos h]
  simp only [e]
  rw [strL_at, strAt_eq h1 h2]
theorem strS_len {b : Bot} {us : List Sp} {l : Ld} (h : wallS b us l = 0) : (strS b us l).length = b.rings.length := by rw [strS, if_pos h, strL_len]

end Go.Proofs.YtokgnbagegcnpaaDoor
