/- A recipe passes just if its spans lie in their targets and its least weight is what is wanted; no statement is proved here. -/
import Derived.Test.YtnnkcbeadiembaaSwap
import Derived.Test.YtnnkcbeadiembaaRedox
namespace Go.Proofs.Ytnnkcbeadiembaa
open Go.RowKit Go.PlainAid
set_option linter.unusedVariables false

theorem side_up {b : Bat} (hb : OkB b) {r : List Int} (hr : ∀ x ∈ r, 0 ≤ x ∧ x ≤ 10000) (hl : r.length = b.mats.length) {c : List Int} {t : Sp} (hm : MeanOk c (gramsB b r)) :
    dotTo (b.mats.map fun m => facE ⟨c, true, t⟩ m.content b.oxides.length) r b.mats.length ≤ 0 ↔ (valueB c (gramsB b r)).hi ≤ t.hi := by
  have hlen : c.length = b.oxides.length := by rw [hm.len]; exact gTo_len _ _ _ _
  have e : (fun m : Mat => facE ⟨c, true, t⟩ m.content b.oxides.length) = fun m => sumO (fun i => c.getD i 0 - t.hi) m.content b.oxides.length := by
    funext m
    rw [fac_sumO]
    rfl
  rw [e, dot_grams hb hr hl, ← fE_sumO, ← hlen]
  exact (gm_iff hm t.hi).symm

theorem side_down {b : Bat} (hb : OkB b) {r : List Int} (hr : ∀ x ∈ r, 0 ≤ x ∧ x ≤ 10000) (hl : r.length = b.mats.length) {c : List Int} {t : Sp} (hm : MeanOk c (gramsB b r)) :
    dotTo (b.mats.map fun m => facE ⟨c, false, t⟩ m.content b.oxides.length) r b.mats.length ≤ 0 ↔ t.lo ≤ (valueB c (gramsB b r)).lo := by
  have hlen : c.length = b.oxides.length := by rw [hm.len]; exact gTo_len _ _ _ _
  have e : (fun m : Mat => facE ⟨c, false, t⟩ m.content b.oxides.length) = fun m => sumO (fun i => (negB c).getD i 0 - -t.lo) m.content b.oxides.length := by
    funext m
    rw [fac_sumO]
    apply sumO_congr
    intro i hi
    rw [neg_at c i (by omega)]
    show t.lo - c.getD i 0 = _
    omega
  have hn : (negB c).length = b.oxides.length := by simp [negB, hlen]
  rw [e, dot_grams hb hr hl, ← fE_sumO, ← hn, ← gm_iff (neg_ok hm) (-t.lo)]
  show _ ↔ t.lo ≤ -(gmB (negB c) (gramsB b r))
  omega

theorem forms_all {b : Bat} (hb : OkB b) (P : Fm → Prop) :
    (∀ f ∈ formsB b, P f) ↔ (∀ i, i < b.oxides.length → P ⟨shareB b.oxides.length i, true, b.shares.getD i ⟨0, 0⟩⟩ ∧ P ⟨shareB b.oxides.length i, false, b.shares.getD i ⟨0, 0⟩⟩) ∧ ∀ p ∈ b.props, P ⟨p.coefs, true, p.target⟩ ∧ P ⟨p.coefs, false, p.target⟩ := by
  unfold formsB fmsTo2 fmsTo1 sidesB
  rw [List.take_of_length_le (Nat.le_refl _), hb.shLen]
  simp only [List.mem_append, List.mem_flatMap, List.mem_range, List.mem_cons, List.not_mem_nil, or_false]
  constructor
  · intro h
    exact ⟨fun i hi => ⟨h _ (.inl ⟨i, hi, .inl rfl⟩), h _ (.inl ⟨i, hi, .inr rfl⟩)⟩, fun p hp => ⟨h _ (.inr ⟨p, hp, .inl rfl⟩), h _ (.inr ⟨p, hp, .inr rfl⟩)⟩⟩
  · rintro ⟨h1, h2⟩ f (⟨i, hi, rfl | rfl⟩ | ⟨p, hp, rfl | rfl⟩)
    · exact (h1 i hi).1
    · exact (h1 i hi).2
    · exact (h2 p hp).1
    · exact (h2 p hp).2

theorem sum_range (f : Sp → Int) : ∀ (l : List Sp), (l.map f).sum = ((List.range l.length).map fun i => f (l.getD i ⟨0, 0⟩)).sum := by
  intro l
  congr 1
  apply List.ext_getElem
  · simp
  intro i h1 h2
  have hi : i < l.length := by simpa using h1
  simp [List.getD, List.getElem?_eq_getElem hi]

def loT (b : Bat) (r : List Int) (k n : Nat) : Int := ((List.range n).map fun i => loSum b r k i).sum
def hiT (b : Bat) (r : List Int) (k n : Nat) : Int := ((List.range n).map fun i => hiSum b r k i).sum
theorem zero_sum (n : Nat) : ((List.range n).map fun _ => (0 : Int)).sum = 0 := by
  induction n with
  | zero => rfl
  | succ n ih => rw [List.range_succ, List.map_append, List.map_singleton, sum_snoc, ih]; rfl

theorem loT_step (b : Bat) (r : List Int) (k : Nat) : ∀ n, loT b r (k + 1) n = loT b r k n + r.getD k 0 * ((List.range n).map fun i => (cont b k i).lo).sum := by
  intro n
  induction n with
  | zero => simp [loT]
  | succ n ih =>
    unfold loT at ih ⊢
    rw [List.range_succ, List.map_append, List.map_append, List.map_append, List.map_singleton, List.map_singleton, List.map_singleton, sum_snoc, sum_snoc, sum_snoc, ih, loSum_succ, Int.mul_add]
    omega
theorem hiT_step (b : Bat) (r : List Int) (k : Nat) : ∀ n, hiT b r (k + 1) n = hiT b r k n + r.getD k 0 * ((List.range n).map fun i => (cont b k i).hi).sum := by
  intro n
  induction n with
  | zero => simp [hiT]
  | succ n ih =>
    unfold hiT at ih ⊢
    rw [List.range_succ, List.map_append, List.map_append, List.map_append, List.map_singleton, List.map_singleton, List.map_singleton, sum_snoc, sum_snoc, sum_snoc, ih, hiSum_succ, Int.mul_add]
    omega

theorem cont_sum {b : Bat} (hb : OkB b) {k : Nat} (hk : k < b.mats.length) :
    ((List.range b.oxides.length).map fun i => (cont b k i).lo).sum = (tot (b.mats[k]'hk).content).lo ∧ ((List.range b.oxides.length).map fun i => (cont b k i).hi).sum = (tot (b.mats[k]'hk).content).hi := by
  have hm := hb.mats _ (List.getElem_mem hk)
  have ht := tot_mat hm hb.ox.2
  rw [ht.1, ht.2.1, sum_range, sum_range, hm.len]
  constructor
  · congr 1; apply List.map_congr_left; intro i _; rw [cont_at hk]
  · congr 1; apply List.map_congr_left; intro i _; rw [cont_at hk]

theorem T_le {b : Bat} (hb : OkB b) {r : List Int} (hr : ∀ x ∈ r, 0 ≤ x ∧ x ≤ 10000) (hl : r.length = b.mats.length) {k : Nat} (hk : k ≤ b.mats.length) : ∀ n, n ≤ b.oxides.length → loT b r k n ≤ hiT b r k n := by
  intro n
  induction n with
  | zero => intro _; simp [loT, hiT]
  | succ n ih =>
    intro hn
    have h1 := ih (by omega)
    have h2 := sums_ok hb hr hl n (by omega) k hk
    unfold loT hiT at h1 ⊢
    rw [List.range_succ, List.map_append, List.map_append, List.map_singleton, List.map_singleton, sum_snoc, sum_snoc]
    omega

theorem T_grams {b : Bat} (hb : OkB b) {r : List Int} (hr : ∀ x ∈ r, 0 ≤ x ∧ x ≤ 10000) (hl : r.length = b.mats.length) :
    loT b r b.mats.length b.oxides.length = (tot (gramsB b r)).lo ∧ hiT b r b.mats.length b.oxides.length = (tot (gramsB b r)).hi := by
  have ht := tot_ok hb hr hl
  have hlen : (gramsB b r).length = b.oxides.length := gTo_len _ _ _ _
  rw [ht.1, ht.2.1, sum_range, sum_range, hlen]
  constructor
  · unfold loT
    congr 1; apply List.map_congr_left; intro i hi
    rw [grams_at hb hr hl (List.mem_range.1 hi)]
  · unfold hiT
    congr 1; apply List.map_congr_left; intro i hi
    rw [grams_at hb hr hl (List.mem_range.1 hi)]

theorem rdx_at {b : Bat} {k : Nat} (hk : k < b.mats.length) : rdxAt b k = (b.mats[k]'hk).redox := by
  unfold rdxAt; rw [List.getElem?_eq_getElem hk]

theorem dot_redox {b : Bat} (hb : OkB b) {r : List Int} (hr : ∀ x ∈ r, 0 ≤ x ∧ x ≤ 10000) (hl : r.length = b.mats.length) (n s : Int) (f : Mat → Int) (hf : ∀ m, f m = s * (1000000 * m.redox) + grE n (tot m.content)) :
    ∀ k, k ≤ b.mats.length → dotTo (b.mats.map f) r k = s * rdxTo b r k + grE n ⟨loT b r k b.oxides.length, hiT b r k b.oxides.length⟩ := by
  intro k
  induction k with
  | zero =>
    intro _
    have h1 : loT b r 0 b.oxides.length = 0 := by unfold loT loSum; simpa using zero_sum _
    have h2 : hiT b r 0 b.oxides.length = 0 := by unfold hiT hiSum; simpa using zero_sum _
    rw [h1, h2]
    simp [dotTo, rdxTo, grE]
  | succ k ih =>
    intro hk
    have hk' : k < b.mats.length := by omega
    have h4 := hr _ (getD_mem (d := 0) (show k < r.length by omega))
    have hc := cont_sum hb hk'
    have hm := tot_mat (hb.mats _ (List.getElem_mem hk')) hb.ox.2
    rw [dotTo_succ', ih (by omega), map_at _ _ _ _ hk', hf, rdxTo_succ, loT_step, hiT_step, hc.1, hc.2, grE_lin (T_le hb hr hl (by omega) _ (Nat.le_refl _)) hm.2.2.2.1 h4.1, rdx_at hk', Int.add_mul, Int.mul_add, Int.mul_assoc s]
    have e : (⟨(tot (b.mats[k]'hk').content).lo, (tot (b.mats[k]'hk').content).hi⟩ : Sp) = tot (b.mats[k]'hk').content := rfl
    rw [e]
    omega

theorem dot_first {b : Bat} (hb : OkB b) {r : List Int} (hr : ∀ x ∈ r, 0 ≤ x ∧ x ≤ 10000) (hl : r.length = b.mats.length) :
    ∀ k, k ≤ b.mats.length → dotTo (b.mats.map fun m => -(m.content.map Sp.lo).sum) r k = -(loT b r k b.oxides.length) := by
  intro k
  induction k with
  | zero =>
    intro _
    have h1 : loT b r 0 b.oxides.length = 0 := by unfold loT loSum; simpa using zero_sum _
    rw [h1]; simp [dotTo]
  | succ k ih =>
    intro hk
    have hk' : k < b.mats.length := by omega
    have hc := cont_sum hb hk'
    have hm := tot_mat (hb.mats _ (List.getElem_mem hk')) hb.ox.2
    rw [dotTo_succ', ih (by omega), map_at _ _ _ _ hk', loT_step, hc.1, hm.1, Int.neg_mul, Int.mul_comm]
    omega

/-- what is told lies in the targets, and the least weight is what is wanted. -/
def insideP (b : Bat) (r : List Int) : Prop :=
  1000 * b.wanted ≤ (tot (gramsB b r)).lo
  ∧ (∀ i, i < b.oxides.length → (b.shares.getD i ⟨0, 0⟩).lo ≤ (valueB (shareB b.oxides.length i) (gramsB b r)).lo ∧ (valueB (shareB b.oxides.length i) (gramsB b r)).hi ≤ (b.shares.getD i ⟨0, 0⟩).hi)
  ∧ (b.redox.lo ≤ (rdxB b r).lo ∧ (rdxB b r).hi ≤ b.redox.hi)
  ∧ ∀ p ∈ b.props, p.target.lo ≤ (valueB p.coefs (gramsB b r)).lo ∧ (valueB p.coefs (gramsB b r)).hi ≤ p.target.hi

theorem redox_sides {b : Bat} (hb : OkB b) {r : List Int} (hr : ∀ x ∈ r, 0 ≤ x ∧ x ≤ 10000) (hl : r.length = b.mats.length) (hz : (tot (gramsB b r)).lo ≠ 0) :
    (dotTo (b.mats.map (f2E b)) r b.mats.length ≤ 0 ↔ (rdxB b r).hi ≤ b.redox.hi) ∧ (dotTo (b.mats.map (f3E b)) r b.mats.length ≤ 0 ↔ b.redox.lo ≤ (rdxB b r).lo) := by
  have ht := tot_bd hb hr hl
  have hT := T_grams hb hr hl
  have hl1 : 0 < (tot (gramsB b r)).lo := by omega
  have hl2 : 0 < (tot (gramsB b r)).hi := by omega
  constructor
  · rw [dot_redox hb hr hl (-b.redox.hi) 1 (f2E b) (fun m => by unfold f2E; omega) _ (Nat.le_refl _), hT.1, hT.2]
    unfold grE rdxB
    simp only [Int.neg_mul]
    have h1 := ceil_le (s := rdxTo b r b.mats.length) (n := b.redox.hi) hl1
    have h2 := ceil_le (s := rdxTo b r b.mats.length) (n := b.redox.hi) hl2
    omega
  · rw [dot_redox hb hr hl b.redox.lo (-1) (f3E b) (fun m => by unfold f3E; omega) _ (Nat.le_refl _), hT.1, hT.2]
    unfold grE rdxB
    simp only
    have h1 := le_floor (s := rdxTo b r b.mats.length) (n := b.redox.lo) hl1
    have h2 := le_floor (s := rdxTo b r b.mats.length) (n := b.redox.lo) hl2
    omega

theorem lines_inside {b : Bat} (hb : OkB b) {r : List Int} (hr : ∀ x ∈ r, 0 ≤ x ∧ x ≤ 10000) (hl : r.length = b.mats.length) (hz : (tot (gramsB b r)).lo ≠ 0) : passB b r = true ↔ insideP b r := by
  rw [passB_iff hb hr hl, lines_exact hb]
  unfold lnE insideP
  have hf := forms_all hb fun f => dotTo (b.mats.map fun m => facE f m.content b.oxides.length) r b.mats.length ≤ 0
  have hS := redox_sides hb hr hl hz
  have h1 := dot_first hb hr hl b.mats.length (Nat.le_refl _)
  have hT := (T_grams hb hr hl).1
  simp only [List.forall_mem_cons, List.forall_mem_append, List.forall_mem_map, List.length_map, List.not_mem_nil, false_imp_iff, implies_true, and_true]
  rw [hf, hS.1, hS.2, h1, hT]
  constructor
  · rintro ⟨g1, ⟨g2, g3⟩, g4, g5⟩
    refine ⟨by omega, fun i hi => ?_, ⟨g5, g4⟩, fun p hp => ?_⟩
    · have hm := share_ok hb hr hl hz i
      exact ⟨(side_down hb hr hl hm).1 (g2 i hi).2, (side_up hb hr hl hm).1 (g2 i hi).1⟩
    · have hm := coefs_ok hb hr hl hz hp
      exact ⟨(side_down hb hr hl hm).1 (g3 p hp).2, (side_up hb hr hl hm).1 (g3 p hp).1⟩
  · rintro ⟨g1, g2, ⟨g5, g4⟩, g3⟩
    refine ⟨by omega, ⟨fun i hi => ?_, fun p hp => ?_⟩, g4, g5⟩
    · have hm := share_ok hb hr hl hz i
      exact ⟨(side_up hb hr hl hm).2 (g2 i hi).2, (side_down hb hr hl hm).2 (g2 i hi).1⟩
    · have hm := coefs_ok hb hr hl hz hp
      exact ⟨(side_up hb hr hl hm).2 (g3 p hp).2, (side_down hb hr hl hm).2 (g3 p hp).1⟩

/-- a recipe that weighs nothing doesn't pass. -/
theorem none_pass {b : Bat} (hb : OkB b) {r : List Int} (hr : ∀ x ∈ r, 0 ≤ x ∧ x ≤ 10000) (hl : r.length = b.mats.length) (hz : (tot (gramsB b r)).lo = 0) : passB b r = false := by
  cases hp : passB b r with
  | false => rfl
  | true =>
    have h := (passB_iff hb hr hl).1 hp
    rw [lines_exact hb] at h
    have h0 := h _ List.mem_cons_self
    have h1 := dot_first hb hr hl b.mats.length (Nat.le_refl _)
    have hT := (T_grams hb hr hl).1
    have hw := hb.wanted
    simp only [List.length_map] at h0
    rw [h1, hT, hz] at h0
    omega

end Go.Proofs.Ytnnkcbeadiembaa
