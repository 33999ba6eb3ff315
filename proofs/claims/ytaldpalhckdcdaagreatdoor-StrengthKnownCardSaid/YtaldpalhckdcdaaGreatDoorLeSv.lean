/- Anneals of package strength, by its contract; no statement is proved here. -/
import Derived.Test.YtaldpalhckdcdaaGreatDoorLeC
import Derived.Test.YtaldpalhckdcdaaGreatDoorToldB
import Derived.Test.YtaldpalhckdcdaaGreatDoorB1
import Derived.Test.YtaldpalhckdcdaaGreatDoorTill
namespace Go.Proofs.YtaldpalhckdcdaaGreatDoor
open Go.RowKit Go.PlainAid
set_option linter.unusedVariables false
set_option linter.unusedSimpArgs false
/-- the first error of Anneals; v: what Value tells. -/
def annealE (l : Lr) (v : Sp × Int) (below soak th lim : Int) : Int :=
  if checkL l ≠ 0 then checkL l else if v.2 ≠ 0 then v.2 else if btw below 0 10000 = false then 1 else if btw soak 0 2000 = false then 1 else if btw th 1 2000 = false then 1 else if lim < 0 then 1 else if wi v.1 below 10000 = false then 9 else 0
def annealB (l : Lr) (v : Sp × Int) (below soak th lim : Int) : Bool := decide (soak ≤ heldL l v.1.hi) && decide (strainL l ⟨v.1.lo - below, v.1.hi⟩ th ≤ lim)
def annealS (l : Lr) (v : Sp × Int) (below soak th lim : Int) : Bool × Int := if annealE l v below soak th lim = 0 then (annealB l v below soak th lim, 0) else (false, annealE l v below soak th lim)
structure AnnOk (l : Lr) (v : Sp × Int) (below soak th lim : Int) : Prop where
  hlehr : OkLr l
  hval : v.2 = 0
  hbelow : 0 ≤ below ∧ below ≤ 10000
  hsoak : 0 ≤ soak ∧ soak ≤ 2000
  hth : 1 ≤ th ∧ th ≤ 2000
  hlim : 0 ≤ lim
  hwi : below ≤ v.1.lo ∧ v.1.lo ≤ v.1.hi ∧ v.1.hi ≤ 10000
theorem annOk_of {l : Lr} {v : Sp × Int} {below soak th lim : Int} (h : annealE l v below soak th lim = 0) : AnnOk l v below soak th lim := by
  unfold annealE at h
  split at h
  · rename_i h1; exact absurd h h1
  split at h
  · rename_i h1; exact absurd h h1
  split at h
  · cases h
  split at h
  · cases h
  split at h
  · cases h
  split at h
  · cases h
  split at h
  · cases h
  rename_i h1 h2 h3 h4 h5 h6 h7
  exact ⟨okLr_of (Decidable.of_not_not h1), Decidable.of_not_not h2, btw_true.1 (by simpa using h3), btw_true.1 (by simpa using h4), btw_true.1 (by simpa using h5), by omega, wi_true.1 (by simpa using h7)⟩

section
attribute [local go_sem] Oper.semAt_some fp_round fp_depth
theorem fp_needOK : Fp.fn 60 := ⟨_, Tryz.func60⟩
set_option maxRecDepth 100000 in
theorem needOK_in (n : Int) (w : World) (k : Nat) : CallsIn Fp k Tryz.prog 60 #[.int .i64 n] w (Need w n) := by
  refine callsIn_of_wp Tryz.func60 rfl fp_needOK ?_ rfl
  simp only [Tryz.ntmps60, List.size_toArray, List.length_cons, List.length_nil, Nat.reduceAdd, Nat.reduceSub, Array.replicate_succ, Array.replicate_zero, List.push_toArray, List.append_toArray, List.nil_append, List.cons_append]
  by_cases h : n = 0
  · subst h
    gi_wp2_with fail
    refine ⟨fp_need, ?_⟩
    refine (need_ok 0 _ _).mono ?_
    rintro e w' ⟨rfl, rfl⟩
    gi_wp2
    go_end0
    exact ⟨.inl ⟨rfl, rfl⟩, Below.refl _ _⟩
  · have hq : (n == 0) = false := by simpa using h
    have HN := Lib.hid h
    clear h
    gi_wp2_with fail
    refine ⟨fp_need, ?_⟩
    refine (need_no n _ _).mono ?_
    rintro e w' ⟨rfl, rfl⟩
    exact ⟨rfl, .inr ⟨HN.out, rfl⟩, Below.refl _ _⟩
end
/-- what Anneals answers. -/
def AnnealA (w : World) (l : Lr) (v : Sp × Int) (below soak th lim : Int) (e : Ending) (w' : World) : Prop := e = .returned (.tuple #[.bool (annealS l v below soak th lim).1, .int .i64 (annealS l v below soak th lim).2]) ∧ Below w.heap.size w w'

end Go.Proofs.YtaldpalhckdcdaaGreatDoor

namespace Go.Proofs.YtaldpalhckdcdaaGreatDoor
open Go.RowKit Go.PlainAid
set_option linter.unusedVariables false
set_option linter.unusedSimpArgs false
namespace B1
theorem foldl_ge : ∀ (l : List Int) (a : Int), a ≤ l.foldl max a ∧ ∀ x ∈ l, x ≤ l.foldl max a
  | [], a => ⟨Int.le_refl _, fun x hx => by cases hx⟩
  | y :: l, a => by
    obtain ⟨h1, h2⟩ := foldl_ge l (max a y)
    simp only [List.foldl_cons]
    refine ⟨by omega, fun x hx => ?_⟩
    rcases List.mem_cons.1 hx with rfl | hx
    · omega
    · exact h2 x hx
theorem gm_ge {c : List Int} {g : List Sp} {t : Int} (ht : t ∈ c) : meanB c g t ≤ gmB c g := by
  unfold gmB maxB
  exact (foldl_ge _ _).2 _ (List.mem_map.2 ⟨t, ht, rfl⟩)
theorem least_ex : ∀ (c : List Int), 1 ≤ c.length → ∃ t ∈ c, ∀ x ∈ c, t ≤ x
  | [], h => by simp at h
  | [y], _ => ⟨y, by simp, fun x hx => by simp at hx; omega⟩
  | y :: z :: c, _ => by
    obtain ⟨t, h1, h2⟩ := least_ex (z :: c) (by simp)
    by_cases h : t ≤ y
    · exact ⟨t, List.mem_cons_of_mem _ h1, fun x hx => by
        rcases List.mem_cons.1 hx with rfl | hx
        · exact h
        · exact h2 x hx⟩
    · exact ⟨y, List.mem_cons_self, fun x hx => by
        rcases List.mem_cons.1 hx with rfl | hx
        · omega
        · have := h2 x hx; omega⟩
def hiTo (c : List Int) (g : List Sp) (k : Nat) : Int := ((List.range k).map fun i => c.getD i 0 * (g.getD i ⟨0, 0⟩).hi).sum
def hwTo (g : List Sp) (k : Nat) : Int := ((List.range k).map fun i => (g.getD i ⟨0, 0⟩).hi).sum
theorem hiTo_succ (c : List Int) (g : List Sp) (k : Nat) : hiTo c g (k + 1) = hiTo c g k + c.getD k 0 * (g.getD k ⟨0, 0⟩).hi := by
  unfold hiTo
  rw [List.range_succ, List.map_append, List.map_singleton, sum_snoc]
theorem hwTo_succ (g : List Sp) (k : Nat) : hwTo g (k + 1) = hwTo g k + (g.getD k ⟨0, 0⟩).hi := by
  unfold hwTo
  rw [List.range_succ, List.map_append, List.map_singleton, sum_snoc]
theorem low_to {c : List Int} {g : List Sp} {t : Int} (h : ∀ x ∈ c, t ≤ x) : ∀ k, k ≤ c.length → sumTo c g t k = hiTo c g k ∧ wTo c g t k = hwTo g k
  | 0, _ => by simp [sumTo, hiTo, wTo, hwTo]
  | k + 1, hk => by
    obtain ⟨h1, h2⟩ := low_to (g := g) h k (by omega)
    have hp : pickB t (c.getD k 0) (g.getD k ⟨0, 0⟩) = (g.getD k ⟨0, 0⟩).hi := by
      unfold pickB
      rw [if_pos]
      rw [show c.getD k 0 = c[k]'(by omega) from by rw [List.getD_eq_getElem?_getD, List.getElem?_eq_getElem (show k < c.length by omega)]; rfl]
      exact h _ (List.getElem_mem _)
    rw [sumTo_succ, wTo_succ, hiTo_succ, hwTo_succ, h1, h2, hp]
    exact ⟨rfl, rfl⟩
theorem negB_at (c : List Int) (k : Nat) : (negB c).getD k 0 = -(c.getD k 0) := by
  simp only [negB, List.getD_eq_getElem?_getD, List.getElem?_map]
  cases c[k]? <;> simp
theorem hiTo_neg (c : List Int) (g : List Sp) : ∀ k, hiTo (negB c) g k = -(hiTo c g k)
  | 0 => by simp [hiTo]
  | k + 1 => by rw [hiTo_succ, hiTo_succ, hiTo_neg c g k, negB_at, Int.neg_mul]; omega
theorem value_le {c : List Int} {g : List Sp} (h : MeanOk c g) : (valueB c g).lo ≤ (valueB c g).hi := by
  have hn := h.n
  have hnl : (negB c).length = c.length := by simp [negB]
  obtain ⟨t, ht, h1⟩ := least_ex c hn.1
  obtain ⟨s, hs, h2⟩ := least_ex (negB c) (by omega)
  have a := gm_ge (g := g) ht
  have b := gm_ge (g := g) hs
  have hw := wTo_bd h t c.length (Nat.le_refl _)
  unfold meanB at a b
  obtain ⟨e1, e2⟩ := low_to (g := g) h1 c.length (Nat.le_refl _)
  obtain ⟨e3, e4⟩ := low_to (g := g) h2 (negB c).length (Nat.le_refl _)
  rw [e2] at hw
  rw [e1, e2] at a
  rw [e3, e4, hnl, hiTo_neg, Int.neg_neg] at b
  unfold valueB
  simp only
  generalize hiTo c g c.length = H at *
  generalize hwTo g c.length = W at *
  have q : H / W + -H / W ≤ 0 := by
    rcases Int.lt_or_le 0 W with hp | hp
    · have m1 := Int.ediv_mul_le H (b := W) (by omega)
      have m2 := Int.ediv_mul_le (-H) (b := W) (by omega)
      have m3 : (H / W + -H / W) * W ≤ 0 * W := by rw [Int.add_mul]; omega
      exact Int.le_of_mul_le_mul_right m3 hp
    · have : W = 0 := by omega
      subst this
      simp
  omega
theorem valI_bd (b : Bat) (r : List Int) (n : Int) (h : (valI b r n).2 = 0) : (valI b r n).1.lo ≤ (valI b r n).1.hi ∧ -200000000000000 ≤ (valI b r n).1.lo ∧ (valI b r n).1.hi ≤ 200000000000000 := by
  unfold valI at h ⊢
  split at h
  · simp only at h
    split at h
    · cases h
    · rename_i h1 h2; exact absurd h h2
  rename_i hn
  rw [if_neg hn]
  unfold valB at h ⊢
  split at h
  · rename_i h1; exact absurd h h1
  rename_i h1
  rw [if_neg h1]
  split at h
  case isFalse => cases h
  rename_i h2
  rw [dif_pos h2]
  split at h
  · cases h
  rename_i h3
  rw [if_neg h3]
  obtain ⟨g1, g2, g3⟩ := rec_len (Decidable.of_not_not h1)
  have hk := coefs_ok (ok_of g1) g3 g2 h3 (List.getElem_mem h2)
  have a := value_le hk
  have b1 := gm_bd hk
  have b2 := gm_bd (neg_ok hk)
  refine ⟨a, ?_, ?_⟩
  · unfold valueB; simp only; omega
  · unfold valueB; simp only; omega
end B1
set_option maxRecDepth 100000 in
theorem up7_any (a b : Int) (w : World) (ha : 0 ≤ a ∧ a ≤ 8000000000000000000) (hb : 1 ≤ b ∧ b ≤ 1000) :
    Calls Tryz.prog 62 #[.agg #[.int .i64 a, .int .i64 b]] w fun e w' => e = .returned (.int .i64 ((a + b - 1) / b)) ∧ Below w.heap.size w w' := by
  have hA := below_boxS w (.cells #[.int .i64 a, .int .i64 b] 96)
  have hn : ¬ b = 0 := by omega
  have h1 : wrap64 (a + b) = a + b := wrap_id _ (by unfold I64; omega)
  have h2 : wrap64 (a + b - 1) = a + b - 1 := wrap_id _ (by unfold I64; omega)
  have hq : wrap64 ((a + b - 1).tdiv b) = (a + b - 1) / b := by
    rw [Int.tdiv_eq_ediv_of_nonneg (by omega)]
    have h1 := Int.ediv_nonneg (show 0 ≤ a + b - 1 by omega) (show 0 ≤ b by omega)
    have h2 := Int.ediv_le_self b (show 0 ≤ a + b - 1 by omega)
    exact wrap_id _ (by unfold I64; omega)
  go_enter Tryz.func62, Tryz.ntmps62
  go_wp2
  go_ret
  exact ⟨rfl, hA⟩

/-- the stress of so many degrees; v: what Value tells. -/
def shA (x deg : Int) : Int := 35 * max 0 x * deg
def shockE (v : Sp × Int) (deg : Int) : Int := if v.2 ≠ 0 then v.2 else if btw deg 0 1000 = false then 1 else 0
def shockV (v : Sp × Int) (deg : Int) : Sp := ⟨shA v.1.lo deg / 78, (shA v.1.hi deg + 78 - 1) / 78⟩
def shockS (v : Sp × Int) (deg : Int) : Sp × Int := if shockE v deg = 0 then (shockV v deg, 0) else (⟨0, 0⟩, shockE v deg)
def ValOk (v : Sp × Int) : Prop := v.2 = 0 → v.1.lo ≤ v.1.hi ∧ -200000000000000 ≤ v.1.lo ∧ v.1.hi ≤ 200000000000000
theorem shA_bd {x deg : Int} (hx : x ≤ 200000000000000) (hd : 0 ≤ deg ∧ deg ≤ 1000) : (0 ≤ max 0 x ∧ max 0 x ≤ 200000000000000) ∧ (0 ≤ 35 * max 0 x ∧ 35 * max 0 x ≤ 7000000000000000) ∧ 0 ≤ shA x deg ∧ shA x deg ≤ 7000000000000000000 := by
  have h1 : 0 ≤ max 0 x ∧ max 0 x ≤ 200000000000000 := by omega
  have h2 := mulB (a := 35 * max 0 x) (A := 7000000000000000) (b := deg) (B := 1000) (by omega) (by omega)
  unfold shA
  omega
theorem shA_mono {x y deg : Int} (h : x ≤ y) (hd : 0 ≤ deg) : shA x deg ≤ shA y deg := by
  unfold shA
  exact Int.mul_le_mul_of_nonneg_right (by omega) hd
theorem shA_two (x deg : Int) : shA x (2 * deg) = 2 * shA x deg := by
  unfold shA; rw [Int.mul_left_comm]
theorem shockE_ok {v : Sp × Int} {deg : Int} (h : shockE v deg = 0) : v.2 = 0 ∧ 0 ≤ deg ∧ deg ≤ 1000 := by
  unfold shockE at h
  split at h
  · rename_i h1; exact absurd h h1
  split at h
  · cases h
  rename_i h1 h2
  exact ⟨Decidable.of_not_not h1, (btw_true.1 (by simpa using h2)).1, (btw_true.1 (by simpa using h2)).2⟩

end Go.Proofs.YtaldpalhckdcdaaGreatDoor
