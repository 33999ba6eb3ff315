/- What multipliers prove: the mathematics; no statement is proved here. -/
import Derived.Test.YtpkggjfaefkiiaaExact
import Derived.Test.YtpkggjfaefkiiaaPL
import Derived.Test.YtpkggjfaefkiiaaTill
namespace Go.Proofs.Ytpkggjfaefkiiaa
open Go.RowKit Go.PlainAid
set_option linter.unusedVariables false

def stepsE (m : Mat) : Int := (m.most - m.least) / m.step
def mostE (m : Mat) : Int := m.least + stepsE m * m.step
theorem most_ok {m : Mat} {n : Nat} (h : MatOk m n) : (0 ≤ stepsE m ∧ stepsE m ≤ 10000) ∧ (0 ≤ stepsE m * m.step ∧ stepsE m * m.step ≤ m.most - m.least) ∧ m.least ≤ mostE m ∧ mostE m ≤ 10000 := by
  have h1 := h.least
  have h2 := h.most
  have h3 := h.step
  have h4 : stepsE m * m.step ≤ m.most - m.least := Int.ediv_mul_le _ (by omega)
  have h5 : 0 ≤ stepsE m := Int.ediv_nonneg (by omega) (by omega)
  have h6 : stepsE m ≤ m.most - m.least := Int.ediv_le_self _ (by omega)
  have h7 : 0 ≤ stepsE m * m.step := Int.mul_nonneg h5 (by omega)
  unfold mostE
  omega

def zipE (l o : List Int) (n : Int) : List Int := (List.range l.length).map fun i => wrap64 (l.getD i 0 + wrap64 (n * o.getD i 0))
def plusE (l : Ln) (n : Int) (o : Ln) : Ln := ⟨zipE l.fs o.fs n, wrap64 (l.bound + wrap64 (n * o.bound))⟩
theorem zip_len (l o : List Int) (n : Int) : (zipE l o n).length = l.length := by simp [zipE]
theorem zip_at (l o : List Int) (n : Int) (i : Nat) (h : i < l.length) : (zipE l o n).getD i 0 = wrap64 (l.getD i 0 + wrap64 (n * o.getD i 0)) := by
  simp [zipE, List.getD, h]

def lnAt (L : List Ln) (k : Nat) : Ln := L.getD k ⟨[], 0⟩
def sumT (P : List Int) (L : List Ln) (s : Int) (ws : List Int) : Nat → Ln
  | 0 => plusE ⟨List.replicate P.length 0, 0⟩ s ⟨P, 0⟩
  | k + 1 => plusE (sumT P L s ws k) (ws.getD k 0) (lnAt L k)
def FE (P : List Int) (L : List Ln) (s : Int) (ws : List Int) (k i : Nat) : Int := s * P.getD i 0 + ((List.range k).map fun j => ws.getD j 0 * (lnAt L j).fs.getD i 0).sum
def BE (L : List Ln) (ws : List Int) (k : Nat) : Int := ((List.range k).map fun j => ws.getD j 0 * (lnAt L j).bound).sum
theorem FE_succ (P : List Int) (L : List Ln) (s : Int) (ws : List Int) (k i : Nat) : FE P L s ws (k + 1) i = FE P L s ws k i + ws.getD k 0 * (lnAt L k).fs.getD i 0 := by
  unfold FE; rw [List.range_succ, List.map_append, List.map_singleton, sum_snoc]; omega
theorem BE_succ (L : List Ln) (ws : List Int) (k : Nat) : BE L ws (k + 1) = BE L ws k + ws.getD k 0 * (lnAt L k).bound := by
  unfold BE; rw [List.range_succ, List.map_append, List.map_singleton, sum_snoc]

/-- what a proof that may be is like. -/
structure PfOk (P : List Int) (L : List Ln) (s : Int) (ws : List Int) : Prop where
  hs : 0 ≤ s ∧ s ≤ 1000000
  hP : ∀ x ∈ P, 0 ≤ x ∧ x ≤ 10000
  hw : ∀ x ∈ ws, 0 ≤ x ∧ x ≤ 1000
  len : ws.length = L.length
  n : L.length ≤ 39
  fs : ∀ l ∈ L, l.fs.length = P.length ∧ (∀ x ∈ l.fs, -1240000000 ≤ x ∧ x ≤ 1240000000) ∧ -10000000 ≤ l.bound ∧ l.bound ≤ 0

theorem mul_in {a b A B : Int} (ha : 0 ≤ a ∧ a ≤ A) (hb : -B ≤ b ∧ b ≤ B) : -(A * B) ≤ a * b ∧ a * b ≤ A * B := by
  have hB : 0 ≤ B := by omega
  have h1 : a * b ≤ a * B := Int.mul_le_mul_of_nonneg_left hb.2 ha.1
  have h2 : a * -B ≤ a * b := Int.mul_le_mul_of_nonneg_left hb.1 ha.1
  have h3 : a * B ≤ A * B := Int.mul_le_mul_of_nonneg_right ha.2 hB
  rw [Int.mul_neg] at h2
  omega

theorem ln_at {L : List Ln} {k : Nat} (h : k < L.length) : lnAt L k = L[k] := by simp [lnAt, List.getD, List.getElem?_eq_getElem h]

section
variable {P : List Int} {L : List Ln} {s : Int} {ws : List Int} (h : PfOk P L s ws)
include h

theorem step_bd {k i : Nat} (hk : k < L.length) (hi : i < P.length) : -1240000000000 ≤ ws.getD k 0 * (lnAt L k).fs.getD i 0 ∧ ws.getD k 0 * (lnAt L k).fs.getD i 0 ≤ 1240000000000 := by
  have h1 := h.hw _ (getD_mem (d := 0) (show k < ws.length by rw [h.len]; exact hk))
  have h2 := h.fs _ (List.getElem_mem hk)
  rw [ln_at hk]
  have h3 := h2.2.1 _ (getD_mem (d := 0) (show i < (L[k]).fs.length by rw [h2.1]; exact hi))
  have := mul_in (A := 1000) (B := 1240000000) h1 h3
  omega
theorem bnd_bd {k : Nat} (hk : k < L.length) : -10000000000 ≤ ws.getD k 0 * (lnAt L k).bound ∧ ws.getD k 0 * (lnAt L k).bound ≤ 0 := by
  have h1 := h.hw _ (getD_mem (d := 0) (show k < ws.length by rw [h.len]; exact hk))
  have h2 := h.fs _ (List.getElem_mem hk)
  rw [ln_at hk]
  have h3 := mul_in (A := 1000) (B := 10000000) h1 (b := (L[k]).bound) (by omega)
  have h4 := Int.mul_nonneg h1.1 (show 0 ≤ -(L[k]).bound by omega)
  rw [Int.mul_neg] at h4
  omega

theorem FE_bd {i : Nat} (hi : i < P.length) : ∀ k, k ≤ L.length → -(10000000000 + 1240000000000 * (k : Int)) ≤ FE P L s ws k i ∧ FE P L s ws k i ≤ 10000000000 + 1240000000000 * k := by
  intro k
  induction k with
  | zero =>
    intro _
    have h1 := h.hP _ (getD_mem (d := 0) hi)
    have := mul_in (A := 1000000) (B := 10000) h.hs (b := P.getD i 0) (by omega)
    simp only [FE, List.range_zero, List.map_nil, List.sum_nil]
    omega
  | succ k ih =>
    intro hk
    have h1 := ih (by omega)
    have h2 := step_bd h (show k < L.length by omega) hi
    rw [FE_succ]
    omega
theorem BE_bd : ∀ k, k ≤ L.length → -(10000000000 * (k : Int)) ≤ BE L ws k ∧ BE L ws k ≤ 0 := by
  intro k
  induction k with
  | zero => intro _; simp [BE]
  | succ k ih =>
    intro hk
    have h1 := ih (by omega)
    have h2 := bnd_bd h (show k < L.length by omega)
    rw [BE_succ]
    omega

/-- the line that a proof makes, without wraps. -/
theorem sum_exact : ∀ k, k ≤ L.length → (sumT P L s ws k).fs.length = P.length ∧ (∀ i, i < P.length → (sumT P L s ws k).fs.getD i 0 = FE P L s ws k i) ∧ (sumT P L s ws k).bound = BE L ws k := by
  have hn := h.n
  intro k
  induction k with
  | zero =>
    intro _
    refine ⟨by simp [sumT, plusE, zip_len], fun i hi => ?_, ?_⟩
    · have h1 := FE_bd h hi 0 (Nat.zero_le _)
      have e : FE P L s ws 0 i = s * P.getD i 0 := by simp [FE]
      rw [e] at h1 ⊢
      show (zipE (List.replicate P.length 0) P s).getD i 0 = _
      rw [zip_at _ _ _ _ (by simpa using hi)]
      have e2 : (List.replicate P.length (0 : Int)).getD i 0 = 0 := by simp [List.getD, hi]
      rw [e2, wrap_id (s * P.getD i 0) (by unfold I64; omega), Int.zero_add, wrap_id _ (by unfold I64; omega)]
    · simp [sumT, plusE, BE, wrap64]
  | succ k ih =>
    intro hk
    obtain ⟨i1, i2, i3⟩ := ih (by omega)
    refine ⟨by simp only [sumT, plusE, zip_len]; exact i1, fun i hi => ?_, ?_⟩
    · have h1 := FE_bd h hi (k + 1) hk
      have h2 := step_bd h (show k < L.length by omega) hi
      show (zipE (sumT P L s ws k).fs (lnAt L k).fs (ws.getD k 0)).getD i 0 = _
      rw [zip_at _ _ _ _ (by rw [i1]; exact hi), i2 i hi, FE_succ] 
      rw [FE_succ] at h1
      rw [wrap_id (ws.getD k 0 * _) (by unfold I64; omega), wrap_id _ (by unfold I64; omega)]
    · have h1 := BE_bd h (k + 1) hk
      have h2 := bnd_bd h (show k < L.length by omega)
      show wrap64 ((sumT P L s ws k).bound + wrap64 (ws.getD k 0 * (lnAt L k).bound)) = _
      rw [i3, BE_succ]
      rw [BE_succ] at h1
      rw [wrap_id (ws.getD k 0 * _) (by unfold I64; omega), wrap_id _ (by unfold I64; omega)]
end

/-- by how much materials go beyond, each at its better end. -/
def beyTo (F : Nat → Int) (ls ms : List Int) (k : Nat) : Int := ((List.range k).map fun i => min (F i * ls.getD i 0) (F i * ms.getD i 0)).sum
theorem beyTo_succ (F : Nat → Int) (ls ms : List Int) (k : Nat) : beyTo F ls ms (k + 1) = beyTo F ls ms k + min (F k * ls.getD k 0) (F k * ms.getD k 0) := by
  unfold beyTo; rw [List.range_succ, List.map_append, List.map_singleton, sum_snoc]
theorem beyTo_congr {F G : Nat → Int} {ls ms : List Int} {k : Nat} (h : ∀ i, i < k → F i = G i) : beyTo F ls ms k = beyTo G ls ms k := by
  unfold beyTo
  congr 1
  apply List.map_congr_left
  intro i hi
  rw [h i (List.mem_range.1 hi)]

theorem end_bd {f l : Int} (hf : -48370000000000 ≤ f ∧ f ≤ 48370000000000) (hl : 0 ≤ l ∧ l ≤ 10000) : -483700000000000000 ≤ f * l ∧ f * l ≤ 483700000000000000 := by
  have := mul_in (A := 10000) (B := 48370000000000) hl hf
  rw [Int.mul_comm l f] at this
  omega
theorem bey_bd {F : Nat → Int} {ls ms : List Int} {n : Nat} (hF : ∀ i, i < n → -48370000000000 ≤ F i ∧ F i ≤ 48370000000000) (hl : ∀ i, i < n → 0 ≤ ls.getD i 0 ∧ ls.getD i 0 ≤ 10000) (hm : ∀ i, i < n → 0 ≤ ms.getD i 0 ∧ ms.getD i 0 ≤ 10000) :
    ∀ k, k ≤ n → -(483700000000000000 * (k : Int)) ≤ beyTo F ls ms k ∧ beyTo F ls ms k ≤ 483700000000000000 * k := by
  intro k
  induction k with
  | zero => intro _; simp [beyTo]
  | succ k ih =>
    intro hk
    have h1 := ih (by omega)
    have h2 := end_bd (hF k (by omega)) (hl k (by omega))
    have h3 := end_bd (hF k (by omega)) (hm k (by omega))
    rw [beyTo_succ]
    omega

theorem forms_len {b : Bat} (h : OkB b) : (formsB b).length ≤ 36 := by
  have h1 := h.ox
  have h2 := h.pr
  have h3 := h.shLen
  unfold formsB fmsTo2 fmsTo1
  rw [List.take_of_length_le (Nat.le_refl _)]
  simp only [List.length_append, List.length_flatMap, sidesB, List.length_cons, List.length_nil, List.map_const', List.sum_replicate_nat, List.length_range]
  omega
theorem lines_len {b : Bat} (h : OkB b) : (linesB b).length ≤ 39 := by
  have := forms_len h
  rw [lines_exact h]
  simp [lnE]
  omega

theorem f2_tight {b : Bat} (hb : OkB b) {m : Mat} (h : MatOk m b.oxides.length) : -1240000000 ≤ f2E b m ∧ f2E b m ≤ 1240000000 := by
  have ht := tot_mat h hb.ox.2
  have hr := hb.redox
  have := hr.lo; have := hr.le; have := hr.hi
  have hg := gr_exact (n := -b.redox.hi) (s := tot m.content) (by omega) ht.2.2.1 ht.2.2.2.1 (by omega)
  have hm := h.redox
  unfold f2E
  omega
theorem f3_tight {b : Bat} (hb : OkB b) {m : Mat} (h : MatOk m b.oxides.length) : -1240000000 ≤ f3E b m ∧ f3E b m ≤ 1240000000 := by
  have ht := tot_mat h hb.ox.2
  have hr := hb.redox
  have := hr.lo; have := hr.le; have := hr.hi
  have hg := gr_exact (n := b.redox.lo) (s := tot m.content) (by omega) ht.2.2.1 ht.2.2.2.1 (by omega)
  have hm := h.redox
  unfold f3E
  omega
theorem line_tight {b : Bat} (h : OkB b) : ∀ l ∈ linesB b, l.fs.length = b.mats.length ∧ (∀ x ∈ l.fs, -1240000000 ≤ x ∧ x ≤ 1240000000) ∧ -10000000 ≤ l.bound ∧ l.bound ≤ 0 := by
  intro l hl
  have h0 := line_bd h l hl
  rw [lines_exact h] at hl
  unfold lnE at hl
  simp only [List.mem_cons, List.mem_append, List.mem_map, List.not_mem_nil, or_false] at hl
  rcases hl with rfl | ⟨f, hf, rfl⟩ | rfl | rfl
  · refine ⟨by simp, fun x hx => ?_, h0.2.1, h0.1⟩
    obtain ⟨m, hm, rfl⟩ := List.mem_map.1 hx
    have := f1_exact (h.mats m hm) h.ox.2
    omega
  · refine ⟨by simp, fun x hx => ?_, h0.2.1, h0.1⟩
    obtain ⟨m, hm, rfl⟩ := List.mem_map.1 hx
    have := fac_exact (forms_ok h f hf) (h.mats m hm) h.ox.2
    omega
  · refine ⟨by simp, fun x hx => ?_, h0.2.1, h0.1⟩
    obtain ⟨m, hm, rfl⟩ := List.mem_map.1 hx
    exact f2_tight h (h.mats m hm)
  · refine ⟨by simp, fun x hx => ?_, h0.2.1, h0.1⟩
    obtain ⟨m, hm, rfl⟩ := List.mem_map.1 hx
    exact f3_tight h (h.mats m hm)

end Go.Proofs.Ytpkggjfaefkiiaa

namespace Go.Proofs.Ytpkggjfaefkiiaa
open Go.RowKit Go.PlainAid
set_option linter.unusedVariables false

theorem steps_any (v : Value) (m : Mat) (w : World) (h : VMat w v m) (n : Nat) (hm : MatOk m n) :
    Calls Try.prog 118 #[v] w fun e w' => e = .returned (.int .i64 (stepsE m)) ∧ Below w.heap.size w w' := by
  obtain ⟨c, rfl, hc, -⟩ := h
  obtain ⟨ac, kc, rfl, -, -, -⟩ := hc
  have h1 := hm.least
  have h2 := hm.most
  have h3 := hm.step
  obtain ⟨l1, l2⟩ := h1
  obtain ⟨l3, l4⟩ := h2
  obtain ⟨l5, l6⟩ := h3
  have hA := below_box w (.cells #[.string m.name, .int .i64 m.price, .int .i64 m.redox, .int .i64 m.least, .int .i64 m.most, .int .i64 m.step, .slice ac m.content.length kc] 68)
  have e : (m.most - m.least).tdiv m.step = stepsE m := by unfold stepsE; rw [Int.tdiv_eq_ediv_of_nonneg (by omega)]
  have HE := Lib.hid e
  have n1 : 0 ≤ m.most - m.least := by omega
  have n0 : m.step ≠ 0 := by omega
  clear e hm
  go_enter Try.func118, Try.ntmps118
  go_wp2
  go_ret
  exact ⟨ret_int (by first | exact HE.out | rfl), hA⟩

theorem own_slice {w : World} {base : Nat} {e : TypeId} {size : Nat} {v : Value} {n : Nat} {xs : List Value} (h : w.ownsRow base e size v n xs) : ∃ a c, v = .slice a n c := by
  rcases own_cells h with ⟨h1, h2⟩ | ⟨g, cap, h1, -⟩
  · exact ⟨none, 0, by rw [h1, h2]⟩
  · exact ⟨_, _, h1⟩

theorem keepC {w1 w2 : World} {a : Addr} {x : Value} (hb : Below w1.heap.size w1 w2) (h : w1.cell? a = some x) : w2.cell? a = some x := ext_of_below hb _ _ h

def pTo (l o : List Int) (n : Int) (k : Nat) : List Int := (List.range l.length).map fun i => if i < k then wrap64 (l.getD i 0 + wrap64 (n * o.getD i 0)) else l.getD i 0
theorem pTo_len (l o : List Int) (n : Int) (k : Nat) : (pTo l o n k).length = l.length := by simp [pTo]
theorem pTo_zero (l o : List Int) (n : Int) : pTo l o n 0 = l := by
  apply List.ext_getElem
  · simp [pTo]
  intro i h1 h2
  simp [pTo, List.getElem?_eq_getElem h2]
theorem pTo_all (l o : List Int) (n : Int) : pTo l o n l.length = zipE l o n := by
  unfold pTo zipE
  apply List.map_congr_left
  intro i hi
  rw [if_pos (List.mem_range.1 hi)]
theorem pTo_at (l o : List Int) (n : Int) (k : Nat) (h : k < (pTo l o n k).length) : (pTo l o n k)[k] = l.getD k 0 := by
  simp [pTo]
theorem pTo_set (l o : List Int) (n : Int) (k : Nat) (h : k < l.length) : (pTo l o n k).set k (wrap64 (l.getD k 0 + wrap64 (n * o.getD k 0))) = pTo l o n (k + 1) := by
  apply List.ext_getElem
  · simp [pTo]
  intro q h1 h2
  by_cases hq : q = k
  · subst hq
    simp [pTo]
  · rw [List.getElem_set_ne (by omega)]
    simp only [pTo, List.getElem_map, List.getElem_range]
    by_cases hj : q < k
    · rw [if_pos hj, if_pos (by omega)]
    · rw [if_neg hj, if_neg (by omega)]

set_option maxHeartbeats 1000000 in
set_option maxRecDepth 100000 in
theorem plus_any (v1 v2 : Value) (l o : Ln) (n : Int) (w : World) (h1 : VLn w v1 l) (h2 : VLn w v2 o) (hl : o.fs.length = l.fs.length) (hn : l.fs.length ≤ 1000000) (hi : ∀ x ∈ l.fs, I64 x) :
    Calls Try.prog 137 #[v1, .int .i64 n, v2] w (RetLine w (plusE l n o).fs (plusE l n o).bound) := by
  obtain ⟨c1, rfl, hf1, hb1⟩ := h1
  obtain ⟨c2, rfl, hf2, hb2⟩ := h2
  obtain ⟨p1, j1, rfl, -, -, -⟩ := id hf1
  obtain ⟨p2, j2, rfl, -, ⟨-, lo⟩, hol⟩ := id hf2
  have hl1 : o.fs.length ≤ l.fs.length := by omega
  have hl2 : l.fs.length ≤ o.fs.length := by omega
  have HL := Lib.hid hl
  clear hl
  obtain ⟨W, hW⟩ : ∃ W : World, W = ((w.alloc (.cells #[.slice p1 l.fs.length j1, .int .i64 l.bound] 39)).alloc (.cells #[.slice p2 o.fs.length j2, .int .i64 o.bound] 39)).alloc (.cells #[.slice none 0 0, .int .i64 0] 39) := ⟨_, rfl⟩
  have hA : Below w.heap.size w W := by subst hW; go_grown
  have hB : Blk W w.heap.size #[.slice p1 l.fs.length j1, .int .i64 l.bound] 39 := by subst hW; exact ((Blk.new _ _ _).alloc _).alloc _
  have hC : Blk W (w.heap.size + 1) #[.slice p2 o.fs.length j2, .int .i64 o.bound] 39 := by
    subst hW
    have := (Blk.new (w.alloc (.cells #[.slice p1 l.fs.length j1, .int .i64 l.bound] 39)) #[.slice p2 o.fs.length j2, .int .i64 o.bound] 39).alloc (.cells #[.slice none 0 0, .int .i64 0] 39)
    simpa using this
  have hD : Blk W (w.heap.size + 1 + 1) #[.slice none 0 0, .int .i64 0] 39 := by
    subst hW
    have := Blk.new ((w.alloc (.cells #[.slice p1 l.fs.length j1, .int .i64 l.bound] 39)).alloc (.cells #[.slice p2 o.fs.length j2, .int .i64 o.bound] 39)) #[.slice none 0 0, .int .i64 0] 39
    simpa using this
  have hsz : w.heap.size + 1 + 1 < W.heap.size := hD.lt
  go_enter Try.func137, Try.ntmps137
  go_wp2_with fail
  rw [← hW]
  clear hW
  have hcl := clone_any (.slice p1 l.fs.length j1) l.fs W.drew (hf1.mono ((ext_of_below hA).trans (ext_drew W))) hn
  refine wp_region_till (fun w' => w'.cell? ⟨w.heap.size, 0, none⟩ = some (.slice p1 l.fs.length j1) ∧ w'.cell? ⟨w.heap.size, 1, none⟩ = some (.int .i64 l.bound) ∧ w'.cell? ⟨w.heap.size + 1, 1, none⟩ = some (.int .i64 o.bound)) 11 (by kernel_rfl) ⟨hB.cell 0 _ rfl, hB.cell 1 _ rfl, hC.cell 1 _ rfl⟩ (fun hHeld => ?_)
  refine Till.take 0 (some 9) (v := ?_) rfl rfl (by kernel_rfl) (by kernel_rfl) (by kernel_rfl) (by kernel_rfl) (fun _ _ _ h => h) (Or.inl ⟨by rfl, ?_⟩) (by assumption) ?_
  rotate_left
  · (intro w hSw; (try dsimp only at hSw); go_simp; try with_reducible rfl)
  try simp only [Act.put, List.setIfInBounds_toArray, List.set_cons_zero, List.set_cons_succ]
  refine Till.take 1 (some 10) (v := ?_) rfl rfl (by kernel_rfl) (by kernel_rfl) (by kernel_rfl) (by kernel_rfl) (fun _ _ _ h => h) (Or.inl ⟨by rfl, ?_⟩) (by assumption) ?_
  rotate_left
  · (intro w hSw; (try dsimp only at hSw); go_simp; try with_reducible rfl)
  try simp only [Act.put, List.setIfInBounds_toArray, List.set_cons_zero, List.set_cons_succ]
  refine Till.take 3 (some 12) (v := ?_) rfl rfl (by kernel_rfl) (by kernel_rfl) (by kernel_rfl) (by kernel_rfl) (fun _ _ _ h => h) (Or.inl ⟨by rfl, ?_⟩) (by assumption) ?_
  rotate_left
  · (intro w hSw; (try dsimp only at hSw); go_simp; try with_reducible rfl)
  try simp only [Act.put, List.setIfInBounds_toArray, List.set_cons_zero, List.set_cons_succ]
  refine Till.take 4 (some 13) (v := ?_) rfl rfl (by kernel_rfl) (by kernel_rfl) (by kernel_rfl) (by kernel_rfl) (fun _ _ _ h => h) (Or.inl ⟨by rfl, ?_⟩) (by assumption) ?_
  rotate_left
  · (intro w hSw; (try dsimp only at hSw); go_simp; try with_reducible rfl)
  try simp only [Act.put, List.setIfInBounds_toArray, List.set_cons_zero, List.set_cons_succ]
  refine Till.take 5 (some 14) (v := ?_) rfl rfl (by kernel_rfl) (by kernel_rfl) (by kernel_rfl) (by kernel_rfl) (fun _ _ _ h => h) (Or.inl ⟨by rfl, ?_⟩) (by assumption) ?_
  rotate_left
  · (intro w hSw; (try dsimp only at hSw); go_simp; try with_reducible rfl)
  try simp only [Act.put, List.setIfInBounds_toArray, List.set_cons_zero, List.set_cons_succ]
  refine Till.take 6 (some 15) (v := ?_) rfl rfl (by kernel_rfl) (by kernel_rfl) (by kernel_rfl) (by kernel_rfl) (fun _ _ _ h => h) (Or.inl ⟨by rfl, ?_⟩) (by assumption) ?_
  rotate_left
  · (intro w hSw; (try dsimp only at hSw); go_simp; try with_reducible rfl)
  try simp only [Act.put, List.setIfInBounds_toArray, List.set_cons_zero, List.set_cons_succ]
  refine Till.take 7 (some 16) (v := ?_) rfl rfl (by kernel_rfl) (by kernel_rfl) (by kernel_rfl) (by kernel_rfl) (fun _ _ _ h => h) (Or.inl ⟨by rfl, ?_⟩) (by assumption) ?_
  rotate_left
  · (intro w hSw; (try dsimp only at hSw); go_simp; try with_reducible rfl)
  try simp only [Act.put, List.setIfInBounds_toArray, List.set_cons_zero, List.set_cons_succ]
  refine Till.take 8 (some 17) (v := ?_) rfl rfl (by kernel_rfl) (by kernel_rfl) (by kernel_rfl) (by kernel_rfl) (fun _ _ _ h => h) (Or.inl ⟨by rfl, ?_⟩) (by assumption) ?_
  rotate_left
  · (intro w hSw; (try dsimp only at hSw); go_simp; try with_reducible rfl)
  try simp only [Act.put, List.setIfInBounds_toArray, List.set_cons_zero, List.set_cons_succ]
  refine Till.take 9 (some 18) (v := ?_) rfl rfl (by kernel_rfl) (by kernel_rfl) (by kernel_rfl) (by kernel_rfl) (fun _ _ _ h => h) (Or.inl ⟨by rfl, ?_⟩) (by assumption) ?_
  rotate_left
  · (intro w hSw; (try dsimp only at hSw); go_simp; try with_reducible rfl)
  try simp only [Act.put, List.setIfInBounds_toArray, List.set_cons_zero, List.set_cons_succ]
  refine Till.one 2 rfl (by kernel_rfl) (fun K hK => ?_)
  go_simp
  go_at_call 121
  refine hcl.mono ?_
  rintro e wA ⟨v', rfl, hown, hbA⟩
  obtain ⟨pv, jv, rfl⟩ := own_slice hown
  refine hK.out _ _ (fun _ => ⟨keepC hbA hHeld.1, keepC hbA hHeld.2.1, keepC hbA hHeld.2.2⟩) (fun hHeld2 => ?_)
  clear hK K
  try simp only [Act.put, List.setIfInBounds_toArray, List.set_cons_zero, List.set_cons_succ]
  have hbA2 : Below W.heap.size W wA := ((Below.refl _ _).drew).trans (hbA.mono (Nat.le_refl _))
  have hAA := hA.trans (hbA2.mono hA.size)
  have hBA := hB.below hbA2 hB.lt
  have hCA := hC.below hbA2 hC.lt
  have hDA := hD.below hbA2 hD.lt
  refine Till.one 10 rfl (by kernel_rfl) (fun K hK => ?_)
  go_simp
  refine hK.out _ _ (fun _ => hHeld2 (by decide)) (fun hHeld3 => ?_)
  clear hK K
  try simp only [Act.put, List.setIfInBounds_toArray, List.set_cons_zero, List.set_cons_succ]
  refine Till.one 11 rfl (by kernel_rfl) (fun K hK => ?_)
  have e0 := hBA.cell 0 _ rfl
  have e1 := hBA.cell 1 _ rfl
  have z0 := hBA.frozen 0
  have z1 := hBA.frozen 1
  have hwr : IntKind.i64.wrap (l.bound + IntKind.i64.wrap (n * o.bound)) = (plusE l n o).bound := by
    unfold plusE
    simp only [IntKind.wrap_i64, wrap64]
  go_simp
  clear hwr
  generalize hnb : (plusE l n o).bound = nb
  refine hK.out _ _ (fun h => absurd rfl h) (fun _ => ?_)
  clear hK K
  refine Till.done (by kernel_rfl) ?_ _
  try simp only [Act.put]
  have hsA : W.heap.size ≤ wA.heap.size := hbA2.size
  have hB5 := (hBA.set 0 (.slice pv l.fs.length jv)).set 1 (.int .i64 nb)
  have hC5 := (hCA.other ⟨w.heap.size, 0, none⟩ (.slice pv l.fs.length jv) (by simp)).other ⟨w.heap.size, 1, none⟩ (.int .i64 nb) (by simp)
  have hD5 := (hDA.other ⟨w.heap.size, 0, none⟩ (.slice pv l.fs.length jv) (by simp; omega)).other ⟨w.heap.size, 1, none⟩ (.int .i64 nb) (by simp; omega)
  have hA5 := (hAA.setCell (p := ⟨w.heap.size, 0, none⟩) (by simp) (.slice pv l.fs.length jv)).setCell (p := ⟨w.heap.size, 1, none⟩) (by simp) (.int .i64 nb)
  have hown5 := ownsRow_setCell_below (ownsRow_setCell_below hown (a := ⟨w.heap.size, 0, none⟩) (by simp; omega) (.slice pv l.fs.length jv)) (a := ⟨w.heap.size, 1, none⟩) (by simp; omega) (.int .i64 nb)
  replace hown5 := own_base hown5 (show W.heap.size ≤ W.drew.heap.size from Nat.le_refl _)
  have hg5 : ∀ g, (Value.slice pv l.fs.length jv).ownBlock = some g → W.heap.size ≤ g := fun g hg => (hown5.lt g hg).1
  have hs5 : W.heap.size ≤ ((wA.setCell ⟨w.heap.size, 0, none⟩ (.slice pv l.fs.length jv)).setCell ⟨w.heap.size, 1, none⟩ (.int .i64 nb)).heap.size := by simpa using hsA
  rw [show l.fs.map (Value.int .i64) = (pTo l.fs o.fs n 0).map (Value.int .i64) from by rw [pTo_zero]] at hown5
  clear hB hC hD hA hBA hCA hDA hAA hbA hbA2 hown hHeld hHeld2 hHeld3 e0 e1 z0 z1 hcl
  generalize (wA.setCell ⟨w.heap.size, 0, none⟩ (.slice pv l.fs.length jv)).setCell ⟨w.heap.size, 1, none⟩ (.int .i64 nb) = W5 at *
  simp only [List.setIfInBounds_toArray, List.set_cons_zero, List.set_cons_succ] at hB5
  have r0 := hB5.cell 0 _ rfl
  have r1 := hC5.cell 0 _ rfl
  go_wp2
  clear r0 r1
  go_loopw [23] (fun i wr => ∃ (k : Nat), k ≤ o.fs.length ∧ i = .int .i64 k ∧ wr.ownsRow W.heap.size 3 1 (.slice pv l.fs.length jv) l.fs.length ((pTo l.fs o.fs n k).map (Value.int .i64)) ∧ Below W.heap.size W5 wr) (fun i _ => o.fs.length - (intOf i).toNat)
  case atStart => exact ⟨0, Nat.zero_le _, rfl, hown5, Below.refl _ _⟩
  case round =>
    clear hown5
    obtain ⟨k, hk, rfl, hown, hb⟩ := hrel
    have hB6 := hB5.below hb (by omega)
    have hC6 := hC5.below hb (by omega)
    have hD6 := hD5.below hb (by omega)
    have hA6 := hA5.trans (hb.mono (by omega))
    by_cases hlt : k < o.fs.length
    · obtain ⟨b2, o2, rfl, q2, -⟩ := hol k hlt
      simp only [Nat.mul_one] at q2
      have hlk : k < l.fs.length := by omega
      rcases own_cells hown with ⟨-, h0⟩ | ⟨g, cap, hv, -⟩
      · omega
      simp only [Value.slice.injEq, true_and] at hv
      obtain ⟨rfl, rfl⟩ := hv
      replace q2 := ext_of_below hA6 _ _ q2
      have hgb := hg5 g rfl
      have hset := pTo_set l.fs o.fs n k hlk
      rw [show o.fs.getD k 0 = o.fs[k] from by simp [List.getD, List.getElem?_eq_getElem hlt]] at hset
      have hjl : k < (pTo l.fs o.fs n k).length := by rw [pTo_len]; exact hlk
      have hold := pTo_at l.fs o.fs n k hjl
      have u0 := hown.cellAt k (by omega)
      rw [List.getElem?_map, List.getElem?_eq_getElem hjl, hold, Option.map_some] at u0
      have u1 := hown.frozenAt k
      have hown2 := (hown.stored k (.int .i64 (wrap64 (l.fs.getD k 0 + wrap64 (n * o.fs[k]))))).1
      rw [← List.map_set, hset] at hown2
      have hb2 := hb.setCell (p := ⟨g, k, none⟩) hgb (.int .i64 (wrap64 (l.fs.getD k 0 + wrap64 (n * o.fs[k]))))
      have r0 := hB6.cell 0 _ rfl
      have r1 := hC6.cell 0 _ rfl
      have HO := Lib.hid hown2
      have HB := Lib.hid hb2
      clear hol hset hold hown hown2 hb2 hb hA6 hB6 hC6 hD6 hg5 hf1 hf2
      generalize o.fs[k] = y at *
      generalize l.fs.getD k 0 = x at *
      go_wp2
      go_roundw
      case rel => exact ⟨k + 1, by omega, by go_num, HO.out, HB.out⟩
      case measure => simp [intOf]; omega
    · rw [show k = l.fs.length by omega, pTo_all] at hown
      have hownF := ownsRow_setCell_below (ownsRow_setCell_below hown (a := ⟨w.heap.size + 1 + 1, 0, none⟩) (by simp; omega) (.slice pv l.fs.length jv)) (a := ⟨w.heap.size + 1 + 1, 1, none⟩) (by simp; omega) (.int .i64 nb)
      have hRI := own_RInts (l := zipE l.fs o.fs n) (by rw [zip_len]; exact own_vis (S := (w.heap.size ≤ ·)) hownF (by intro g hg; have := hg5 g hg; omega)) (by rw [zip_len]; omega)
        (by intro x hx; unfold zipE at hx; obtain ⟨q, hq, rfl⟩ := List.mem_map.1 hx; exact wrap_I64 _)
      have hAF := (hA6.setCell (p := ⟨w.heap.size + 1 + 1, 0, none⟩) (by simp; omega) (.slice pv l.fs.length jv)).setCell (p := ⟨w.heap.size + 1 + 1, 1, none⟩) (by simp; omega) (.int .i64 nb)
      have hDF := (hD6.set 0 (.slice pv l.fs.length jv)).set 1 (.int .i64 nb)
      simp only [List.setIfInBounds_toArray, List.set_cons_zero, List.set_cons_succ] at hDF
      have r0 := hB6.cell 0 _ rfl
      have r1 := hB6.cell 1 _ rfl
      have s0 := hD6.cell 0 _ rfl
      have s1 := hD6.cell 1 _ rfl
      have y0 := hD6.frozen 0
      have y1 := hD6.frozen 1
      have t0 := hDF.cell 0 _ rfl
      have t1 := hDF.cell 1 _ rfl
      have HR := Lib.hid hRI
      clear hRI hown hownF hol hb hB6 hC6 hD6 hDF hA6 hg5 hf1 hf2
      go_wp2
      refine bodyPost_ret (v := .agg #[.slice pv l.fs.length jv, .int .i64 nb]) (by simp only [results, Try.results137]; simp [go_sem, t0, t1]) rfl ?_
      rw [hnb]
      exact ⟨_, rfl, HR.out, hAF⟩

theorem made_ints (V : World) (n : Nat) (hn : n ≤ 140737488351232) : RInts (V.alloc (.cells (madeCells #[Value.int .i64 0] n) 3)) (.slice (some ⟨V.heap.size, 0, none⟩) n n) (List.replicate n 0) := by
  have hB := Blk.new V (madeCells #[Value.int .i64 0] n) 3
  refine ⟨some ⟨V.heap.size, 0, none⟩, n, by simp, by simp, ⟨by omega, by simpa using hn⟩, fun i hi => ⟨V.heap.size, 0, rfl, ?_⟩⟩
  have hi' : i < n := by simpa using hi
  rw [List.getElem_replicate, Nat.zero_add, Nat.mul_one]
  refine ⟨hB.cell i _ ?_, by unfold I64; omega⟩
  have := toList_madeCells_one (Value.int .i64 0) n
  rw [← Array.getElem?_toList, this]
  simp [hi']

end Go.Proofs.Ytpkggjfaefkiiaa
