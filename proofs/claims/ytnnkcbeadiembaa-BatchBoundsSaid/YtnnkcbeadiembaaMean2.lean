/- The greatest weighted mean: the walk; no statement is proved here. -/
import Derived.Test.YtnnkcbeadiembaaMean
namespace Go.Proofs.Ytnnkcbeadiembaa
open Go.RowKit Go.PlainAid
set_option linter.unusedVariables false

structure MeanOk (c : List Int) (g : List Sp) : Prop where
  len : c.length = g.length
  n : 1 ≤ c.length ∧ c.length ≤ 12
  hc : ∀ x ∈ c, -10000 ≤ x ∧ x ≤ 10000
  hg : ∀ s ∈ g, 0 ≤ s.lo ∧ s.lo ≤ s.hi ∧ s.hi ≤ 1000000000
  pos : 1 ≤ (g.map Sp.lo).sum

def pickB (t c : Int) (s : Sp) : Int := if t ≤ c then s.hi else s.lo
def sumTo (c : List Int) (g : List Sp) (t : Int) (k : Nat) : Int := ((List.range k).map fun i => c.getD i 0 * pickB t (c.getD i 0) (g.getD i ⟨0, 0⟩)).sum
def wTo (c : List Int) (g : List Sp) (t : Int) (k : Nat) : Int := ((List.range k).map fun i => pickB t (c.getD i 0) (g.getD i ⟨0, 0⟩)).sum
def meanB (c : List Int) (g : List Sp) (t : Int) : Int := -(-(sumTo c g t c.length) / wTo c g t c.length)
def meansB (c : List Int) (g : List Sp) : List Int := c.map (meanB c g)
def gmB (c : List Int) (g : List Sp) : Int := maxB (meansB c g)

theorem sumTo_succ (c : List Int) (g : List Sp) (t : Int) (k : Nat) : sumTo c g t (k + 1) = sumTo c g t k + c.getD k 0 * pickB t (c.getD k 0) (g.getD k ⟨0, 0⟩) := by
  unfold sumTo
  rw [List.range_succ, List.map_append, List.map_singleton, sum_snoc]
theorem wTo_succ (c : List Int) (g : List Sp) (t : Int) (k : Nat) : wTo c g t (k + 1) = wTo c g t k + pickB t (c.getD k 0) (g.getD k ⟨0, 0⟩) := by
  unfold wTo
  rw [List.range_succ, List.map_append, List.map_singleton, sum_snoc]

theorem pick_bd {g : List Sp} (hg : ∀ s ∈ g, 0 ≤ s.lo ∧ s.lo ≤ s.hi ∧ s.hi ≤ 1000000000) (t x : Int) (k : Nat) (hk : k < g.length) : (g.getD k ⟨0, 0⟩).lo ≤ pickB t x (g.getD k ⟨0, 0⟩) ∧ 0 ≤ pickB t x (g.getD k ⟨0, 0⟩) ∧ pickB t x (g.getD k ⟨0, 0⟩) ≤ 1000000000 := by
  have h := hg _ (List.getElem_mem hk)
  rw [show g.getD k ⟨0, 0⟩ = g[k] from by simp [List.getD, List.getElem?_eq_getElem hk]]
  unfold pickB
  split <;> omega

theorem wTo_bd {c : List Int} {g : List Sp} (h : MeanOk c g) (t : Int) : ∀ k, k ≤ c.length → 0 ≤ wTo c g t k ∧ wTo c g t k ≤ 1000000000 * k ∧ ((g.take k).map Sp.lo).sum ≤ wTo c g t k := by
  intro k
  induction k with
  | zero => intro _; simp [wTo]
  | succ k ih =>
    intro hk
    have h1 := ih (by omega)
    have h2 := pick_bd h.hg t (c.getD k 0) k (by rw [← h.len]; omega)
    have hkl : k < g.length := by rw [← h.len]; omega
    rw [wTo_succ, List.take_succ_eq_append_getElem hkl, List.map_append, List.map_singleton, sum_snoc]
    rw [show g.getD k ⟨0, 0⟩ = g[k] from by simp [List.getD, List.getElem?_eq_getElem hkl]] at h2 ⊢
    refine ⟨by omega, by omega, by omega⟩

theorem mul_bd {a b : Int} (ha : -10000 ≤ a ∧ a ≤ 10000) (hb : 0 ≤ b ∧ b ≤ 1000000000) : -10000000000000 ≤ a * b ∧ a * b ≤ 10000000000000 := by
  have h1 : a * b ≤ 10000 * b := Int.mul_le_mul_of_nonneg_right ha.2 hb.1
  have h2 : -10000 * b ≤ a * b := Int.mul_le_mul_of_nonneg_right ha.1 hb.1
  omega

theorem sumTo_bd {c : List Int} {g : List Sp} (h : MeanOk c g) (t : Int) : ∀ k, k ≤ c.length → -(10000000000000 * k) ≤ sumTo c g t k ∧ sumTo c g t k ≤ 10000000000000 * k := by
  intro k
  induction k with
  | zero => intro _; simp [sumTo]
  | succ k ih =>
    intro hk
    have h1 := ih (by omega)
    have h2 := pick_bd h.hg t (c.getD k 0) k (by rw [← h.len]; omega)
    have h3 := h.hc _ (List.getElem_mem (show k < c.length by omega))
    rw [show c[k]'(by omega) = c.getD k 0 from by simp [List.getD, List.getElem?_eq_getElem (show k < c.length by omega)]] at h3
    have h4 := mul_bd h3 ⟨h2.2.1, h2.2.2⟩
    rw [sumTo_succ]
    refine ⟨by omega, by omega⟩

theorem w_pos {c : List Int} {g : List Sp} (h : MeanOk c g) (t : Int) : 1 ≤ wTo c g t c.length := by
  have h1 := (wTo_bd h t c.length (Nat.le_refl _)).2.2
  rw [List.take_of_length_le (by rw [h.len]; exact Nat.le_refl _)] at h1
  have := h.pos
  omega

theorem mean_I64 {c : List Int} {g : List Sp} (h : MeanOk c g) (t : Int) : -200000000000000 ≤ meanB c g t ∧ meanB c g t ≤ 200000000000000 := by
  have h1 := sumTo_bd h t c.length (Nat.le_refl _)
  have h2 := Int.natAbs_ediv_le_natAbs (-(sumTo c g t c.length)) (wTo c g t c.length)
  have h3 := h.n
  unfold meanB
  omega

theorem sum_step2 {c : List Int} {g : List Sp} {t : Int} {k : Nat} {x y : Int} (hx : x = wrap64 (sumTo c g t k)) (hy : y = wrap64 (wTo c g t k)) :
    wrap64 (x + wrap64 (c.getD k 0 * pickB t (c.getD k 0) (g.getD k ⟨0, 0⟩))) = wrap64 (sumTo c g t (k + 1)) ∧ wrap64 (y + pickB t (c.getD k 0) (g.getD k ⟨0, 0⟩)) = wrap64 (wTo c g t (k + 1)) := by
  rw [hx, hy, wrap_add', wrap_add, wrap_add, sumTo_succ, wTo_succ]
  exact ⟨rfl, rfl⟩

set_option maxRecDepth 100000 in
theorem greatestMean_any (vc vg : Value) (c : List Int) (g : List Sp) (w : World) (hc : RInts w vc c) (hg : RSps w vg g) (hk : MeanOk c g) :
    Calls Try.prog 88 #[vc, vg] w fun e w' => e = .returned (.int .i64 (gmB c g)) ∧ Below w.heap.size w w' := by
  obtain ⟨ac, kc, rfl, -, ⟨-, lc⟩, hcl⟩ := hc
  obtain ⟨ag, kg, rfl, -, ⟨-, lg⟩, hgl⟩ := hg
  obtain ⟨i0, hi, hz0, hz1, hz2⟩ := info_parts info_int
  have hn := hk.n
  have hlen : c.length ≤ g.length := by rw [hk.len]; exact Nat.le_refl _
  go_enter Try.func88, Try.ntmps88
  go_wp2
  go_loopw [5, 15] (fun v i wr => ∃ (k : Nat) (l : List Int), k ≤ c.length ∧ i = .int .i64 k ∧ Hid (l = (c.take k).map (meanB c g)) ∧ wr.ownsRow w.heap.size 3 1 v l.length (l.map (Value.int .i64)) ∧ Below w.heap.size w wr) (fun _ i _ => c.length - (intOf i).toNat)
  case atStart => exact ⟨0, [], Nat.zero_le _, rfl, rfl, World.ownsRow_nil _ _ _ _, Below.refl _ _⟩
  case round =>
    obtain ⟨k, l, hkk, rfl, hx, hown, hb⟩ := hrel
    by_cases hlt : k < c.length
    · obtain ⟨b1, o1, rfl, q1, -⟩ := hcl k hlt
      simp only [Nat.mul_one] at q1
      have hbl := cell_lt q1
      simp only at hbl
      obtain ⟨hcc, hzz⟩ := bcell hb
      have hll : l.length ≤ 12 := by rw [hx.out]; simp; omega
      have hsn : l ++ [meanB c g (c[k]'hlt)] = (c.take (k + 1)).map (meanB c g) := by
        rw [hx.out, List.take_succ_eq_append_getElem hlt, List.map_append, List.map_singleton]
      have HSN := Lib.hid hsn
      clear hsn hx
      generalize c[k] = t at *
      go_wp2_with fail
      obtain ⟨wo, hwo⟩ : ∃ wo : World, wo = wr := ⟨_, rfl⟩
      subst hwo
      clear q1
      go_loop [8, 9, 21] (fun x y i => ∃ (j : Nat) (p q : Int), j ≤ c.length ∧ i = .int .i64 j ∧ x = .int .i64 p ∧ y = .int .i64 q ∧ Hid (p = wrap64 (sumTo c g t j) ∧ q = wrap64 (wTo c g t j))) (fun _ _ i => c.length - (intOf i).toNat)
      case atStart => exact ⟨0, 0, 0, Nat.zero_le _, rfl, rfl, rfl, by simp [Hid, sumTo, wTo, wrap64]⟩
      case round =>
        obtain ⟨j, p, q, hj, rfl, rfl, rfl, hpq⟩ := hrel
        by_cases hlj : j < c.length
        · obtain ⟨b1', o1', e, q1, -⟩ := hcl j hlj
          simp only [Option.some.injEq, Addr.mk.injEq, and_true] at e
          obtain ⟨rfl, rfl⟩ := e
          obtain ⟨b2, o2, rfl, q2, q3, -, -⟩ := hgl j (by omega)
          have hst := sum_step2 hpq.out.1 hpq.out.2
          have hlg : j < g.length := by omega
          rw [show c.getD j 0 = c[j]'hlj from by simp [List.getD, List.getElem?_eq_getElem hlj], show g.getD j ⟨0, 0⟩ = g[j]'hlg from by simp [List.getD, List.getElem?_eq_getElem hlg]] at hst
          have hbl2 := cell_lt q2
          simp only [Nat.mul_one] at q1 q2 q3 hbl2
          have HS := Lib.hid hst
          clear hst hpq hcl hgl hown HSN
          generalize c[j] = x at *
          generalize g[j]'hlg = s at *
          by_cases htx : t ≤ x
          · have hp : pickB t x s = s.hi := by simp [pickB, htx]
            have HP := Lib.hid hp
            clear hp
            go_wp2
            go_round
            case rel => exact ⟨j + 1, _, _, by omega, by go_num, rfl, rfl, by have := HS.out; rw [HP.out] at this; exact this⟩
            case measure => simp [intOf]; omega
          · have hp : pickB t x s = s.lo := by simp [pickB, htx]
            have HP := Lib.hid hp
            clear hp
            go_wp2
            go_round
            case rel => exact ⟨j + 1, _, _, by omega, by go_num, rfl, rfl, by have := HS.out; rw [HP.out] at this; exact this⟩
            case measure => simp [intOf]; omega
        · have hje : j = c.length := by omega
          have hsb := sumTo_bd hk t c.length (Nat.le_refl _)
          have hwb := wTo_bd hk t c.length (Nat.le_refl _)
          have hwp := w_pos hk t
          have hp : p = sumTo c g t c.length := by rw [hpq.out.1, hje]; exact wrap_id _ (by unfold I64; omega)
          have hq : q = wTo c g t c.length := by rw [hpq.out.2, hje]; exact wrap_id _ (by unfold I64; omega)
          have hup := up_any p q
          have hmb := mean_I64 hk t
          have HM : Hid (meanB c g t = -(-p / q)) := by unfold meanB; rw [hp, hq]; rfl
          have hp1 : -9223372036854775807 ≤ p ∧ p ≤ 9223372036854775807 := by omega
          have hq1 : 0 < q ∧ q ≤ 9223372036854775807 := by omega
          clear hpq hp hq hsb hwb hwp hcl hgl
          go_wp2_with fail
          refine (hup _ hp1 hq1).mono ?_
          rintro e w1 ⟨rfl, rfl⟩
          rw [← HM.out]
          have hown2 := hown.alloc (.cells #[.int .i64 (meanB c g t)] 3)
          go_wp2_with (at_builtin; refine wpList_append_own _ rfl _ _ 30 rfl w.heap.size 3 i0 (.int .i64 0) 1 8 Try.underlying30 hi hz0 hz1 hz2 rfl (by decide) _ l.length _ rfl hown2 ⟨wo.heap.size, 0, none⟩ 1 1 [.int .i64 (meanB c g t)] rfl rfl (cell_one_new _ _ _) (by simp [Value.oneCell']) (by unfold maxLen; omega) (by omega) (by simp; have := hb.size; omega) ?_; intro v6 w6 hown6 hgrow6 _)
          have hB6 := (hb.alloc hb.size (.cells #[.int .i64 (meanB c g t)] 3)).grown hgrow6 (by simp; have := hb.size; omega) (fun q hq => (hown2.lt q hq).1)
          have hownF : w6.ownsRow w.heap.size 3 1 v6 (l ++ [meanB c g t]).length ((l ++ [meanB c g t]).map (Value.int .i64)) := by simpa using hown6
          clear hown6 hown2 hgrow6 hown hb hup
          go_roundw
          case rel => exact ⟨k + 1, l ++ [meanB c g t], by omega, by go_num, HSN, hownF, hB6⟩
          case measure => simp [intOf]; omega
    · have hl : l = meansB c g := by rw [hx.out, List.take_of_length_le (by omega)]; rfl
      subst hl
      have hRI := own_RInts (l := meansB c g) hown (by unfold meansB; rw [List.length_map]; omega) (by intro x hx; obtain ⟨t, _, rfl⟩ := List.mem_map.1 hx; have := mean_I64 hk t; unfold I64; omega)
      have hml := max_any u5 (meansB c g) wr hRI (by unfold meansB; rw [List.length_map]; omega)
      clear hRI hown hx hcl hgl
      go_wp2_with fail
      refine hml.mono ?_
      rintro e w1 ⟨rfl, rfl⟩
      clear hml
      go_wp2
      go_ret
      exact ⟨rfl, hb⟩

end Go.Proofs.Ytnnkcbeadiembaa
