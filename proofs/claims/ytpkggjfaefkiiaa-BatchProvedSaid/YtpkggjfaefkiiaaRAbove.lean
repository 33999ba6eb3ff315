/- The specification's own sums over spans; no statement is proved here. -/
import Derived.Test.YtpkggjfaefkiiaaRForms
import Derived.StillTailTactics
namespace Go.Proofs.Ytpkggjfaefkiiaa
open Go.RowKit Go.PlainAid
set_option linter.unusedVariables false

set_option maxRecDepth 100000 in
theorem rsums_any (v : Value) (l : List Sp) (w : World) (h : RSps w v l) :
    Calls Try.prog 72 #[v] w fun e w' => e = .returned (.tuple #[.int .i64 (tot l).lo, .int .i64 (tot l).hi]) ∧ w = w' := by
  obtain ⟨a, cap, rfl, -, ⟨-, hm⟩, hl⟩ := h
  go_enter Try.func72, Try.ntmps72
  go_wp2
  go_loop [4, 5, 6] (fun x y i => ∃ (k : Nat) (p q : Int), k ≤ l.length ∧ i = .int .i64 k ∧ x = .int .i64 p ∧ y = .int .i64 q ∧ Hid (p = wrap64 ((l.take k).map Sp.lo).sum ∧ q = wrap64 ((l.take k).map Sp.hi).sum)) (fun _ _ i => l.length - (intOf i).toNat)
  case atStart => exact ⟨0, 0, 0, Nat.zero_le _, rfl, rfl, rfl, by simp [wrap64, Hid]⟩
  case round =>
    obtain ⟨k, p, q, hk, rfl, rfl, rfl, hx⟩ := hrel
    by_cases hlt : k < l.length
    · obtain ⟨b, off, rfl, h1, h2, -, -⟩ := hl k hlt
      simp only at h1 h2
      have hst1 := Lib.hid (sum_step Sp.lo l k hlt p hx.out.1)
      have hst2 := Lib.hid (sum_step Sp.hi l k hlt q hx.out.2)
      clear hl hx
      generalize l[k] = s at *
      go_wp2
      go_round
      case rel => exact ⟨k + 1, _, _, by omega, by go_num, rfl, rfl, hst1.out, hst2.out⟩
      case measure => simp [intOf]; omega
    · have hf : p = (tot l).lo ∧ q = (tot l).hi := by
        have := hx.out
        rw [List.take_of_length_le (by omega)] at this
        exact this
      obtain ⟨rfl, rfl⟩ := hf
      clear hx hl
      go_wp2
      go_ret2
      exact ⟨rfl, rfl⟩

/-- what a form goes beyond n, of spans. -/
def abE (c : List Int) (l : List Sp) (n : Int) (k : Nat) : Int := sumO (fun i => c.getD i 0 - n) l k
def beE (c : List Int) (l : List Sp) (n : Int) (k : Nat) : Int := sumO (fun i => n - c.getD i 0) l k

structure AbOk (c : List Int) (l : List Sp) (n : Int) : Prop where
  len : l.length ≤ c.length
  le : l.length ≤ 12
  hc : ∀ x ∈ c, -10000 ≤ x ∧ x ≤ 10000
  hn : -10000 ≤ n ∧ n ≤ 10000
  hl : ∀ s ∈ l, 0 ≤ s.lo ∧ s.lo ≤ s.hi ∧ s.hi ≤ 2000000000

theorem sumO_bd {o : Nat → Int} {l : List Sp} (ho : ∀ i, i < l.length → -20000 ≤ o i ∧ o i ≤ 20000) (hl : ∀ s ∈ l, 0 ≤ s.lo ∧ s.lo ≤ s.hi ∧ s.hi ≤ 2000000000) : ∀ k, k ≤ l.length → -(40000000000000 * (k : Int)) ≤ sumO o l k ∧ sumO o l k ≤ 40000000000000 * k := by
  intro k
  induction k with
  | zero => intro _; simp [sumO]
  | succ k ih =>
    intro hk
    have h1 := ih (by omega)
    have h2 := hl _ (getD_mem (d := ⟨0, 0⟩) (show k < l.length by omega))
    have h3 := gr_exact (n := o k) (s := l.getD k ⟨0, 0⟩) (ho k (by omega)) h2.1 h2.2.1 h2.2.2
    rw [sumO_succ]
    omega

theorem AbOk.at {c : List Int} {l : List Sp} {n : Int} (h : AbOk c l n) {i : Nat} (hi : i < l.length) : -20000 ≤ c.getD i 0 - n ∧ c.getD i 0 - n ≤ 20000 ∧ -10000 ≤ c.getD i 0 ∧ c.getD i 0 ≤ 10000 := by
  have h1 := h.hc _ (getD_mem (d := 0) (show i < c.length by have := h.len; omega))
  have h2 := h.hn
  omega

set_option maxRecDepth 100000 in
theorem above_any (vc vl : Value) (c : List Int) (l : List Sp) (n : Int) (w : World) (hc : RInts w vc c) (hl : RSps w vl l) (hk : AbOk c l n) :
    Calls Try.prog 99 #[vc, vl, .int .i64 n] w fun e w' => e = .returned (.int .i64 (abE c l n l.length)) ∧ Below w.heap.size w w' := by
  obtain ⟨ac, kc, rfl, -, ⟨-, mc⟩, hcl⟩ := hc
  obtain ⟨al, kl, rfl, -, ⟨-, ml⟩, hll⟩ := hl
  have hle := hk.len
  obtain ⟨hn1, hn2⟩ := hk.hn
  have hbd := Lib.hid (sumO_bd (o := fun i => c.getD i 0 - n) (l := l) (fun i hi => ⟨(hk.at hi).1, (hk.at hi).2.1⟩) hk.hl)
  go_enter Try.func99, Try.ntmps99
  go_wp2
  go_loopw [7, 8, 9] (fun x i _ wr => ∃ (k : Nat) (p : Int), k ≤ l.length ∧ i = .int .i64 k ∧ x = .int .i64 p ∧ Hid (p = abE c l n k) ∧ Below w.heap.size w wr) (fun _ i _ _ => l.length - (intOf i).toNat)
  case atStart => exact ⟨0, 0, Nat.zero_le _, rfl, rfl, rfl, Below.refl _ _⟩
  case round =>
    obtain ⟨k, p, hk', rfl, rfl, hx, hb⟩ := hrel
    by_cases hlt : k < l.length
    · obtain ⟨b1, o1, rfl, q1, -⟩ := hcl k (by omega)
      obtain ⟨b2, o2, rfl, r1, r2, -, -⟩ := hll k hlt
      have hat := hk.at hlt
      have hsp := hk.hl _ (List.getElem_mem hlt)
      have hbk := hbd.out k (by omega)
      have hbk1 := hbd.out (k + 1) (by omega)
      have hst := sumO_succ (fun i => c.getD i 0 - n) l k
      rw [show c.getD k 0 = c[k]'(by omega) from by simp [List.getD, List.getElem?_eq_getElem (show k < c.length by omega)]] at hat hst
      rw [show l.getD k ⟨0, 0⟩ = l[k]'hlt from by simp [List.getD, List.getElem?_eq_getElem hlt]] at hst
      have hcl1 := cell_lt q1
      have hcl2 := cell_lt r1
      simp only [Nat.mul_one] at q1 hcl1
      simp only at r1 r2 hcl2
      replace q1 := ext_of_below hb _ _ q1
      replace r1 := ext_of_below hb _ _ r1
      replace r2 := ext_of_below hb _ _ r2
      have HX := hx
      clear hcl hll hx
      generalize c[k]'(by omega) = ck at *
      generalize l[k]'hlt = s at *
      have hg := gr_exact (n := ck - n) (s := s) ⟨hat.1, hat.2.1⟩ hsp.1 hsp.2.1 hsp.2.2
      have m1 := mul_le_of (m := 20000) (a := ck - n) (b := s.lo) ⟨hat.1, hat.2.1⟩ hsp.1
      have m2 := mul_le_of (m := 20000) (a := ck - n) (b := s.hi) ⟨hat.1, hat.2.1⟩ (by omega)
      have hpk : p = abE c l n k := HX.out
      have hbp : -1000000000000000 ≤ p ∧ p ≤ 1000000000000000 := by rw [hpk]; unfold abE; have := hk.le; omega
      have hgE : grE (ck - n) s = max ((ck - n) * s.lo) ((ck - n) * s.hi) := rfl
      have HS : Hid (abE c l n (k + 1) = p + max ((ck - n) * s.lo) ((ck - n) * s.hi)) := by unfold Hid; rw [hpk]; exact hst
      have hle2 := hk.le
      clear hst hgE hpk hg hbk hbk1 hbd HX hk
      have m3 : -40000000000000 ≤ (ck - n) * s.lo ∧ (ck - n) * s.lo ≤ 40000000000000 := by omega
      have m4 : -40000000000000 ≤ (ck - n) * s.hi ∧ (ck - n) * s.hi ≤ 40000000000000 := by omega
      clear m1 m2
      go_wp2_with fail
      generalize ck - n = y at *
      generalize hm1 : y * s.lo = m1 at *
      generalize hm2 : y * s.hi = m2 at *
      have e1 : IntKind.i64.wrap (y * s.lo) = m1 := by rw [hm1]; exact IntWalk.i64_in _ (by omega)
      have e2 : IntKind.i64.wrap (y * s.hi) = m2 := by rw [hm2]; exact IntWalk.i64_in _ (by omega)
      clear hm1 hm2 hat hsp
      have j1 : (0 : Int) ≤ (k : Int) := Int.natCast_nonneg _
      have j2 : (k : Int) < (l.length : Int) := by omega
      have hB := hb.drew
      by_cases hmx : m1 < m2
      all_goals
        have e3 : IntKind.i64.wrap (p + m2) = p + m2 := IntWalk.i64_in _ (by omega)
        have e4 : IntKind.i64.wrap (p + m1) = p + m1 := IntWalk.i64_in _ (by omega)
        have HS2 : Hid (abE c l n (k + 1) = p + if m1 < m2 then m2 else m1) := by unfold Hid; rw [HS.out]; split <;> omega
        clear HS hb
        refine wp_region_still_tail 17 (by kernel_rfl) (by kernel_rfl) ?_
        simp only [List.take_succ_cons, List.take_zero, List.drop_succ_cons, List.drop_zero]
        repeat still_step
        refine wpStill_nil ?_
        change wpList _ _ _ _ _ wr.drew
        clear e1 e2 j1 j2
        go_wp2
        go_roundw
        case rel => exact ⟨k + 1, _, by omega, by go_num, rfl, by have := HS2.out; simp only [hmx, if_true, if_false] at this; exact this.symm, hB⟩
        case measure => simp [intOf]; omega
    · have HF : Hid (p = abE c l n l.length) := by unfold Hid; rw [hx.out, show k = l.length from by omega]
      clear hx hcl hll
      go_wp2
      go_ret
      exact ⟨ret_int HF.out, hb⟩

set_option maxRecDepth 100000 in
theorem below_any (vc vl : Value) (c : List Int) (l : List Sp) (n : Int) (w : World) (hc : RInts w vc c) (hl : RSps w vl l) (hk : AbOk c l n) :
    Calls Try.prog 100 #[vc, vl, .int .i64 n] w fun e w' => e = .returned (.int .i64 (beE c l n l.length)) ∧ Below w.heap.size w w' := by
  obtain ⟨ac, kc, rfl, -, ⟨-, mc⟩, hcl⟩ := hc
  obtain ⟨al, kl, rfl, -, ⟨-, ml⟩, hll⟩ := hl
  have hle := hk.len
  obtain ⟨hn1, hn2⟩ := hk.hn
  have hbd := Lib.hid (sumO_bd (o := fun i => n - c.getD i 0) (l := l) (fun i hi => by have := hk.at hi; omega) hk.hl)
  go_enter Try.func100, Try.ntmps100
  go_wp2
  go_loopw [7, 8, 9] (fun x i _ wr => ∃ (k : Nat) (p : Int), k ≤ l.length ∧ i = .int .i64 k ∧ x = .int .i64 p ∧ Hid (p = beE c l n k) ∧ Below w.heap.size w wr) (fun _ i _ _ => l.length - (intOf i).toNat)
  case atStart => exact ⟨0, 0, Nat.zero_le _, rfl, rfl, rfl, Below.refl _ _⟩
  case round =>
    obtain ⟨k, p, hk', rfl, rfl, hx, hb⟩ := hrel
    by_cases hlt : k < l.length
    · obtain ⟨b1, o1, rfl, q1, -⟩ := hcl k (by omega)
      obtain ⟨b2, o2, rfl, r1, r2, -, -⟩ := hll k hlt
      have hat := hk.at hlt
      have hsp := hk.hl _ (List.getElem_mem hlt)
      have hbk := hbd.out k (by omega)
      have hbk1 := hbd.out (k + 1) (by omega)
      have hst := sumO_succ (fun i => n - c.getD i 0) l k
      rw [show c.getD k 0 = c[k]'(by omega) from by simp [List.getD, List.getElem?_eq_getElem (show k < c.length by omega)]] at hat hst
      rw [show l.getD k ⟨0, 0⟩ = l[k]'hlt from by simp [List.getD, List.getElem?_eq_getElem hlt]] at hst
      have hcl1 := cell_lt q1
      have hcl2 := cell_lt r1
      simp only [Nat.mul_one] at q1 hcl1
      simp only at r1 r2 hcl2
      replace q1 := ext_of_below hb _ _ q1
      replace r1 := ext_of_below hb _ _ r1
      replace r2 := ext_of_below hb _ _ r2
      have HX := hx
      clear hcl hll hx
      generalize c[k]'(by omega) = ck at *
      generalize l[k]'hlt = s at *
      have hg := gr_exact (n := n - ck) (s := s) (by omega) hsp.1 hsp.2.1 hsp.2.2
      have m1 := mul_le_of (m := 20000) (a := n - ck) (b := s.lo) (by omega) hsp.1
      have m2 := mul_le_of (m := 20000) (a := n - ck) (b := s.hi) (by omega) (by omega)
      have hpk : p = beE c l n k := HX.out
      have hbp : -1000000000000000 ≤ p ∧ p ≤ 1000000000000000 := by rw [hpk]; unfold beE; have := hk.le; omega
      have hgE : grE (n - ck) s = max ((n - ck) * s.lo) ((n - ck) * s.hi) := rfl
      have HS : Hid (beE c l n (k + 1) = p + max ((n - ck) * s.lo) ((n - ck) * s.hi)) := by unfold Hid; rw [hpk]; exact hst
      have hle2 := hk.le
      clear hst hgE hpk hg hbk hbk1 hbd HX hk
      have m3 : -40000000000000 ≤ (n - ck) * s.lo ∧ (n - ck) * s.lo ≤ 40000000000000 := by omega
      have m4 : -40000000000000 ≤ (n - ck) * s.hi ∧ (n - ck) * s.hi ≤ 40000000000000 := by omega
      clear m1 m2
      go_wp2_with fail
      generalize n - ck = y at *
      generalize hm1 : y * s.lo = m1 at *
      generalize hm2 : y * s.hi = m2 at *
      have e1 : IntKind.i64.wrap (y * s.lo) = m1 := by rw [hm1]; exact IntWalk.i64_in _ (by omega)
      have e2 : IntKind.i64.wrap (y * s.hi) = m2 := by rw [hm2]; exact IntWalk.i64_in _ (by omega)
      clear hm1 hm2 hat hsp
      have j1 : (0 : Int) ≤ (k : Int) := Int.natCast_nonneg _
      have j2 : (k : Int) < (l.length : Int) := by omega
      have hB := hb.drew
      by_cases hmx : m1 < m2
      all_goals
        have e3 : IntKind.i64.wrap (p + m2) = p + m2 := IntWalk.i64_in _ (by omega)
        have e4 : IntKind.i64.wrap (p + m1) = p + m1 := IntWalk.i64_in _ (by omega)
        have HS2 : Hid (beE c l n (k + 1) = p + if m1 < m2 then m2 else m1) := by unfold Hid; rw [HS.out]; split <;> omega
        clear HS hb
        refine wp_region_still_tail 17 (by kernel_rfl) (by kernel_rfl) ?_
        simp only [List.take_succ_cons, List.take_zero, List.drop_succ_cons, List.drop_zero]
        repeat still_step
        refine wpStill_nil ?_
        change wpList _ _ _ _ _ wr.drew
        clear e1 e2 j1 j2
        go_wp2
        go_roundw
        case rel => exact ⟨k + 1, _, by omega, by go_num, rfl, by have := HS2.out; simp only [hmx, if_true, if_false] at this; exact this.symm, hB⟩
        case measure => simp [intOf]; omega
    · have HF : Hid (p = beE c l n l.length) := by unfold Hid; rw [hx.out, show k = l.length from by omega]
      clear hx hcl hll
      go_wp2
      go_ret
      exact ⟨ret_int HF.out, hb⟩

end Go.Proofs.Ytpkggjfaefkiiaa
