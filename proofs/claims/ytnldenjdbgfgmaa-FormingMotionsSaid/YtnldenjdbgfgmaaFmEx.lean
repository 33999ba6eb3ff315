/- What FormingEven and FormingAll want: a time, where a path is at it, how steep a path is; no statement is proved here. -/
import Derived.Test.YtnldenjdbgfgmaaFmEm
import Derived.Test.YtnldenjdbgfgmaaFmRm
import Derived.Test.YtnldenjdbgfgmaaFmForm
namespace Go.Proofs.Ytnldenjdbgfgmaa
open Go.RowKit Go.PlainAid
set_option linter.unusedVariables false
set_option linter.unusedSimpArgs false

/-- what time of the law answers. -/
def TimeA (c : Int) (e : Ending) : Prop := ∃ M D : Int, (1 ≤ D ∧ D ≤ 50) ∧ (0 ≤ M ∧ M < c * D) ∧ e = .returned (.agg #[.int .i64 (mk M D).n, .int .i64 (mk M D).d])
theorem cd_bd {c D : Int} (hc : 1 ≤ c ∧ c ≤ 3600) (hD : 1 ≤ D ∧ D ≤ 50) : 1 ≤ c * D ∧ c * D ≤ 180000 := by
  have h1 := Int.mul_pos (show 0 < c by omega) (show 0 < D by omega)
  have h2 := bd_mul (a := c) (b := D) (A := 3600) (B := 50) (by omega) (by omega) (by omega)
  omega
set_option maxHeartbeats 2000000 in
set_option maxRecDepth 100000 in
theorem time4_any (c num den : Int) (w : World) (hc : 1 ≤ c ∧ c ≤ 3600) (hn : I64 num) (hd : I64 den) :
    Calls Try.prog 18 #[.int .i64 c, .int .i64 num, .int .i64 den] w fun e w' => TimeA c e ∧ Below w.heap.size w w' := by
  have hA := below_box w (.cells #[.int .i64 0, .int .i64 0] 24)
  have hR := Blk.new w #[.int .i64 0, .int .i64 0] 24
  have key : ∀ D : Int, 1 ≤ D ∧ D ≤ 50 → Hid ((∀ V, Calls Try.prog 21 #[.int .i64 (num % (c * D)), .int .i64 D] V fun e w' => e = .returned (rtV (mk (num % (c * D)) D)) ∧ Below V.heap.size V w') ∧ TimeA c (.returned (.agg #[.int .i64 (mk (num % (c * D)) D).n, .int .i64 (mk (num % (c * D)) D).d]))) ∧ ¬ c * D = 0 ∧ wrap64 (c * D) = c * D ∧ wrap64 (num.tmod (c * D)) = num.tmod (c * D) ∧ wrap64 (num.tmod (c * D) + c * D) = num.tmod (c * D) + c * D ∧ (num.tmod (c * D) + c * D).tmod (c * D) = num % (c * D) ∧ wrap64 (num % (c * D)) = num % (c * D) := fun D hD => by
    have hb := cd_bd hc hD
    have h1 := Int.tmod_lt_of_pos num (show 0 < c * D by omega)
    have h2 := Int.lt_tmod_of_pos num (show 0 < c * D by omega)
    have h3 := Int.emod_nonneg num (show c * D ≠ 0 by omega)
    have h4 := Int.emod_lt_of_pos num (show 0 < c * D by omega)
    exact ⟨Lib.hid ⟨fun V => made_any _ _ V (by omega) (by omega), _, D, hD, ⟨h3, h4⟩, rfl⟩, by omega, wrap_id _ (by unfold I64; omega), wrap_id _ (by unfold I64; omega), wrap_id _ (by unfold I64; omega), emod_of num (c * D) (by omega), wrap_id _ (by unfold I64; omega)⟩
  have HA := Lib.hid hA
  have HR := Lib.hid hR
  clear hA hR
  have ht1 := Int.tmod_lt_of_pos den (show 0 < (50 : Int) by omega)
  have ht2 := Int.lt_tmod_of_pos den (show 0 < (50 : Int) by omega)
  have w1 := wrap_id (den.tmod 50) (by unfold I64; omega)
  have w2 := wrap_id (den.tmod 50 + 1) (by unfold I64; omega)
  by_cases hneg : den < 0
  · obtain ⟨HK, z0, z1, z2, z3, z4, z5⟩ := key 1 (by omega)
    rw [Int.mul_one] at z0 z1 z2 z3 z4 z5
    have HK' := HK
    rw [Int.mul_one] at HK'
    obtain ⟨N, hN⟩ : ∃ N, num % c = N := ⟨_, rfl⟩
    rw [hN] at HK' z4 z5
    clear HK key hN
    generalize mk N 1 = Q at *
    go_enter Try.func18, Try.ntmps18
    go_wp2_with fail
    refine (HK'.out.1 _).mono ?_
    rintro e w3 ⟨rfl, hb3⟩
    obtain ⟨r0, r1, f0, f1, HE, C0, C1⟩ := store2 HA.out HR.out (Nat.le_refl _) hb3 (.int .i64 Q.n) (.int .i64 Q.d)
    clear HA HR hb3 z0 z1 z2 z3 z4 z5 w1 w2 ht1 ht2
    unfold rtV
    go_wp2
    have c0 := C0.out
    have c1 := C1.out
    have hE := HE.out
    clear C0 C1 HE r0 r1 f0 f1
    generalize ((w3.setCell ⟨w.heap.size, 0, none⟩ (.int .i64 Q.n)).setCell ⟨w.heap.size, 1, none⟩ (.int .i64 Q.d)) = WE at c0 c1 hE ⊢
    refine ⟨rfl, .agg #[.int .i64 Q.n, .int .i64 Q.d], ?_, HK'.out.2, hE⟩
    simp [results, Try.results18, go_sem, c0, c1]
  · have hte : den.tmod 50 = den % 50 := Int.tmod_eq_emod_of_nonneg (by omega)
    have hD0 : 0 ≤ den.tmod 50 := Int.tmod_nonneg 50 (by omega)
    rw [hte] at w1 w2 ht1 ht2 hD0
    obtain ⟨D, hD⟩ : ∃ D, den % 50 + 1 = D := ⟨_, rfl⟩
    obtain ⟨HK, z0, z1, z2, z3, z4, z5⟩ := key D (by omega)
    rw [hD] at w2
    obtain ⟨N, hN⟩ : ∃ N, num % (c * D) = N := ⟨_, rfl⟩
    rw [hN] at HK z4 z5
    clear key hN
    generalize mk N D = Q at *
    go_enter Try.func18, Try.ntmps18
    go_wp2_with fail
    refine (HK.out.1 _).mono ?_
    rintro e w3 ⟨rfl, hb3⟩
    obtain ⟨r0, r1, f0, f1, HE, C0, C1⟩ := store2 HA.out HR.out (Nat.le_refl _) hb3 (.int .i64 Q.n) (.int .i64 Q.d)
    clear HA HR hb3 z0 z1 z2 z3 z4 z5 w1 w2 ht1 ht2
    unfold rtV
    go_wp2
    have c0 := C0.out
    have c1 := C1.out
    have hE := HE.out
    clear C0 C1 HE r0 r1 f0 f1
    generalize ((w3.setCell ⟨w.heap.size, 0, none⟩ (.int .i64 Q.n)).setCell ⟨w.heap.size, 1, none⟩ (.int .i64 Q.d)) = WE at c0 c1 hE ⊢
    refine ⟨rfl, .agg #[.int .i64 Q.n, .int .i64 Q.d], ?_, HK.out.2, hE⟩
    simp [results, Try.results18, go_sem, c0, c1]

/-- where a path is at a time, as the program says it. -/
def WhP (c h : Int) (l : List Sp) (td now : Int) (P : Rt) : Prop := ∃ i, LegIs c h l td now i ∧ P = posF (lgA h l i) (lgB c h l i) td now
theorem WhP.unique {c h : Int} {l : List Sp} {td now : Int} {P Q : Rt} (a : WhP c h l td now P) (b : WhP c h l td now Q) : P = Q := by
  obtain ⟨i, hi, rfl⟩ := a
  obtain ⟨j, hj, rfl⟩ := b
  obtain rfl := hi.unique hj
  rfl
theorem where_ok {c h : Int} {l : List Sp} {tn td : Int} (H : chkM c h l = 0) (ht : TimeOk tn td) {e : Ending} (hw : WhereA c h l tn td e) : ∃ P, WhP c h l td (tn % (c * td)) P ∧ e = .returned (.tuple #[.agg #[.int .i64 P.n, .int .i64 P.d], .int .i64 0]) := by
  rcases hw with ⟨h1, -⟩ | ⟨-, h1, -⟩ | ⟨-, -, i, hi, rfl⟩
  · exact absurd H h1
  · exact absurd ht h1
  · exact ⟨_, ⟨i, hi, rfl⟩, rfl⟩
theorem WhP.pos {c h : Int} {l : List Sp} {td now : Int} {P : Rt} (H : chkM c h l = 0) (ht : 1 ≤ td) (hn : 0 ≤ now) (hp : WhP c h l td now P) : PosR c h l ((now : Rat) / (td : Rat)) (rv P) := by
  obtain ⟨i, ⟨hi, h1, h2⟩, rfl⟩ := hp
  have hd := dpos ht
  refine ⟨i, hi, ⟨?_, ?_⟩, rv_pos (legOk_of H hi) ht now⟩
  · have : (lgA h l i).lo * td ≤ now := by
      by_cases h0 : i = 0
      · subst h0; rw [lg_first H]; simp only [Int.zero_mul]; exact hn
      · have := h2 (i - 1) (by omega)
        rw [lg_next (c := c) (h := h) (show i - 1 + 1 < nL l by omega), show i - 1 + 1 = i by omega] at this
        omega
    have k := (rv_le (r := ⟨(lgA h l i).lo, 1⟩) (s := ⟨now, td⟩) (show 1 ≤ (1 : Int) by decide) ht).2 (by simp only; omega)
    rw [rv_div, rv_div] at k
    simp only at k
    rw [show ((lgA h l i).lo : Rat) / ((1 : Int) : Rat) = ((lgA h l i).lo : Rat) by rw [show ((1 : Int) : Rat) = 1 from rfl]; grind] at k
    exact k
  · have k := (rv_le (r := ⟨now, td⟩) (s := ⟨(lgB c h l i).lo, 1⟩) ht (show 1 ≤ (1 : Int) by decide)).2 (by simp only; omega)
    rw [rv_div, rv_div] at k
    simp only at k
    rw [show ((lgB c h l i).lo : Rat) / ((1 : Int) : Rat) = ((lgB c h l i).lo : Rat) by rw [show ((1 : Int) : Rat) = 1 from rfl]; grind] at k
    exact k
theorem WhP.bd {c h : Int} {l : List Sp} {td now : Int} {P : Rt} (H : chkM c h l = 0) (ht : 1 ≤ td ∧ td ≤ 50) (hn : 0 ≤ now ∧ now ≤ 180000) (hp : WhP c h l td now P) : (-1000000000000 ≤ P.n ∧ P.n ≤ 1000000000000) ∧ (1 ≤ P.d ∧ P.d ≤ 180000) := by
  obtain ⟨i, ⟨hi, -, -⟩, rfl⟩ := hp
  have hok := legOk_of H hi
  generalize lgA h l i = x at *
  generalize lgB c h l i = y at *
  have h1 := hok.a; have h2 := hok.b; have h3 := hok.c
  have a2 := bd_mul (a := x.hi) (b := td) (A := 1000000) (B := 50) (by omega) (by omega) (by omega)
  have b2 := bd_mul (a := x.hi * td) (b := y.lo - x.lo) (A := 50000000) (B := 3600) (by omega) (by omega) (by omega)
  have c1 := Int.mul_nonneg h1.1 (show 0 ≤ td by omega)
  have c2 := bd_mul (a := x.lo) (b := td) (A := 3600) (B := 50) (by omega) (by omega) (by omega)
  have d2 := bd_mul (a := y.hi - x.hi) (b := now - x.lo * td) (A := 1000000) (B := 180000) (by omega) (by omega) (by omega)
  have e1 := Int.mul_pos (show 0 < td by omega) (show 0 < y.lo - x.lo by omega)
  have e2 := bd_mul (a := td) (b := y.lo - x.lo) (A := 50) (B := 3600) (by omega) (by omega) (by omega)
  have n1 := mk_nabs (posN x y td now) (d := td * (y.lo - x.lo)) e1 1000000000000 (by unfold posN; omega)
  have n2 := mk_dpos (posN x y td now) e1
  have n3 := mk_dle (posN x y td now) e1
  exact ⟨n1, n2, by unfold posF; omega⟩

/-- how steep the first legs of a path are. -/
def mostS (c h : Int) (l : List Sp) : Nat → Int
  | 0 => 0
  | k + 1 => max (mostS c h l k) ((max ((lgB c h l k).hi - (lgA h l k).hi) (-((lgB c h l k).hi - (lgA h l k).hi)) + ((lgB c h l k).lo - (lgA h l k).lo) - 1) / ((lgB c h l k).lo - (lgA h l k).lo))
theorem ceil_bd {a n : Int} (ha : 0 ≤ a ∧ a ≤ 1000000) (hn : 1 ≤ n ∧ n ≤ 3600) : a ≤ (a + n - 1) / n * n ∧ 0 ≤ (a + n - 1) / n ∧ (a + n - 1) / n ≤ 1003600 := by
  have h1 := Int.emod_add_mul_ediv (a + n - 1) n
  have h2 := Int.emod_lt_of_pos (a + n - 1) (show 0 < n by omega)
  have h3 := Int.emod_nonneg (a + n - 1) (show n ≠ 0 by omega)
  have h4 := Int.ediv_nonneg (show 0 ≤ a + n - 1 by omega) (show 0 ≤ n by omega)
  have h5 := Int.ediv_le_self n (show 0 ≤ a + n - 1 by omega)
  rw [Int.mul_comm n] at h1
  omega
theorem mostS_ok {c h : Int} {l : List Sp} (H : chkM c h l = 0) : ∀ k, k ≤ nL l → (0 ≤ mostS c h l k ∧ mostS c h l k ≤ 1003600) ∧ ∀ i, i < k → max ((lgB c h l i).hi - (lgA h l i).hi) (-((lgB c h l i).hi - (lgA h l i).hi)) ≤ mostS c h l k * ((lgB c h l i).lo - (lgA h l i).lo) := by
  intro k
  induction k with
  | zero => intro _; exact ⟨by simp [mostS], fun i hi => by omega⟩
  | succ k ih =>
    intro hk
    obtain ⟨i1, i2⟩ := ih (by omega)
    have hok := legOk_of H (show k < nL l by omega)
    have h1 := hok.a; have h2 := hok.b; have h3 := hok.c
    have cb := ceil_bd (a := max ((lgB c h l k).hi - (lgA h l k).hi) (-((lgB c h l k).hi - (lgA h l k).hi))) (n := (lgB c h l k).lo - (lgA h l k).lo) (by omega) (by omega)
    refine ⟨by simp only [mostS]; omega, fun i hi => ?_⟩
    have hle : mostS c h l k ≤ mostS c h l (k + 1) := by simp only [mostS]; omega
    by_cases hik : i = k
    · subst hik
      refine Int.le_trans cb.1 (Int.mul_le_mul_of_nonneg_right ?_ (by omega))
      simp only [mostS]; omega
    · have hoi := legOk_of H (show i < nL l by omega)
      have := hoi.a
      exact Int.le_trans (i2 i (by omega)) (Int.mul_le_mul_of_nonneg_right hle (by omega))
theorem most_path {c h : Int} {l : List Sp} (H : chkM c h l = 0) : PathR c h l ((mostS c h l l.length : Int) : Rat) := by
  have hm := mostS_ok H l.length (by unfold nL; omega)
  refine ⟨fun i hi => legOk_of H hi, fun i hi => ?_, Rat.intCast_nonneg.2 hm.1.1⟩
  have key : max ((lgB c h l i).hi - (lgA h l i).hi) (-((lgB c h l i).hi - (lgA h l i).hi)) ≤ mostS c h l l.length * ((lgB c h l i).lo - (lgA h l i).lo) := by
    by_cases h0 : l.length = 0
    · have : (lgB c h l i).hi = (lgA h l i).hi := by
        unfold lgA lgB
        rw [if_neg (by omega)]
        simp [h0]
      rw [this, h0]
      simp [mostS]
    · exact hm.2 i (by unfold nL at hi; omega)
  generalize mostS c h l l.length = M at *
  generalize lgA h l i = x at *
  generalize lgB c h l i = y at *
  have k1 : y.hi - x.hi ≤ M * (y.lo - x.lo) := by omega
  have k2 : x.hi - y.hi ≤ M * (y.lo - x.lo) := by omega
  have r1 := Rat.intCast_le_intCast.2 k1
  have r2 := Rat.intCast_le_intCast.2 k2
  simp only [Rat.intCast_mul, Rat.intCast_sub] at r1 r2
  exact ⟨r1, r2⟩
theorem cross_le {p q : Rt} (hp : 1 ≤ p.d) (hq : 1 ≤ q.d) {K : Int} (h : rv p - rv q ≤ (K : Rat)) : p.n * q.d - q.n * p.d ≤ K * p.d * q.d := by
  have e : rv ⟨K * q.d + q.n, q.d⟩ = (K : Rat) + rv q := by
    have hd := dpos hq
    rw [rv_div, rv_div]
    simp only [Rat.intCast_mul, Rat.intCast_add]
    generalize (q.d : Rat) = b at *
    generalize (q.n : Rat) = n at *
    generalize (K : Rat) = k at *
    grind
  have := (rv_le (r := p) (s := ⟨K * q.d + q.n, q.d⟩) hp hq).1 (by rw [e]; grind)
  simp only [Int.add_mul] at this
  rw [Int.mul_right_comm K]
  omega
end Go.Proofs.Ytnldenjdbgfgmaa
