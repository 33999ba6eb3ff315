/- Where a path is at a time; no statement is proved here. -/
import Derived.Test.YtnldenjdbgfgmaaFmIt
import Derived.Test.YtnldenjdbgfgmaaTill
namespace Go.Proofs.Ytnldenjdbgfgmaa
open Go.RowKit Go.PlainAid
set_option linter.unusedVariables false
set_option linter.unusedSimpArgs false
attribute [local go_sem] Oper.semAt_some

theorem kt_lo {c : Int} {l : List Sp} (h : ∀ i, i < l.length → KnotOk c l i) : ∀ i, i < l.length → 0 ≤ (kt l i).lo
  | 0, hi => by have := (h 0 hi).2.1 rfl; omega
  | i + 1, hi => by
    have h1 := kt_lo h i (by omega)
    have h2 := (h (i + 1) hi).2.2.1 (by omega)
    rw [Nat.add_sub_cancel] at h2
    omega
theorem legOk_of {c h : Int} {l : List Sp} (H : chkM c h l = 0) {i : Nat} (hi : i < nL l) : LegOk (lgA h l i) (lgB c h l i) := by
  obtain ⟨h1, h2, h3, h4⟩ := chkM_zero H
  unfold lgA lgB
  by_cases h0 : l.length = 0
  · simp only [h0, if_true]
    rw [if_neg (by omega)]
    exact ⟨by simp only; omega, by simp only; omega, by simp only; omega⟩
  · simp only [h0, if_false]
    have hn : i < l.length := by unfold nL at hi; omega
    have k1 := h4 i hn
    have k2 := kt_lo h4 i hn
    by_cases hl : i + 1 < l.length
    · rw [if_pos hl]
      have k3 := h4 (i + 1) hl
      have k4 := k3.2.2.1 (by omega)
      rw [Nat.add_sub_cancel] at k4
      exact ⟨⟨k2, k4, by have := k3.2.2.2; omega⟩, k1.1, k3.1⟩
    · rw [if_neg hl]
      have k3 := h4 0 (by omega)
      exact ⟨⟨k2, k1.2.2.2, by simp only; omega⟩, k1.1, k3.1⟩
theorem lgB_last (c h : Int) (l : List Sp) : (lgB c h l (nL l - 1)).lo = c := by
  unfold lgB nL
  rw [if_neg (by omega)]
/-- the leg in which a time of the cycle (times td) lies. -/
def LegIs (c h : Int) (l : List Sp) (td now : Int) (i : Nat) : Prop := i < nL l ∧ now ≤ (lgB c h l i).lo * td ∧ ∀ j, j < i → (lgB c h l j).lo * td < now
theorem LegIs.unique {c h : Int} {l : List Sp} {td now : Int} {i j : Nat} (a : LegIs c h l td now i) (b : LegIs c h l td now j) : i = j := by
  rcases Nat.lt_trichotomy i j with hl | he | hl
  · have := b.2.2 i hl; have := a.2.1; omega
  · exact he
  · have := a.2.2 j hl; have := b.2.1; omega
def posN (x y : Sp) (td now : Int) : Int := x.hi * td * (y.lo - x.lo) + (y.hi - x.hi) * (now - x.lo * td)
def posF (x y : Sp) (td now : Int) : Rt := mk (posN x y td now) (td * (y.lo - x.lo))
theorem posN_bd {x y : Sp} (h : LegOk x y) {td now : Int} (ht : 1 ≤ td ∧ td ≤ 1000000) (hn : 0 ≤ now ∧ now ≤ 3600000000) :
    (0 ≤ x.hi * td ∧ x.hi * td ≤ 1000000000000) ∧ (0 ≤ x.hi * td * (y.lo - x.lo) ∧ x.hi * td * (y.lo - x.lo) ≤ 3600000000000000) ∧ (0 ≤ x.lo * td ∧ x.lo * td ≤ 3600000000)
      ∧ (-3600000000000000 ≤ (y.hi - x.hi) * (now - x.lo * td) ∧ (y.hi - x.hi) * (now - x.lo * td) ≤ 3600000000000000) ∧ (1 ≤ td * (y.lo - x.lo) ∧ td * (y.lo - x.lo) ≤ 3600000000) ∧ (0 ≤ y.lo * td ∧ y.lo * td ≤ 3600000000) := by
  have h1 := h.a; have h2 := h.b; have h3 := h.c
  have a1 := Int.mul_nonneg h2.1 (show 0 ≤ td by omega)
  have a2 := bd_mul (a := x.hi) (b := td) (A := 1000000) (B := 1000000) (by omega) (by omega) (by omega)
  have b1 := Int.mul_nonneg a1 (show 0 ≤ y.lo - x.lo by omega)
  have b2 := bd_mul (a := x.hi * td) (b := y.lo - x.lo) (A := 1000000000000) (B := 3600) (by omega) (by omega) (by omega)
  have c1 := Int.mul_nonneg h1.1 (show 0 ≤ td by omega)
  have c2 := bd_mul (a := x.lo) (b := td) (A := 3600) (B := 1000000) (by omega) (by omega) (by omega)
  have d2 := bd_mul (a := y.hi - x.hi) (b := now - x.lo * td) (A := 1000000) (B := 3600000000) (by omega) (by omega) (by omega)
  have e1 := Int.mul_pos (show 0 < td by omega) (show 0 < y.lo - x.lo by omega)
  have e2 := bd_mul (a := td) (b := y.lo - x.lo) (A := 1000000) (B := 3600) (by omega) (by omega) (by omega)
  have g1 := Int.mul_nonneg (show 0 ≤ y.lo by omega) (show 0 ≤ td by omega)
  have g2 := bd_mul (a := y.lo) (b := td) (A := 3600) (B := 1000000) (by omega) (by omega) (by omega)
  omega

def lgC (x y : Sp) : Array Value := #[.int .i64 x.lo, .int .i64 x.hi, .int .i64 y.lo, .int .i64 y.hi]
theorem lgC_eq (x y : Sp) : lgC x y = #[.int .i64 x.lo, .int .i64 x.hi, .int .i64 y.lo, .int .i64 y.hi] := rfl
/-- four cells of a box of S are stored into. -/
theorem store4S {S : Nat → Prop} {n0 B : Nat} {w W : World} {k : Nat} {T : TypeId} {z0 z1 z2 z3 : Value} (hB : Blk W k #[z0, z1, z2, z3] T) (hk : S k) (hw : w.heap.size ≤ k) (hbel : Below w.heap.size w W) (a b c d : Value) :
    Hid (KeepsFrom B W ((((W.setCell ⟨k, 0, none⟩ a).setCell ⟨k, 1, none⟩ b).setCell ⟨k, 2, none⟩ c).setCell ⟨k, 3, none⟩ d)) ∧ Hid (BelS S n0 W ((((W.setCell ⟨k, 0, none⟩ a).setCell ⟨k, 1, none⟩ b).setCell ⟨k, 2, none⟩ c).setCell ⟨k, 3, none⟩ d))
      ∧ Hid (CK S W ((((W.setCell ⟨k, 0, none⟩ a).setCell ⟨k, 1, none⟩ b).setCell ⟨k, 2, none⟩ c).setCell ⟨k, 3, none⟩ d)) ∧ Hid (Blk ((((W.setCell ⟨k, 0, none⟩ a).setCell ⟨k, 1, none⟩ b).setCell ⟨k, 2, none⟩ c).setCell ⟨k, 3, none⟩ d) k #[a, b, c, d] T)
      ∧ Hid (Below w.heap.size w ((((W.setCell ⟨k, 0, none⟩ a).setCell ⟨k, 1, none⟩ b).setCell ⟨k, 2, none⟩ c).setCell ⟨k, 3, none⟩ d)) := by
  have h1 : ∀ m, BelS S m W ((((W.setCell ⟨k, 0, none⟩ a).setCell ⟨k, 1, none⟩ b).setCell ⟨k, 2, none⟩ c).setCell ⟨k, 3, none⟩ d) := fun m => ((((BelS.refl S m W).set ⟨k, 0, none⟩ a (.inr hk)).set ⟨k, 1, none⟩ b (.inr hk)).set ⟨k, 2, none⟩ c (.inr hk)).set ⟨k, 3, none⟩ d (.inr hk)
  exact ⟨Lib.hid (((((KeepsOthers.setCell W ⟨k, 0, none⟩ a).from B).trans ((KeepsOthers.setCell _ ⟨k, 1, none⟩ b).from B)).trans ((KeepsOthers.setCell _ ⟨k, 2, none⟩ c).from B)).trans ((KeepsOthers.setCell _ ⟨k, 3, none⟩ d).from B)), Lib.hid (h1 n0), Lib.hid (CK.of_belS (h1 _)),
    Lib.hid (by simpa using (((hB.set 0 a).set 1 b).set 2 c).set 3 d), Lib.hid ((((hbel.setCell (by simpa using hw) _).setCell (by simpa using hw) _).setCell (by simpa using hw) _).setCell (by simpa using hw) _)⟩

set_option maxHeartbeats 4000000 in
set_option maxRecDepth 100000 in
theorem at_any (c h : Int) (a : Option Addr) (cap : Nat) (l : List Sp) (tn td : Int) (w : World) (hr : RSps w (.slice a l.length cap) l) (H : chkM c h l = 0) (ht : 1 ≤ td ∧ td ≤ 1000000) (htn : -1000000000 ≤ tn ∧ tn ≤ 1000000000) :
    Calls Try.prog 27 #[ptV c h (.slice a l.length cap), .agg #[.int .i64 tn, .int .i64 td]] w fun e w' => (∃ i, LegIs c h l td (tn % (c * td)) i ∧ e = .returned (rtV (posF (lgA h l i) (lgB c h l i) td (tn % (c * td))))) ∧ Below w.heap.size w w' := by
  obtain ⟨hc, hh, hn16, hkn⟩ := chkM_zero H
  have hA3 : Below w.heap.size w (((w.alloc (.cells #[.int .i64 c, .int .i64 h, .slice a l.length cap] 55)).alloc (.cells #[.int .i64 tn, .int .i64 td] 24)).alloc (.cells #[.int .i64 0, .int .i64 0] 24)) := ((below_box w _).alloc (by simp) _).alloc (by simp only [World.size_alloc]; omega) _
  have hP := ((Blk.new w #[.int .i64 c, .int .i64 h, .slice a l.length cap] 55).alloc (.cells #[.int .i64 tn, .int .i64 td] 24)).alloc (.cells #[.int .i64 0, .int .i64 0] 24)
  have hT := (Blk.new (w.alloc (.cells #[.int .i64 c, .int .i64 h, .slice a l.length cap] 55)) #[.int .i64 tn, .int .i64 td] 24).alloc (.cells #[.int .i64 0, .int .i64 0] 24)
  have hR := Blk.new ((w.alloc (.cells #[.int .i64 c, .int .i64 h, .slice a l.length cap] 55)).alloc (.cells #[.int .i64 tn, .int .i64 td] 24)) #[.int .i64 0, .int .i64 0] 24
  have hs3 : (((w.alloc (.cells #[.int .i64 c, .int .i64 h, .slice a l.length cap] 55)).alloc (.cells #[.int .i64 tn, .int .i64 td] 24)).alloc (.cells #[.int .i64 0, .int .i64 0] 24)).heap.size = w.heap.size + 3 := by simp
  simp only [World.size_alloc] at hT hR
  have c0 := hP.cell 0 _ rfl
  have t0 := hT.cell 0 _ rfl
  have t1 := hT.cell 1 _ rfl
  have m1 := bd_mul (a := c) (b := td) (A := 3600) (B := 1000000) (by omega) (by omega) (by omega)
  have m2 := Int.mul_pos (show 0 < c by omega) (show 0 < td by omega)
  have z1 := wrap_id (c * td) (by unfold I64; omega)
  have n1 := Int.emod_nonneg tn (show c * td ≠ 0 by omega)
  have n2 := Int.emod_lt_of_pos tn m2
  have HM := fun V => modulo_any tn (c * td) V (by omega) (by unfold I64; omega)
  obtain ⟨now, hnow⟩ : ∃ x, tn % (c * td) = x := ⟨_, rfl⟩
  rw [hnow] at n1 n2 HM ⊢
  have HA := Lib.hid hA3
  have HP0 := Lib.hid hP
  have HT0 := Lib.hid hT
  have HR0 := Lib.hid hR
  have HS3 := Lib.hid hs3
  clear hA3 hP hT hR hs3
  refine (callsIn_wide (n := 9)).1 ?_
  unfold ptV
  refine callsIn_of_wp_marks Try.func27 rfl trivial ?_ rfl
  simp only [Try.ntmps27, List.size_toArray, List.length_cons, List.length_nil, Nat.reduceAdd, Nat.reduceSub, Array.replicate_succ, Array.replicate_zero, List.push_toArray, List.append_toArray, List.nil_append, List.cons_append]
  gi_wp2_with fail
  refine ⟨trivial, callsIn_wide.2 ?_⟩
  refine (HM _).mono ?_
  rintro e w' ⟨rfl, hw'⟩
  obtain rfl := hw'.symm
  clear HM c0 t0 t1 hw'
  -- the boxes of now and of the leg, and the path's copy
  generalize hW3 : (((w.alloc (.cells #[.int .i64 c, .int .i64 h, .slice a l.length cap] 55)).alloc (.cells #[.int .i64 tn, .int .i64 td] 24)).alloc (.cells #[.int .i64 0, .int .i64 0] 24)) = w3 at *
  have hA := HA.out
  have hs3 := HS3.out
  have hA4 := (hA.alloc hA.size (.cells #[.int .i64 now] 3)).alloc (by have := hA.size; simp only [World.size_alloc]; omega) (.cells #[.int .i64 0, .int .i64 0, .int .i64 0, .int .i64 0] 80)
  have hP4 := (HP0.out.alloc (.cells #[.int .i64 now] 3)).alloc (.cells #[.int .i64 0, .int .i64 0, .int .i64 0, .int .i64 0] 80)
  have p0 := hP4.cell 0 _ rfl
  have p1 := hP4.cell 1 _ rfl
  have p2 := hP4.cell 2 _ rfl
  have HL := fun V => legs_any c h (.slice a l.length cap) V
  unfold ptV at HL
  gi_wp2_with fail
  refine ⟨trivial, callsIn_wide.2 ?_⟩
  refine (HL _).mono ?_
  rintro e w' ⟨rfl, hw'⟩
  obtain rfl := hw'.symm
  clear HL hw' p0 p1 p2
  have hA5 := hA4.alloc hA4.size (.cells #[.int .i64 c, .int .i64 h, .slice a l.length cap] 55)
  have hT5 := ((HT0.out.alloc (.cells #[.int .i64 now] 3)).alloc (.cells #[.int .i64 0, .int .i64 0, .int .i64 0, .int .i64 0] 80)).alloc (.cells #[.int .i64 c, .int .i64 h, .slice a l.length cap] 55)
  have hR5 := ((HR0.out.alloc (.cells #[.int .i64 now] 3)).alloc (.cells #[.int .i64 0, .int .i64 0, .int .i64 0, .int .i64 0] 80)).alloc (.cells #[.int .i64 c, .int .i64 h, .slice a l.length cap] 55)
  have hN5 := ((Blk.new w3 #[.int .i64 now] 3).alloc (.cells #[.int .i64 0, .int .i64 0, .int .i64 0, .int .i64 0] 80)).alloc (.cells #[.int .i64 c, .int .i64 h, .slice a l.length cap] 55)
  have hH5 := (Blk.new (w3.alloc (.cells #[.int .i64 now] 3)) #[.int .i64 0, .int .i64 0, .int .i64 0, .int .i64 0] 80).alloc (.cells #[.int .i64 c, .int .i64 h, .slice a l.length cap] 55)
  have hI5 := Blk.new ((w3.alloc (.cells #[.int .i64 now] 3)).alloc (.cells #[.int .i64 0, .int .i64 0, .int .i64 0, .int .i64 0] 80)) #[.int .i64 c, .int .i64 h, .slice a l.length cap] 55
  simp only [World.size_alloc, hs3] at hN5 hH5 hI5
  have hz5 : (((w3.alloc (.cells #[.int .i64 now] 3)).alloc (.cells #[.int .i64 0, .int .i64 0, .int .i64 0, .int .i64 0] 80)).alloc (.cells #[.int .i64 c, .int .i64 h, .slice a l.length cap] 55)).heap.size = w.heap.size + 6 := by simp only [World.size_alloc, hs3]
  replace hz5 := And.intro (Nat.le_of_eq hz5) (Nat.le_of_eq hz5.symm)
  clear hA hA4 hP4 HA HP0 HT0 HR0
  gi_wp2_with fail
  generalize ((w3.alloc (.cells #[.int .i64 now] 3)).alloc (.cells #[.int .i64 0, .int .i64 0, .int .i64 0, .int .i64 0] 80)).alloc (.cells #[.int .i64 c, .int .i64 h, .slice a l.length cap] 55) = w5 at *
  clear hs3 HS3 hW3
  have hr5 : RSps (vis (fun k => ¬ k = w.heap.size + 3 + 1) w5) (.slice a l.length cap) l := hr.mono (ext_vis_all (ext_of_below hA5) (fun k hk => by omega))
  have hlast := lgB_last c h l
  refine wpIn_range_c (fun j => j = 0) (fun k => k = w.heap.size + 3 + 1) rfl (by simp [Fence.wide]) (gf := 61) (lb := #[.pointer (some ⟨w.heap.size + 3 + 1 + 1, 0, none⟩)]) rfl trivial (enters_of Try.func61 (by kernel_rfl) rfl)
    (legIt_any _ Fence.wide _ trivial rfl rfl c h a cap l _ w5 hr5 (by omega) (fun k hk => by omega) hI5) (fun k x hx => by obtain ⟨_, rfl⟩ := encL_ix hx; rfl)
    (fun k W => (∃ x y : Sp, Blk W (w.heap.size + 3 + 1) #[.int .i64 x.lo, .int .i64 x.hi, .int .i64 y.lo, .int .i64 y.hi] 80) ∧ (∀ j, j < k → (lgB c h l j).lo * td < now) ∧ BelS (fun k => k = w.heap.size + 3 + 1) w5.heap.size w5 W ∧ Below w.heap.size w W)
    (fun cc W => cc = .exit 0 ∧ ∃ i, LegIs c h l td now i ∧ Blk W (w.heap.size + 3 + 1) (lgC (lgA h l i) (lgB c h l i)) 80 ∧ BelS (fun k => k = w.heap.size + 3 + 1) w5.heap.size w5 W ∧ Below w.heap.size w W) (fun _ _ => False)
    ?hI ?hIx (fun _ _ _ _ h => h.elim) ?hIT ⟨⟨⟨0, 0⟩, ⟨0, 0⟩, hH5⟩, fun j hj => absurd hj (by omega), BelS.refl _ _ _, hA5⟩
    (fun x a' W => ∃ vs x0, x = #[x0] ∧ x0 = .agg vs ∧ Blk W (w.heap.size + 3 + 1) vs 80 ∧ a' = { tmps := #[.agg #[.int .i64 c, .int .i64 h, .slice a l.length cap], .agg #[.int .i64 tn, .int .i64 td], .pointer (some ⟨w.heap.size, 0, none⟩), .pointer (some ⟨w.heap.size + 1, 0, none⟩), .pointer (some ⟨w.heap.size + 1 + 1, 0, none⟩), .pointer (some ⟨w.heap.size + 3, 0, none⟩), .pointer (some ⟨w.heap.size + 3 + 1, 0, none⟩), undef, undef, .pointer (some ⟨w.heap.size + 1, 0, none⟩), .int .i64 tn, .pointer (some ⟨w.heap.size, 0, none⟩), .int .i64 c, .pointer (some ⟨w.heap.size + 1, 1, none⟩), .int .i64 td, .int .i64 (c * td), .int .i64 now, .agg #[.int .i64 c, .int .i64 h, .slice a l.length cap], .func (.func 61) #[] #[.pointer (some ⟨w.heap.size + 3 + 1 + 1, 0, none⟩)], x0, undef, undef, undef, undef, undef, undef, undef, undef, undef, undef, undef, undef, undef, undef, undef, undef, undef, undef, undef, undef, undef, undef, undef, undef, undef, undef, undef, undef, undef, undef, undef, undef, undef, undef, undef, undef, undef, undef, undef, undef, undef, undef, undef, undef, undef, undef, undef], defers := [] })
    ?hAx ?assign ?body ?done ?stop ?panic
  case panic => exact fun D ch W _ h => h.elim
  case hI =>
    rintro k X Y row ⟨⟨x, y, h1⟩, h2, h3, h4⟩ hg hr
    exact ⟨⟨x, y, (blk_own (β := Unit) (w.heap.size + 3 + 1) _ (fun _ => #[.int .i64 x.lo, .int .i64 x.hi, .int .i64 y.lo, .int .i64 y.hi])) () X Y row h1 hg (fun r e => (hr r e).2)⟩, h2, ownFrom_bel (β := Unit) (Nat.le_refl _) (Nat.le_refl _) () X Y row h3 hg hr, ownFrom_below (β := Unit) (Nat.le_refl _) (by omega) () X Y row h4 hg hr⟩
  case hIx =>
    rintro cc k X Y row ⟨h0, i, h1, h2, h3, h4⟩ hg hr
    exact ⟨h0, i, h1, (blk_own (β := Unit) (w.heap.size + 3 + 1) _ (fun _ => lgC (lgA h l i) (lgB c h l i))) () X Y row h2 hg (fun r e => (hr r e).2), ownFrom_bel (β := Unit) (Nat.le_refl _) (Nat.le_refl _) () X Y row h3 hg hr, ownFrom_below (β := Unit) (Nat.le_refl _) (by omega) () X Y row h4 hg hr⟩
  case hIT =>
    rintro k X p v ⟨⟨x, y, h1⟩, h2, h3, h4⟩ hp ho
    exact ⟨⟨x, y, h1.other p v (by omega)⟩, h2, h3.set p v (.inl (by omega)), h4.setCell (by omega) v⟩
  case hAx =>
    rintro x a' k X Y row ⟨vs, x0, h1, h2, h3, h4⟩ hg hr
    exact ⟨vs, x0, h1, h2, (blk_own (β := Unit) (w.heap.size + 3 + 1) _ (fun _ => vs)) () X Y row h3 hg (fun r e => (hr r e).2), h4⟩
  case assign =>
    rintro j k x W K hx hWs ⟨⟨x', y', hH⟩, hlt, hBS, hBel⟩ hK
    obtain ⟨hk, rfl⟩ := encL_ix hx
    clear hx
    have hv : lgV (lgA h l k) (lgB c h l k) = .agg (lgC (lgA h l k) (lgB c h l k)) := rfl
    unfold lgV at hK ⊢
    generalize lgA h l k = x at *
    generalize lgB c h l k = y at *
    have b0 := hH.cell 0 _ rfl
    have b1 := hH.cell 1 _ rfl
    have b2 := hH.cell 2 _ rfl
    have b3 := hH.cell 3 _ rfl
    have g0 := hH.frozen 0
    have g1 := hH.frozen 1
    have g2 := hH.frozen 2
    have g3 := hH.frozen 3
    obtain ⟨HK, HS, HC, HB, HW⟩ := store4S (S := fun k => k = w.heap.size + 3 + 1) (n0 := w5.heap.size) (B := w5.heap.size) hH rfl (by omega) hBel (.int .i64 x.lo) (.int .i64 x.hi) (.int .i64 y.lo) (.int .i64 y.hi)
    have HS2 := Lib.hid (hBS.trans HS.out)
    have HLT := Lib.hid hlt
    clear hH hlt hBS hBel
    gi_wp2
    exact hK _ _ HK.out HS.out HC.out ⟨⟨x, y, HB.out⟩, HLT.out, HS2.out, HW.out⟩ ⟨_, _, rfl, rfl, HB.out, rfl⟩
  case body =>
    rintro j k x a' W hx hWs ⟨-, hlt, hBS, hBel⟩ ⟨vs, x0, he, hv, hX, rfl⟩
    obtain ⟨hk, rfl⟩ := encL_ix hx
    simp only [Array.mk.injEq, List.cons.injEq, and_true] at he
    subst he
    unfold lgV at hv
    simp only [Value.agg.injEq] at hv
    subst hv
    have hok := legOk_of H hk
    have hTW := hBS.blk hT5 (by omega) (by omega)
    have hNW := hBS.blk hN5 (by omega) (by omega)
    have e0 := hNW.cell 0 _ rfl
    have e1 := hTW.cell 1 _ rfl
    have e2 := hX.cell 2 _ rfl
    have hpb := (posN_bd hok ht (show 0 ≤ now ∧ now ≤ 3600000000 by omega)).2.2.2.2.2
    have z2 := wrap_id ((lgB c h l k).lo * td) (by unfold I64; omega)
    have HX := Lib.hid hX
    have HLI : Hid (now ≤ (lgB c h l k).lo * td → LegIs c h l td now k) := Lib.hid (fun h1 => ⟨hk, h1, hlt⟩)
    have HLN : Hid (¬ now ≤ (lgB c h l k).lo * td → ∀ j, j < k + 1 → (lgB c h l j).lo * td < now) := Lib.hid (fun h1 j hj => by
      by_cases hjk : j = k
      · subst hjk; omega
      · exact hlt j (by omega))
    have HBS := Lib.hid hBS
    have HBel := Lib.hid hBel
    clear hX hlt hBS hBel hTW hNW hok
    generalize hxa : lgA h l k = xa at *
    generalize hyb : lgB c h l k = yb at *
    by_cases hle : now ≤ yb.lo * td
    · gi_wp2
      exact ⟨(KeepsOthers.refl _).from _, k, HLI.out hle, by rw [hxa, hyb]; exact HX.out, HBS.out, HBel.out⟩
    · gi_wp2
      exact ⟨(KeepsOthers.refl _).from _, BelS.refl _ _ _, CK.refl _ _, ⟨xa, yb, HX.out⟩, HLN.out hle, HBS.out, HBel.out⟩
  case done =>
    rintro D W hD ⟨-, hlt, -, -⟩ hKD
    exfalso
    rw [encL_len] at hlt
    have h1 := hlt (nL l - 1) (by unfold nL; omega)
    rw [hlast] at h1
    omega
  case stop =>
    rintro D cc W hD ⟨rfl, i, hLI, hX, hBS, hBel⟩ hKD
    have hok := legOk_of H hLI.1
    have hTW := hBS.blk hT5 (by omega) (by omega)
    have hNW := hBS.blk hN5 (by omega) (by omega)
    have hRW := hBS.blk hR5 (by omega) (by omega)
    have hpb := posN_bd hok ht (show 0 ≤ now ∧ now ≤ 3600000000 by omega)
    obtain ⟨m3, m4, m5, m6, m7, -⟩ := hpb
    have o1 := hok.a; have o2 := hok.b; have o3 := hok.c
    have HP1 : Hid (∃ i, LegIs c h l td now i ∧ Ending.returned (rtV (posF (lgA h l i) (lgB c h l i) td now)) = .returned (rtV (posF (lgA h l i) (lgB c h l i) td now))) := Lib.hid ⟨i, hLI, rfl⟩
    obtain ⟨R, hRp⟩ : ∃ R, posF (lgA h l i) (lgB c h l i) td now = R := ⟨_, rfl⟩
    have HRR : Hid (∃ i, LegIs c h l td now i ∧ Ending.returned (rtV R) = .returned (rtV (posF (lgA h l i) (lgB c h l i) td now))) := Lib.hid ⟨i, hLI, by rw [hRp]⟩
    clear HP1
    rw [lgC_eq] at hX
    generalize lgA h l i = x at *
    generalize lgB c h l i = y at *
    have HRat := fun V => ratio_any (posN x y td now) (td * (y.lo - x.lo)) V (by unfold posN; omega) (by omega)
    rw [rat_pos (by omega), show mk (posN x y td now) (td * (y.lo - x.lo)) = R from hRp] at HRat
    unfold posN rtV at HRat
    have z2 := wrap_id (y.lo - x.lo) (by unfold I64; omega)
    have z3 := wrap_id (y.hi - x.hi) (by unfold I64; omega)
    have y2 := IntWalk.i64_in (y.lo - x.lo) (by omega)
    have y3 := IntWalk.i64_in (y.hi - x.hi) (by omega)
    have z4 := wrap_id (x.hi * td) (by unfold I64; omega)
    have z5 := wrap_id (x.hi * td * (y.lo - x.lo)) (by unfold I64; omega)
    have z6 := wrap_id (x.lo * td) (by unfold I64; omega)
    have z7 := wrap_id (now - x.lo * td) (by unfold I64; omega)
    have z8 := wrap_id ((y.hi - x.hi) * (now - x.lo * td)) (by unfold I64; omega)
    have z9 := wrap_id (x.hi * td * (y.lo - x.lo) + (y.hi - x.hi) * (now - x.lo * td)) (by unfold I64; omega)
    have z10 := wrap_id (td * (y.lo - x.lo)) (by unfold I64; omega)
    have e0 := hX.cell 0 _ rfl
    have e1 := hX.cell 1 _ rfl
    have e2 := hX.cell 2 _ rfl
    have e3 := hX.cell 3 _ rfl
    have hDW : D < W.heap.size := (Array.getElem?_eq_some_iff.1 hKD).1
    have hsW := hBS.size
    have HNW := Lib.hid hNW
    have HTW := Lib.hid hTW
    have HXW := Lib.hid hX
    have HRW := Lib.hid hRW
    have HKD := Lib.hid hKD
    have HBel := Lib.hid hBel
    clear hX hNW hTW hRW hKD hBel hBS hok m3 m4 m5 m6 m7 o1 o2 o3 hLI hRp hr5 hA5 hT5 hR5 hN5 hH5 hI5 hr H
    gi_wp2_with fail
    refine wpIn_wide.2 ?_
    go_quiet (fail)
    have D0 := below_dr W nq
    have hX2 := HXW.out.below D0 HXW.out.lt
    have hN2 := HNW.out.below D0 HNW.out.lt
    have hT2 := HTW.out.below D0 HTW.out.lt
    have hR2 := HRW.out.below D0 HRW.out.lt
    have hKD2 : (W.drewN nq).heap[D]? = some (.deferred (some [])) := (D0.block D hDW).trans HKD.out
    have hBel2 := HBel.out.trans (D0.mono HBel.out.size)
    have hDW2 : D < (W.drewN nq).heap.size := Nat.lt_of_lt_of_le hDW D0.size
    clear HXW HNW HTW HRW HKD HBel D0
    clear e0 e1 e2 e3
    generalize W.drewN nq = W2 at *
    have e0 := hX2.cell 0 _ rfl
    have e1 := hX2.cell 1 _ rfl
    have t1 := hT2.cell 1 _ rfl
    have n0 := hN2.cell 0 _ rfl
    gi_wp2_with fail
    refine ⟨trivial, callsIn_wide.2 ?_⟩
    refine (HRat _).mono ?_
    rintro e w3 ⟨rfl, hb3⟩
    clear HRat z2 z3 z4 z5 z6 z7 z8 z9 z10 y2 y3 e0 e1 t1 n0 hX2 hN2 hT2
    have hsz2 := hBel2.size
    obtain ⟨r0, r1, f0, f1, HE, C0, C1⟩ := store2 hBel2 hR2 (by omega) hb3 (.int .i64 R.n) (.int .i64 R.d)
    have hKD3 : w3.heap[D]? = some (.deferred (some [])) := (hb3.block D hDW2).trans hKD2
    have HK3 : Hid (((w3.setCell ⟨w.heap.size + 1 + 1, 0, none⟩ (.int .i64 R.n)).setCell ⟨w.heap.size + 1 + 1, 1, none⟩ (.int .i64 R.d)).heap[D]? = some (.deferred (some []))) := Lib.hid ((Below.heap_setCell _ _ _ _ (by simp only; omega)).trans ((Below.heap_setCell _ _ _ _ (by simp only; omega)).trans hKD3))
    clear hb3 hR2 hKD2 hKD3 hBel2
    gi_wp2
    have c0 := C0.out
    have c1 := C1.out
    have hE := HE.out
    have hK := HK3.out
    clear C0 C1 HE HK3 r0 r1 f0 f1
    generalize ((w3.setCell ⟨w.heap.size + 1 + 1, 0, none⟩ (.int .i64 R.n)).setCell ⟨w.heap.size + 1 + 1, 1, none⟩ (.int .i64 R.d)) = WE at c0 c1 hE hK ⊢
    have hPD := hE.trans (belowK_b (w := w) (Nat.le_refl _) WE D _ (.deferred none) (by omega) hK rfl rfl)
    refine ⟨by simp, .inl ⟨_, _, rfl, run_takeDeferred hK, ?_⟩⟩
    refine ⟨.agg #[.int .i64 R.n, .int .i64 R.d], ?_, HRR.out, hPD⟩
    have e0 : (WE.putObj D (Obj.deferred none)).cell? ⟨w.heap.size + 1 + 1, 0, none⟩ = some (.int .i64 R.n) := by
      simp only [World.cell?, World.putObj_heap_other (show w.heap.size + 1 + 1 ≠ D by omega)]
      exact c0
    have e1 : (WE.putObj D (Obj.deferred none)).cell? ⟨w.heap.size + 1 + 1, 1, none⟩ = some (.int .i64 R.d) := by
      simp only [World.cell?, World.putObj_heap_other (show w.heap.size + 1 + 1 ≠ D by omega)]
      exact c1
    clear c0 c1 hK hE hPD
    generalize WE.putObj D (Obj.deferred none) = WF at *
    simp [results, Try.results27, go_sem, e0, e1]
end Go.Proofs.Ytnldenjdbgfgmaa
