/- What orders get of a day's shift: works.plus; no statement is proved here. -/
import Derived.Test.YtdffhkbncencgaaPlFol
namespace Go.Proofs.Ytdffhkbncencgaa
open Go.RowKit Go.PlainAid
set_option linter.unusedVariables false
set_option linter.unusedSimpArgs false

/-- what an order of an article gets of a shift: of the first so many machines. -/
def addK (x : Oc) (a : Int) (j : Nat) : Int := ((List.range j).map fun m => if g x.sh m = a then g x.made m else 0).sum
theorem addK_step (x : Oc) (a : Int) (j : Nat) : addK x a (j + 1) = addK x a j + if g x.sh j = a then g x.made j else 0 := by
  unfold addK; rw [List.range_succ, List.map_append, List.sum_append]; simp
def odAt (s : Sn) (i : Nat) : Od := (s.ods[i]?).getD ⟨0, 0, 0, 0⟩
def plStep (s : Sn) (day : Int) (x : Oc) (c : List Int) (i : Nat) : List Int := if (odAt s i).due < day then c else c.set i (g c i + addK x (odAt s i).art 6)
def plusK (s : Sn) (got : List Int) (day : Int) (x : Oc) (k : Nat) : List Int := (List.range k).foldl (plStep s day x) got
def plusS (s : Sn) (got : List Int) (day : Int) (x : Oc) : List Int := plusK s got day x s.ods.length
theorem plusK_step (s : Sn) (got : List Int) (day : Int) (x : Oc) (k : Nat) : plusK s got day x (k + 1) = plStep s day x (plusK s got day x k) k := by
  unfold plusK; rw [List.range_succ, List.foldl_append]; rfl
theorem plStep_len (s : Sn) (day : Int) (x : Oc) (c : List Int) (i : Nat) : (plStep s day x c i).length = c.length := by
  unfold plStep; split <;> simp
theorem plusK_len (s : Sn) (got : List Int) (day : Int) (x : Oc) : ∀ k, (plusK s got day x k).length = got.length
  | 0 => rfl
  | k + 1 => by rw [plusK_step, plStep_len, plusK_len s got day x k]
/-- counts' cells. -/
def cnC (c : List Int) : Array Value := #[.int .i64 (g c 0), .int .i64 (g c 1), .int .i64 (g c 2), .int .i64 (g c 3), .int .i64 (g c 4), .int .i64 (g c 5), .int .i64 (g c 6), .int .i64 (g c 7)]
theorem cnC_at (c : List Int) {m : Nat} (h : m < 8) : (cnC c)[m]? = some (.int .i64 (g c m)) := by
  obtain rfl | rfl | rfl | rfl | rfl | rfl | rfl | rfl : m = 0 ∨ m = 1 ∨ m = 2 ∨ m = 3 ∨ m = 4 ∨ m = 5 ∨ m = 6 ∨ m = 7 := by omega
  all_goals rfl
theorem g_setL (c : List Int) {m : Nat} (hm : m < c.length) (v : Int) (j : Nat) : g (c.set m v) j = if j = m then v else g c j := by
  unfold g
  by_cases h : j = m
  · subst h; simp [List.getD, hm]
  · rw [if_neg h]; simp [List.getD, List.getElem?_set, Ne.symm h]
theorem cnC_set (c : List Int) (hc : c.length = 8) {m : Nat} (hm : m < 8) (v : Int) : (cnC c).setIfInBounds m (.int .i64 v) = cnC (c.set m v) := by
  unfold cnC
  simp only [g_setL c (show m < c.length by omega) v]
  obtain rfl | rfl | rfl | rfl | rfl | rfl | rfl | rfl : m = 0 ∨ m = 1 ∨ m = 2 ∨ m = 3 ∨ m = 4 ∨ m = 5 ∨ m = 6 ∨ m = 7 := by omega
  all_goals rfl
theorem cnC_one (c : List Int) : (cnC c).all (·.oneCell') = true := by simp [cnC, Value.oneCell']
theorem cn_cell {w : World} {K n : Nat} {c : List Int} {t : TypeId} (h : Blk w K (cnC c) t) (hn : n < 8) : w.cell? ⟨K, n, none⟩ = some (.int .i64 (g c n)) ∧ w.frozen? ⟨K, n, none⟩ = false := ⟨h.cell n _ (cnC_at c hn), h.frozen n⟩
theorem cn_set {w : World} {K n : Nat} {c : List Int} {t : TypeId} (h : Blk w K (cnC c) t) (hc : c.length = 8) (hn : n < 8) (V : Int) : Blk (w.setCell ⟨K, n, none⟩ (.int .i64 V)) K (cnC (c.set n V)) t := by
  have := h.set n (.int .i64 V)
  rwa [cnC_set c hc hn V] at this
def z8 : List Int := [0, 0, 0, 0, 0, 0, 0, 0]
theorem set_set (c : List Int) (i : Nat) (u v : Int) : (c.set i u).set i v = c.set i v := by simp
theorem set_g {c : List Int} {i : Nat} (h : i < c.length) : c.set i (g c i) = c := by
  unfold g; simp [List.getD, List.getElem?_eq_getElem h]

theorem run_idx_crew (c : List Int) {j : Nat} (hj : j < 6) (W : World) : (Instr.index 71 (.agg #[.int .i64 (g c 0), .int .i64 (g c 1), .int .i64 (g c 2), .int .i64 (g c 3), .int .i64 (g c 4), .int .i64 (g c 5)]) (.int .i64 (j : Int))).run Try.prog W = .ok (.int .i64 (g c j)) W := by
  obtain ⟨i, hi, hz⟩ := Option.map_eq_some_iff.1 sz_i64
  obtain rfl | rfl | rfl | rfl | rfl | rfl : j = 0 ∨ j = 1 ∨ j = 2 ∨ j = 3 ∨ j = 4 ∨ j = 5 := by omega
  all_goals simp [Instr.index, go_sem, Try.underlying71, hi, hz]
def CnB (c : List Int) : Prop := c.length = 8 ∧ ∀ i, i < 8 → 0 ≤ g c i ∧ g c i ≤ 1000000000000
def OcB (x : Oc) : Prop := ∀ m, m < 6 → 0 ≤ g x.made m ∧ g x.made m ≤ 1000000
theorem addK_bd {x : Oc} (h : OcB x) (a : Int) : ∀ j, j ≤ 6 → 0 ≤ addK x a j ∧ addK x a j ≤ 1000000 * j
  | 0, _ => by simp [addK]
  | j + 1, hj => by
    have h1 := addK_bd h a j (by omega)
    have h2 := h j (by omega)
    rw [addK_step]
    split <;> omega
theorem plusK_bd {s : Sn} {got : List Int} {day : Int} {x : Oc} (hx : OcB x) {B : Int} (hg : got.length = 8) (hb : ∀ i, i < 8 → 0 ≤ g got i ∧ g got i ≤ B) (hB : 0 ≤ B) : ∀ k, k ≤ 8 → ∀ i, i < 8 → 0 ≤ g (plusK s got day x k) i ∧ g (plusK s got day x k) i ≤ (if i < k then B + 6000000 else B)
  | 0, _, i, hi => by simpa [plusK] using hb i hi
  | k + 1, hk, i, hi => by
    have h1 := plusK_bd (s := s) (day := day) hx hg hb hB k (by omega) i hi
    have hl := plusK_len s got day x k
    rw [plusK_step]
    unfold plStep
    split
    · split <;> split at h1 <;> omega
    · rw [g_setL _ (by omega)]
      have h2 := addK_bd hx (odAt s k).art 6 (by omega)
      by_cases e : i = k
      · subst e
        rw [if_neg (by omega)] at h1
        rw [if_pos rfl, if_pos (by omega)]
        omega
      · rw [if_neg e]
        split <;> split at h1 <;> omega
theorem plusS_bd {s : Sn} (ok : OkS s) {got : List Int} {day : Int} {x : Oc} (hx : OcB x) {B : Int} (hg : got.length = 8) (hb : ∀ i, i < 8 → 0 ≤ g got i ∧ g got i ≤ B) (hB : 0 ≤ B) : (plusS s got day x).length = 8 ∧ ∀ i, i < 8 → 0 ≤ g (plusS s got day x) i ∧ g (plusS s got day x) i ≤ B + 6000000 := by
  refine ⟨by unfold plusS; rw [plusK_len]; exact hg, fun i hi => ?_⟩
  have := plusK_bd (s := s) (day := day) hx hg hb hB s.ods.length (by have := ok.nd; have := ok.na; omega) i hi
  unfold plusS
  split at this <;> omega

set_option maxHeartbeats 8000000 in
set_option maxRecDepth 100000 in
theorem plus_any (s : Sn) (d : SA) (v7 : Value) (got : List Int) (day : Int) (x : Oc) (w : World) (h : SnD w s d) (ok : OkS s) (hg : got.length = 8) (hgb : ∀ i, i < 8 → 0 ≤ g got i ∧ g got i ≤ 1000000000000) (hx : OcB x) :
    Calls Try.prog 71 #[.agg #[.int .i64 s.days, .slice d.a1 s.arts.length d.c1, .slice d.a2 s.ovens.length d.c2, .slice d.a3 s.mks.length d.c3, .slice d.a4 s.jobs.length d.c4, .slice d.a5 s.cols.length d.c5, .slice d.a6 s.ods.length d.c6, v7], .agg (cnC got), .int .i64 day, .agg (ocV x)] w fun e w' => e = .returned (.agg (cnC (plusS s got day x))) ∧ Below w.heap.size w w' := by
  have hno : s.ods.length ≤ 8 := by have := ok.nd; have := ok.na; omega
  have hrm := h.ods.len
  have A0 := below_box w (.cells #[.int .i64 s.days, .slice d.a1 s.arts.length d.c1, .slice d.a2 s.ovens.length d.c2, .slice d.a3 s.mks.length d.c3, .slice d.a4 s.jobs.length d.c4, .slice d.a5 s.cols.length d.c5, .slice d.a6 s.ods.length d.c6, v7] 63)
  have A1 := A0.alloc (by simp) (.cells #[.int .i64 (g got 0), .int .i64 (g got 1), .int .i64 (g got 2), .int .i64 (g got 3), .int .i64 (g got 4), .int .i64 (g got 5), .int .i64 (g got 6), .int .i64 (g got 7)] 92)
  have A2 := A1.alloc (by simp; omega) (.cells #[.int .i64 (g x.sh 0), .int .i64 (g x.sh 1), .int .i64 (g x.sh 2), .int .i64 (g x.sh 3), .int .i64 (g x.sh 4), .int .i64 (g x.sh 5), .int .i64 x.cost, .int .i64 (g x.made 0), .int .i64 (g x.made 1), .int .i64 (g x.made 2), .int .i64 (g x.made 3), .int .i64 (g x.made 4), .int .i64 (g x.made 5)] 82)
  have A3 := A2.alloc (by simp; omega) (.cells #[.int .i64 0, .int .i64 0, .int .i64 0, .int .i64 0, .int .i64 0, .int .i64 0, .int .i64 0, .int .i64 0] 92)
  have b0 := (((Blk.new w #[.int .i64 s.days, .slice d.a1 s.arts.length d.c1, .slice d.a2 s.ovens.length d.c2, .slice d.a3 s.mks.length d.c3, .slice d.a4 s.jobs.length d.c4, .slice d.a5 s.cols.length d.c5, .slice d.a6 s.ods.length d.c6, v7] 63).alloc (.cells #[.int .i64 (g got 0), .int .i64 (g got 1), .int .i64 (g got 2), .int .i64 (g got 3), .int .i64 (g got 4), .int .i64 (g got 5), .int .i64 (g got 6), .int .i64 (g got 7)] 92)).alloc (.cells #[.int .i64 (g x.sh 0), .int .i64 (g x.sh 1), .int .i64 (g x.sh 2), .int .i64 (g x.sh 3), .int .i64 (g x.sh 4), .int .i64 (g x.sh 5), .int .i64 x.cost, .int .i64 (g x.made 0), .int .i64 (g x.made 1), .int .i64 (g x.made 2), .int .i64 (g x.made 3), .int .i64 (g x.made 4), .int .i64 (g x.made 5)] 82)).alloc (.cells #[.int .i64 0, .int .i64 0, .int .i64 0, .int .i64 0, .int .i64 0, .int .i64 0, .int .i64 0, .int .i64 0] 92)
  have b1 : Blk _ _ (cnC got) 92 := ((Blk.new (w.alloc (.cells #[.int .i64 s.days, .slice d.a1 s.arts.length d.c1, .slice d.a2 s.ovens.length d.c2, .slice d.a3 s.mks.length d.c3, .slice d.a4 s.jobs.length d.c4, .slice d.a5 s.cols.length d.c5, .slice d.a6 s.ods.length d.c6, v7] 63)) #[.int .i64 (g got 0), .int .i64 (g got 1), .int .i64 (g got 2), .int .i64 (g got 3), .int .i64 (g got 4), .int .i64 (g got 5), .int .i64 (g got 6), .int .i64 (g got 7)] 92).alloc (.cells #[.int .i64 (g x.sh 0), .int .i64 (g x.sh 1), .int .i64 (g x.sh 2), .int .i64 (g x.sh 3), .int .i64 (g x.sh 4), .int .i64 (g x.sh 5), .int .i64 x.cost, .int .i64 (g x.made 0), .int .i64 (g x.made 1), .int .i64 (g x.made 2), .int .i64 (g x.made 3), .int .i64 (g x.made 4), .int .i64 (g x.made 5)] 82)).alloc (.cells #[.int .i64 0, .int .i64 0, .int .i64 0, .int .i64 0, .int .i64 0, .int .i64 0, .int .i64 0, .int .i64 0] 92)
  have b2 : Blk _ _ (ocC x.sh x.cost x.made) 82 := (Blk.new ((w.alloc (.cells #[.int .i64 s.days, .slice d.a1 s.arts.length d.c1, .slice d.a2 s.ovens.length d.c2, .slice d.a3 s.mks.length d.c3, .slice d.a4 s.jobs.length d.c4, .slice d.a5 s.cols.length d.c5, .slice d.a6 s.ods.length d.c6, v7] 63)).alloc (.cells #[.int .i64 (g got 0), .int .i64 (g got 1), .int .i64 (g got 2), .int .i64 (g got 3), .int .i64 (g got 4), .int .i64 (g got 5), .int .i64 (g got 6), .int .i64 (g got 7)] 92)) #[.int .i64 (g x.sh 0), .int .i64 (g x.sh 1), .int .i64 (g x.sh 2), .int .i64 (g x.sh 3), .int .i64 (g x.sh 4), .int .i64 (g x.sh 5), .int .i64 x.cost, .int .i64 (g x.made 0), .int .i64 (g x.made 1), .int .i64 (g x.made 2), .int .i64 (g x.made 3), .int .i64 (g x.made 4), .int .i64 (g x.made 5)] 82).alloc (.cells #[.int .i64 0, .int .i64 0, .int .i64 0, .int .i64 0, .int .i64 0, .int .i64 0, .int .i64 0, .int .i64 0] 92)
  have b3 := Blk.new (((w.alloc (.cells #[.int .i64 s.days, .slice d.a1 s.arts.length d.c1, .slice d.a2 s.ovens.length d.c2, .slice d.a3 s.mks.length d.c3, .slice d.a4 s.jobs.length d.c4, .slice d.a5 s.cols.length d.c5, .slice d.a6 s.ods.length d.c6, v7] 63)).alloc (.cells #[.int .i64 (g got 0), .int .i64 (g got 1), .int .i64 (g got 2), .int .i64 (g got 3), .int .i64 (g got 4), .int .i64 (g got 5), .int .i64 (g got 6), .int .i64 (g got 7)] 92)).alloc (.cells #[.int .i64 (g x.sh 0), .int .i64 (g x.sh 1), .int .i64 (g x.sh 2), .int .i64 (g x.sh 3), .int .i64 (g x.sh 4), .int .i64 (g x.sh 5), .int .i64 x.cost, .int .i64 (g x.made 0), .int .i64 (g x.made 1), .int .i64 (g x.made 2), .int .i64 (g x.made 3), .int .i64 (g x.made 4), .int .i64 (g x.made 5)] 82)) #[.int .i64 0, .int .i64 0, .int .i64 0, .int .i64 0, .int .i64 0, .int .i64 0, .int .i64 0, .int .i64 0] 92
  simp only [World.size_alloc] at b1 b2 b3
  have y6 := b0.cell 6 _ rfl
  go_enter Try.func71, Try.ntmps71
  rw [show (cnC got) = #[.int .i64 (g got 0), .int .i64 (g got 1), .int .i64 (g got 2), .int .i64 (g got 3), .int .i64 (g got 4), .int .i64 (g got 5), .int .i64 (g got 6), .int .i64 (g got 7)] from rfl, show (ocV x) = #[.int .i64 (g x.sh 0), .int .i64 (g x.sh 1), .int .i64 (g x.sh 2), .int .i64 (g x.sh 3), .int .i64 (g x.sh 4), .int .i64 (g x.sh 5), .int .i64 x.cost, .int .i64 (g x.made 0), .int .i64 (g x.made 1), .int .i64 (g x.made 2), .int .i64 (g x.made 3), .int .i64 (g x.made 4), .int .i64 (g x.made 5)] from rfl]
  go_upto_region 2 with (fail)
  generalize (((w.alloc (.cells #[.int .i64 s.days, .slice d.a1 s.arts.length d.c1, .slice d.a2 s.ovens.length d.c2, .slice d.a3 s.mks.length d.c3, .slice d.a4 s.jobs.length d.c4, .slice d.a5 s.cols.length d.c5, .slice d.a6 s.ods.length d.c6, v7] 63)).alloc (.cells #[.int .i64 (g got 0), .int .i64 (g got 1), .int .i64 (g got 2), .int .i64 (g got 3), .int .i64 (g got 4), .int .i64 (g got 5), .int .i64 (g got 6), .int .i64 (g got 7)] 92)).alloc (.cells #[.int .i64 (g x.sh 0), .int .i64 (g x.sh 1), .int .i64 (g x.sh 2), .int .i64 (g x.sh 3), .int .i64 (g x.sh 4), .int .i64 (g x.sh 5), .int .i64 x.cost, .int .i64 (g x.made 0), .int .i64 (g x.made 1), .int .i64 (g x.made 2), .int .i64 (g x.made 3), .int .i64 (g x.made 4), .int .i64 (g x.made 5)] 82)).alloc (.cells #[.int .i64 0, .int .i64 0, .int .i64 0, .int .i64 0, .int .i64 0, .int .i64 0, .int .i64 0, .int .i64 0] 92) = W at *
  clear A0 A1 A2 y6
  obtain ⟨p6, hp6⟩ : ∃ p, p = d.a6 := ⟨_, rfl⟩
  rw [← hp6]
  have HP6 := Lib.hid hp6
  clear hp6
  go_loopw [17] (fun i wr => ∃ (k : Nat) (c : List Int), k ≤ s.ods.length ∧ i = .int .i64 k ∧ Hid (plusK s got day x k = c) ∧ Blk wr w.heap.size #[.int .i64 s.days, .slice d.a1 s.arts.length d.c1, .slice d.a2 s.ovens.length d.c2, .slice d.a3 s.mks.length d.c3, .slice d.a4 s.jobs.length d.c4, .slice d.a5 s.cols.length d.c5, .slice d.a6 s.ods.length d.c6, v7] 63 ∧ Blk wr (w.heap.size + 1) (cnC c) 92 ∧ Blk wr (w.heap.size + 1 + 1) (ocC x.sh x.cost x.made) 82 ∧ Blk wr (w.heap.size + 1 + 1 + 1) #[.int .i64 0, .int .i64 0, .int .i64 0, .int .i64 0, .int .i64 0, .int .i64 0, .int .i64 0, .int .i64 0] 92 ∧ Below w.heap.size w wr) (fun i _ => s.ods.length - (intOf i).toNat)
  case atStart => exact ⟨0, got, Nat.zero_le _, rfl, Lib.hid rfl, b0, b1, b2, b3, A3⟩
  case round =>
    clear b0 b1 b2 b3 A3
    obtain ⟨k, c, hk, rfl, hc, f0, f1, f2, f3, fA⟩ := hrel
    by_cases hlt : k < s.ods.length
    · have hcl : c.length = 8 := by rw [← hc.out, plusK_len]; exact hg
      have hcb := plusK_bd (s := s) (day := day) hx hg hgb (by omega) k (by omega) k (by omega)
      rw [hc.out, if_neg (by omega)] at hcb
      have hstep := plusK_step s got day x k
      rw [hc.out] at hstep
      obtain ⟨a', c', he, -, -, hl⟩ := id h.ods
      simp only [Value.slice.injEq, true_and] at he
      obtain ⟨ha, hc'⟩ := he
      obtain ⟨b1', o1, he1, ⟨q0, q1, q2, q3⟩, -⟩ := hl k hlt
      have hEx := ext_of_below fA
      have k0 := hEx _ _ q0
      have k1 := hEx _ _ q1
      have k2 := hEx _ _ q2
      have k3 := hEx _ _ q3
      simp only at k0 k1 k2 k3
      have hod : odAt s k = s.ods[k] := by unfold odAt; simp [List.getElem?_eq_getElem hlt]
      unfold plStep at hstep
      rw [hod] at hstep
      have j1 : (0 : Int) ≤ (k : Int) := Int.natCast_nonneg _
      have j2 : (k : Int) < (s.ods.length : Int) := by omega
      have hp : p6 = some ⟨b1', o1, none⟩ := by rw [HP6.out, ha, he1]
      rw [hp]
      have HST := Lib.hid hstep
      clear hl q0 q1 q2 q3 he1 ha hc' hEx hod hstep hc hp
      generalize s.ods[k] = o at *
      have d0 := f0.alloc (.cells #[.int .i64 o.art, .int .i64 o.qty, .int .i64 o.due, .int .i64 o.pen] 55)
      have d1 := f1.alloc (.cells #[.int .i64 o.art, .int .i64 o.qty, .int .i64 o.due, .int .i64 o.pen] 55)
      have d2 := f2.alloc (.cells #[.int .i64 o.art, .int .i64 o.qty, .int .i64 o.due, .int .i64 o.pen] 55)
      have d3 := f3.alloc (.cells #[.int .i64 o.art, .int .i64 o.qty, .int .i64 o.due, .int .i64 o.pen] 55)
      have dO := Blk.new wr #[.int .i64 o.art, .int .i64 o.qty, .int .i64 o.due, .int .i64 o.pen] 55
      have dA := fA.alloc fA.size (.cells #[.int .i64 o.art, .int .i64 o.qty, .int .i64 o.due, .int .i64 o.pen] 55)
      have e2 := dO.cell 2 _ rfl
      have zO : w.heap.size + 1 + 1 + 1 < wr.heap.size := f3.lt
      clear f0 f1 f2 f3 fA
      go_upto_region 4 with (fail)
      generalize hKO : wr.heap.size = KO at *
      clear hKO k0 k1 k2 k3
      generalize wr.alloc (.cells #[.int .i64 o.art, .int .i64 o.qty, .int .i64 o.due, .int .i64 o.pen] 55) = W1 at *
      by_cases hdue : o.due < day
      · have HX : Hid (plusK s got day x (k + 1) = c) := Lib.hid (by have := HST.out; rwa [if_pos hdue] at this)
        clear HST
        have HA := Lib.hid dA
        clear dA
        go_wp2
        go_roundw
        case rel => exact ⟨k + 1, c, by omega, by go_num, HX, d0, d1, d2, d3, HA.out⟩
        case measure => simp [intOf]; omega
      · have HX : Hid (plusK s got day x (k + 1) = c.set k (g c k + addK x o.art 6)) := Lib.hid (by have := HST.out; rwa [if_neg hdue] at this)
        clear HST
        have g2 : Blk W1 (w.heap.size + 1 + 1) #[.int .i64 (g x.sh 0), .int .i64 (g x.sh 1), .int .i64 (g x.sh 2), .int .i64 (g x.sh 3), .int .i64 (g x.sh 4), .int .i64 (g x.sh 5), .int .i64 x.cost, .int .i64 (g x.made 0), .int .i64 (g x.made 1), .int .i64 (g x.made 2), .int .i64 (g x.made 3), .int .i64 (g x.made 4), .int .i64 (g x.made 5)] 82 := d2
        have x0 := g2.cell 0 _ rfl
        have xf0 := g2.frozen 0
        have x1 := g2.cell 1 _ rfl
        have xf1 := g2.frozen 1
        have x2 := g2.cell 2 _ rfl
        have xf2 := g2.frozen 2
        have x3 := g2.cell 3 _ rfl
        have xf3 := g2.frozen 3
        have x4 := g2.cell 4 _ rfl
        have xf4 := g2.frozen 4
        have x5 := g2.cell 5 _ rfl
        have xf5 := g2.frozen 5
        clear g2
        have H0 : Hid (Blk W1 (w.heap.size + 1) (cnC (c.set k (g c k + addK x o.art 0))) 92) := Lib.hid (by
          rw [show addK x o.art 0 = 0 from rfl, Int.add_zero, set_g (by omega)]; exact d1)
        go_upto_region 6 with (fail)
        clear x0 xf0 x1 xf1 x2 xf2 x3 xf3 x4 xf4 x5 xf5
        go_loopw [28] (fun i wr => ∃ (j : Nat), j ≤ 6 ∧ i = .int .i64 j ∧ Blk wr w.heap.size #[.int .i64 s.days, .slice d.a1 s.arts.length d.c1, .slice d.a2 s.ovens.length d.c2, .slice d.a3 s.mks.length d.c3, .slice d.a4 s.jobs.length d.c4, .slice d.a5 s.cols.length d.c5, .slice d.a6 s.ods.length d.c6, v7] 63 ∧ Blk wr (w.heap.size + 1) (cnC (c.set k (g c k + addK x o.art j))) 92 ∧ Blk wr (w.heap.size + 1 + 1) (ocC x.sh x.cost x.made) 82 ∧ Blk wr (w.heap.size + 1 + 1 + 1) #[.int .i64 0, .int .i64 0, .int .i64 0, .int .i64 0, .int .i64 0, .int .i64 0, .int .i64 0, .int .i64 0] 92 ∧ Below w.heap.size w wr ∧ Blk wr KO #[.int .i64 o.art, .int .i64 o.qty, .int .i64 o.due, .int .i64 o.pen] 55) (fun i _ => 6 - (intOf i).toNat)
        case atStart => exact ⟨0, by omega, rfl, d0, H0.out, d2, d3, dA, dO⟩
        case round =>
          clear d0 d1 d2 d3 dA dO H0 e2
          obtain ⟨j, hj, rfl, f0, f1, f2, f3, fA, fO⟩ := hrel
          by_cases hj6 : j < 6
          · have HI := fun W => run_idx_crew x.sh hj6 W
            have hst := addK_step x o.art j
            have hab := addK_bd hx o.art j (by omega)
            have hmb := hx j hj6
            have e0 := fO.cell 0 _ rfl
            have i1 : (0 : Int) ≤ (j : Int) := Int.natCast_nonneg _
            have i2 : (j : Int) < 6 := by omega
            by_cases heq : g x.sh j = o.art
            · rw [if_pos heq] at hst
              have hq : (g x.sh j == o.art) = true := beq_iff_eq.2 heq
              obtain ⟨c9, fz9⟩ := cn_cell f1 (n := k) (by omega)
              have hgs : g (c.set k (g c k + addK x o.art j)) k = g c k + addK x o.art j := by rw [g_setL c (by omega)]; rw [if_pos rfl]
              rw [hgs] at c9
              obtain ⟨p9, pf9⟩ := oc_cell f2 hj6
              obtain ⟨gv, hgv⟩ : ∃ v, g c k + addK x o.art j = v := ⟨_, rfl⟩
              obtain ⟨mv, hmv⟩ : ∃ v, g x.made j = v := ⟨_, rfl⟩
              have HNV : Hid (g c k + addK x o.art (j + 1) = gv + mv) := Lib.hid (by rw [hst, hmv, ← hgv]; omega)
              have hgvb : 0 ≤ gv ∧ gv ≤ 2000000000000 := by omega
              rw [hmv] at p9 hmb
              rw [hgv] at c9 f1
              have i3 : (k : Int) < 8 := by omega
              have D0 : Below wr.heap.size wr wr.drew := (Below.refl _ _).drew
              have h0 := f0.below D0 f0.lt
              have h1 := f1.below D0 f1.lt
              have h2 := f2.below D0 f2.lt
              have h3 := f3.below D0 f3.lt
              have hO := fO.below D0 fO.lt
              have hA := fA.trans (D0.mono fA.size)
              have c9' := ext_of_below D0 _ _ c9
              have p9' := ext_of_below D0 _ _ p9
              clear hst hgs hgv hmv hab hcb heq fz9 pf9
              go_upto_region 9 with (fail)
              refine wp_region_till (fun w' : World => w'.cell? ⟨w.heap.size + 1, k, none⟩ = some (.int .i64 gv) ∧ w'.cell? ⟨w.heap.size + 1 + 1, 7 + j, none⟩ = some (.int .i64 mv)) 9 (by kernel_rfl) ⟨c9', p9'⟩ (fun hHeld => ?_)
              clear f0 f1 f2 f3 fA fO D0 c9 p9 c9' p9' e0 HI
              generalize wr.drew = W2 at *
              refine Till.take 0 (some 36) (v := ?_) rfl rfl (by kernel_rfl) (by kernel_rfl) (by kernel_rfl) (by kernel_rfl) (fun _ _ _ h => h) (Or.inl ⟨by rfl, ?_⟩) (by assumption) ?_
              rotate_left
              · (intro w hSw; (try dsimp only at hSw); go_simp; try with_reducible rfl)
              try simp only [Act.put, List.setIfInBounds_toArray, List.set_cons_zero, List.set_cons_succ]
              refine Till.take 1 (some 37) (v := ?_) rfl rfl (by kernel_rfl) (by kernel_rfl) (by kernel_rfl) (by kernel_rfl) (fun _ _ _ h => h) (Or.inl ⟨by rfl, ?_⟩) (by assumption) ?_
              rotate_left
              · (intro w hSw; (try dsimp only at hSw); go_simp; try with_reducible rfl)
              try simp only [Act.put, List.setIfInBounds_toArray, List.set_cons_zero, List.set_cons_succ]
              refine Till.take 2 (some 38) (v := ?_) rfl rfl (by kernel_rfl) (by kernel_rfl) (by kernel_rfl) (by kernel_rfl) (fun _ _ _ h => h) (Or.inl ⟨by rfl, ?_⟩) (by assumption) ?_
              rotate_left
              · (intro w hSw; (try dsimp only at hSw); go_simp; try with_reducible rfl)
              try simp only [Act.put, List.setIfInBounds_toArray, List.set_cons_zero, List.set_cons_succ]
              refine Till.take 3 (some 39) (v := ?_) rfl rfl (by kernel_rfl) (by kernel_rfl) (by kernel_rfl) (by kernel_rfl) (fun _ _ _ h => h) (Or.inl ⟨by rfl, ?_⟩) (by assumption) ?_
              rotate_left
              · (intro w hSw; (try dsimp only at hSw); go_simp; try with_reducible rfl)
              try simp only [Act.put, List.setIfInBounds_toArray, List.set_cons_zero, List.set_cons_succ]
              refine Till.take 4 (some 40) (v := ?_) rfl rfl (by kernel_rfl) (by kernel_rfl) (by kernel_rfl) (by kernel_rfl) (fun _ _ _ h => h) (Or.inl ⟨by rfl, ?_⟩) (by assumption) ?_
              rotate_left
              · (intro w hSw; (try dsimp only at hSw); go_simp; try with_reducible rfl)
              try simp only [Act.put, List.setIfInBounds_toArray, List.set_cons_zero, List.set_cons_succ]
              refine Till.take 5 (some 41) (v := ?_) rfl rfl (by kernel_rfl) (by kernel_rfl) (by kernel_rfl) (by kernel_rfl) (fun _ _ _ h => h) (Or.inl ⟨by rfl, ?_⟩) (by assumption) ?_
              rotate_left
              · (intro w hSw; (try dsimp only at hSw); go_simp; try with_reducible rfl)
              try simp only [Act.put, List.setIfInBounds_toArray, List.set_cons_zero, List.set_cons_succ]
              refine Till.take 6 (some 42) (v := ?_) rfl rfl (by kernel_rfl) (by kernel_rfl) (by kernel_rfl) (by kernel_rfl) (fun _ _ _ h => h) (Or.inl ⟨by rfl, ?_⟩) (by assumption) ?_
              rotate_left
              · (intro w hSw; (try dsimp only at hSw); go_simp; try with_reducible rfl)
              try simp only [Act.put, List.setIfInBounds_toArray, List.set_cons_zero, List.set_cons_succ]
              refine Till.take 7 (some 43) (v := ?_) rfl rfl (by kernel_rfl) (by kernel_rfl) (by kernel_rfl) (by kernel_rfl) (fun _ _ _ h => h) (Or.inl ⟨by rfl, ?_⟩) (by assumption) ?_
              rotate_left
              · (intro w hSw; (try dsimp only at hSw); go_simp; try with_reducible rfl)
              try simp only [Act.put, List.setIfInBounds_toArray, List.set_cons_zero, List.set_cons_succ]
              refine Till.take 8 (some 44) (v := ?_) rfl rfl (by kernel_rfl) (by kernel_rfl) (by kernel_rfl) (by kernel_rfl) (fun _ _ _ h => h) (Or.inl ⟨by rfl, ?_⟩) (by assumption) ?_
              rotate_left
              · (intro w hSw; (try dsimp only at hSw); go_simp; try with_reducible rfl)
              try simp only [Act.put, List.setIfInBounds_toArray, List.set_cons_zero, List.set_cons_succ]
              have hw : IntKind.i64.wrap (gv + mv) = gv + mv := IntWalk.i64_in _ (by omega)
              rw [hw]
              obtain ⟨s9, sf⟩ := cn_cell h1 (n := k) (by omega)
              have m0 := h0.other ⟨w.heap.size + 1, k, none⟩ (.int .i64 (gv + mv)) (by simp only; omega)
              have m1 := cn_set h1 (by rw [List.length_set]; exact hcl) (n := k) (by omega) (gv + mv)
              rw [set_set, ← HNV.out] at m1
              have m2 := h2.other ⟨w.heap.size + 1, k, none⟩ (.int .i64 (gv + mv)) (by simp only; omega)
              have m3 := h3.other ⟨w.heap.size + 1, k, none⟩ (.int .i64 (gv + mv)) (by simp only; omega)
              have mO := hO.other ⟨w.heap.size + 1, k, none⟩ (.int .i64 (gv + mv)) (by simp only; omega)
              have MA := Lib.hid (hA.setCell (p := ⟨w.heap.size + 1, k, none⟩) (by simp only; omega) (.int .i64 (gv + mv)))
              rw [HNV.out] at m1
              have M1 : Hid (Blk (W2.setCell ⟨w.heap.size + 1, k, none⟩ (.int .i64 (gv + mv))) (w.heap.size + 1) (cnC (c.set k (g c k + addK x o.art (j + 1)))) 92) := Lib.hid (by rw [HNV.out]; exact m1)
              clear h0 h1 h2 h3 hO hA hw m1
              refine Till.one 9 rfl (by kernel_rfl) (fun K hK => ?_)
              go_simp
              refine hK.out _ _ (fun h => absurd rfl h) (fun _ => ?_)
              clear hK K s9 sf hHeld
              try simp only [Act.put, List.setIfInBounds_toArray, List.set_cons_zero, List.set_cons_succ]
              refine Till.done (by kernel_rfl) ?_ _
              generalize W2.setCell ⟨w.heap.size + 1, k, none⟩ (.int .i64 (gv + mv)) = W3 at *
              clear HNV hgvb hmb
              go_wp2
              go_roundw
              case rel => exact ⟨j + 1, by omega, by go_num, m0, M1.out, m2, m3, MA.out, mO⟩
              case measure => simp [intOf]; omega
            · rw [if_neg heq, Int.add_zero] at hst
              have hq : (g x.sh j == o.art) = false := by rw [beq_eq_false_iff_ne]; exact heq
              rw [← hst] at f1
              have F1 := Lib.hid f1
              have FA := Lib.hid fA
              clear hst hab hcb heq hmb f1 fA
              go_wp2
              go_roundw
              case rel => exact ⟨j + 1, by omega, by go_num, f0, F1.out, f2, f3, FA.out, fO⟩
              case measure => simp [intOf]; omega
          · obtain rfl : j = 6 := by omega
            have FA := Lib.hid fA
            clear hcb fO hj fA
            go_wp2
            go_roundw
            case rel => exact ⟨k + 1, _, by omega, by go_num, HX, f0, f1, f2, f3, FA.out⟩
            case measure => simp [intOf]; omega
    · obtain rfl : k = s.ods.length := by omega
      have HEQ : Hid (cnC c = cnC (plusS s got day x)) := Lib.hid (by unfold plusS; rw [hc.out])
      have HN := Lib.hid (blk_sto (cs' := cnC c) f3 rfl)
      have HB2 := Lib.hid (putC_below fA (show w.heap.size ≤ w.heap.size + 1 + 1 + 1 by omega) (cnC c))
      have g1 : Blk wr (w.heap.size + 1) #[.int .i64 (g c 0), .int .i64 (g c 1), .int .i64 (g c 2), .int .i64 (g c 3), .int .i64 (g c 4), .int .i64 (g c 5), .int .i64 (g c 6), .int .i64 (g c 7)] 92 := f1
      have x0 := g1.cell 0 _ rfl
      have xf0 := g1.frozen 0
      have x1 := g1.cell 1 _ rfl
      have xf1 := g1.frozen 1
      have x2 := g1.cell 2 _ rfl
      have xf2 := g1.frozen 2
      have x3 := g1.cell 3 _ rfl
      have xf3 := g1.frozen 3
      have x4 := g1.cell 4 _ rfl
      have xf4 := g1.frozen 4
      have x5 := g1.cell 5 _ rfl
      have xf5 := g1.frozen 5
      have x6 := g1.cell 6 _ rfl
      have xf6 := g1.frozen 6
      have x7 := g1.cell 7 _ rfl
      have xf7 := g1.frozen 7
      have z0 := f3.cell 0 _ rfl
      have zf0 := f3.frozen 0
      have z1 := f3.cell 1 _ rfl
      have zf1 := f3.frozen 1
      have z2 := f3.cell 2 _ rfl
      have zf2 := f3.frozen 2
      have z3 := f3.cell 3 _ rfl
      have zf3 := f3.frozen 3
      have z4 := f3.cell 4 _ rfl
      have zf4 := f3.frozen 4
      have z5 := f3.cell 5 _ rfl
      have zf5 := f3.frozen 5
      have z6 := f3.cell 6 _ rfl
      have zf6 := f3.frozen 6
      have z7 := f3.cell 7 _ rfl
      have zf7 := f3.frozen 7
      clear f0 f1 f2 f3 g1 fA hc hlt hk hno hrm
      go_wp2
      exact ⟨rfl, _, res_one (by rfl) rfl (lv_blk HN.out Try.underlying92 rfl (by rw [sz_counts]; rfl)), by rw [HEQ.out], HB2.out⟩
end Go.Proofs.Ytdffhkbncencgaa
