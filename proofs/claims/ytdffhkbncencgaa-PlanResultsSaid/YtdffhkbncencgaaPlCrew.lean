/- Crews: their colour and pull, and the machines of a furnace, by their contracts; no statement is proved here. -/
import Derived.Test.YtdffhkbncencgaaPlParts
import Derived.Test.YtdffhkbncencgaaPlOwn
import Derived.Test.YtdffhkbncencgaaPlRow
namespace Go.Proofs.Ytdffhkbncencgaa
open Go.RowKit Go.PlainAid
set_option linter.unusedVariables false
set_option linter.unusedSimpArgs false

/-- what a season that may be is, as far as its parts go. -/
structure OkS (s : Sn) : Prop where
  days : 1 ≤ s.days ∧ s.days ≤ 14
  na : s.arts.length ≤ 8
  art : ∀ x ∈ s.arts, (0 ≤ x.col ∧ x.col < s.cols.length) ∧ 1 ≤ x.wt ∧ x.wt ≤ 100000
  no : s.ovens.length ≤ 3
  ov : ∀ x ∈ s.ovens, 0 ≤ x.lo ∧ x.lo ≤ x.hi ∧ x.hi ≤ 1000000
  nm : s.mks.length ≤ 6
  mkr : ∀ x ∈ s.mks, (0 ≤ x.oven ∧ x.oven < s.ovens.length) ∧ (x.rates.length = s.arts.length ∧ ∀ r ∈ x.rates, 0 ≤ r ∧ r ≤ 1000000) ∧ (0 ≤ x.idle ∧ x.idle ≤ 1000000) ∧ (-1 ≤ x.start ∧ x.start < s.arts.length)
  nj : s.jobs.length = s.arts.length
  job : ∀ r ∈ s.jobs, r.length = s.arts.length ∧ ∀ t ∈ r, (0 ≤ t.lo ∧ t.lo ≤ 1440) ∧ 0 ≤ t.hi ∧ t.hi ≤ 1000000
  nc : s.cols.length ≤ 6
  col : ∀ r ∈ s.cols, r.length = s.cols.length ∧ ∀ t ∈ r, (0 ≤ t.lo ∧ t.lo ≤ 1440) ∧ 0 ≤ t.hi ∧ t.hi ≤ 1000000
  nd : s.ods.length ≤ s.arts.length
  od : ∀ x ∈ s.ods, (0 ≤ x.art ∧ x.art < s.arts.length) ∧ (0 ≤ x.qty ∧ x.qty ≤ 1000000) ∧ (0 ≤ x.due ∧ x.due < s.days) ∧ 0 ≤ x.pen ∧ x.pen ≤ 1000000

theorem tabB_true {l : List (List Sp)} {n : Nat} (h : tabB l n = true) : l.length = n ∧ ∀ r ∈ l, r.length = n ∧ ∀ t ∈ r, (0 ≤ t.lo ∧ t.lo ≤ 1440) ∧ 0 ≤ t.hi ∧ t.hi ≤ 1000000 := by
  unfold tabB at h
  simp only [Bool.and_eq_true, Bool.not_eq_true', decide_eq_true_iff, List.any_eq_false] at h
  refine ⟨by omega, fun r hr => ?_⟩
  have h1 := h.1 r hr
  unfold rowBad at h1
  simp only [Bool.or_eq_true, Bool.not_eq_true', decide_eq_false_iff_not, not_or, Classical.not_not, List.any_eq_true, not_exists, not_and] at h1
  refine ⟨by omega, fun t ht => ?_⟩
  have h2 := h1.2 t ht
  unfold tnBad at h2
  have h3 : (btw t.lo 0 1440 && btw t.hi 0 1000000) = true := by cases h : (btw t.lo 0 1440 && btw t.hi 0 1000000) <;> simp [h] at h2 ⊢
  simp only [Bool.and_eq_true, btw_true] at h3
  exact ⟨h3.1, h3.2⟩
theorem partsE_ok {s : Sn} (h : partsE s = 0) : OkS s := by
  unfold partsE at h
  split at h
  · cases h
  · rename_i hd
    have hd := btw_true.1 (by simpa using hd)
    have hf := fe_zero h
    have ha := hf 0 (by omega) (by omega)
    have ho := hf 1 (by omega) (by omega)
    have hm := hf 2 (by omega) (by omega)
    have ht := hf 3 (by omega) (by omega)
    have hq := hf 4 (by omega) (by omega)
    simp only [partF] at ha ho hm ht hq
    unfold artsE at ha
    unfold ovsE at ho
    unfold mksE at hm
    unfold turnsE at ht
    unfold odsE at hq
    split at ha
    · cases ha
    split at ho
    · cases ho
    split at hm
    · cases hm
    split at ht
    · cases ht
    split at ht
    · cases ht
    split at ht
    · cases ht
    split at hq
    · cases hq
    rename_i g1 g2 g3 g4 g5 g6 g7
    have hj := tabB_true (by simpa using g4)
    have hc := tabB_true (by simpa using g6)
    refine ⟨hd, by omega, ?_, by omega, ?_, by omega, ?_, hj.1, hj.2, by omega, hc.2, by omega, ?_⟩
    · intro x hx
      obtain ⟨k, hk, rfl⟩ := List.getElem_of_mem hx
      have h1 := fe_zero ha k (by omega) (by omega)
      rw [artF_at hk] at h1
      unfold arE at h1
      generalize s.arts[k] = y at *
      split at h1
      · cases h1
      split at h1
      · cases h1
      split at h1
      · cases h1
      split at h1
      · cases h1
      rename_i f1 f2 f3 f4
      have f3 := btw_true.1 (by simpa using f3)
      have f4 := btw_true.1 (by simpa using f4)
      omega
    · intro x hx
      obtain ⟨k, hk, rfl⟩ := List.getElem_of_mem hx
      have h1 := fe_zero ho k (by omega) (by omega)
      rw [ovF_at hk] at h1
      unfold ovE at h1
      generalize s.ovens[k] = y at *
      split at h1
      · cases h1
      split at h1
      · cases h1
      rename_i f3 f4
      have f3 := btw_true.1 (by simpa using f3)
      have f4 := btw_true.1 (by simpa using f4)
      omega
    · intro x hx
      obtain ⟨k, hk, rfl⟩ := List.getElem_of_mem hx
      have h1 := fe_zero hm k (by omega) (by omega)
      rw [mkF_at hk] at h1
      unfold mkE at h1
      generalize s.mks[k] = y at *
      split at h1
      · cases h1
      split at h1
      · cases h1
      split at h1
      · cases h1
      split at h1
      · cases h1
      rename_i f1 f2 f3 f4
      have f1 := btw_true.1 (by simpa using f1)
      have f2 := allB_true.1 (by simpa using f2)
      have f3 := btw_true.1 (by simpa using f3)
      have f4 := btw_true.1 (by simpa using f4)
      exact ⟨by omega, ⟨by omega, f2.2⟩, by omega, by omega⟩
    · intro x hx
      obtain ⟨k, hk, rfl⟩ := List.getElem_of_mem hx
      have h1 := fe_zero hq k (by omega) (by omega)
      rw [odF_at hk] at h1
      unfold odE at h1
      generalize s.ods[k] = y at *
      split at h1
      · cases h1
      split at h1
      · cases h1
      split at h1
      · cases h1
      split at h1
      · cases h1
      split at h1
      · cases h1
      rename_i f1 f2 f3 f4 f5
      have f1 := btw_true.1 (by simpa using f1)
      have f3 := btw_true.1 (by simpa using f3)
      have f4 := btw_true.1 (by simpa using f4)
      have f5 := btw_true.1 (by simpa using f5)
      omega

/-- what lies at a number of a list of numbers; a crew's article. -/
def g (c : List Int) (m : Nat) : Int := c.getD m (-1)
def crC (c : List Int) : Array Value := #[.int .i64 (g c 0), .int .i64 (g c 1), .int .i64 (g c 2), .int .i64 (g c 3), .int .i64 (g c 4), .int .i64 (g c 5)]
theorem crC_one (c : List Int) : (crC c).all (·.oneCell') = true := by simp [crC, Value.oneCell']
theorem crC_at (c : List Int) {m : Nat} (h : m < 6) : (crC c)[m]? = some (.int .i64 (g c m)) := by
  obtain rfl | rfl | rfl | rfl | rfl | rfl : m = 0 ∨ m = 1 ∨ m = 2 ∨ m = 3 ∨ m = 4 ∨ m = 5 := by omega
  all_goals rfl
theorem g_set (c : List Int) (hc : c.length = 6) {m : Nat} (hm : m < 6) (v : Int) (j : Nat) : g (c.set m v) j = if j = m then v else g c j := by
  unfold g
  by_cases h : j = m
  · subst h; simp [List.getD, hc, hm]
  · rw [if_neg h]; simp [List.getD, List.getElem?_set, Ne.symm h]
theorem crC_set (c : List Int) (hc : c.length = 6) {m : Nat} (hm : m < 6) (v : Int) : (crC c).setIfInBounds m (.int .i64 v) = crC (c.set m v) := by
  unfold crC
  simp only [g_set c hc hm]
  obtain rfl | rfl | rfl | rfl | rfl | rfl : m = 0 ∨ m = 1 ∨ m = 2 ∨ m = 3 ∨ m = 4 ∨ m = 5 := by omega
  all_goals rfl
def idleC : List Int := [-1, -1, -1, -1, -1, -1]
/-- a crew of a season. -/
def CrOk (s : Sn) (c : List Int) : Prop := c.length = 6 ∧ ∀ m, m < 6 → -1 ≤ g c m ∧ g c m < s.arts.length
theorem CrOk.set {s : Sn} {c : List Int} (h : CrOk s c) {m : Nat} (hm : m < 6) {v : Int} (hv : -1 ≤ v ∧ v < s.arts.length) : CrOk s (c.set m v) := by
  refine ⟨by rw [List.length_set]; exact h.1, fun j hj => ?_⟩
  rw [g_set c h.1 hm]
  split
  · exact hv
  · exact h.2 j hj
theorem CrOk.idle (s : Sn) : CrOk s idleC := ⟨rfl, fun m hm => by
  obtain rfl | rfl | rfl | rfl | rfl | rfl : m = 0 ∨ m = 1 ∨ m = 2 ∨ m = 3 ∨ m = 4 ∨ m = 5 := by omega
  all_goals (show (-1 : Int) ≤ -1 ∧ (-1 : Int) < _; omega)⟩

theorem crC_ext {c d : List Int} (h : ∀ m, m < 6 → g c m = g d m) : crC c = crC d := by
  unfold crC
  rw [h 0 (by omega), h 1 (by omega), h 2 (by omega), h 3 (by omega), h 4 (by omega), h 5 (by omega)]
theorem cr_ext {c d : List Int} (hc : c.length = 6) (hd : d.length = 6) (h : ∀ m, m < 6 → g c m = g d m) : c = d := by
  refine List.ext_getElem (by omega) fun i h1 h2 => ?_
  have := h i (by omega)
  unfold g at this
  simpa [List.getD, List.getElem?_eq_getElem h1, List.getElem?_eq_getElem h2] using this

attribute [local go_sem ↓] ex_ldc ex_stc
set_option maxHeartbeats 1000000 in
set_option maxRecDepth 100000 in
theorem idle_any (w : World) : Calls Try.prog 79 #[] w fun e w' => e = .returned (.agg (crC idleC)) ∧ Below w.heap.size w w' := by
  have hA : Below w.heap.size w ((w.alloc (.cells (crC [0, 0, 0, 0, 0, 0]) 71)).alloc (.cells (crC [0, 0, 0, 0, 0, 0]) 71)) := (below_box w _).alloc (by simp) _
  have h0 := (Blk.new w (crC [0, 0, 0, 0, 0, 0]) 71).alloc (.cells (crC [0, 0, 0, 0, 0, 0]) 71)
  have h1 := Blk.new (w.alloc (.cells (crC [0, 0, 0, 0, 0, 0]) 71)) (crC [0, 0, 0, 0, 0, 0]) 71
  rw [World.size_alloc] at h1
  have hz := h1.lt
  go_enter Try.func79, Try.ntmps79
  go_wp2
  have e0 : (crC [0, 0, 0, 0, 0, 0]) = #[.int .i64 0, .int .i64 0, .int .i64 0, .int .i64 0, .int .i64 0, .int .i64 0] := rfl
  rw [e0] at hA h0 h1 hz
  generalize ((w.alloc (.cells #[.int .i64 0, .int .i64 0, .int .i64 0, .int .i64 0, .int .i64 0, .int .i64 0] 71)).alloc (.cells #[.int .i64 0, .int .i64 0, .int .i64 0, .int .i64 0, .int .i64 0, .int .i64 0] 71)) = W at *
  rw [← e0] at h0 h1
  go_loopw [3] (fun i wr => ∃ (k : Nat) (c : List Int), k ≤ 6 ∧ i = .int .i64 k ∧ Hid (c.length = 6 ∧ ∀ j, j < k → g c j = -1) ∧ Blk wr (w.heap.size + 1) (crC c) 71 ∧ Blk wr w.heap.size (crC [0, 0, 0, 0, 0, 0]) 71 ∧ Below w.heap.size w wr) (fun i _ => 6 - (intOf i).toNat)
  case atStart => exact ⟨0, _, Nat.zero_le _, rfl, Lib.hid ⟨rfl, fun j h => absurd h (by omega)⟩, h1, h0, hA⟩
  case round =>
    obtain ⟨k, c, hk, rfl, hc, hB, hB0, hb⟩ := hrel
    by_cases hlt : k < 6
    · have q0 := hB.cell k _ (crC_at c hlt)
      have q1 := hB.frozen k
      have j1 : (0 : Int) ≤ (k : Int) := Int.natCast_nonneg _
      have j2 : (k : Int) < 6 := by omega
      have HN : Hid (Blk (wr.setCell ⟨w.heap.size + 1, k, none⟩ (.int .i64 (-1))) (w.heap.size + 1) (crC (c.set k (-1))) 71) := Lib.hid (by rw [← crC_set c hc.out.1 hlt]; exact hB.set k _)
      have HN0 := Lib.hid (hB0.other ⟨w.heap.size + 1, k, none⟩ (.int .i64 (-1)) (by simp))
      have HB := Lib.hid (hb.setCell (p := ⟨w.heap.size + 1, k, none⟩) (by simp only; omega) (.int .i64 (-1)))
      have HC : Hid ((c.set k (-1)).length = 6 ∧ ∀ j, j < k + 1 → g (c.set k (-1)) j = -1) := Lib.hid ⟨by rw [List.length_set]; exact hc.out.1, fun j hj => by
        rw [g_set c hc.out.1 hlt]
        split
        · rfl
        · exact hc.out.2 j (by omega)⟩
      clear hc hB hB0 hb h0 h1 hA
      go_wp2
      go_roundw
      case rel => exact ⟨k + 1, _, by omega, by go_num, HC, HN.out, HN0.out, HB.out⟩
      case measure => simp [intOf]; omega
    · obtain rfl : k = 6 := by omega
      have he : crC c = crC idleC := crC_ext (fun m hm => by
        rw [hc.out.2 m hm]
        obtain rfl | rfl | rfl | rfl | rfl | rfl : m = 0 ∨ m = 1 ∨ m = 2 ∨ m = 3 ∨ m = 4 ∨ m = 5 := by omega
        all_goals rfl)
      rw [he] at hB
      have hld := ld_blk hB Try.underlying71 rfl (by rw [sz_crew]; rfl)
      have hst := st_blk (cs' := crC idleC) hB0 rfl (by rw [sz_crew]; rfl) (crC_one _)
      have HB := Lib.hid (putC_below hb (Nat.le_refl _) (crC idleC))
      have HN := Lib.hid (blk_sto (cs' := crC idleC) hB0 rfl)
      clear hc he h0 h1 hA hB hB0 hb
      generalize hCC : crC idleC = C at *
      go_wp2
      exact ⟨rfl, _, res_one (by rfl) rfl (lv_blk HN.out Try.underlying71 rfl (by rw [sz_crew, ← hCC]; rfl)), by rw [hCC], HB.out⟩

/-- what a season says of an article, a machine, a change. -/
def wgt (s : Sn) (a : Int) : Int := (s.arts[a.toNat]?).elim 0 Art.wt
def colr (s : Sn) (a : Int) : Int := (s.arts[a.toNat]?).elim 0 Art.col
def rate (s : Sn) (m a : Int) : Int := (s.mks[m.toNat]?).elim 0 fun x => (x.rates[a.toNat]?).getD 0
/-- the colour of the first article of some machines. -/
def colS (s : Sn) (c : List Int) : List Int → Int
  | [] => -1
  | m :: r => if g c m.toNat = -1 then colS s c r else colr s (g c m.toNat)
theorem colS_at {s : Sn} {c ms : List Int} {k : Nat} (hk : k < ms.length) : colS s c (ms.drop k) = if g c (ms[k]).toNat = -1 then colS s c (ms.drop (k + 1)) else colr s (g c (ms[k]).toNat) := by
  rw [List.drop_eq_getElem_cons hk]; rfl
theorem wgt_at {s : Sn} {p : Nat} (h : p < s.arts.length) : wgt s (p : Int) = s.arts[p].wt := by unfold wgt; simp [List.getElem?_eq_getElem h]
theorem colr_at {s : Sn} {p : Nat} (h : p < s.arts.length) : colr s (p : Int) = s.arts[p].col := by unfold colr; simp [List.getElem?_eq_getElem h]
theorem rate_at {s : Sn} {m p : Nat} (h : m < s.mks.length) (h2 : p < s.mks[m].rates.length) : rate s (m : Int) (p : Int) = s.mks[m].rates[p] := by unfold rate; simp [List.getElem?_eq_getElem h, List.getElem?_eq_getElem h2]
/-- machines of a season. -/
def MsOk (s : Sn) (ms : List Int) : Prop := ∀ m ∈ ms, 0 ≤ m ∧ m < s.mks.length

set_option maxHeartbeats 4000000 in
set_option maxRecDepth 100000 in
theorem colour_any (s : Sn) (d : SA) (v7 : Value) (lo hi : Int) (am : Option Addr) (cm : Nat) (ms : List Int) (v2 : Value) (c : List Int) (w : World) (h : SnD w s d) (ok : OkS s) (hr : RInts w (.slice am ms.length cm) ms) (hm : MsOk s ms) (hc : CrOk s c) :
    Calls Try.prog 85 #[.agg #[.int .i64 s.days, .slice d.a1 s.arts.length d.c1, .slice d.a2 s.ovens.length d.c2, .slice d.a3 s.mks.length d.c3, .slice d.a4 s.jobs.length d.c4, .slice d.a5 s.cols.length d.c5, .slice d.a6 s.ods.length d.c6, v7], .agg #[.int .i64 lo, .int .i64 hi, .slice am ms.length cm, v2], .agg (crC c)] w fun e w' => e = .returned (.int .i64 (colS s c ms)) ∧ Below w.heap.size w w' := by
  have hra := h.arts
  have hnm := ok.nm
  have hnr := hr.len
  have hA : Below w.heap.size w (((w.alloc (.cells #[.int .i64 s.days, .slice d.a1 s.arts.length d.c1, .slice d.a2 s.ovens.length d.c2, .slice d.a3 s.mks.length d.c3, .slice d.a4 s.jobs.length d.c4, .slice d.a5 s.cols.length d.c5, .slice d.a6 s.ods.length d.c6, v7] 63)).alloc (.cells #[.int .i64 lo, .int .i64 hi, .slice am ms.length cm, v2] 69)).alloc (.cells (crC c) 71)) := ((below_box w _).alloc (by simp) _).alloc (by simp; omega) _
  have h0 := ((Blk.new w #[.int .i64 s.days, .slice d.a1 s.arts.length d.c1, .slice d.a2 s.ovens.length d.c2, .slice d.a3 s.mks.length d.c3, .slice d.a4 s.jobs.length d.c4, .slice d.a5 s.cols.length d.c5, .slice d.a6 s.ods.length d.c6, v7] 63).alloc (.cells #[.int .i64 lo, .int .i64 hi, .slice am ms.length cm, v2] 69)).alloc (.cells (crC c) 71)
  have h1 := (Blk.new (w.alloc (.cells #[.int .i64 s.days, .slice d.a1 s.arts.length d.c1, .slice d.a2 s.ovens.length d.c2, .slice d.a3 s.mks.length d.c3, .slice d.a4 s.jobs.length d.c4, .slice d.a5 s.cols.length d.c5, .slice d.a6 s.ods.length d.c6, v7] 63)) #[.int .i64 lo, .int .i64 hi, .slice am ms.length cm, v2] 69).alloc (.cells (crC c) 71)
  have h2 := Blk.new ((w.alloc (.cells #[.int .i64 s.days, .slice d.a1 s.arts.length d.c1, .slice d.a2 s.ovens.length d.c2, .slice d.a3 s.mks.length d.c3, .slice d.a4 s.jobs.length d.c4, .slice d.a5 s.cols.length d.c5, .slice d.a6 s.ods.length d.c6, v7] 63)).alloc (.cells #[.int .i64 lo, .int .i64 hi, .slice am ms.length cm, v2] 69)) (crC c) 71
  simp only [World.size_alloc] at h1 h2
  clear h
  go_enter Try.func85, Try.ntmps85
  go_wp2
  generalize (((w.alloc (.cells #[.int .i64 s.days, .slice d.a1 s.arts.length d.c1, .slice d.a2 s.ovens.length d.c2, .slice d.a3 s.mks.length d.c3, .slice d.a4 s.jobs.length d.c4, .slice d.a5 s.cols.length d.c5, .slice d.a6 s.ods.length d.c6, v7] 63)).alloc (.cells #[.int .i64 lo, .int .i64 hi, .slice am ms.length cm, v2] 69)).alloc (.cells (crC c) 71)) = W at *
  go_loop [13] (fun i => ∃ k : Nat, k ≤ ms.length ∧ i = .int .i64 k ∧ Hid (colS s c ms = colS s c (ms.drop k))) (fun i => ms.length - (intOf i).toNat)
  case atStart => exact ⟨0, Nat.zero_le _, rfl, Lib.hid rfl⟩
  case round =>
    obtain ⟨k, hk, rfl, hx⟩ := hrel
    by_cases hlt : k < ms.length
    · have hst := colS_at (s := s) (c := c) hlt
      obtain ⟨am', cm', he, -, -, hl⟩ := id hr
      simp only [Value.slice.injEq, true_and] at he
      obtain ⟨rfl, rfl⟩ := he
      obtain ⟨b1, o1, he1, q0, -⟩ := hl k hlt
      obtain ⟨z0, z1⟩ := hm _ (List.getElem_mem hlt)
      obtain ⟨n, hn⟩ := Int.eq_ofNat_of_zero_le z0
      rw [hn] at q0 hst z1
      have hn6 : n < 6 := by omega
      have k0 := ext_of_below hA _ _ q0
      have l1 := cell_lt q0
      simp only [Nat.mul_one] at k0 l1
      have j1 : (0 : Int) ≤ (k : Int) := Int.natCast_nonneg _
      have j2 : (k : Int) < (ms.length : Int) := by omega
      have j3 : (0 : Int) ≤ (n : Int) := Int.natCast_nonneg _
      have j4 : (n : Int) < 6 := by omega
      have c0 := h2.cell n _ (crC_at c hn6)
      rw [he1]
      simp only [Int.toNat_natCast] at hst
      have hcb := hc.2 n hn6
      clear hl q0 hn z0 z1 hr
      generalize g c n = a at *
      by_cases ha : a = -1
      · subst ha
        have HX : Hid (colS s c ms = colS s c (ms.drop (k + 1))) := Lib.hid (hx.out.trans (by rw [hst, if_pos rfl]))
        clear hst hx
        go_wp2
        go_round
        case rel => exact ⟨k + 1, by omega, by go_num, HX⟩
        case measure => simp [intOf]; omega
      · obtain ⟨p, hp⟩ := Int.eq_ofNat_of_zero_le (show 0 ≤ a by omega)
        subst hp
        have hpl : p < s.arts.length := by omega
        obtain ⟨a', c', he, -, -, hl⟩ := id hra
        simp only [Value.slice.injEq, true_and] at he
        obtain ⟨rfl, rfl⟩ := he
        obtain ⟨b2, o2, he2, ⟨-, q1, -⟩, -⟩ := hl p hpl
        have HX : Hid (colS s c ms = s.arts[p].col) := Lib.hid (hx.out.trans (by rw [hst, if_neg ha, colr_at hpl]))
        have e0 := h0.cell 1 _ rfl
        have k1 := ext_of_below hA _ _ q1
        have l2 := cell_lt q1
        simp only at k1 l2
        have j5 : (0 : Int) ≤ (p : Int) := Int.natCast_nonneg _
        have j6 : (p : Int) < (s.arts.length : Int) := by omega
        have hq : ((p : Int) != -1) = true := by rw [bne_iff_ne]; exact ha
        clear hst hx hl q1 hcb ha
        rw [he2] at e0
        generalize s.arts[p] = x at *
        go_wp2
        go_ret
        exact ⟨ret_int HX.out.symm, hA⟩
    · obtain rfl : k = ms.length := by omega
      have HX : Hid (colS s c ms = -1) := Lib.hid (by rw [hx.out, List.drop_length]; rfl)
      clear hx
      go_wp2
      go_ret
      exact ⟨ret_int HX.out.symm, hA⟩

/-- what a furnace's machines pull in decigrams. -/
def addP (s : Sn) (c : List Int) (m : Int) : Int := if g c m.toNat = -1 then 0 else rate s m (g c m.toNat) * wgt s (g c m.toNat)
def sumP (s : Sn) (c ms : List Int) : Int := (ms.map (addP s c)).sum
theorem sumP_step {s : Sn} {c ms : List Int} {k : Nat} (hk : k < ms.length) : sumP s c (ms.take (k + 1)) = sumP s c (ms.take k) + addP s c ms[k] := by
  unfold sumP
  rw [List.take_succ_eq_append_getElem hk, List.map_append, List.sum_append]; simp
theorem rate_bd {s : Sn} (ok : OkS s) (m a : Int) : 0 ≤ rate s m a ∧ rate s m a ≤ 1000000 := by
  unfold rate
  cases h : s.mks[m.toNat]? with
  | none => simp
  | some x =>
    have hx := (ok.mkr x (List.mem_of_getElem? h)).2.1.2
    cases h2 : x.rates[a.toNat]? with
    | none => simp [h2]
    | some r => have := hx r (List.mem_of_getElem? h2); simpa [h2] using this
theorem wgt_bd {s : Sn} (ok : OkS s) (a : Int) : 0 ≤ wgt s a ∧ wgt s a ≤ 100000 := by
  unfold wgt
  cases h : s.arts[a.toNat]? with
  | none => simp
  | some x => have := (ok.art x (List.mem_of_getElem? h)).2; simp; omega
theorem addP_bd {s : Sn} (ok : OkS s) (c : List Int) (m : Int) : 0 ≤ addP s c m ∧ addP s c m ≤ 100000000000 := by
  unfold addP
  split
  · omega
  · have h1 := rate_bd ok m (g c m.toNat)
    have h2 := wgt_bd ok (g c m.toNat)
    exact ⟨Int.mul_nonneg h1.1 h2.1, Int.le_trans (Int.mul_le_mul h1.2 h2.2 h2.1 (by omega)) (by omega)⟩
theorem sumP_bd {s : Sn} (ok : OkS s) (c : List Int) : ∀ (ms : List Int), 0 ≤ sumP s c ms ∧ sumP s c ms ≤ 100000000000 * ms.length
  | [] => by simp [sumP]
  | m :: r => by
    have h1 := sumP_bd ok c r
    have h2 := addP_bd ok c m
    unfold sumP at *
    simp only [List.map_cons, List.sum_cons, List.length_cons]
    omega
def pullS (s : Sn) (c ms : List Int) : Int := sumP s c ms / 10000

set_option maxHeartbeats 4000000 in
set_option maxRecDepth 100000 in
theorem pull_any (s : Sn) (d : SA) (v7 : Value) (lo hi : Int) (am : Option Addr) (cm : Nat) (ms : List Int) (v2 : Value) (c : List Int) (w : World) (h : SnD w s d) (ok : OkS s) (hr : RInts w (.slice am ms.length cm) ms) (hm : MsOk s ms) (hl6 : ms.length ≤ 6) (hc : CrOk s c) :
    Calls Try.prog 44 #[.agg #[.int .i64 s.days, .slice d.a1 s.arts.length d.c1, .slice d.a2 s.ovens.length d.c2, .slice d.a3 s.mks.length d.c3, .slice d.a4 s.jobs.length d.c4, .slice d.a5 s.cols.length d.c5, .slice d.a6 s.ods.length d.c6, v7], .agg #[.int .i64 lo, .int .i64 hi, .slice am ms.length cm, v2], .agg (crC c)] w fun e w' => e = .returned (.int .i64 (pullS s c ms)) ∧ Below w.heap.size w w' := by
  have hra := h.arts
  have hrm := h.mks
  have hnm := ok.nm
  have hA : Below w.heap.size w (((w.alloc (.cells #[.int .i64 s.days, .slice d.a1 s.arts.length d.c1, .slice d.a2 s.ovens.length d.c2, .slice d.a3 s.mks.length d.c3, .slice d.a4 s.jobs.length d.c4, .slice d.a5 s.cols.length d.c5, .slice d.a6 s.ods.length d.c6, v7] 63)).alloc (.cells #[.int .i64 lo, .int .i64 hi, .slice am ms.length cm, v2] 69)).alloc (.cells (crC c) 71)) := ((below_box w _).alloc (by simp) _).alloc (by simp; omega) _
  have h0 := ((Blk.new w #[.int .i64 s.days, .slice d.a1 s.arts.length d.c1, .slice d.a2 s.ovens.length d.c2, .slice d.a3 s.mks.length d.c3, .slice d.a4 s.jobs.length d.c4, .slice d.a5 s.cols.length d.c5, .slice d.a6 s.ods.length d.c6, v7] 63).alloc (.cells #[.int .i64 lo, .int .i64 hi, .slice am ms.length cm, v2] 69)).alloc (.cells (crC c) 71)
  have h2 := Blk.new ((w.alloc (.cells #[.int .i64 s.days, .slice d.a1 s.arts.length d.c1, .slice d.a2 s.ovens.length d.c2, .slice d.a3 s.mks.length d.c3, .slice d.a4 s.jobs.length d.c4, .slice d.a5 s.cols.length d.c5, .slice d.a6 s.ods.length d.c6, v7] 63)).alloc (.cells #[.int .i64 lo, .int .i64 hi, .slice am ms.length cm, v2] 69)) (crC c) 71
  simp only [World.size_alloc] at h2
  clear h
  go_enter Try.func44, Try.ntmps44
  go_wp2
  generalize (((w.alloc (.cells #[.int .i64 s.days, .slice d.a1 s.arts.length d.c1, .slice d.a2 s.ovens.length d.c2, .slice d.a3 s.mks.length d.c3, .slice d.a4 s.jobs.length d.c4, .slice d.a5 s.cols.length d.c5, .slice d.a6 s.ods.length d.c6, v7] 63)).alloc (.cells #[.int .i64 lo, .int .i64 hi, .slice am ms.length cm, v2] 69)).alloc (.cells (crC c) 71)) = W at *
  go_loopw [7, 14] (fun v i wr => ∃ (k : Nat) (S : Int), k ≤ ms.length ∧ i = .int .i64 k ∧ v = .int .i64 S ∧ Hid (S = sumP s c (ms.take k)) ∧ Below W.heap.size W wr) (fun _ i _ => ms.length - (intOf i).toNat)
  case atStart => exact ⟨0, 0, Nat.zero_le _, rfl, rfl, Lib.hid (by simp [sumP]), Below.refl _ _⟩
  case round =>
    obtain ⟨k, S, hk, rfl, rfl, hx, hb⟩ := hrel
    have hE := hA.trans (hb.mono hA.size)
    have hSb := sumP_bd ok c (ms.take k)
    rw [← hx.out, List.length_take] at hSb
    have hSb : 0 ≤ S ∧ S ≤ 600000000000 := by omega
    by_cases hlt : k < ms.length
    · have hst := sumP_step (s := s) (c := c) hlt
      obtain ⟨am', cm', he, -, -, hl⟩ := id hr
      simp only [Value.slice.injEq, true_and] at he
      obtain ⟨rfl, rfl⟩ := he
      obtain ⟨b1, o1, he1, q0, -⟩ := hl k hlt
      obtain ⟨z0, z1⟩ := hm _ (List.getElem_mem hlt)
      obtain ⟨n, hn⟩ := Int.eq_ofNat_of_zero_le z0
      rw [hn] at q0 hst z1
      have hn6 : n < 6 := by omega
      have hnl : n < s.mks.length := by omega
      have k0 := ext_of_below hE _ _ q0
      have l1 := cell_lt q0
      simp only [Nat.mul_one] at k0 l1
      have j1 : (0 : Int) ≤ (k : Int) := Int.natCast_nonneg _
      have j2 : (k : Int) < (ms.length : Int) := by omega
      have j3 : (0 : Int) ≤ (n : Int) := Int.natCast_nonneg _
      have j4 : (n : Int) < 6 := by omega
      have c0 := (h2.below hb h2.lt).cell n _ (crC_at c hn6)
      rw [he1]
      unfold addP at hst
      simp only [Int.toNat_natCast] at hst
      have hcb := hc.2 n hn6
      clear hl q0 hn z0 z1 hr
      generalize g c n = a at *
      by_cases ha : a = -1
      · subst ha
        have HX : Hid (S = sumP s c (ms.take (k + 1))) := Lib.hid (by rw [hst, if_pos rfl, hx.out]; omega)
        clear hst hx
        go_wp2
        go_roundw
        case rel => exact ⟨k + 1, S, by omega, by go_num, rfl, HX, hb⟩
        case measure => simp [intOf]; omega
      · obtain ⟨p, hp⟩ := Int.eq_ofNat_of_zero_le (show 0 ≤ a by omega)
        subst hp
        have hpl : p < s.arts.length := by omega
        have hmk := ok.mkr _ (List.getElem_mem hnl)
        have hpr : p < s.mks[n].rates.length := by omega
        obtain ⟨a', c', he, -, -, hl⟩ := id hra
        simp only [Value.slice.injEq, true_and] at he
        obtain ⟨rfl, rfl⟩ := he
        obtain ⟨b2, o2, he2, ⟨-, -, q1⟩, -⟩ := hl p hpl
        obtain ⟨a'', c'', he', -, -, hlm⟩ := id hrm
        simp only [Value.slice.injEq, true_and] at he'
        obtain ⟨rfl, rfl⟩ := he'
        obtain ⟨b3, o3, he3, v, ⟨-, q2, -⟩, -, hrr, -⟩ := hlm n hnl
        obtain ⟨ar, cr, rfl, -, -, hlr⟩ := hrr
        obtain ⟨b4, o4, he4, q3, -⟩ := hlr p hpr
        have HR := rate_at (s := s) hnl hpr
        have HW := wgt_at (s := s) hpl
        have br := rate_bd ok n p
        have bw := wgt_bd ok p
        rw [HR] at br hst
        rw [HW] at bw hst
        have e0 := (h0.below hb h0.lt).cell 1 _ rfl
        have e1 := (h0.below hb h0.lt).cell 3 _ rfl
        have k1 := ext_of_below hE _ _ q1
        have k2 := ext_of_below hE _ _ q2
        have k3 := ext_of_below hE _ _ q3
        have l2 := cell_lt q1
        have l3 := cell_lt q2
        have l4 := cell_lt q3
        simp only [Nat.mul_one] at k1 k2 k3 l2 l3 l4
        have j5 : (0 : Int) ≤ (p : Int) := Int.natCast_nonneg _
        have j6 : (p : Int) < (s.arts.length : Int) := by omega
        have j7 : (n : Int) < (s.mks.length : Int) := by omega
        have j8 : (p : Int) < (s.mks[n].rates.length : Int) := by omega
        have hq : ((p : Int) != -1) = true := by rw [bne_iff_ne]; exact ha
        rw [he2] at e0
        rw [he3] at e1
        subst he4
        have HX : Hid (S + s.mks[n].rates[p] * s.arts[p].wt = sumP s c (ms.take (k + 1))) := Lib.hid (by rw [hst, if_neg ha, hx.out])
        clear hst hx hl q1 q2 q3 hcb hlm hlr hmk HR HW ha
        generalize s.arts[p].wt = x at *
        generalize s.mks[n].rates[p] = y at *
        generalize s.mks[n].rates.length = z at *
        have zm : 0 ≤ y * x ∧ y * x ≤ 100000000000 := ⟨Int.mul_nonneg br.1 bw.1, Int.le_trans (Int.mul_le_mul br.2 bw.2 bw.1 (by omega)) (by omega)⟩
        have z1 : wrap64 (y * x) = y * x := wrap_id _ (by unfold I64; omega)
        have z2 : wrap64 (S + y * x) = S + y * x := wrap_id _ (by unfold I64; omega)
        go_wp2_with fail
        go_quiet (fail)
        go_wp2
        go_roundw
        case rel => exact ⟨k + 1, _, by omega, by go_num, rfl, HX, bdrewN hb⟩
        case measure => simp [intOf]; omega
    · obtain rfl : k = ms.length := by omega
      rw [List.take_length] at hx
      have HX : Hid (pullS s c ms = S / 10000) := Lib.hid (by unfold pullS; rw [hx.out])
      have z1 : S.tdiv 10000 = S / 10000 := Int.tdiv_eq_ediv_of_nonneg (by omega)
      have z2 : wrap64 (S / 10000) = S / 10000 := wrap_id _ (by unfold I64; omega)
      clear hx
      go_wp2
      go_ret
      exact ⟨ret_int (by simp only [HX.out, z1, z2]), hE⟩
end Go.Proofs.Ytdffhkbncencgaa
