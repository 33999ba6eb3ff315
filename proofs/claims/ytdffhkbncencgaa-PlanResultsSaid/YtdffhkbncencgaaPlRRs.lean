/- What results tells, by its entries; own rows of a made table; no statement is proved here. -/
import Derived.Test.YtdffhkbncencgaaPlRDy
namespace Go.Proofs.Ytdffhkbncencgaa
open Go.RowKit Go.PlainAid
set_option linter.unusedVariables false
set_option linter.unusedSimpArgs false

def nowD (s : Sn) (T : List (List Int)) (k : Nat) (day : Int) : List Int := (mksAt s k).map (planC s T day)
def lsS (s : Sn) (T : List (List Int)) (k day : Nat) : Sp := lostS s (colL s (nowD s T k ((day : Int) - 1))) (colL s (nowD s T k day))
def ovOf (s : Sn) (m : Nat) : Nat := ((s.mks[m]?).elim 0 Mk.oven).toNat
/-- what a machine makes on a day, and what a furnace's day costs. -/
def dvS (s : Sn) (T : List (List Int)) (m day : Nat) : Int := dkB s (lsS s T (ovOf s m) day).lo m (planC s T ((day : Int) - 1) m) (planC s T day m)
def dcS (s : Sn) (T : List (List Int)) (k day : Nat) : Int := dyC s (lsS s T k day).hi (mksAt s k) (nowD s T k ((day : Int) - 1)) (nowD s T k day) (mksAt s k).length
def csK (s : Sn) (T : List (List Int)) (D o d : Nat) : Int := ((List.range o).map fun k => ((List.range D).map (dcS s T k)).sum).sum + ((List.range d).map (dcS s T o)).sum
theorem csK_zero (s : Sn) (T : List (List Int)) (D : Nat) : csK s T D 0 0 = 0 := by simp [csK]
theorem csK_day (s : Sn) (T : List (List Int)) (D o d : Nat) : csK s T D o (d + 1) = csK s T D o d + dcS s T o d := by
  unfold csK; rw [List.range_succ (n := d), List.map_append, List.sum_append]; simp; omega
theorem csK_oven (s : Sn) (T : List (List Int)) (D o : Nat) : csK s T D (o + 1) 0 = csK s T D o D := by
  unfold csK; rw [List.range_succ (n := o), List.map_append, List.sum_append]; simp
theorem dcS_bd {s : Sn} (ok : OkS s) (T : List (List Int)) (k day : Nat) : 0 ≤ dcS s T k day ∧ dcS s T k day ≤ 7000000 := by
  have h1 := dyC_bd ok (lostS_bd ok (colL s (nowD s T k ((day : Int) - 1))) (colL s (nowD s T k day))).2 (mksAt s k) (nowD s T k ((day : Int) - 1)) (nowD s T k day) (mksAt s k).length
  have h2 := Nat.le_trans (mksAt_len s k) ok.nm
  unfold dcS lsS
  omega
theorem dcs_sum {s : Sn} (ok : OkS s) (T : List (List Int)) (k : Nat) : ∀ d, 0 ≤ ((List.range d).map (dcS s T k)).sum ∧ ((List.range d).map (dcS s T k)).sum ≤ 7000000 * d
  | 0 => by simp
  | d + 1 => by
    have h1 := dcs_sum ok T k d
    have h2 := dcS_bd ok T k d
    rw [List.range_succ, List.map_append, List.sum_append]
    simp
    omega
theorem csK_bd {s : Sn} (ok : OkS s) (T : List (List Int)) {D : Nat} (hD : D ≤ 14) : ∀ o d, d ≤ D → 0 ≤ csK s T D o d ∧ csK s T D o d ≤ 98000000 * o + 7000000 * d
  | 0, d, hd => by
    have := dcs_sum ok T 0 d
    unfold csK
    simpa using this
  | o + 1, d, hd => by
    have h1 := csK_bd ok T hD o D (Nat.le_refl _)
    have h2 := dcs_sum ok T (o + 1) d
    have h3 : csK s T D (o + 1) d = csK s T D o D + ((List.range d).map (dcS s T (o + 1))).sum := by
      rw [← csK_oven]; unfold csK; simp
    rw [h3]; omega
theorem dvS_bd {s : Sn} (ok : OkS s) (T : List (List Int)) (m day : Nat) : 0 ≤ dvS s T m day ∧ dvS s T m day ≤ 1000000 := dkB_bd ok (lostS_bd ok _ _).1.1 _ _ _
/-- a table whose rows are cnt long. -/
def tblN (f : Nat → Nat → Int) (n : Nat) (cnt : Nat → Nat) : List (List Int) := (List.range n).map fun m => (List.range (cnt m)).map (f m)
theorem tblN_len (f : Nat → Nat → Int) (n : Nat) (cnt : Nat → Nat) : (tblN f n cnt).length = n := by simp [tblN]
theorem tblN_at (f : Nat → Nat → Int) {n : Nat} (cnt : Nat → Nat) {m : Nat} (h : m < n) : (tblN f n cnt)[m]'(by rw [tblN_len]; exact h) = (List.range (cnt m)).map (f m) := by simp [tblN]
theorem tblN_congr {f : Nat → Nat → Int} {n : Nat} {c1 c2 : Nat → Nat} (h : ∀ m, m < n → c1 m = c2 m) : tblN f n c1 = tblN f n c2 := by
  unfold tblN
  exact List.map_congr_left fun m hm => by rw [h m (List.mem_range.1 hm)]
theorem tblN_const (f : Nat → Nat → Int) (n c : Nat) : tblN f n (fun _ => c) = tblF f c n := rfl
theorem tblN_nil (f : Nat → Nat → Int) (n : Nat) : tblN f n (fun _ => 0) = List.replicate n [] := by
  unfold tblN
  refine List.ext_getElem (by simp) (fun i h1 h2 => by simp)
theorem tblN_set {f : Nat → Nat → Int} {n : Nat} {cnt c2 : Nat → Nat} {m : Nat} (hm : m < n) (h1 : c2 m = cnt m + 1) (h2 : ∀ j, j < n → j ≠ m → c2 j = cnt j) : (tblN f n cnt).set m ((List.range (cnt m)).map (f m) ++ [f m (cnt m)]) = tblN f n c2 := by
  refine List.ext_getElem (by simp [tblN]) (fun i g1 g2 => ?_)
  have hi : i < n := by simpa [tblN] using g2
  rw [tblN_at f c2 hi, List.getElem_set]
  split
  · rename_i e
    subst e
    rw [h1, rowF_step]
  · rename_i e
    rw [tblN_at f cnt hi, h2 i hi (fun x => e x.symm)]
def cntO (s : Sn) (D o d m : Nat) : Nat := if ovOf s m < o then D else if ovOf s m = o then d else 0
def cntI (s : Sn) (D o d i m : Nat) : Nat := cntO s D o d m + (if (m : Int) ∈ (mksAt s o).take i then 1 else 0)
theorem mem_mksAt {s : Sn} (ok : OkS s) {m o : Nat} (hm : m < s.mks.length) : (m : Int) ∈ mksAt s o ↔ ovOf s m = o := by
  have h1 := ok.mkr _ (List.getElem_mem hm)
  have h2 : ovOf s m = (s.mks[m]).oven.toNat := by unfold ovOf; simp [List.getElem?_eq_getElem hm]
  unfold mksAt atTo
  rw [List.mem_map]
  constructor
  · rintro ⟨a, ha, e⟩
    have e' : a = m := by exact Int.ofNat.inj e
    subst e'
    have := (List.mem_filter.1 ha).2
    simp [List.getElem?_eq_getElem hm] at this
    omega
  · intro e
    refine ⟨m, List.mem_filter.2 ⟨List.mem_range.2 hm, ?_⟩, rfl⟩
    simp [List.getElem?_eq_getElem hm]
    omega
theorem cntI_zero (s : Sn) (D o d : Nat) : (fun m => cntI s D o d 0 m) = cntO s D o d := by funext m; simp [cntI]
theorem cntI_full {s : Sn} (ok : OkS s) (D o d : Nat) : ∀ m, m < s.mks.length → cntI s D o d (mksAt s o).length m = cntO s D o (d + 1) m := fun m hm => by
  unfold cntI
  rw [List.take_length]
  by_cases h : ovOf s m = o
  · rw [if_pos ((mem_mksAt ok hm).2 h)]; unfold cntO; rw [h]; simp
  · rw [if_neg (fun x => h ((mem_mksAt ok hm).1 x))]; unfold cntO; rw [if_neg h, if_neg h]; rfl
theorem cntO_next (s : Sn) (D o m : Nat) : cntO s D o D m = cntO s D (o + 1) 0 m := by
  unfold cntO; simp only [ite_self]; split <;> (try split) <;> (try split) <;> omega
theorem cntO_end {s : Sn} (ok : OkS s) (D : Nat) : ∀ m, m < s.mks.length → cntO s D s.ovens.length 0 m = D := fun m hm => by
  have h1 := ok.mkr _ (List.getElem_mem hm)
  have h2 : ovOf s m = (s.mks[m]).oven.toNat := by unfold ovOf; simp [List.getElem?_eq_getElem hm]
  unfold cntO
  rw [if_pos (by omega)]
theorem cntI_at {s : Sn} (ok : OkS s) {D o d i : Nat} (hi : i < (mksAt s o).length) {mn : Nat} (hmn : (mksAt s o)[i] = (mn : Int)) (hml : mn < s.mks.length) : cntI s D o d i mn = d ∧ cntI s D o d (i + 1) mn = d + 1 ∧ ∀ j, j < s.mks.length → j ≠ mn → cntI s D o d (i + 1) j = cntI s D o d i j := by
  have hov : ovOf s mn = o := (mem_mksAt ok hml).1 (by rw [← hmn]; exact List.getElem_mem hi)
  have hnd := mksAt_nodup s (o : Int)
  have hnot : (mn : Int) ∉ (mksAt s o).take i := fun x => by
    obtain ⟨j, hj, e⟩ := List.getElem_of_mem x
    have hji : j < i := by rw [List.length_take] at hj; omega
    rw [List.getElem_take, ← hmn] at e
    exact absurd e (List.pairwise_iff_getElem.1 hnd j i (by omega) hi hji)
  have hc : cntO s D o d mn = d := by unfold cntO; rw [hov]; simp
  refine ⟨by unfold cntI; rw [if_neg hnot, hc]; rfl, ?_, fun j hj hne => ?_⟩
  · unfold cntI
    rw [List.take_succ_eq_append_getElem hi, hmn, if_pos (by simp), hc]
  · unfold cntI
    rw [List.take_succ_eq_append_getElem hi, hmn]
    have : ((j : Int) ∈ (mksAt s o).take i ++ [(mn : Int)]) ↔ (j : Int) ∈ (mksAt s o).take i := by
      rw [List.mem_append, List.mem_singleton]
      exact ⟨fun h => h.elim id (fun e => absurd (by omega) hne), .inl⟩
    simp only [this]
/-- a made table whose rows grow. -/
structure GT (base : Nat) (W : World) (q : Nat) (vs : List Value) (L : List (List Int)) : Prop where
  out : Blk W q vs.toArray 30
  len : vs.length = L.length
  rows : ∀ i (h1 : i < vs.length) (h2 : i < L.length), W.ownsRow base 3 1 vs[i] L[i].length (L[i].map (Value.int .i64))
  nd : ∀ i j (hi : i < vs.length) (hj : j < vs.length), i ≠ j → ∀ g, vs[i].ownBlock = some g → vs[j].ownBlock ≠ some g
theorem GT.below {base : Nat} {W W' : World} {q : Nat} {vs : List Value} {L : List (List Int)} (h : GT base W q vs L) (hb : Below W.heap.size W W') : GT base W' q vs L :=
  ⟨h.out.below hb h.out.lt, h.len, fun i h1 h2 => own_below8 (h.rows i h1 h2) hb, h.nd⟩
theorem GT.add {base : Nat} {W W1 W2 : World} {q : Nat} {vs : List Value} {L : List (List Int)} (h : GT base W q vs L) (hb : Below W.heap.size W W1) {i : Nat} (hi : i < vs.length) {g cap : Nat} {l : List Int} {av : Int} (hl : L[i]'(by rw [← h.len]; exact hi) = l)
    (ho : W2.ownsRow base 3 1 (.slice (some ⟨g, 0, none⟩) (l.length + 1) cap) (l.length + 1) (l.map (Value.int .i64) ++ [.int .i64 av])) (hg : W1.grownBy W2 vs[i].ownBlock) (hat : vs[i].ownBlock = some g ∨ W1.heap.size ≤ g) :
    GT base (W2.setCell ⟨q, i, none⟩ (.slice (some ⟨g, 0, none⟩) (l.length + 1) cap)) q (vs.set i (.slice (some ⟨g, 0, none⟩) (l.length + 1) cap)) (L.set i (l ++ [av])) := by
  have h1 := h.below hb
  have hiL : i < L.length := by rw [← h.len]; exact hi
  have hq : vs[i].ownBlock ≠ some q := own_neq (h1.rows i hi hiL) h1.out ty_ne
  have hout := h1.out.grown hg hq
  have hgq : g ≠ q := fun e => by
    have := own_neq ho hout ty_ne
    exact this (by rw [← e]; rfl)
  refine ⟨?_, by rw [List.length_set, List.length_set]; exact h.len, fun j a1 a2 => ?_, fun j k a1 a2 hjk u hu => ?_⟩
  · have := hout.set i (.slice (some ⟨g, 0, none⟩) (l.length + 1) cap)
    simpa using this
  · rw [List.length_set] at a1 a2
    by_cases e : j = i
    · subst e
      simp only [List.getElem_set_self, List.length_append, List.length_singleton, List.map_append, List.map_cons, List.map_nil]
      exact own_othr ho _ _ (by intro x; exact hgq (by injection x))
    · rw [List.getElem_set_ne (fun x => e x.symm), List.getElem_set_ne (fun x => e x.symm)]
      have hr := h1.rows j a1 a2
      exact own_othr (own_grown2 hr hg (fun u hu x => h.nd i j hi a1 (fun x => e x.symm) u x hu)) _ _ (own_neq hr h1.out ty_ne)
  · have b1 : j < vs.length := by simpa using a1
    have b2 : k < vs.length := by simpa using a2
    have lt : ∀ k (a : k < vs.length) u, vs[k].ownBlock = some u → u < W1.heap.size := fun k a u hu => own_lt (h1.rows k a (by rw [← h.len]; exact a)) u hu
    by_cases e : j = i
    · subst e
      rw [List.getElem_set_self] at hu
      rw [List.getElem_set_ne hjk]
      obtain rfl : g = u := by injection hu
      intro x
      rcases hat with h2 | h2
      · exact h.nd j k hi b2 hjk g h2 x
      · have := lt k b2 g x; omega
    · rw [List.getElem_set_ne (fun x => e x.symm)] at hu
      by_cases e2 : k = i
      · subst e2
        rw [List.getElem_set_self]
        intro x
        obtain rfl : g = u := by injection x
        rcases hat with h2 | h2
        · exact h.nd j k b1 hi hjk g hu h2
        · have := lt j b1 g hu; omega
      · rw [List.getElem_set_ne (fun x => e2 x.symm)]
        exact h.nd j k b1 b2 hjk u hu
end Go.Proofs.Ytdffhkbncencgaa

namespace Go.Proofs.Ytdffhkbncencgaa
open Go.RowKit Go.PlainAid
set_option linter.unusedVariables false
set_option linter.unusedSimpArgs false

theorem GT.rrows {base : Nat} {W : World} {q : Nat} {vs : List Value} {L : List (List Int)} (h : GT base W q vs L) {S : Nat → Prop} (hS : ∀ k, base ≤ k → S k) (hq : S q) (hn : L.length ≤ 100) (hr : ∀ r ∈ L, r.length ≤ 100 ∧ ∀ x ∈ r, I64 x) : RRows (vis S W) (.slice (some ⟨q, 0, none⟩) L.length L.length) L :=
  ⟨_, _, rfl, Nat.le_refl _, ⟨by omega, by omega⟩, fun i hi => ⟨q, 0, rfl, by
    have hiv : i < vs.length := by rw [h.len]; exact hi
    refine ⟨vs[i], vis_cell.2 ⟨hq, ?_⟩, ?_⟩
    · have := h.out.cell i vs[i] (by simp [hiv])
      simpa using this
    · have hrr := own_vis (h.rows i hiv hi) (S := S) (fun u hu => hS u (((h.rows i hiv hi).lt u hu).1))
      have h1 := hr _ (List.getElem_mem hi)
      exact own_RInts hrr (by omega) h1.2⟩⟩
/-- what a furnace's machines make on a day. -/
def mdS (s : Sn) (T : List (List Int)) (k day : Nat) : List Int := dyM s (lsS s T k day).lo (mksAt s k) (nowD s T k ((day : Int) - 1)) (nowD s T k day) (mksAt s k).length
/-- blocks that stay as they were. -/
def Kp (S : Nat → Prop) (Z W : World) : Prop := ∀ k, S k → W.heap[k]? = Z.heap[k]?
theorem Kp.ext {S : Nat → Prop} {Z W : World} (h : Kp S Z W) : Ext (vis S Z) W := fun p x hp => by
  obtain ⟨h1, h2⟩ := vis_cell.1 hp
  rw [World.cell?_of_block (h _ h1)]
  exact h2
/-- blocks of a world that are neither the table's nor its rows'. -/
def S0 (Z : World) (q : Nat) (vs : List Value) (k : Nat) : Prop := k < Z.heap.size ∧ k ≠ q ∧ ∀ v ∈ vs, v.ownBlock ≠ some k
theorem vis_S0 {base q : Nat} {W0 W Z : World} {vs : List Value} {L : List (List Int)} (h : GT base W0 q vs L) (hW : W0.heap.size ≤ W.heap.size) : Ext (vis (W.heap.size ≤ ·) Z) (vis (S0 Z q vs) Z) := fun p x hp => by
  obtain ⟨h1, h2⟩ := vis_cell.1 hp
  refine vis_cell.2 ⟨⟨cell_lt h2, fun e => ?_, fun v hv e => ?_⟩, h2⟩
  · have := h.out.lt; omega
  · obtain ⟨i, hi, rfl⟩ := List.getElem_of_mem hv
    have := own_lt (h.rows i hi (by rw [← h.len]; exact hi)) _ e
    omega
theorem S0_below {base q : Nat} {W0 : World} {Z W : World} {vs : List Value} (hb : Below Z.heap.size Z W) : Kp (S0 Z q vs) Z W := fun k hk => hb.block k hk.1
theorem S0_up {q : Nat} {Z Z' : World} {vs : List Value} (hb : Below Z.heap.size Z Z') : Ext (vis (S0 Z q vs) Z) (vis (S0 Z' q vs) Z') := fun p x hp => by
  obtain ⟨h1, h2⟩ := vis_cell.1 hp
  exact vis_cell.2 ⟨⟨Nat.lt_of_lt_of_le h1.1 hb.size, h1.2⟩, ext_of_below hb _ _ h2⟩

set_option maxHeartbeats 16000000 in
set_option maxRecDepth 100000 in
theorem rresults_any (s : Sn) (d : SA) (T : List (List Int)) (vt : Value) (w : World) (h : SnD w s d) (hT : RRows w vt T) (ok : OkS s) (pk : PlOk s T) :
    Calls Try.prog 49 #[.agg #[.int .i64 s.days, .slice d.a1 s.arts.length d.c1, .slice d.a2 s.ovens.length d.c2, .slice d.a3 s.mks.length d.c3, .slice d.a4 s.jobs.length d.c4, .slice d.a5 s.cols.length d.c5, .slice d.a6 s.ods.length d.c6], vt] w fun e w' => (∃ v, e = .returned (.tuple #[v, .int .i64 (csK s T s.days.toNat s.ovens.length 0)]) ∧ RRows (vis (w.heap.size ≤ ·) w') v (tblF (dvS s T) s.days.toNat s.mks.length)) ∧ Below w.heap.size w w' := by
  obtain ⟨ii, gi, hzz⟩ := Option.map_eq_some_iff.1 info_int
  obtain ⟨gz0, gz1⟩ := Prod.mk.inj hzz
  obtain ⟨gz1, gz2⟩ := Prod.mk.inj gz1
  clear hzz
  have hnm := ok.nm
  have hno := ok.no
  have hmk1 := fun w => run_make_row' (P := Try.prog) 29 30 (.slice none 0 0) 24 Try.underlying29 info_ints rfl .i64 .i64 s.mks.length (by omega) (by omega) w
  have hA := below_box w (.cells #[.int .i64 s.days, .slice d.a1 s.arts.length d.c1, .slice d.a2 s.ovens.length d.c2, .slice d.a3 s.mks.length d.c3, .slice d.a4 s.jobs.length d.c4, .slice d.a5 s.cols.length d.c5, .slice d.a6 s.ods.length d.c6] 28)
  have hB := Blk.new w #[.int .i64 s.days, .slice d.a1 s.arts.length d.c1, .slice d.a2 s.ovens.length d.c2, .slice d.a3 s.mks.length d.c3, .slice d.a4 s.jobs.length d.c4, .slice d.a5 s.cols.length d.c5, .slice d.a6 s.ods.length d.c6] 28
  have HS := Lib.hid (fun V (hV : Below w.heap.size w V) => h.mono (ext_of_below hV))
  have HT := Lib.hid (fun V (hV : Below w.heap.size w V) => hT.mono (ext_of_below hV))
  have HOK := Lib.hid ok
  have HPK := Lib.hid pk
  obtain ⟨D, hD⟩ : ∃ D, s.days.toNat = D := ⟨_, rfl⟩
  have hDd : s.days = (D : Int) := by have := ok.days; omega
  have hDb : D ≤ 14 := by have := ok.days; omega
  rw [hD]
  have HDd := Lib.hid hDd
  clear h hT ok pk hD hDd
  go_enter Try.func49, Try.ntmps49
  go_upto_region 1 with (fail)
  generalize hWe : w.alloc (.cells #[.int .i64 s.days, .slice d.a1 s.arts.length d.c1, .slice d.a2 s.ovens.length d.c2, .slice d.a3 s.mks.length d.c3, .slice d.a4 s.jobs.length d.c4, .slice d.a5 s.cols.length d.c5, .slice d.a6 s.ods.length d.c6] 28) = W at *
  have x3 := hB.cell 3 _ rfl
  have hq0 := Blk.new W (madeCells #[Value.slice none 0 0] s.mks.length) 30
  have hAq := below_box W (.cells (madeCells #[Value.slice none 0 0] s.mks.length) 30)
  have hB1 := hB.alloc (.cells (madeCells #[Value.slice none 0 0] s.mks.length) 30)
  have hWw : w.heap.size < W.heap.size := hB.lt
  go_upto_region 4 with (fail)
  generalize W.alloc (.cells (madeCells #[Value.slice none 0 0] s.mks.length) 30) = W1 at *
  have e1 : madeCells #[Value.slice none 0 0] s.mks.length = Array.replicate s.mks.length (Value.slice none 0 0) := by rw [made_eq]; simp
  have e2 : Array.replicate s.mks.length (Value.slice none 0 0) = (List.replicate s.mks.length (Value.slice none 0 0)).toArray := by simp
  rw [e1] at hq0
  rw [e2] at hq0
  clear hmk1 e1 e2 x3 hWe
  have hG0 : GT W.heap.size W1 W.heap.size (List.replicate s.mks.length (Value.slice none 0 0)) (tblN (dvS s T) s.mks.length (cntO s D 0 0)) := by
    have hc : tblN (dvS s T) s.mks.length (cntO s D 0 0) = List.replicate s.mks.length [] := by
      rw [← tblN_nil (dvS s T)]
      exact tblN_congr fun m hm => by unfold cntO; simp
    rw [hc]
    refine ⟨hq0, by simp, fun i h1 h2 => ?_, fun i j hi hj _ g hg => ?_⟩
    · simp only [List.getElem_replicate]
      exact World.ownsRow_nil _ _ _ _
    · simp only [List.getElem_replicate] at hg
      cases hg
  have HQ : Hid (Below W.heap.size W W1) := Lib.hid hAq
  go_loopw [7, 8] (fun c i wr => ∃ (k : Nat) (vs : List Value), k ≤ s.ovens.length ∧ i = .int .i64 k ∧ c = .int .i64 (csK s T D k 0) ∧ Hid (GT W.heap.size wr W.heap.size vs (tblN (dvS s T) s.mks.length (cntO s D k 0))) ∧ Below W.heap.size W wr) (fun _ i _ => s.ovens.length - (intOf i).toNat)
  case atStart => exact ⟨0, _, Nat.zero_le _, rfl, by rw [csK_zero], Lib.hid hG0, HQ.out⟩
  case round =>
    obtain ⟨k, vs, hk, rfl, rfl, hg, hb⟩ := hrel
    have hE := hA.trans (hb.mono hA.size)
    have hBk := hB.below hb hB.lt
    have x2 := hBk.cell 2 _ rfl
    by_cases hlt : k < s.ovens.length
    case neg =>
      obtain rfl : k = s.ovens.length := by omega
      have aN : ¬ (s.ovens.length : Int) < (s.ovens.length : Int) := by omega
      have HR : Hid (RRows (vis (w.heap.size ≤ ·) wr) (.slice (some ⟨W.heap.size, 0, none⟩) s.mks.length s.mks.length) (tblF (dvS s T) D s.mks.length)) := Lib.hid (by
        have h2 : tblN (dvS s T) s.mks.length (cntO s D s.ovens.length 0) = tblF (dvS s T) D s.mks.length := by
          rw [← tblN_const]; exact tblN_congr (cntO_end HOK.out D)
        have h3 := hg.out
        rw [h2] at h3
        have h4 := h3.rrows (S := (w.heap.size ≤ ·)) (fun q hq => Nat.le_trans (Nat.le_of_lt hWw) hq) (Nat.le_of_lt hWw) (by rw [(tblF_shp _ _ _).1]; omega) (fun r hr => by
          refine ⟨by rw [(tblF_shp (dvS s T) D s.mks.length).2 r hr]; omega, fun y hy => ?_⟩
          unfold tblF at hr
          obtain ⟨i, -, rfl⟩ := List.mem_map.1 hr
          obtain ⟨j, -, rfl⟩ := List.mem_map.1 hy
          have := dvS_bd HOK.out T i j
          unfold I64; omega)
        rw [(tblF_shp (dvS s T) D s.mks.length).1] at h4
        exact h4)
      clear hg hG0 hq0
      go_wp2
      go_ret2
      exact ⟨⟨_, rfl, HR.out⟩, hE⟩
    case pos =>
    have j1 : (0 : Int) ≤ (k : Int) := Int.natCast_nonneg _
    have j2 : (k : Int) < (s.ovens.length : Int) := by omega
    go_upto_region 7 with (fail)
    clear x2 hG0 hq0
    have HB1 := Lib.hid hb
    clear hb hE hBk
    go_loopw [7, 9] (fun c i wx => ∃ (m : Nat) (vs : List Value), m ≤ D ∧ i = .int .i64 m ∧ c = .int .i64 (csK s T D k m) ∧ Hid (GT W.heap.size wx W.heap.size vs (tblN (dvS s T) s.mks.length (cntO s D k m))) ∧ Below W.heap.size W wx) (fun _ i _ => D - (intOf i).toNat)
    case atStart => exact ⟨0, vs, Nat.zero_le _, rfl, rfl, hg, HB1.out⟩
    case round =>
      obtain ⟨m, vs, hm, rfl, rfl, hg, hb⟩ := hrel
      have hE := hA.trans (hb.mono hA.size)
      have hBr := hB.below hb hB.lt
      have x0 := hBr.cell 0 _ rfl
      rw [HDd.out] at x0
      by_cases hlm : m < D
      case neg =>
        obtain rfl : m = D := by omega
        have aN : ¬ (m : Int) < (m : Int) := by omega
        have HG : Hid (GT W.heap.size wr W.heap.size vs (tblN (dvS s T) s.mks.length (cntO s m (k + 1) 0))) := Lib.hid (by
          have := hg.out
          rw [tblN_congr (fun j _ => cntO_next s m k j)] at this
          exact this)
        clear hg hBr
        go_wp2
        go_roundw
        case rel => exact ⟨k + 1, vs, by omega, by go_num, by rw [csK_oven], HG, hb⟩
        case measure => simp [intOf]; omega
      case pos =>
      have j3 : (0 : Int) ≤ (m : Int) := Int.natCast_nonneg _
      have j4 : (m : Int) < (D : Int) := by omega
      have hmd : (m : Int) < s.days := by rw [HDd.out]; exact j4
      have hcb := csK_bd HOK.out T hDb k m (by omega)
      have hdb := dcS_bd HOK.out T k m
      have hcd := csK_day s T D k m
      have zw : wrap64 ((m : Int) - 1) = (m : Int) - 1 := wrap_id _ (by unfold I64; omega)
      have hsh1 : ShOk s (nowD s T k ((m : Int) - 1)) := nowD_bd HOK.out HPK.out k (by omega) (by omega)
      have hsh2 : ShOk s (nowD s T k (m : Int)) := nowD_bd HOK.out HPK.out k (by omega) hmd
      have hl1 : (nowD s T k ((m : Int) - 1)).length = (mksAt s k).length := by unfold nowD; simp
      have hl2 : (nowD s T k (m : Int)).length = (mksAt s k).length := by unfold nowD; simp
      have hc1 : ∀ V, Below w.heap.size w V → Calls Try.prog 48 #[.agg #[.int .i64 s.days, .slice d.a1 s.arts.length d.c1, .slice d.a2 s.ovens.length d.c2, .slice d.a3 s.mks.length d.c3, .slice d.a4 s.jobs.length d.c4, .slice d.a5 s.cols.length d.c5, .slice d.a6 s.ods.length d.c6], vt, .int .i64 k, .int .i64 ((m : Int) - 1)] V fun e w' => (∃ v, e = .returned v ∧ RInts (vis (V.heap.size ≤ ·) w') v (nowD s T k ((m : Int) - 1))) ∧ Below V.heap.size V w' := fun V hV => rshift_any s d T vt k ((m : Int) - 1) V (HS.out _ hV) (HT.out _ hV) HOK.out HPK.out (by omega) (by omega)
      have hc2 : ∀ V, Below w.heap.size w V → Calls Try.prog 48 #[.agg #[.int .i64 s.days, .slice d.a1 s.arts.length d.c1, .slice d.a2 s.ovens.length d.c2, .slice d.a3 s.mks.length d.c3, .slice d.a4 s.jobs.length d.c4, .slice d.a5 s.cols.length d.c5, .slice d.a6 s.ods.length d.c6], vt, .int .i64 k, .int .i64 (m : Int)] V fun e w' => (∃ v, e = .returned v ∧ RInts (vis (V.heap.size ≤ ·) w') v (nowD s T k (m : Int))) ∧ Below V.heap.size V w' := fun V hV => rshift_any s d T vt k (m : Int) V (HS.out _ hV) (HT.out _ hV) HOK.out HPK.out (by omega) hmd
      have hc3 : ∀ V ab cb an cn, Below w.heap.size w V → RInts V (.slice ab (nowD s T k ((m : Int) - 1)).length cb) (nowD s T k ((m : Int) - 1)) → RInts V (.slice an (nowD s T k (m : Int)).length cn) (nowD s T k (m : Int)) → Calls Try.prog 70 #[.agg #[.int .i64 s.days, .slice d.a1 s.arts.length d.c1, .slice d.a2 s.ovens.length d.c2, .slice d.a3 s.mks.length d.c3, .slice d.a4 s.jobs.length d.c4, .slice d.a5 s.cols.length d.c5, .slice d.a6 s.ods.length d.c6], .int .i64 k, .slice ab (nowD s T k ((m : Int) - 1)).length cb, .slice an (nowD s T k (m : Int)).length cn] V fun e w' => (∃ v, e = .returned (.tuple #[v, .int .i64 (dcS s T k m)]) ∧ RInts (vis (V.heap.size ≤ ·) w') v (mdS s T k m)) ∧ Below V.heap.size V w' := fun V ab cb an cn hV hb1 hn1 => rDay_any s d k _ _ ab an cb cn V (HS.out _ hV) HOK.out hb1 hn1 hsh1 hsh2 hl1 hl2
      have hca := fun V (hV : Below w.heap.size w V) => rAt_any s d (k : Int) V (HS.out _ hV) hnm
      have hml := Nat.le_trans (mksAt_len s k) hnm
      have hmdl : (mdS s T k m).length = (mksAt s k).length := dyM_len _ _ _ _ _ _
      generalize nowD s T k ((m : Int) - 1) = bef at *
      generalize nowD s T k (m : Int) = now at *
      generalize dcS s T k m = dc at *
      have HCB := Lib.hid hcb
      have HDB := Lib.hid hdb
      have HCD := Lib.hid hcd
      have HC1 := Lib.hid hc1
      have HC2 := Lib.hid hc2
      have HC3 := Lib.hid hc3
      have HCA := Lib.hid hca
      have HML := Lib.hid hml
      have HMDL := Lib.hid hmdl
      have HG := hg
      clear hcb hdb hcd hc1 hc2 hc3 hca hsh1 hsh2 hl1 hl2 hmd hml hmdl hg
      go_upto_region 9 with (fail)
      clear x0
      obtain ⟨WD, rfl⟩ : ∃ V, V = wr := ⟨_, rfl⟩
      have D0 : Below WD.heap.size WD WD.drew := (Below.refl _ _).drew
      have HSV : Hid (∀ V, Below WD.heap.size WD V → (fun w' : World => w'.rangeAt w.heap.size 0 (#[.int .i64 s.days, .slice d.a1 s.arts.length d.c1, .slice d.a2 s.ovens.length d.c2, .slice d.a3 s.mks.length d.c3, .slice d.a4 s.jobs.length d.c4, .slice d.a5 s.cols.length d.c5, .slice d.a6 s.ods.length d.c6]).toList) V) := Lib.hid (fun V hV => (hBr.below hV hBr.lt).range)
      refine wp_region_till (fun w' : World => w'.rangeAt w.heap.size 0 (#[.int .i64 s.days, .slice d.a1 s.arts.length d.c1, .slice d.a2 s.ovens.length d.c2, .slice d.a3 s.mks.length d.c3, .slice d.a4 s.jobs.length d.c4, .slice d.a5 s.cols.length d.c5, .slice d.a6 s.ods.length d.c6]).toList) 19 (by kernel_rfl) (HSV.out _ D0) (fun hHeld => ?_)
      have HD0 := Lib.hid D0
      have HED := Lib.hid hE
      have HBD := Lib.hid hb
      have HBR := Lib.hid hBr
      clear D0 hE hb hBr
      generalize WD.drew = wd at *
      refine Till.take 0 (some 32) (v := .agg #[.int .i64 s.days, .slice d.a1 s.arts.length d.c1, .slice d.a2 s.ovens.length d.c2, .slice d.a3 s.mks.length d.c3, .slice d.a4 s.jobs.length d.c4, .slice d.a5 s.cols.length d.c5, .slice d.a6 s.ods.length d.c6]) rfl rfl (by kernel_rfl) (by kernel_rfl) (by kernel_rfl) (by kernel_rfl) (fun _ _ _ h => h) (yieldsIf_load_mid rfl 28 (Operand.tmp 2) rfl (w.heap.size) 0 rfl (#[.int .i64 s.days, .slice d.a1 s.arts.length d.c1, .slice d.a2 s.ovens.length d.c2, .slice d.a3 s.mks.length d.c3, .slice d.a4 s.jobs.length d.c4, .slice d.a5 s.cols.length d.c5, .slice d.a6 s.ods.length d.c6]).toList _ (fun _ h => h) Try.underlying28 rfl (by rw [sz_season]; rfl)) (by assumption) ?_
      try simp only [Act.put, List.setIfInBounds_toArray, List.set_cons_zero, List.set_cons_succ]
      refine Till.take 2 (some 34) (v := .agg #[.int .i64 s.days, .slice d.a1 s.arts.length d.c1, .slice d.a2 s.ovens.length d.c2, .slice d.a3 s.mks.length d.c3, .slice d.a4 s.jobs.length d.c4, .slice d.a5 s.cols.length d.c5, .slice d.a6 s.ods.length d.c6]) rfl rfl (by kernel_rfl) (by kernel_rfl) (by kernel_rfl) (by kernel_rfl) (fun _ _ _ h => h) (yieldsIf_load_mid rfl 28 (Operand.tmp 2) rfl (w.heap.size) 0 rfl (#[.int .i64 s.days, .slice d.a1 s.arts.length d.c1, .slice d.a2 s.ovens.length d.c2, .slice d.a3 s.mks.length d.c3, .slice d.a4 s.jobs.length d.c4, .slice d.a5 s.cols.length d.c5, .slice d.a6 s.ods.length d.c6]).toList _ (fun _ h => h) Try.underlying28 rfl (by rw [sz_season]; rfl)) (by assumption) ?_
      try simp only [Act.put, List.setIfInBounds_toArray, List.set_cons_zero, List.set_cons_succ]
      refine Till.take 8 (some 40) (v := .agg #[.int .i64 s.days, .slice d.a1 s.arts.length d.c1, .slice d.a2 s.ovens.length d.c2, .slice d.a3 s.mks.length d.c3, .slice d.a4 s.jobs.length d.c4, .slice d.a5 s.cols.length d.c5, .slice d.a6 s.ods.length d.c6]) rfl rfl (by kernel_rfl) (by kernel_rfl) (by kernel_rfl) (by kernel_rfl) (fun _ _ _ h => h) (yieldsIf_load_mid rfl 28 (Operand.tmp 2) rfl (w.heap.size) 0 rfl (#[.int .i64 s.days, .slice d.a1 s.arts.length d.c1, .slice d.a2 s.ovens.length d.c2, .slice d.a3 s.mks.length d.c3, .slice d.a4 s.jobs.length d.c4, .slice d.a5 s.cols.length d.c5, .slice d.a6 s.ods.length d.c6]).toList _ (fun _ h => h) Try.underlying28 rfl (by rw [sz_season]; rfl)) (by assumption) ?_
      try simp only [Act.put, List.setIfInBounds_toArray, List.set_cons_zero, List.set_cons_succ]
      refine Till.take 1 (some 33) (v := ?_) rfl rfl (by kernel_rfl) (by kernel_rfl) (by kernel_rfl) (by kernel_rfl) (fun _ _ _ h => h) (Or.inl ⟨by rfl, ?_⟩) (by assumption) ?_
      rotate_left
      · (intro w hSw; (try dsimp only at hSw); go_simp; try with_reducible rfl)
      try simp only [Act.put, List.setIfInBounds_toArray, List.set_cons_zero, List.set_cons_succ]
      refine Till.take 3 (some 35) (v := ?_) rfl rfl (by kernel_rfl) (by kernel_rfl) (by kernel_rfl) (by kernel_rfl) (fun _ _ _ h => h) (Or.inl ⟨by rfl, ?_⟩) (by assumption) ?_
      rotate_left
      · (intro w hSw; (try dsimp only at hSw); go_simp; try with_reducible rfl)
      try simp only [Act.put, List.setIfInBounds_toArray, List.set_cons_zero, List.set_cons_succ]
      refine Till.take 4 (some 36) (v := ?_) rfl rfl (by kernel_rfl) (by kernel_rfl) (by kernel_rfl) (by kernel_rfl) (fun _ _ _ h => h) (Or.inl ⟨by rfl, ?_⟩) (by assumption) ?_
      rotate_left
      · (intro w hSw; (try dsimp only at hSw); go_simp; try with_reducible rfl)
      try simp only [Act.put, List.setIfInBounds_toArray, List.set_cons_zero, List.set_cons_succ]
      refine Till.take 5 (some 37) (v := ?_) rfl rfl (by kernel_rfl) (by kernel_rfl) (by kernel_rfl) (by kernel_rfl) (fun _ _ _ h => h) (Or.inl ⟨by rfl, ?_⟩) (by assumption) ?_
      rotate_left
      · (intro w hSw; (try dsimp only at hSw); go_simp; try with_reducible rfl)
      try simp only [Act.put, List.setIfInBounds_toArray, List.set_cons_zero, List.set_cons_succ]
      refine Till.take 6 (some 38) (v := ?_) rfl rfl (by kernel_rfl) (by kernel_rfl) (by kernel_rfl) (by kernel_rfl) (fun _ _ _ h => h) (Or.inl ⟨by rfl, ?_⟩) (by assumption) ?_
      rotate_left
      · (intro w hSw; (try dsimp only at hSw); go_simp; try with_reducible rfl)
      try simp only [Act.put, List.setIfInBounds_toArray, List.set_cons_zero, List.set_cons_succ]
      refine Till.take 9 (some 41) (v := ?_) rfl rfl (by kernel_rfl) (by kernel_rfl) (by kernel_rfl) (by kernel_rfl) (fun _ _ _ h => h) (Or.inl ⟨by rfl, ?_⟩) (by assumption) ?_
      rotate_left
      · (intro w hSw; (try dsimp only at hSw); go_simp; try with_reducible rfl)
      try simp only [Act.put, List.setIfInBounds_toArray, List.set_cons_zero, List.set_cons_succ]
      refine Till.take 10 (some 42) (v := ?_) rfl rfl (by kernel_rfl) (by kernel_rfl) (by kernel_rfl) (by kernel_rfl) (fun _ _ _ h => h) (Or.inl ⟨by rfl, ?_⟩) (by assumption) ?_
      rotate_left
      · (intro w hSw; (try dsimp only at hSw); go_simp; try with_reducible rfl)
      try simp only [Act.put, List.setIfInBounds_toArray, List.set_cons_zero, List.set_cons_succ]
      refine Till.take 11 (some 43) (v := ?_) rfl rfl (by kernel_rfl) (by kernel_rfl) (by kernel_rfl) (by kernel_rfl) (fun _ _ _ h => h) (Or.inl ⟨by rfl, ?_⟩) (by assumption) ?_
      rotate_left
      · (intro w hSw; (try dsimp only at hSw); go_simp; try with_reducible rfl)
      try simp only [Act.put, List.setIfInBounds_toArray, List.set_cons_zero, List.set_cons_succ]
      refine Till.one 7 rfl (by kernel_rfl) (fun K hK => ?_)
      go_simp
      go_at_call 48
      rw [show IntKind.i64.wrap ((m : Int) - 1) = (m : Int) - 1 from (i64_is _).trans zw]
      refine (HC1.out _ (HED.out.trans (HD0.out.mono HED.out.size))).mono ?_
      rintro e w4 ⟨⟨v, rfl, hv⟩, hb4⟩
      have D4 := HD0.out.trans (hb4.mono HD0.out.size)
      have hh4 := HSV.out _ D4
      replace hv := hv.mono vis_out
      obtain ⟨ab, cb, rfl⟩ := hv.shape
      have HV1 := Lib.hid hv
      refine hK.out _ _ (fun _ => hh4) (fun hHeld4 => ?_)
      have HD4 := Lib.hid D4
      clear hK K hb4 hv D4 HD0
      try simp only [Act.put, List.setIfInBounds_toArray, List.set_cons_zero, List.set_cons_succ]
      refine Till.one 12 rfl (by kernel_rfl) (fun K hK => ?_)
      go_simp
      go_at_call 48
      refine (HC2.out _ (HED.out.trans (HD4.out.mono HED.out.size))).mono ?_
      rintro e w5 ⟨⟨v, rfl, hv⟩, hb5⟩
      have D5 := HD4.out.trans (hb5.mono HD4.out.size)
      have hh5 := HSV.out _ D5
      replace hv := hv.mono vis_out
      obtain ⟨an, cn, rfl⟩ := hv.shape
      have HV2 := Lib.hid hv
      have HV1' := Lib.hid (HV1.out.mono (ext_of_below hb5))
      refine hK.out _ _ (fun _ => hh5) (fun hHeld5 => ?_)
      have HD5 := Lib.hid D5
      clear hK K hb5 hv D5 HD4 HV1 hh4 hHeld4
      try simp only [Act.put, List.setIfInBounds_toArray, List.set_cons_zero, List.set_cons_succ]
      refine Till.one 13 rfl (by kernel_rfl) (fun K hK => ?_)
      go_simp
      go_at_call 70
      refine (HC3.out _ ab cb an cn (HED.out.trans (HD5.out.mono HED.out.size)) HV1'.out HV2.out).mono ?_
      rintro e w6 ⟨⟨v, rfl, hv⟩, hb6⟩
      have D6 := HD5.out.trans (hb6.mono HD5.out.size)
      have hh6 := HSV.out _ D6
      have hv6 := hv.mono (vis_S0 HG.out (Nat.le_trans HD5.out.size (Nat.le_refl _)))
      obtain ⟨amd, cmd, rfl⟩ := hv6.shape
      have HV6 := Lib.hid hv6
      refine hK.out _ _ (fun _ => hh6) (fun hHeld6 => ?_)
      have HD6 := Lib.hid D6
      clear hK K hb6 hv hv6 D6 HD5 HV1' HV2 hh5 hHeld5
      try simp only [Act.put, List.setIfInBounds_toArray, List.set_cons_zero, List.set_cons_succ]
      refine Till.take 14 (some 31) (v := ?_) rfl rfl (by kernel_rfl) (by kernel_rfl) (by kernel_rfl) (by kernel_rfl) (fun _ _ _ h => h) (Or.inl ⟨by rfl, ?_⟩) (by assumption) ?_
      rotate_left
      · (intro w hSw; (try dsimp only at hSw); go_simp; try with_reducible rfl)
      try simp only [Act.put, List.setIfInBounds_toArray, List.set_cons_zero, List.set_cons_succ]
      refine Till.take 15 (some 46) (v := ?_) rfl rfl (by kernel_rfl) (by kernel_rfl) (by kernel_rfl) (by kernel_rfl) (fun _ _ _ h => h) (Or.inl ⟨by rfl, ?_⟩) (by assumption) ?_
      rotate_left
      · (intro w hSw; (try dsimp only at hSw); go_simp; try with_reducible rfl)
      try simp only [Act.put, List.setIfInBounds_toArray, List.set_cons_zero, List.set_cons_succ]
      refine Till.take 16 (some 47) (v := ?_) rfl rfl (by kernel_rfl) (by kernel_rfl) (by kernel_rfl) (by kernel_rfl) (fun _ _ _ h => h) (Or.inl ⟨by rfl, ?_⟩) (by assumption) ?_
      rotate_left
      · (intro w hSw; (try dsimp only at hSw); go_simp; try with_reducible rfl)
      try simp only [Act.put, List.setIfInBounds_toArray, List.set_cons_zero, List.set_cons_succ]
      refine Till.take 17 (some 10) (v := ?_) rfl rfl (by kernel_rfl) (by kernel_rfl) (by kernel_rfl) (by kernel_rfl) (fun _ _ _ h => h) (Or.inl ⟨by rfl, ?_⟩) (by assumption) ?_
      rotate_left
      · (intro w hSw; (try dsimp only at hSw); go_simp; try with_reducible rfl)
      try simp only [Act.put, List.setIfInBounds_toArray, List.set_cons_zero, List.set_cons_succ]
      refine Till.take 18 (some 11) (v := ?_) rfl rfl (by kernel_rfl) (by kernel_rfl) (by kernel_rfl) (by kernel_rfl) (fun _ _ _ h => h) (Or.inl ⟨by rfl, ?_⟩) (by assumption) ?_
      rotate_left
      · (intro w hSw; (try dsimp only at hSw); go_simp; try with_reducible rfl)
      try simp only [Act.put, List.setIfInBounds_toArray, List.set_cons_zero, List.set_cons_succ]
      refine Till.done (by kernel_rfl) ?_ _
      clear hh6 hHeld6 hHeld
      have hE6 := HED.out.trans (HD6.out.mono HED.out.size)
      have hB6 := HBR.out.below HD6.out HBR.out.lt
      have zc : wrap64 (csK s T D k m + dc) = csK s T D k m + dc := wrap_id _ (by have := HCB.out; have := HDB.out; unfold I64; omega)
      have hcd := HCD.out
      generalize csK s T D k m = c0 at *
      have x0 := hB6.cell 0 _ rfl
      have x1 := hB6.cell 1 _ rfl
      have x2 := hB6.cell 2 _ rfl
      have x3 := hB6.cell 3 _ rfl
      have x4 := hB6.cell 4 _ rfl
      have x5 := hB6.cell 5 _ rfl
      have x6 := hB6.cell 6 _ rfl
      go_wp2_with fail
      refine (HCA.out _ hE6).mono ?_
      rintro e w7 ⟨⟨v, rfl, hv⟩, hb7⟩
      clear x0 x1 x2 x3 x4 x5 x6
      have hv7 := hv.mono (vis_S0 HG.out (Nat.le_trans HD6.out.size (Nat.le_refl _)))
      obtain ⟨al, cl, rfl⟩ := hv7.shape
      have HL7 := Lib.hid hv7
      have HM7 := Lib.hid (HV6.out.mono (S0_up hb7))
      have hD7 := HD6.out.trans (hb7.mono HD6.out.size)
      have HG7 := Lib.hid (HG.out.below hD7)
      have HB7 := Lib.hid (HBD.out.trans (hD7.mono HBD.out.size))
      clear hv hv7 hb7 hE6 hB6 zc HD6 HV6 hD7
      have HCC := Lib.hid hcd
      clear hcd
      go_upto_region 13 with (fail)
      go_loopw [13] (fun i wy => ∃ (j : Nat) (us : List Value), j ≤ (mksAt s k).length ∧ i = .int .i64 j ∧ Hid (GT W.heap.size wy W.heap.size us (tblN (dvS s T) s.mks.length (cntI s D k m j))) ∧ Hid (Kp (S0 w7 W.heap.size vs) w7 wy) ∧ Hid (∀ u ∈ us, ∀ g, u.ownBlock = some g → ¬ S0 w7 W.heap.size vs g) ∧ w7.heap.size ≤ wy.heap.size ∧ Below W.heap.size W wy) (fun i _ => (mksAt s k).length - (intOf i).toNat)
      case atStart => exact ⟨0, vs, Nat.zero_le _, rfl, Lib.hid (by rw [show cntI s D k m 0 = cntO s D k m from cntI_zero s D k m]; exact HG7.out), Lib.hid (fun _ _ => rfl), Lib.hid (fun u hu g hg hs => hs.2.2 u hu hg), Nat.le_refl _, HB7.out⟩
      case round =>
        obtain ⟨j, us, hj, rfl, hg, hkp, hus, hsz, hb⟩ := hrel
        by_cases hlj : j < (mksAt s k).length
        case neg =>
          obtain rfl : j = (mksAt s k).length := by omega
          have aN : ¬ ((mksAt s k).length : Int) < ((mksAt s k).length : Int) := by omega
          have HGN : Hid (GT W.heap.size wr W.heap.size us (tblN (dvS s T) s.mks.length (cntO s D k (m + 1)))) := Lib.hid (by
            rw [← tblN_congr (cntI_full HOK.out D k m)]; exact hg.out)
          clear hg hkp hus
          go_wp2
          go_roundw
          case rel => exact ⟨m + 1, us, by omega, by go_num, by rw [HCC.out], HGN, hb⟩
          case measure => simp [intOf]; omega
        case pos =>
        have hljm : j < (mdS s T k m).length := by rw [HMDL.out]; exact hlj
        obtain ⟨b1, o1, he1, r1, -⟩ := ints_at HL7.out hlj
        obtain ⟨b3, o3, he3, r3, -⟩ := ints_at HM7.out hljm
        subst he1
        subst he3
        obtain ⟨s1, -⟩ := vis_cell.1 r1
        obtain ⟨s3, -⟩ := vis_cell.1 r3
        replace r1 := hkp.out.ext _ _ r1
        replace r3 := hkp.out.ext _ _ r3
        obtain ⟨mn, hmn⟩ := Int.eq_ofNat_of_zero_le (mksAt_ok s k _ (List.getElem_mem hlj)).1
        have hml : mn < s.mks.length := by have := (mksAt_ok s k _ (List.getElem_mem hlj)).2; omega
        obtain ⟨q1, q2, q3⟩ := cntI_at HOK.out (D := D) (d := m) hlj hmn hml
        have hav : (mdS s T k m)[j] = dvS s T mn m := by
          have hov : ovOf s mn = k := (mem_mksAt HOK.out hml).1 (by rw [← hmn]; exact List.getElem_mem hlj)
          have hj1 : j < (nowD s T k ((m : Int) - 1)).length := by unfold nowD; simpa using hlj
          have hj2 : j < (nowD s T k (m : Int)).length := by unfold nowD; simpa using hlj
          have e1 : (nowD s T k ((m : Int) - 1))[j] = planC s T ((m : Int) - 1) (mn : Int) := by simp only [nowD, List.getElem_map]; rw [hmn]
          have e2 : (nowD s T k (m : Int))[j] = planC s T (m : Int) (mn : Int) := by simp only [nowD, List.getElem_map]; rw [hmn]
          unfold dvS
          rw [hov]
          simp only [mdS, dyM, List.getElem_map, List.getElem_range]
          rw [getD_at hlj, getD_at hj1, getD_at hj2, e1, e2, hmn]
        rw [hmn] at r1
        rw [hav] at r3
        have hset := tblN_set (f := dvS s T) hml (by rw [q2, q1]) q3
        rw [q1] at hset
        have hlu : us.length = s.mks.length := by rw [hg.out.len, tblN_len]
        have hmu : mn < us.length := by rw [hlu]; exact hml
        have hcell : wr.cell? ⟨W.heap.size, mn, none⟩ = some us[mn] := by
          have := hg.out.out.cell mn us[mn] (by simp [hmu])
          simpa using this
        have hLm := tblN_at (dvS s T) (cntI s D k m j) hml
        rw [q1] at hLm
        have hown := hg.out.rows mn hmu (by rw [tblN_len]; exact hml)
        rw [hLm] at hown
        have hadd := fun (W1 W2 : World) (g cap : Nat) (av : Int) (hbx : Below wr.heap.size wr W1) => hg.out.add hbx hmu (W2 := W2) (g := g) (cap := cap) (av := av) hLm
        have huq : us[mn].ownBlock ≠ some W.heap.size := own_neq hown hg.out.out ty_ne
        have hu1 : us[mn].ownBlock ≠ some b1 := fun e => hus.out _ (List.getElem_mem hmu) _ e s1
        have hu3 : us[mn].ownBlock ≠ some b3 := fun e => hus.out _ (List.getElem_mem hmu) _ e s3
        have huS : ∀ g, us[mn].ownBlock = some g → ¬ S0 w7 W.heap.size vs g := fun g e => hus.out _ (List.getElem_mem hmu) g e
        have hW0 : ∀ g, us[mn].ownBlock = some g → W.heap.size ≤ g := fun g e => (hown.lt g e).1
        have hout := hg.out.out
        have hRL : ((List.range m).map (dvS s T mn)).length ≤ 14 := by simp; omega
        generalize (List.range m).map (dvS s T mn) = l at *
        generalize dvS s T mn m = av at *
        obtain ⟨u, hu⟩ : ∃ u, us[mn] = u := ⟨_, rfl⟩
        rw [hu] at hcell hown huq hu1 hu3 huS hW0
        have hq1 : W.heap.size ≠ b1 := fun e => s1.2.1 e.symm
        have hq3 : W.heap.size ≠ b3 := fun e => s3.2.1 e.symm
        have HADD := Lib.hid hadd
        have HU := Lib.hid hu
        have HUS := Lib.hid huS
        have HW0 := Lib.hid hW0
        have HOUT := Lib.hid hout
        have HUQ := Lib.hid (And.intro huq (And.intro hu1 hu3))
        have HQ13 := Lib.hid (And.intro hq1 hq3)
        have HSET := Lib.hid hset
        have HKP := hkp
        have HUSA := hus
        have HBB := Lib.hid hb
        have HSZ := Lib.hid hsz
        have t1 : (0 : Int) ≤ (j : Int) := Int.natCast_nonneg _
        have t2 : (j : Int) < ((mksAt s k).length : Int) := by omega
        have t3 : (0 : Int) ≤ (mn : Int) := Int.natCast_nonneg _
        have t4 : (mn : Int) < (s.mks.length : Int) := by omega
        have t5 : (j : Int) < ((mdS s T k m).length : Int) := by omega
        have HSV : Hid (∀ V, Below wr.heap.size wr V → (fun w' : World => w'.cell? ⟨b1, o1 + j, none⟩ = some (.int .i64 (mn : Int)) ∧ w'.cell? ⟨W.heap.size, mn, none⟩ = some u ∧ w'.cell? ⟨b3, o3 + j, none⟩ = some (.int .i64 av)) V) := Lib.hid (fun V hV => ⟨ext_of_below hV _ _ r1, ext_of_below hV _ _ hcell, ext_of_below hV _ _ r3⟩)
        have hbw := hb.size
        clear hadd hu huS hW0 hout huq hu1 hu3 hq1 hq3 hset hkp hus hb hsz hg s1 s3 hmn q1 q2 q3 hav hlu hLm r1 r3 hcell
        go_upto_region 15 with (fail)
        have D0 : Below wr.heap.size wr wr.drew := (Below.refl _ _).drew
        have hown0 := own_drew8 hown
        refine wp_region_till (fun w' : World => w'.cell? ⟨b1, o1 + j, none⟩ = some (.int .i64 (mn : Int)) ∧ w'.cell? ⟨W.heap.size, mn, none⟩ = some u ∧ w'.cell? ⟨b3, o3 + j, none⟩ = some (.int .i64 av)) 19 (by kernel_rfl) (HSV.out _ D0) (fun hHeld => ?_)
        have HD0 := Lib.hid D0
        clear D0
        refine Till.take 0 (some 60) (v := ?_) rfl rfl (by kernel_rfl) (by kernel_rfl) (by kernel_rfl) (by kernel_rfl) (fun _ _ _ h => h) (Or.inl ⟨by rfl, ?_⟩) (by assumption) ?_
        rotate_left
        · (intro w hSw; (try dsimp only at hSw); go_simp; try with_reducible rfl)
        try simp only [Act.put, List.setIfInBounds_toArray, List.set_cons_zero, List.set_cons_succ]
        refine Till.take 1 (some 61) (v := ?_) rfl rfl (by kernel_rfl) (by kernel_rfl) (by kernel_rfl) (by kernel_rfl) (fun _ _ _ h => h) (Or.inl ⟨by rfl, ?_⟩) (by assumption) ?_
        rotate_left
        · (intro w hSw; (try dsimp only at hSw); go_simp; try with_reducible rfl)
        try simp only [Act.put, List.setIfInBounds_toArray, List.set_cons_zero, List.set_cons_succ]
        refine Till.take 2 (some 62) (v := ?_) rfl rfl (by kernel_rfl) (by kernel_rfl) (by kernel_rfl) (by kernel_rfl) (fun _ _ _ h => h) (Or.inl ⟨by rfl, ?_⟩) (by assumption) ?_
        rotate_left
        · (intro w hSw; (try dsimp only at hSw); go_simp; try with_reducible rfl)
        try simp only [Act.put, List.setIfInBounds_toArray, List.set_cons_zero, List.set_cons_succ]
        refine Till.take 3 (some 63) (v := ?_) rfl rfl (by kernel_rfl) (by kernel_rfl) (by kernel_rfl) (by kernel_rfl) (fun _ _ _ h => h) (Or.inl ⟨by rfl, ?_⟩) (by assumption) ?_
        rotate_left
        · (intro w hSw; (try dsimp only at hSw); go_simp; try with_reducible rfl)
        try simp only [Act.put, List.setIfInBounds_toArray, List.set_cons_zero, List.set_cons_succ]
        refine Till.take 4 (some 64) (v := ?_) rfl rfl (by kernel_rfl) (by kernel_rfl) (by kernel_rfl) (by kernel_rfl) (fun _ _ _ h => h) (Or.inl ⟨by rfl, ?_⟩) (by assumption) ?_
        rotate_left
        · (intro w hSw; (try dsimp only at hSw); go_simp; try with_reducible rfl)
        try simp only [Act.put, List.setIfInBounds_toArray, List.set_cons_zero, List.set_cons_succ]
        refine Till.take 5 (some 65) (v := ?_) rfl rfl (by kernel_rfl) (by kernel_rfl) (by kernel_rfl) (by kernel_rfl) (fun _ _ _ h => h) (Or.inl ⟨by rfl, ?_⟩) (by assumption) ?_
        rotate_left
        · (intro w hSw; (try dsimp only at hSw); go_simp; try with_reducible rfl)
        try simp only [Act.put, List.setIfInBounds_toArray, List.set_cons_zero, List.set_cons_succ]
        refine Till.take 6 (some 66) (v := ?_) rfl rfl (by kernel_rfl) (by kernel_rfl) (by kernel_rfl) (by kernel_rfl) (fun _ _ _ h => h) (Or.inl ⟨by rfl, ?_⟩) (by assumption) ?_
        rotate_left
        · (intro w hSw; (try dsimp only at hSw); go_simp; try with_reducible rfl)
        try simp only [Act.put, List.setIfInBounds_toArray, List.set_cons_zero, List.set_cons_succ]
        refine Till.take 7 (some 67) (v := ?_) rfl rfl (by kernel_rfl) (by kernel_rfl) (by kernel_rfl) (by kernel_rfl) (fun _ _ _ h => h) (Or.inl ⟨by rfl, ?_⟩) (by assumption) ?_
        rotate_left
        · (intro w hSw; (try dsimp only at hSw); go_simp; try with_reducible rfl)
        try simp only [Act.put, List.setIfInBounds_toArray, List.set_cons_zero, List.set_cons_succ]
        refine Till.take 8 (some 68) (v := ?_) rfl rfl (by kernel_rfl) (by kernel_rfl) (by kernel_rfl) (by kernel_rfl) (fun _ _ _ h => h) (Or.inl ⟨by rfl, ?_⟩) (by assumption) ?_
        rotate_left
        · (intro w hSw; (try dsimp only at hSw); go_simp; try with_reducible rfl)
        try simp only [Act.put, List.setIfInBounds_toArray, List.set_cons_zero, List.set_cons_succ]
        refine Till.take 9 (some 69) (v := ?_) rfl rfl (by kernel_rfl) (by kernel_rfl) (by kernel_rfl) (by kernel_rfl) (fun _ _ _ h => h) (Or.inl ⟨by rfl, ?_⟩) (by assumption) ?_
        rotate_left
        · (intro w hSw; (try dsimp only at hSw); go_simp; try with_reducible rfl)
        try simp only [Act.put, List.setIfInBounds_toArray, List.set_cons_zero, List.set_cons_succ]
        refine Till.take 10 (some 70) (v := ?_) rfl rfl (by kernel_rfl) (by kernel_rfl) (by kernel_rfl) (by kernel_rfl) (fun _ _ _ h => h) (Or.inl ⟨by rfl, ?_⟩) (by assumption) ?_
        rotate_left
        · (intro w hSw; (try dsimp only at hSw); go_simp; try with_reducible rfl)
        try simp only [Act.put, List.setIfInBounds_toArray, List.set_cons_zero, List.set_cons_succ]
        refine Till.take 11 (some 71) (v := ?_) rfl rfl (by kernel_rfl) (by kernel_rfl) (by kernel_rfl) (by kernel_rfl) (fun _ _ _ h => h) (Or.inl ⟨by rfl, ?_⟩) (by assumption) ?_
        rotate_left
        · (intro w hSw; (try dsimp only at hSw); go_simp; try with_reducible rfl)
        try simp only [Act.put, List.setIfInBounds_toArray, List.set_cons_zero, List.set_cons_succ]
        refine Till.take 12 (some 72) (v := ?_) rfl rfl (by kernel_rfl) (by kernel_rfl) (by kernel_rfl) (by kernel_rfl) (fun _ _ _ h => h) (Or.inl ⟨by rfl, ?_⟩) (by assumption) ?_
        rotate_left
        · (intro w hSw; (try dsimp only at hSw); go_simp; try with_reducible rfl)
        try simp only [Act.put, List.setIfInBounds_toArray, List.set_cons_zero, List.set_cons_succ]
        refine Till.take 13 (some 73) (v := ?_) rfl rfl (by kernel_rfl) (by kernel_rfl) (by kernel_rfl) (by kernel_rfl) (fun _ _ _ h => h) (Or.inl ⟨by rfl, ?_⟩) (by assumption) ?_
        rotate_left
        · (intro w hSw; (try dsimp only at hSw); go_simp; try with_reducible rfl)
        try simp only [Act.put, List.setIfInBounds_toArray, List.set_cons_zero, List.set_cons_succ]
        refine Till.take 14 (some 74) (v := ?_) rfl rfl (by kernel_rfl) (by kernel_rfl) (by kernel_rfl) (by kernel_rfl) (fun _ _ _ h => h) (Or.inl ⟨by rfl, ?_⟩) (by assumption) ?_
        rotate_left
        · (intro w hSw; (try dsimp only at hSw); go_simp; try with_reducible rfl)
        try simp only [Act.put, List.setIfInBounds_toArray, List.set_cons_zero, List.set_cons_succ]
        refine Till.take 15 (some 75) (v := ?_) rfl rfl (by kernel_rfl) (by kernel_rfl) (by kernel_rfl) (by kernel_rfl) (fun _ _ _ h => h) (Or.inl ⟨by rfl, ?_⟩) (by assumption) ?_
        rotate_left
        · (intro w hSw; (try dsimp only at hSw); go_simp; try with_reducible rfl)
        try simp only [Act.put, List.setIfInBounds_toArray, List.set_cons_zero, List.set_cons_succ]
        refine Till.one 16 rfl (by kernel_rfl) (fun K hK => ?_)
        go_simp
        have BK := Blk.new wr.drew #[.int .i64 av] 3
        have D7 := HD0.out.alloc HD0.out.size (.cells #[.int .i64 av] 3)
        have hown2 := hown0.alloc (.cells #[.int .i64 av] 3)
        have hh7 := HSV.out _ D7
        refine hK.out _ _ (fun _ => hh7) (fun hHeld7 => ?_)
        clear hK K
        try simp only [Act.put, List.setIfInBounds_toArray]
        refine Till.one 17 rfl (by kernel_rfl) (fun K hK => ?_)
        refine step_append_lies _ rfl _ _ 30 rfl W.heap.size 3 ii (.int .i64 0) 1 8 Try.underlying30 gi gz0 gz1 gz2 rfl (by decide) _ l.length (l.map (Value.int .i64)) rfl hown2 ⟨wr.drew.heap.size, 0, none⟩ 1 1 [.int .i64 av] rfl rfl (World.news_of_block BK) (by simp [Value.oneCell']) (by decide) (by unfold maxLen; omega) (by omega) (Nat.le_trans hbw D7.size) _ rfl (fun g cap wb hob hgb hgg hgl => ?_)
        have hgb' : (wr.drew.alloc (.cells #[.int .i64 av] 3)).grownBy wb u.ownBlock := hgb
        have hgg' : u.ownBlock = some g ∨ g = (wr.drew.alloc (.cells #[.int .i64 av] 3)).heap.size := hgg
        have hgc : ∀ (b o : Nat) x, u.ownBlock ≠ some b → (wr.drew.alloc (.cells #[.int .i64 av] 3)).cell? ⟨b, o, none⟩ = some x → wb.cell? ⟨b, o, none⟩ = some x := fun b o x hne hc => by
          rw [World.cell?_of_block (hgb'.block b (cell_lt hc) (fun e => hne e.symm))]; exact hc
        have hh8 : (fun w' : World => w'.cell? ⟨b1, o1 + j, none⟩ = some (.int .i64 (mn : Int)) ∧ w'.cell? ⟨W.heap.size, mn, none⟩ = some u ∧ w'.cell? ⟨b3, o3 + j, none⟩ = some (.int .i64 av)) wb := ⟨hgc _ _ _ HUQ.out.2.1 hh7.1, hgc _ _ _ HUQ.out.1 hh7.2.1, hgc _ _ _ HUQ.out.2.2 hh7.2.2⟩
        have hnew := HADD.out _ wb g cap av D7 hob (by rw [HU.out]; exact hgb') (by rw [HU.out]; rcases hgg' with h1 | h1; exact .inl h1; exact .inr (Nat.le_of_eq h1.symm))
        rw [HSET.out] at hnew
        have hkp2 : Kp (S0 w7 W.heap.size vs) w7 (wb.setCell ⟨W.heap.size, mn, none⟩ (.slice (some ⟨g, 0, none⟩) (l.length + 1) cap)) := fun q hq => by
          have hqw : q < wr.heap.size := Nat.lt_of_lt_of_le hq.1 HSZ.out
          rw [Below.heap_setCell _ _ _ _ (fun e => hq.2.1 (by first | exact e | exact e.symm)), hgb'.block q (Nat.lt_of_lt_of_le hqw D7.size) (fun e => HUS.out q e.symm hq), D7.block q hqw]
          exact HKP.out q hq
        have hus2 : ∀ x ∈ us.set mn (.slice (some ⟨g, 0, none⟩) (l.length + 1) cap), ∀ q, x.ownBlock = some q → ¬ S0 w7 W.heap.size vs q := fun x hx q hq hs => by
          rcases List.mem_or_eq_of_mem_set hx with h1 | h1
          · exact HUSA.out x h1 q hq hs
          · subst h1
            obtain rfl : g = q := by injection hq
            rcases hgg' with h2 | h2
            · exact HUS.out g h2 hs
            · have h3 := hs.1
              have h4 := D7.size
              have h5 := HSZ.out
              omega
        have hb2 := ((HBB.out.drew.alloc hbw (.cells #[.int .i64 av] 3)).grown hgb' (Nat.le_trans hbw D7.size) (fun q e => HW0.out q e)).setCell (p := ⟨W.heap.size, mn, none⟩) (Nat.le_refl _) (.slice (some ⟨g, 0, none⟩) (l.length + 1) cap)
        have hsz2 : w7.heap.size ≤ (wb.setCell ⟨W.heap.size, mn, none⟩ (.slice (some ⟨g, 0, none⟩) (l.length + 1) cap)).heap.size := by
          have := hgb'.size
          have := D7.size
          have := HSZ.out
          simp
          omega
        have sT := hh8.2.1
        have sF : wb.frozen? ⟨W.heap.size, mn, none⟩ = false := ((HOUT.out.below D7 HOUT.out.lt).grown hgb' HUQ.out.1).frozen mn
        refine hK.out _ _ (fun _ => hh8) (fun hHeld8 => ?_)
        have HNEW := Lib.hid hnew
        have HKP2 := Lib.hid hkp2
        have HUS2 := Lib.hid hus2
        have HB2 := Lib.hid hb2
        have HSZ2 := Lib.hid hsz2
        clear hK K hnew hkp2 hus2 hb2 hsz2 hgc hgb hgb' hgg hgg' hob hgl hown2 hown0 hown BK D7 hh7 hHeld7 hHeld
        try simp only [Act.put, List.setIfInBounds_toArray, List.set_cons_zero, List.set_cons_succ]
        refine Till.take 18 (some 78) (v := ?_) rfl rfl (by kernel_rfl) (by kernel_rfl) (by kernel_rfl) (by kernel_rfl) (fun _ _ _ h => h) (Or.inl ⟨by rfl, ?_⟩) (by assumption) ?_
        rotate_left
        · (intro w hSw; (try dsimp only at hSw); go_simp; try with_reducible rfl)
        try simp only [Act.put, List.setIfInBounds_toArray, List.set_cons_zero, List.set_cons_succ]
        refine Till.one 19 rfl (by kernel_rfl) (fun K hK => ?_)
        go_simp
        refine hK.out _ _ (fun hx => absurd rfl hx) (fun _ => ?_)
        clear hK K sT sF hh8 hHeld8
        try simp only [Act.put, List.setIfInBounds_toArray, List.set_cons_zero, List.set_cons_succ]
        refine Till.done (by kernel_rfl) ?_ _
        have hml6 := HML.out
        go_wp2
        go_roundw
        case rel => exact ⟨j + 1, _, by omega, by go_num, HNEW, HKP2, HUS2, HSZ2.out, HB2.out⟩
        case measure => simp [intOf]; omega
end Go.Proofs.Ytdffhkbncencgaa
