/- The grams of a recipe; no statement is proved here. -/
import Derived.Test.YtpkggjfaefkiiaaPasses
namespace Go.Proofs.Ytpkggjfaefkiiaa
open Go.RowKit Go.PlainAid
set_option linter.unusedVariables false

def cont (b : Bat) (k q : Nat) : Sp := match b.mats[k]? with | some m => m.content.getD q ⟨0, 0⟩ | none => ⟨0, 0⟩
def loSum (b : Bat) (r : List Int) (c q : Nat) : Int := ((List.range c).map fun k => r.getD k 0 * (cont b k q).lo).sum
def hiSum (b : Bat) (r : List Int) (c q : Nat) : Int := ((List.range c).map fun k => r.getD k 0 * (cont b k q).hi).sum
def gAt (b : Bat) (r : List Int) (c q : Nat) : Sp := ⟨wrap64 (loSum b r c q), wrap64 (hiSum b r c q)⟩
/-- behind c materials, and behind j oxides of the next one. -/
def gTo (b : Bat) (r : List Int) (c j : Nat) : List Sp := (List.range b.oxides.length).map fun q => gAt b r (if q < j then c + 1 else c) q
def gramsB (b : Bat) (r : List Int) : List Sp := gTo b r b.mats.length 0

theorem gTo_len (b : Bat) (r : List Int) (c j : Nat) : (gTo b r c j).length = b.oxides.length := by simp [gTo]
theorem gTo_get (b : Bat) (r : List Int) (c j q : Nat) (h : q < (gTo b r c j).length) : (gTo b r c j)[q] = gAt b r (if q < j then c + 1 else c) q := by simp [gTo]
theorem gTo_next (b : Bat) (r : List Int) (c j : Nat) (h : b.oxides.length ≤ j) : gTo b r c j = gTo b r (c + 1) 0 := by
  unfold gTo
  apply List.map_congr_left
  intro q hq
  have := List.mem_range.1 hq
  rw [if_pos (by omega), if_neg (by omega)]

theorem gAt_succ (b : Bat) (r : List Int) (c q : Nat) (m : Mat) (s : Sp) (hm : b.mats[c]? = some m) (hs : m.content[q]? = some s) :
    gAt b r (c + 1) q = ⟨wrap64 ((gAt b r c q).lo + wrap64 (r.getD c 0 * s.lo)), wrap64 ((gAt b r c q).hi + wrap64 (r.getD c 0 * s.hi))⟩ := by
  have e : cont b c q = s := by simp [cont, hm, List.getD, hs]
  unfold gAt
  simp only [wrap_add', wrap_add]
  unfold loSum hiSum
  rw [List.range_succ, List.map_append, List.map_append, List.map_singleton, List.map_singleton, sum_snoc, sum_snoc, e]

theorem gTo_set (b : Bat) (r : List Int) (c j : Nat) (h : j < b.oxides.length) : (gTo b r c j).set j (gAt b r (c + 1) j) = gTo b r c (j + 1) := by
  apply List.ext_getElem
  · simp [gTo]
  intro q h1 h2
  rw [gTo_get]
  by_cases hq : q = j
  · subst hq
    rw [List.getElem_set_self, if_pos (by omega)]
  · rw [List.getElem_set_ne (by omega), gTo_get]
    by_cases hj : q < j
    · rw [if_pos hj, if_pos (by omega)]
    · rw [if_neg hj, if_neg (by omega)]

theorem flat_set0 (l : List Sp) (j : Nat) (a : Int) (h : j < l.length) : (l.flatMap spCells).set (j * 2) (.int .i64 a) = (l.set j ⟨a, (l[j]'h).hi⟩).flatMap spCells := by
  induction l generalizing j with
  | nil => simp at h
  | cons x l ih =>
    cases j with
    | zero => rfl
    | succ j =>
      rw [show (j + 1) * 2 = j * 2 + 2 from by omega]
      show Value.int .i64 x.lo :: Value.int .i64 x.hi :: ((l.flatMap spCells).set (j * 2) (.int .i64 a)) = Value.int .i64 x.lo :: Value.int .i64 x.hi :: ((l.set j ⟨a, (l[j]'(by simpa using h)).hi⟩).flatMap spCells)
      rw [ih j (by simpa using h)]
theorem flat_set1 (l : List Sp) (j : Nat) (a : Int) (h : j < l.length) : (l.flatMap spCells).set (j * 2 + 1) (.int .i64 a) = (l.set j ⟨(l[j]'h).lo, a⟩).flatMap spCells := by
  induction l generalizing j with
  | nil => simp at h
  | cons x l ih =>
    cases j with
    | zero => rfl
    | succ j =>
      rw [show (j + 1) * 2 + 1 = j * 2 + 1 + 2 from by omega]
      show Value.int .i64 x.lo :: Value.int .i64 x.hi :: ((l.flatMap spCells).set (j * 2 + 1) (.int .i64 a)) = Value.int .i64 x.lo :: Value.int .i64 x.hi :: ((l.set j ⟨(l[j]'(by simpa using h)).lo, a⟩).flatMap spCells)
      rw [ih j (by simpa using h)]

theorem zero_spans (n : Nat) : (madeCells #[Value.int .i64 0, Value.int .i64 0] (n * 2)).toList = (List.replicate n (⟨0, 0⟩ : Sp)).flatMap spCells := by
  apply List.ext_getElem?
  intro j
  by_cases hj : j < n * 2
  · obtain ⟨q, t, ht, rfl⟩ : ∃ q t, t < 2 ∧ j = q * 2 + t := ⟨j / 2, j % 2, by omega, by omega⟩
    rw [flat_at spCells 2 (fun _ => rfl) _ q t (by simp; omega) ht]
    simp only [List.getElem_replicate]
    have : t = 0 ∨ t = 1 := by omega
    rcases this with rfl | rfl
    · simp only [madeCells, spCells, Nat.add_zero] at hj ⊢
      simp
      exact ⟨q * 2, by rw [List.getElem?_range (by omega)], by simp⟩
    · simp only [madeCells, spCells] at hj ⊢
      simp
      exact ⟨q * 2 + 1, by rw [List.getElem?_range (by omega)], by simp [Nat.add_mod]⟩
  · rw [List.getElem?_eq_none (by simp [madeCells]; omega), List.getElem?_eq_none (by rw [flat_len spCells 2 (fun _ => rfl)]; simp; omega)]

theorem gTo_zero (b : Bat) (r : List Int) : gTo b r 0 0 = List.replicate b.oxides.length ⟨0, 0⟩ := by
  apply List.ext_getElem
  · simp [gTo]
  intro q h1 h2
  rw [gTo_get, List.getElem_replicate, if_neg (by omega)]
  simp [gAt, loSum, hiSum, wrap64]

end Go.Proofs.Ytpkggjfaefkiiaa

namespace Go.Proofs.Ytpkggjfaefkiiaa
open Go.RowKit Go.PlainAid
set_option linter.unusedVariables false

def RetSps (w : World) (l : List Sp) (e : Ending) (w' : World) : Prop := ∃ v, e = .returned v ∧ RSps (vis (w.heap.size ≤ ·) w') v l ∧ Below w.heap.size w w'

set_option maxRecDepth 100000 in
theorem grams_any (vb rv : Value) (b : Bat) (r : List Int) (w : World) (h : RBat w vb b) (hr : RInts w rv r) (hk : OkB b) (hlr : r.length = b.mats.length) :
    Calls Try.prog 62 #[vb, rv] w (RetSps w (gramsB b r)) := by
  obtain ⟨v0, v1, v2, v3, rfl, h0, h1, h2, h3, i1, i2, i3⟩ := id h
  obtain ⟨a0, k0, rfl, -, ⟨-, l0⟩, -⟩ := h0
  obtain ⟨a1, k1, rfl, -, ⟨-, l1⟩, hl⟩ := h1
  obtain ⟨a2, k2, rfl, -, ⟨-, l2⟩, -⟩ := h2
  obtain ⟨a3, k3, rfl, -, ⟨-, l3⟩, -⟩ := h3
  obtain ⟨ar, kr, rfl, -, ⟨-, lr⟩, hrl⟩ := hr
  obtain ⟨i0, hi, hz0, hz1, hz2⟩ := info_parts info_span
  have hn := hk.ox
  have hms := hk.mt
  have hmc := fun m hm => (hk.mats m hm).len
  have hA0 := below_box w (.cells #[.slice a0 b.oxides.length k0, .slice a1 b.mats.length k1, .slice a2 b.shares.length k2, .slice a3 b.props.length k3, .int .i64 b.redox.lo, .int .i64 b.redox.hi, .int .i64 b.wanted] 29)
  have hB0 := Blk.new w #[.slice a0 b.oxides.length k0, .slice a1 b.mats.length k1, .slice a2 b.shares.length k2, .slice a3 b.props.length k3, .int .i64 b.redox.lo, .int .i64 b.redox.hi, .int .i64 b.wanted] 29
  clear h
  go_enter Try.func62, Try.ntmps62
  go_wp2_with (at_make; refine wpList_make_full _ rfl _ _ _ rfl (w.heap.size + 1) 27 i0 (.agg #[.int .i64 0, .int .i64 0]) 2 Try.underlying24 hi hz0 hz1 .i64 .i64 _ _ b.oxides.length rfl rfl rfl rfl ?_ ?_ ?_ ?_)
  · rw [hz2]; omega
  · unfold maxLen; omega
  · simp
  intro W1 hown hgrow
  have hA1 := hA0.grown hgrow (by simp) (by intro k hk; cases hk)
  have hC1 : Below (w.heap.size + 1) _ W1 := Below.grown (Below.refl _ _) hgrow (by simp) (by intro k hk; cases hk)
  have hB1 := hB0.below hC1 (by omega)
  have hlt1 : w.heap.size + 1 < W1.heap.size := own_lt hown _ rfl
  rw [zero_spans, ← gTo_zero b r] at hown
  have m1 : W1.cell? ⟨w.heap.size, 1, none⟩ = some (.slice a1 b.mats.length k1) := hB1.cell 1 _ rfl
  clear hA0 hgrow hC1 hB0
  go_wp2
  go_loopw [17] (fun i wr => ∃ (c : Nat), c ≤ b.mats.length ∧ i = .int .i64 c ∧ wr.ownsRow (w.heap.size + 1) 27 2 (.slice (some ⟨w.heap.size + 1, 0, none⟩) b.oxides.length b.oxides.length) b.oxides.length ((gTo b r c 0).flatMap spCells) ∧ Below (w.heap.size + 1) W1 wr) (fun i _ => b.mats.length - (intOf i).toNat)
  case atStart => exact ⟨0, Nat.zero_le _, rfl, hown, Below.refl _ _⟩
  case round =>
    clear hown
    obtain ⟨c, hc, rfl, hown, hb⟩ := hrel
    have hfinB := hA1.trans (hb.mono (by omega))
    by_cases hlt : c < b.mats.length
    · obtain ⟨b1, o1, rfl, vc, ⟨g0, g1, g2, g3, g4, g5, g6⟩, hcon, hs⟩ := hl c hlt
      obtain ⟨ac, kc, rfl, -, ⟨-, lc⟩, hcl⟩ := id hcon
      have hmlen := hmc _ (List.getElem_mem hlt)
      have hget : b.mats[c]? = some (b.mats[c]'hlt) := List.getElem?_eq_getElem hlt
      obtain ⟨b2, o2, rfl, q1, -⟩ := hrl c (by omega)
      have hrget : r.getD c 0 = r[c]'(by omega) := by simp [List.getD, List.getElem?_eq_getElem (show c < r.length by omega)]
      have hcr : c < r.length := by omega
      have hbl := cell_lt g0
      have hbl2 := cell_lt q1
      simp only at g0 g1 g2 g3 g4 g5 g6 hbl hbl2
      simp only [Nat.mul_one] at q1
      obtain ⟨hcc, hzz⟩ := bcell hfinB
      have hlr2 : w.heap.size + 1 < wr.heap.size := own_lt hown _ rfl
      have HG := Lib.hid hget
      have HR := Lib.hid hrget
      have HL := Lib.hid hmlen
      clear hl hrl hmc hs hcon hget hrget hmlen
      generalize b.mats[c] = m at *
      generalize r[c]'(by omega) = rc at *
      go_wp2_with fail
      have hAm := below_box wr (.cells #[.string m.name, .int .i64 m.price, .int .i64 m.redox, .int .i64 m.least, .int .i64 m.most, .int .i64 m.step, .slice ac m.content.length kc] 68)
      have hfin1 := hfinB.trans (hAm.mono hfinB.size)
      have hb1 := hb.trans (hAm.mono (by omega))
      have hown1 := own_below hown hAm (own_lt hown)
      generalize wr.alloc (.cells #[.string m.name, .int .i64 m.price, .int .i64 m.redox, .int .i64 m.least, .int .i64 m.most, .int .i64 m.step, .slice ac m.content.length kc] 68) = Wm at *
      clear hcc hzz hAm hown hb hfinB g0 g1 g2 g3 g4 g5 g6
      have hszm := hfin1.size
      have hwm : w.heap.size + 1 < Wm.heap.size := own_lt hown1 _ rfl
      clear hlr2
      obtain ⟨wo, hwo⟩ : ∃ wo : World, wo = wr := ⟨_, rfl⟩
      subst hwo
      go_loopw [25] (fun i wr => ∃ (j : Nat), j ≤ m.content.length ∧ i = .int .i64 j ∧ wr.ownsRow (w.heap.size + 1) 27 2 (.slice (some ⟨w.heap.size + 1, 0, none⟩) b.oxides.length b.oxides.length) b.oxides.length ((gTo b r c j).flatMap spCells) ∧ Below (w.heap.size + 1) Wm wr) (fun i _ => m.content.length - (intOf i).toNat)
      case atStart => exact ⟨0, Nat.zero_le _, rfl, hown1, Below.refl _ _⟩
      case round =>
        clear hown1
        obtain ⟨j, hj, rfl, hown, hb⟩ := hrel
        have hfin2 := hfin1.trans (hb.mono (by omega))
        by_cases hlj : j < m.content.length
        · obtain ⟨b3, o3, rfl, s1, s2, -, -⟩ := hcl j hlj
          have hsget : m.content[j]? = some (m.content[j]'hlj) := List.getElem?_eq_getElem hlj
          have hjn : j < b.oxides.length := by rw [← HL.out]; exact hlj
          have hstep := gAt_succ b r c j m _ HG.out hsget
          have hset := gTo_set b r c j hjn
          have hjl : j < (gTo b r c j).length := by rw [gTo_len]; exact hjn
          have hold := gTo_get b r c j j hjl
          rw [if_neg (Nat.lt_irrefl j)] at hold
          rw [HR.out] at hstep
          have hbl3 := cell_lt s1
          simp only at s1 s2 hbl3
          obtain ⟨hcc, hzz⟩ := bcell hfin2
          have HS := Lib.hid hstep
          have HT := Lib.hid hset
          clear hcl hsget hstep hset
          generalize m.content[j] = s at *
          go_wp2_with fail
          have W2 := below_box wr (.cells #[.int .i64 s.lo, .int .i64 s.hi] 27)
          have B2 := Blk.new wr #[.int .i64 s.lo, .int .i64 s.hi] 27
          have hown2 := own_below hown W2 (own_lt hown)
          have hb2 := hb.trans (W2.mono (by have := hb.size; omega))
          have q1' := ext_of_below (hfin2.trans (W2.mono hfin2.size)) _ _ q1
          have p0 := B2.cell 0 (.int .i64 s.lo) rfl
          have p1 := B2.cell 1 (.int .i64 s.hi) rfl
          have hnr : w.heap.size + 1 < wr.heap.size := own_lt hown _ rfl
          generalize hgn : wr.heap.size = nr at *
          generalize wr.alloc (.cells #[.int .i64 s.lo, .int .i64 s.hi] 27) = W4 at *
          have t0 := hown2.cellAt (j * 2) (by omega)
          have t1 := hown2.cellAt (j * 2 + 1) (by omega)
          rw [show (j * 2) = j * 2 + 0 from rfl, flat_at spCells 2 (fun _ => rfl) _ j 0 hjl (by omega), hold] at t0
          rw [flat_at spCells 2 (fun _ => rfl) _ j 1 hjl (by omega), hold] at t1
          replace t0 : W4.cell? ⟨w.heap.size + 1, j * 2, none⟩ = some (.int .i64 (gAt b r c j).lo) := t0
          replace t1 : W4.cell? ⟨w.heap.size + 1, j * 2 + 1, none⟩ = some (.int .i64 (gAt b r c j).hi) := t1
          have z0 := hown2.frozenAt (j * 2)
          have z1 := hown2.frozenAt (j * 2 + 1)
          have hown3 := (hown2.stored (j * 2) (.int .i64 (wrap64 ((gAt b r c j).lo + wrap64 (rc * s.lo))))).1
          rw [flat_set0 _ j _ hjl, hold] at hown3
          have hown4 := (hown3.stored (j * 2 + 1) (.int .i64 (wrap64 ((gAt b r c j).hi + wrap64 (rc * s.hi))))).1
          rw [flat_set1 _ j _ (by simpa using hjl)] at hown4
          simp only [List.getElem_set_self, List.set_set] at hown4
          rw [← HS.out, HT.out] at hown4
          have hb4 := (hb2.setCell (p := ⟨w.heap.size + 1, j * 2, none⟩) (by simp) (.int .i64 (wrap64 ((gAt b r c j).lo + wrap64 (rc * s.lo))))).setCell (p := ⟨w.heap.size + 1, j * 2 + 1, none⟩) (by simp) (.int .i64 (wrap64 ((gAt b r c j).hi + wrap64 (rc * s.hi))))
          have j1 : (0 : Int) ≤ (j : Int) := Int.natCast_nonneg _
          have j2 : (j : Int) < (b.oxides.length : Int) := by omega
          have j3 : (0 : Int) ≤ (c : Int) := Int.natCast_nonneg _
          have j4 : (c : Int) < (b.mats.length : Int) := by omega
          have HO := Lib.hid hown4
          have HB := Lib.hid hb4
          clear hown hown2 hown3 hown4 hb2 hb4 W2 B2 hcc hzz hb hfin2 hold HS HT s1 s2 hgn
          generalize gAt b r c j = g at *
          go_region
          go_wp2
          go_region
          go_wp2
          go_roundw
          case rel => exact ⟨j + 1, by omega, by go_num, own_drew (own_drew HO.out), HB.out.drew.drew⟩
          case measure => simp [intOf]; omega
        · have hnext := gTo_next b r c j (by rw [← HL.out]; omega)
          rw [hnext] at hown
          have hbF := hb1.trans hb
          clear hnext hcl hb hfin2
          go_wp2
          go_roundw
          case rel => exact ⟨c + 1, by omega, by go_num, hown, hbF⟩
          case measure => simp [intOf]; omega
    · have hfin : (gTo b r c 0) = gramsB b r := by unfold gramsB; rw [show c = b.mats.length from by omega]
      rw [hfin] at hown
      have hRI := own_RSps (l := gramsB b r) (by unfold gramsB; rw [gTo_len]; exact own_vis (S := (w.heap.size ≤ ·)) hown (by intro g hg; simp [Value.ownBlock] at hg; omega)) (by unfold gramsB; rw [gTo_len]; omega)
        (by intro x hx; unfold gramsB gTo at hx; obtain ⟨q, _, rfl⟩ := List.mem_map.1 hx; exact ⟨wrap_I64 _, wrap_I64 _⟩)
      have HR := Lib.hid hRI
      clear hRI hown hfin hl hrl hmc hb
      go_wp2
      go_ret
      exact ⟨_, rfl, HR.out, hfinB⟩

end Go.Proofs.Ytpkggjfaefkiiaa

namespace Go.Proofs.Ytpkggjfaefkiiaa
open Go.RowKit Go.PlainAid
set_option linter.unusedVariables false

def maxTo (l : List Int) (k : Nat) : Int := (l.take k).foldl max (l.getD 0 0)
def maxB (l : List Int) : Int := l.foldl max (l.getD 0 0)

theorem maxTo_succ (l : List Int) (k : Nat) (h : k < l.length) : maxTo l (k + 1) = max (maxTo l k) l[k] := by
  unfold maxTo
  rw [List.take_succ_eq_append_getElem h, List.foldl_append]
  rfl

set_option maxRecDepth 100000 in
theorem max_any (v : Value) (l : List Int) (w : World) (h : RInts w v l) (hn : 1 ≤ l.length) :
    Calls Try.prog 133 #[v] w fun e w' => e = .returned (.int .i64 (maxB l)) ∧ w = w' := by
  obtain ⟨a, kap, rfl, hc1, ⟨hc2, hm⟩, hl⟩ := h
  obtain ⟨b, off, rfl, h0, -⟩ := hl 0 (by omega)
  simp only [Nat.zero_mul, Nat.add_zero] at h0
  have hge : ¬ (l.length : Int) < 1 := by omega
  have hpos : 0 < l.length := by omega
  have hM : l[0] = maxTo l 1 := by
    have := maxTo_succ l 0 (by omega)
    rw [this]; unfold maxTo
    simp [List.getD, List.getElem?_eq_getElem hpos]
  have HM := Lib.hid hM
  clear hM
  go_enter Try.func133, Try.ntmps133
  go_wp2
  go_loop [3, 4] (fun m i => ∃ (k : Nat) (x : Int), 1 ≤ k ∧ k ≤ l.length ∧ i = .int .i64 k ∧ m = .int .i64 x ∧ Hid (x = maxTo l k)) (fun _ i => l.length - (intOf i).toNat)
  case atStart => exact ⟨1, _, by omega, by omega, rfl, rfl, HM⟩
  case round =>
    obtain ⟨k, x, hk1, hk, rfl, rfl, hx⟩ := hrel
    by_cases hlt : k < l.length
    · obtain ⟨b', off', e, h1, -⟩ := hl k hlt
      simp only [Option.some.injEq, Addr.mk.injEq, and_true] at e
      obtain ⟨rfl, rfl⟩ := e
      simp only [Nat.mul_one] at h1
      have hst := maxTo_succ l k hlt
      rw [← hx.out] at hst
      have HS := Lib.hid hst
      clear hl hst hx h0
      generalize l[k] = y at *
      by_cases hxy : x < y
      · have hX : maxTo l (k + 1) = y := by rw [HS.out]; omega
        have HX := Lib.hid hX.symm
        clear hX HS
        go_wp2
        go_round
        case rel => exact ⟨k + 1, _, by omega, by omega, by go_num, rfl, HX⟩
        case measure => simp [intOf]; omega
      · have hX : maxTo l (k + 1) = x := by rw [HS.out]; omega
        have HX := Lib.hid hX.symm
        clear hX HS
        go_wp2
        go_round
        case rel => exact ⟨k + 1, _, by omega, by omega, by go_num, rfl, HX⟩
        case measure => simp [intOf]; omega
    · have hX : x = maxB l := by rw [hx.out]; unfold maxTo maxB; rw [List.take_of_length_le (by omega)]
      have HX := Lib.hid hX
      clear hX hx hl
      go_wp2
      go_ret
      exact ⟨ret_int HX.out, rfl⟩

end Go.Proofs.Ytpkggjfaefkiiaa

namespace Go.Proofs.Ytpkggjfaefkiiaa
open Go.RowKit Go.PlainAid
set_option linter.unusedVariables false

structure MeanOk (c : List Int) (g : List Sp) : Prop where
  len : c.length = g.length
  n : 1 ≤ c.length ∧ c.length ≤ 12
  hc : ∀ x ∈ c, -10000 ≤ x ∧ x ≤ 10000
  hg : ∀ s ∈ g, 0 ≤ s.lo ∧ s.lo ≤ s.hi ∧ s.hi ≤ 1000000000
  pos : 1 ≤ (g.map Sp.lo).sum

def pickB (t c : Int) (s : Sp) : Int := if t ≤ c then s.hi else s.lo
def sumTo (c : List Int) (g : List Sp) (t : Int) (k : Nat) : Int := ((List.range k).map fun i => c.getD i 0 * pickB t (c.getD i 0) (g.getD i ⟨0, 0⟩)).sum
def wTo (c : List Int) (g : List Sp) (t : Int) (k : Nat) : Int := ((List.range k).map fun i => pickB t (c.getD i 0) (g.getD i ⟨0, 0⟩)).sum
def meanB (c : List Int) (g : List Sp) (t : Int) : Int := -(-(sumTo c g t c.length) / wTo c g t c.length)
def meansB (c : List Int) (g : List Sp) : List Int := c.map (meanB c g)
def gmB (c : List Int) (g : List Sp) : Int := maxB (meansB c g)

theorem sumTo_succ (c : List Int) (g : List Sp) (t : Int) (k : Nat) : sumTo c g t (k + 1) = sumTo c g t k + c.getD k 0 * pickB t (c.getD k 0) (g.getD k ⟨0, 0⟩) := by
  unfold sumTo
  rw [List.range_succ, List.map_append, List.map_singleton, sum_snoc]
theorem wTo_succ (c : List Int) (g : List Sp) (t : Int) (k : Nat) : wTo c g t (k + 1) = wTo c g t k + pickB t (c.getD k 0) (g.getD k ⟨0, 0⟩) := by
  unfold wTo
  rw [List.range_succ, List.map_append, List.map_singleton, sum_snoc]

theorem pick_bd {g : List Sp} (hg : ∀ s ∈ g, 0 ≤ s.lo ∧ s.lo ≤ s.hi ∧ s.hi ≤ 1000000000) (t x : Int) (k : Nat) (hk : k < g.length) : (g.getD k ⟨0, 0⟩).lo ≤ pickB t x (g.getD k ⟨0, 0⟩) ∧ 0 ≤ pickB t x (g.getD k ⟨0, 0⟩) ∧ pickB t x (g.getD k ⟨0, 0⟩) ≤ 1000000000 := by
  have h := hg _ (List.getElem_mem hk)
  rw [show g.getD k ⟨0, 0⟩ = g[k] from by simp [List.getD, List.getElem?_eq_getElem hk]]
  unfold pickB
  split <;> omega

theorem wTo_bd {c : List Int} {g : List Sp} (h : MeanOk c g) (t : Int) : ∀ k, k ≤ c.length → 0 ≤ wTo c g t k ∧ wTo c g t k ≤ 1000000000 * k ∧ ((g.take k).map Sp.lo).sum ≤ wTo c g t k := by
  intro k
  induction k with
  | zero => intro _; simp [wTo]
  | succ k ih =>
    intro hk
    have h1 := ih (by omega)
    have h2 := pick_bd h.hg t (c.getD k 0) k (by rw [← h.len]; omega)
    have hkl : k < g.length := by rw [← h.len]; omega
    rw [wTo_succ, List.take_succ_eq_append_getElem hkl, List.map_append, List.map_singleton, sum_snoc]
    rw [show g.getD k ⟨0, 0⟩ = g[k] from by simp [List.getD, List.getElem?_eq_getElem hkl]] at h2 ⊢
    refine ⟨by omega, by omega, by omega⟩

theorem mul_bd {a b : Int} (ha : -10000 ≤ a ∧ a ≤ 10000) (hb : 0 ≤ b ∧ b ≤ 1000000000) : -10000000000000 ≤ a * b ∧ a * b ≤ 10000000000000 := by
  have h1 : a * b ≤ 10000 * b := Int.mul_le_mul_of_nonneg_right ha.2 hb.1
  have h2 : -10000 * b ≤ a * b := Int.mul_le_mul_of_nonneg_right ha.1 hb.1
  omega

theorem sumTo_bd {c : List Int} {g : List Sp} (h : MeanOk c g) (t : Int) : ∀ k, k ≤ c.length → -(10000000000000 * k) ≤ sumTo c g t k ∧ sumTo c g t k ≤ 10000000000000 * k := by
  intro k
  induction k with
  | zero => intro _; simp [sumTo]
  | succ k ih =>
    intro hk
    have h1 := ih (by omega)
    have h2 := pick_bd h.hg t (c.getD k 0) k (by rw [← h.len]; omega)
    have h3 := h.hc _ (List.getElem_mem (show k < c.length by omega))
    rw [show c[k]'(by omega) = c.getD k 0 from by simp [List.getD, List.getElem?_eq_getElem (show k < c.length by omega)]] at h3
    have h4 := mul_bd h3 ⟨h2.2.1, h2.2.2⟩
    rw [sumTo_succ]
    refine ⟨by omega, by omega⟩

theorem w_pos {c : List Int} {g : List Sp} (h : MeanOk c g) (t : Int) : 1 ≤ wTo c g t c.length := by
  have h1 := (wTo_bd h t c.length (Nat.le_refl _)).2.2
  rw [List.take_of_length_le (by rw [h.len]; exact Nat.le_refl _)] at h1
  have := h.pos
  omega

theorem mean_I64 {c : List Int} {g : List Sp} (h : MeanOk c g) (t : Int) : -200000000000000 ≤ meanB c g t ∧ meanB c g t ≤ 200000000000000 := by
  have h1 := sumTo_bd h t c.length (Nat.le_refl _)
  have h2 := Int.natAbs_ediv_le_natAbs (-(sumTo c g t c.length)) (wTo c g t c.length)
  have h3 := h.n
  unfold meanB
  omega

theorem sum_step2 {c : List Int} {g : List Sp} {t : Int} {k : Nat} {x y : Int} (hx : x = wrap64 (sumTo c g t k)) (hy : y = wrap64 (wTo c g t k)) :
    wrap64 (x + wrap64 (c.getD k 0 * pickB t (c.getD k 0) (g.getD k ⟨0, 0⟩))) = wrap64 (sumTo c g t (k + 1)) ∧ wrap64 (y + pickB t (c.getD k 0) (g.getD k ⟨0, 0⟩)) = wrap64 (wTo c g t (k + 1)) := by
  rw [hx, hy, wrap_add', wrap_add, wrap_add, sumTo_succ, wTo_succ]
  exact ⟨rfl, rfl⟩

set_option maxRecDepth 100000 in
theorem greatestMean_any (vc vg : Value) (c : List Int) (g : List Sp) (w : World) (hc : RInts w vc c) (hg : RSps w vg g) (hk : MeanOk c g) :
    Calls Try.prog 115 #[vc, vg] w fun e w' => e = .returned (.int .i64 (gmB c g)) ∧ Below w.heap.size w w' := by
  obtain ⟨ac, kc, rfl, -, ⟨-, lc⟩, hcl⟩ := hc
  obtain ⟨ag, kg, rfl, -, ⟨-, lg⟩, hgl⟩ := hg
  obtain ⟨i0, hi, hz0, hz1, hz2⟩ := info_parts info_int
  have hn := hk.n
  have hlen : c.length ≤ g.length := by rw [hk.len]; exact Nat.le_refl _
  go_enter Try.func115, Try.ntmps115
  go_wp2
  go_loopw [5, 15] (fun v i wr => ∃ (k : Nat) (l : List Int), k ≤ c.length ∧ i = .int .i64 k ∧ Hid (l = (c.take k).map (meanB c g)) ∧ wr.ownsRow w.heap.size 3 1 v l.length (l.map (Value.int .i64)) ∧ Below w.heap.size w wr) (fun _ i _ => c.length - (intOf i).toNat)
  case atStart => exact ⟨0, [], Nat.zero_le _, rfl, rfl, World.ownsRow_nil _ _ _ _, Below.refl _ _⟩
  case round =>
    obtain ⟨k, l, hkk, rfl, hx, hown, hb⟩ := hrel
    by_cases hlt : k < c.length
    · obtain ⟨b1, o1, rfl, q1, -⟩ := hcl k hlt
      simp only [Nat.mul_one] at q1
      have hbl := cell_lt q1
      simp only at hbl
      obtain ⟨hcc, hzz⟩ := bcell hb
      have hll : l.length ≤ 12 := by rw [hx.out]; simp; omega
      have hsn : l ++ [meanB c g (c[k]'hlt)] = (c.take (k + 1)).map (meanB c g) := by
        rw [hx.out, List.take_succ_eq_append_getElem hlt, List.map_append, List.map_singleton]
      have HSN := Lib.hid hsn
      clear hsn hx
      generalize c[k] = t at *
      go_wp2_with fail
      obtain ⟨wo, hwo⟩ : ∃ wo : World, wo = wr := ⟨_, rfl⟩
      subst hwo
      clear q1
      go_loop [8, 9, 21] (fun x y i => ∃ (j : Nat) (p q : Int), j ≤ c.length ∧ i = .int .i64 j ∧ x = .int .i64 p ∧ y = .int .i64 q ∧ Hid (p = wrap64 (sumTo c g t j) ∧ q = wrap64 (wTo c g t j))) (fun _ _ i => c.length - (intOf i).toNat)
      case atStart => exact ⟨0, 0, 0, Nat.zero_le _, rfl, rfl, rfl, by simp [Hid, sumTo, wTo, wrap64]⟩
      case round =>
        obtain ⟨j, p, q, hj, rfl, rfl, rfl, hpq⟩ := hrel
        by_cases hlj : j < c.length
        · obtain ⟨b1', o1', e, q1, -⟩ := hcl j hlj
          simp only [Option.some.injEq, Addr.mk.injEq, and_true] at e
          obtain ⟨rfl, rfl⟩ := e
          obtain ⟨b2, o2, rfl, q2, q3, -, -⟩ := hgl j (by omega)
          have hst := sum_step2 hpq.out.1 hpq.out.2
          have hlg : j < g.length := by omega
          rw [show c.getD j 0 = c[j]'hlj from by simp [List.getD, List.getElem?_eq_getElem hlj], show g.getD j ⟨0, 0⟩ = g[j]'hlg from by simp [List.getD, List.getElem?_eq_getElem hlg]] at hst
          have hbl2 := cell_lt q2
          simp only [Nat.mul_one] at q1 q2 q3 hbl2
          have HS := Lib.hid hst
          clear hst hpq hcl hgl hown HSN
          generalize c[j] = x at *
          generalize g[j]'hlg = s at *
          by_cases htx : t ≤ x
          · have hp : pickB t x s = s.hi := by simp [pickB, htx]
            have HP := Lib.hid hp
            clear hp
            go_wp2
            go_round
            case rel => exact ⟨j + 1, _, _, by omega, by go_num, rfl, rfl, by have := HS.out; rw [HP.out] at this; exact this⟩
            case measure => simp [intOf]; omega
          · have hp : pickB t x s = s.lo := by simp [pickB, htx]
            have HP := Lib.hid hp
            clear hp
            go_wp2
            go_round
            case rel => exact ⟨j + 1, _, _, by omega, by go_num, rfl, rfl, by have := HS.out; rw [HP.out] at this; exact this⟩
            case measure => simp [intOf]; omega
        · have hje : j = c.length := by omega
          have hsb := sumTo_bd hk t c.length (Nat.le_refl _)
          have hwb := wTo_bd hk t c.length (Nat.le_refl _)
          have hwp := w_pos hk t
          have hp : p = sumTo c g t c.length := by rw [hpq.out.1, hje]; exact wrap_id _ (by unfold I64; omega)
          have hq : q = wTo c g t c.length := by rw [hpq.out.2, hje]; exact wrap_id _ (by unfold I64; omega)
          have hup := up_any p q
          have hmb := mean_I64 hk t
          have HM : Hid (meanB c g t = -(-p / q)) := by unfold meanB; rw [hp, hq]; rfl
          have hp1 : -9223372036854775807 ≤ p ∧ p ≤ 9223372036854775807 := by omega
          have hq1 : 0 < q ∧ q ≤ 9223372036854775807 := by omega
          clear hpq hp hq hsb hwb hwp hcl hgl
          go_wp2_with fail
          refine (hup _ hp1 hq1).mono ?_
          rintro e w1 ⟨rfl, rfl⟩
          rw [← HM.out]
          have hown2 := hown.alloc (.cells #[.int .i64 (meanB c g t)] 3)
          go_wp2_with (at_builtin; refine wpList_append_own _ rfl _ _ 37 rfl w.heap.size 3 i0 (.int .i64 0) 1 8 Try.underlying37 hi hz0 hz1 hz2 rfl (by decide) _ l.length _ rfl hown2 ⟨wo.heap.size, 0, none⟩ 1 1 [.int .i64 (meanB c g t)] rfl rfl (cell_one_new _ _ _) (by simp [Value.oneCell']) (by unfold maxLen; omega) (by omega) (by simp; have := hb.size; omega) ?_; intro v6 w6 hown6 hgrow6 _)
          have hB6 := (hb.alloc hb.size (.cells #[.int .i64 (meanB c g t)] 3)).grown hgrow6 (by simp; have := hb.size; omega) (fun q hq => (hown2.lt q hq).1)
          have hownF : w6.ownsRow w.heap.size 3 1 v6 (l ++ [meanB c g t]).length ((l ++ [meanB c g t]).map (Value.int .i64)) := by simpa using hown6
          clear hown6 hown2 hgrow6 hown hb hup
          go_roundw
          case rel => exact ⟨k + 1, l ++ [meanB c g t], by omega, by go_num, HSN, hownF, hB6⟩
          case measure => simp [intOf]; omega
    · have hl : l = meansB c g := by rw [hx.out, List.take_of_length_le (by omega)]; rfl
      subst hl
      have hRI := own_RInts (l := meansB c g) hown (by unfold meansB; rw [List.length_map]; omega) (by intro x hx; obtain ⟨t, _, rfl⟩ := List.mem_map.1 hx; have := mean_I64 hk t; unfold I64; omega)
      have hml := max_any u5 (meansB c g) wr hRI (by unfold meansB; rw [List.length_map]; omega)
      clear hRI hown hx hcl hgl
      go_wp2_with fail
      refine hml.mono ?_
      rintro e w1 ⟨rfl, rfl⟩
      clear hml
      go_wp2
      go_ret
      exact ⟨rfl, hb⟩

end Go.Proofs.Ytpkggjfaefkiiaa

namespace Go.Proofs.Ytpkggjfaefkiiaa
open Go.RowKit Go.PlainAid
set_option linter.unusedVariables false

def negB (c : List Int) : List Int := c.map fun x => -x
def valueB (c : List Int) (g : List Sp) : Sp := ⟨-(gmB (negB c) g), gmB c g⟩

theorem neg_ok {c : List Int} {g : List Sp} (h : MeanOk c g) : MeanOk (negB c) g := by
  refine ⟨by simp [negB, h.len], by simpa [negB] using h.n, ?_, h.hg, h.pos⟩
  intro x hx
  obtain ⟨y, hy, rfl⟩ := List.mem_map.1 hx
  have := h.hc y hy
  omega

theorem foldl_max_bd (lo hi : Int) : ∀ (l : List Int) (a : Int), lo ≤ a ∧ a ≤ hi → (∀ x ∈ l, lo ≤ x ∧ x ≤ hi) → lo ≤ l.foldl max a ∧ l.foldl max a ≤ hi := by
  intro l
  induction l with
  | nil => intro a h _; exact h
  | cons x l ih =>
    intro a h hl
    have := hl x List.mem_cons_self
    exact ih _ (by omega) fun y hy => hl y (List.mem_cons_of_mem _ hy)

theorem gm_bd {c : List Int} {g : List Sp} (h : MeanOk c g) : -200000000000000 ≤ gmB c g ∧ gmB c g ≤ 200000000000000 := by
  have hm : ∀ x ∈ meansB c g, -200000000000000 ≤ x ∧ x ≤ 200000000000000 := by
    intro x hx
    obtain ⟨t, _, rfl⟩ := List.mem_map.1 hx
    exact mean_I64 h t
  unfold gmB maxB
  refine foldl_max_bd _ _ _ _ ?_ hm
  have hl : 0 < (meansB c g).length := by have := h.n; simp [meansB]; omega
  rw [show (meansB c g).getD 0 0 = (meansB c g)[0] from by simp [List.getD, List.getElem?_eq_getElem hl]]
  exact hm _ (List.getElem_mem hl)

def RetSp (w : World) (s : Sp) (e : Ending) (w' : World) : Prop := e = .returned (.agg #[.int .i64 s.lo, .int .i64 s.hi]) ∧ Below w.heap.size w w'

set_option maxRecDepth 100000 in
theorem value_any (vc vg : Value) (c : List Int) (g : List Sp) (w : World) (hc : RInts w vc c) (hg : RSps w vg g) (hk : MeanOk c g) :
    Calls Try.prog 65 #[vc, vg] w (RetSp w (valueB c g)) := by
  obtain ⟨ac, kc, rfl, -, ⟨-, lc⟩, hcl⟩ := id hc
  obtain ⟨i0, hi, hz0, hz1, hz2⟩ := info_parts info_int
  have hn := hk.n
  have hA0 := below_box w (.cells #[.int .i64 0, .int .i64 0] 27)
  have hB0 := Blk.new w #[.int .i64 0, .int .i64 0] 27
  go_enter Try.func65, Try.ntmps65
  go_wp2_with (at_make; refine wpList_make_full _ rfl _ _ _ rfl (w.heap.size + 1) 3 i0 (.int .i64 0) 1 Try.underlying37 hi hz0 hz1 .i64 .i64 _ _ c.length rfl rfl rfl rfl ?_ ?_ ?_ ?_)
  · rw [hz2]; omega
  · unfold maxLen; omega
  · simp
  intro W1 hown hgrow
  have hA1 := hA0.grown hgrow (by simp) (by intro k hk; cases hk)
  have hC1 : Below (w.heap.size + 1) _ W1 := Below.grown (Below.refl _ _) hgrow (by simp) (by intro k hk; cases hk)
  have hB1 := hB0.below hC1 (by omega)
  have hlt1 : w.heap.size + 1 < W1.heap.size := own_lt hown _ rfl
  rw [toList_madeCells_one, show List.replicate c.length (Value.int .i64 0) = (List.replicate c.length (0 : Int)).map (Value.int .i64) from by simp] at hown
  clear hA0 hgrow hC1 hB0
  go_wp2
  go_loopw [13] (fun i wr => ∃ (k : Nat) (ys : List Int), k ≤ c.length ∧ i = .int .i64 k ∧ Hid (ys.length = c.length ∧ ∀ j, j < k → ys.getD j 0 = (negB c).getD j 0) ∧ wr.ownsRow (w.heap.size + 1) 3 1 (.slice (some ⟨w.heap.size + 1, 0, none⟩) c.length c.length) c.length (ys.map (Value.int .i64)) ∧ Below (w.heap.size + 1) W1 wr) (fun i _ => c.length - (intOf i).toNat)
  case atStart => exact ⟨0, List.replicate c.length 0, Nat.zero_le _, rfl, ⟨by simp, by intro j hj; omega⟩, hown, Below.refl _ _⟩
  case round =>
    clear hown
    obtain ⟨k, ys, hkk, rfl, hx, hown, hb⟩ := hrel
    have hfinB := hA1.trans (hb.mono (by omega))
    by_cases hlt : k < c.length
    · obtain ⟨b1, o1, rfl, q1, -⟩ := hcl k hlt
      simp only [Nat.mul_one] at q1
      have hxk := hk.hc _ (List.getElem_mem hlt)
      have hng : (negB c).getD k 0 = -(c[k]'hlt) := by simp [negB, List.getD, List.getElem?_eq_getElem hlt]
      have hst : ∀ x, x = -(c[k]'hlt) → (ys.set k x).length = c.length ∧ ∀ j, j < k + 1 → (ys.set k x).getD j 0 = (negB c).getD j 0 := by
        intro x hxx
        refine ⟨by simpa using hx.out.1, fun j hj => ?_⟩
        by_cases hjk : j = k
        · subst hjk
          rw [hng, ← hxx]
          simp [List.getD, hx.out.1, hlt]
        · have h1 := hx.out.2 j (by omega)
          rw [← h1]
          simp only [List.getD]
          rw [List.getElem?_set_ne (by omega)]
      have HST := Lib.hid hst
      have e1 := hown.cellAt k (by omega)
      rw [List.getElem?_map, List.getElem?_eq_getElem (by rw [hx.out.1]; exact hlt), Option.map_some] at e1
      have e2 := hown.frozenAt k
      have hbl := cell_lt q1
      simp only at hbl
      obtain ⟨hcc, hzz⟩ := bcell hfinB
      clear hst hng hcl hc
      generalize c[k] = x at *
      have hown2 := (hown.stored k (.int .i64 (-x))).1
      rw [← List.map_set] at hown2
      have hb2 := hb.setCell (p := ⟨w.heap.size + 1, k, none⟩) (by simp) (.int .i64 (-x))
      clear hown hfinB hb
      go_wp2
      go_roundw
      case rel => exact ⟨k + 1, _, by omega, by go_num, HST.out _ rfl, hown2, hb2⟩
      case measure => simp [intOf]; omega
    · have hfin := ext_upto (negB c) ys (by rw [hx.out.1]; simp [negB]) (fun j hj => hx.out.2 j (by simp [negB] at hj; omega))
      subst hfin
      have hRI := own_RInts (l := negB c) (by unfold negB; rw [List.length_map]; exact hown) (by unfold negB; rw [List.length_map]; exact lc) (by intro x hx; obtain ⟨m, hm, rfl⟩ := List.mem_map.1 hx; have := hk.hc m hm; unfold I64; omega)
      have hg1 := greatestMean_any _ vg (negB c) g wr hRI (hg.mono (ext_of_below hfinB)) (neg_ok hk)
      have hBr := hB1.below hb (by omega)
      have hgb1 := gm_bd (neg_ok hk)
      clear hx hown hRI hcl hb hA1 hB1
      go_wp2_with fail
      refine hg1.mono ?_
      rintro e w2 ⟨rfl, hb2⟩
      have hA2 := hfinB.trans (hb2.mono hfinB.size)
      have hB2 := hBr.below hb2 hBr.lt
      have hg2 := greatestMean_any _ vg c g w2 (hc.mono (ext_of_below hA2)) (hg.mono (ext_of_below hA2)) hk
      clear hg1 hb2 hfinB hBr
      go_wp2_with fail
      refine hg2.mono ?_
      rintro e w3 ⟨rfl, hb3⟩
      have hA3 := hA2.trans (hb3.mono hA2.size)
      have hB3 := hB2.below hb3 hB2.lt
      have z0 : w3.cell? ⟨w.heap.size, 0, none⟩ = some (.int .i64 0) := hB3.cell 0 _ rfl
      have z1 : w3.cell? ⟨w.heap.size, 1, none⟩ = some (.int .i64 0) := hB3.cell 1 _ rfl
      have f0 := hB3.frozen 0
      have f1 := hB3.frozen 1
      clear hg2 hb3 hA2 hB2 hc hg
      go_wp2
      have B3 := (hB3.set 0 (.int .i64 (-(gmB (negB c) g)))).set 1 (.int .i64 (gmB c g))
      have d0 := B3.cell 0 (.int .i64 (-(gmB (negB c) g))) rfl
      have d1 := B3.cell 1 (.int .i64 (gmB c g)) rfl
      exact bodyPost_ret (v := .agg #[.int .i64 (-(gmB (negB c) g)), .int .i64 (gmB c g)]) (by simp only [results, Try.results65]; simp [go_sem, d0, d1]) rfl ⟨rfl, (hA3.setCell (p := ⟨w.heap.size, 0, none⟩) (by simp) _).setCell (p := ⟨w.heap.size, 1, none⟩) (by simp) _⟩

end Go.Proofs.Ytpkggjfaefkiiaa
