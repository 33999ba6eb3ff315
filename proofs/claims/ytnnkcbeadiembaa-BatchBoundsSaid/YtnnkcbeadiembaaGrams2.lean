/- The grams of a recipe: the walk; no statement is proved here. -/
import Derived.Test.YtnnkcbeadiembaaGrams
namespace Go.Proofs.Ytnnkcbeadiembaa
open Go.RowKit Go.PlainAid
set_option linter.unusedVariables false

def RetSps (w : World) (l : List Sp) (e : Ending) (w' : World) : Prop := ∃ v, e = .returned v ∧ RSps (vis (w.heap.size ≤ ·) w') v l ∧ Below w.heap.size w w'

set_option maxRecDepth 100000 in
theorem grams_any (vb rv : Value) (b : Bat) (r : List Int) (w : World) (h : RBat w vb b) (hr : RInts w rv r) (hk : OkB b) (hlr : r.length = b.mats.length) :
    Calls Try.prog 47 #[vb, rv] w (RetSps w (gramsB b r)) := by
  obtain ⟨v0, v1, v2, v3, rfl, h0, h1, h2, h3, i1, i2, i3⟩ := id h
  obtain ⟨a0, k0, rfl, -, ⟨-, l0⟩, -⟩ := h0
  obtain ⟨a1, k1, rfl, -, ⟨-, l1⟩, hl⟩ := h1
  obtain ⟨a2, k2, rfl, -, ⟨-, l2⟩, -⟩ := h2
  obtain ⟨a3, k3, rfl, -, ⟨-, l3⟩, -⟩ := h3
  obtain ⟨ar, kr, rfl, -, ⟨-, lr⟩, hrl⟩ := hr
  obtain ⟨i0, hi, hz0, hz1, hz2⟩ := info_parts info_span
  have hn := hk.ox
  have hms := hk.mt
  have hmc := fun m hm => (hk.mats m hm).len
  have hA0 := below_box w (.cells #[.slice a0 b.oxides.length k0, .slice a1 b.mats.length k1, .slice a2 b.shares.length k2, .slice a3 b.props.length k3, .int .i64 b.redox.lo, .int .i64 b.redox.hi, .int .i64 b.wanted] 29)
  have hB0 := Blk.new w #[.slice a0 b.oxides.length k0, .slice a1 b.mats.length k1, .slice a2 b.shares.length k2, .slice a3 b.props.length k3, .int .i64 b.redox.lo, .int .i64 b.redox.hi, .int .i64 b.wanted] 29
  clear h
  go_enter Try.func47, Try.ntmps47
  go_wp2_with (at_make; refine wpList_make_full _ rfl _ _ _ rfl (w.heap.size + 1) 27 i0 (.agg #[.int .i64 0, .int .i64 0]) 2 Try.underlying24 hi hz0 hz1 .i64 .i64 _ _ b.oxides.length rfl rfl rfl rfl ?_ ?_ ?_ ?_)
  · rw [hz2]; omega
  · unfold maxLen; omega
  · simp
  intro W1 hown hgrow
  have hA1 := hA0.grown hgrow (by simp) (by intro k hk; cases hk)
  have hC1 : Below (w.heap.size + 1) _ W1 := Below.grown (Below.refl _ _) hgrow (by simp) (by intro k hk; cases hk)
  have hB1 := hB0.below hC1 (by omega)
  have hlt1 : w.heap.size + 1 < W1.heap.size := own_lt hown _ rfl
  rw [zero_spans, ← gTo_zero b r] at hown
  have m1 : W1.cell? ⟨w.heap.size, 1, none⟩ = some (.slice a1 b.mats.length k1) := hB1.cell 1 _ rfl
  clear hA0 hgrow hC1 hB0
  go_wp2
  go_loopw [17] (fun i wr => ∃ (c : Nat), c ≤ b.mats.length ∧ i = .int .i64 c ∧ wr.ownsRow (w.heap.size + 1) 27 2 (.slice (some ⟨w.heap.size + 1, 0, none⟩) b.oxides.length b.oxides.length) b.oxides.length ((gTo b r c 0).flatMap spCells) ∧ Below (w.heap.size + 1) W1 wr) (fun i _ => b.mats.length - (intOf i).toNat)
  case atStart => exact ⟨0, Nat.zero_le _, rfl, hown, Below.refl _ _⟩
  case round =>
    clear hown
    obtain ⟨c, hc, rfl, hown, hb⟩ := hrel
    have hfinB := hA1.trans (hb.mono (by omega))
    by_cases hlt : c < b.mats.length
    · obtain ⟨b1, o1, rfl, vc, ⟨g0, g1, g2, g3, g4, g5, g6⟩, hcon, hs⟩ := hl c hlt
      obtain ⟨ac, kc, rfl, -, ⟨-, lc⟩, hcl⟩ := id hcon
      have hmlen := hmc _ (List.getElem_mem hlt)
      have hget : b.mats[c]? = some (b.mats[c]'hlt) := List.getElem?_eq_getElem hlt
      obtain ⟨b2, o2, rfl, q1, -⟩ := hrl c (by omega)
      have hrget : r.getD c 0 = r[c]'(by omega) := by simp [List.getD, List.getElem?_eq_getElem (show c < r.length by omega)]
      have hcr : c < r.length := by omega
      have hbl := cell_lt g0
      have hbl2 := cell_lt q1
      simp only at g0 g1 g2 g3 g4 g5 g6 hbl hbl2
      simp only [Nat.mul_one] at q1
      obtain ⟨hcc, hzz⟩ := bcell hfinB
      have hlr2 : w.heap.size + 1 < wr.heap.size := own_lt hown _ rfl
      have HG := Lib.hid hget
      have HR := Lib.hid hrget
      have HL := Lib.hid hmlen
      clear hl hrl hmc hs hcon hget hrget hmlen
      generalize b.mats[c] = m at *
      generalize r[c]'(by omega) = rc at *
      go_wp2_with fail
      have hAm := below_box wr (.cells #[.string m.name, .int .i64 m.price, .int .i64 m.redox, .int .i64 m.least, .int .i64 m.most, .int .i64 m.step, .slice ac m.content.length kc] 58)
      have hfin1 := hfinB.trans (hAm.mono hfinB.size)
      have hb1 := hb.trans (hAm.mono (by omega))
      have hown1 := own_below hown hAm (own_lt hown)
      generalize wr.alloc (.cells #[.string m.name, .int .i64 m.price, .int .i64 m.redox, .int .i64 m.least, .int .i64 m.most, .int .i64 m.step, .slice ac m.content.length kc] 58) = Wm at *
      clear hcc hzz hAm hown hb hfinB g0 g1 g2 g3 g4 g5 g6
      have hszm := hfin1.size
      have hwm : w.heap.size + 1 < Wm.heap.size := own_lt hown1 _ rfl
      clear hlr2
      obtain ⟨wo, hwo⟩ : ∃ wo : World, wo = wr := ⟨_, rfl⟩
      subst hwo
      go_loopw [25] (fun i wr => ∃ (j : Nat), j ≤ m.content.length ∧ i = .int .i64 j ∧ wr.ownsRow (w.heap.size + 1) 27 2 (.slice (some ⟨w.heap.size + 1, 0, none⟩) b.oxides.length b.oxides.length) b.oxides.length ((gTo b r c j).flatMap spCells) ∧ Below (w.heap.size + 1) Wm wr) (fun i _ => m.content.length - (intOf i).toNat)
      case atStart => exact ⟨0, Nat.zero_le _, rfl, hown1, Below.refl _ _⟩
      case round =>
        clear hown1
        obtain ⟨j, hj, rfl, hown, hb⟩ := hrel
        have hfin2 := hfin1.trans (hb.mono (by omega))
        by_cases hlj : j < m.content.length
        · obtain ⟨b3, o3, rfl, s1, s2, -, -⟩ := hcl j hlj
          have hsget : m.content[j]? = some (m.content[j]'hlj) := List.getElem?_eq_getElem hlj
          have hjn : j < b.oxides.length := by rw [← HL.out]; exact hlj
          have hstep := gAt_succ b r c j m _ HG.out hsget
          have hset := gTo_set b r c j hjn
          have hjl : j < (gTo b r c j).length := by rw [gTo_len]; exact hjn
          have hold := gTo_get b r c j j hjl
          rw [if_neg (Nat.lt_irrefl j)] at hold
          rw [HR.out] at hstep
          have hbl3 := cell_lt s1
          simp only at s1 s2 hbl3
          obtain ⟨hcc, hzz⟩ := bcell hfin2
          have HS := Lib.hid hstep
          have HT := Lib.hid hset
          clear hcl hsget hstep hset
          generalize m.content[j] = s at *
          go_wp2_with fail
          have W2 := below_box wr (.cells #[.int .i64 s.lo, .int .i64 s.hi] 27)
          have B2 := Blk.new wr #[.int .i64 s.lo, .int .i64 s.hi] 27
          have hown2 := own_below hown W2 (own_lt hown)
          have hb2 := hb.trans (W2.mono (by have := hb.size; omega))
          have q1' := ext_of_below (hfin2.trans (W2.mono hfin2.size)) _ _ q1
          have p0 := B2.cell 0 (.int .i64 s.lo) rfl
          have p1 := B2.cell 1 (.int .i64 s.hi) rfl
          have hnr : w.heap.size + 1 < wr.heap.size := own_lt hown _ rfl
          generalize hgn : wr.heap.size = nr at *
          generalize wr.alloc (.cells #[.int .i64 s.lo, .int .i64 s.hi] 27) = W4 at *
          have t0 := hown2.cellAt (j * 2) (by omega)
          have t1 := hown2.cellAt (j * 2 + 1) (by omega)
          rw [show (j * 2) = j * 2 + 0 from rfl, flat_at spCells 2 (fun _ => rfl) _ j 0 hjl (by omega), hold] at t0
          rw [flat_at spCells 2 (fun _ => rfl) _ j 1 hjl (by omega), hold] at t1
          replace t0 : W4.cell? ⟨w.heap.size + 1, j * 2, none⟩ = some (.int .i64 (gAt b r c j).lo) := t0
          replace t1 : W4.cell? ⟨w.heap.size + 1, j * 2 + 1, none⟩ = some (.int .i64 (gAt b r c j).hi) := t1
          have z0 := hown2.frozenAt (j * 2)
          have z1 := hown2.frozenAt (j * 2 + 1)
          have hown3 := (hown2.stored (j * 2) (.int .i64 (wrap64 ((gAt b r c j).lo + wrap64 (rc * s.lo))))).1
          rw [flat_set0 _ j _ hjl, hold] at hown3
          have hown4 := (hown3.stored (j * 2 + 1) (.int .i64 (wrap64 ((gAt b r c j).hi + wrap64 (rc * s.hi))))).1
          rw [flat_set1 _ j _ (by simpa using hjl)] at hown4
          simp only [List.getElem_set_self, List.set_set] at hown4
          rw [← HS.out, HT.out] at hown4
          have hb4 := (hb2.setCell (p := ⟨w.heap.size + 1, j * 2, none⟩) (by simp) (.int .i64 (wrap64 ((gAt b r c j).lo + wrap64 (rc * s.lo))))).setCell (p := ⟨w.heap.size + 1, j * 2 + 1, none⟩) (by simp) (.int .i64 (wrap64 ((gAt b r c j).hi + wrap64 (rc * s.hi))))
          have j1 : (0 : Int) ≤ (j : Int) := Int.natCast_nonneg _
          have j2 : (j : Int) < (b.oxides.length : Int) := by omega
          have j3 : (0 : Int) ≤ (c : Int) := Int.natCast_nonneg _
          have j4 : (c : Int) < (b.mats.length : Int) := by omega
          have HO := Lib.hid hown4
          have HB := Lib.hid hb4
          clear hown hown2 hown3 hown4 hb2 hb4 W2 B2 hcc hzz hb hfin2 hold HS HT s1 s2 hgn
          generalize gAt b r c j = g at *
          go_region
          go_wp2
          go_region
          go_wp2
          go_roundw
          case rel => exact ⟨j + 1, by omega, by go_num, own_drew (own_drew HO.out), HB.out.drew.drew⟩
          case measure => simp [intOf]; omega
        · have hnext := gTo_next b r c j (by rw [← HL.out]; omega)
          rw [hnext] at hown
          have hbF := hb1.trans hb
          clear hnext hcl hb hfin2
          go_wp2
          go_roundw
          case rel => exact ⟨c + 1, by omega, by go_num, hown, hbF⟩
          case measure => simp [intOf]; omega
    · have hfin : (gTo b r c 0) = gramsB b r := by unfold gramsB; rw [show c = b.mats.length from by omega]
      rw [hfin] at hown
      have hRI := own_RSps (l := gramsB b r) (by unfold gramsB; rw [gTo_len]; exact own_vis (S := (w.heap.size ≤ ·)) hown (by intro g hg; simp [Value.ownBlock] at hg; omega)) (by unfold gramsB; rw [gTo_len]; omega)
        (by intro x hx; unfold gramsB gTo at hx; obtain ⟨q, _, rfl⟩ := List.mem_map.1 hx; exact ⟨wrap_I64 _, wrap_I64 _⟩)
      have HR := Lib.hid hRI
      clear hRI hown hfin hl hrl hmc hb
      go_wp2
      go_ret
      exact ⟨_, rfl, HR.out, hfinB⟩

end Go.Proofs.Ytnnkcbeadiembaa
