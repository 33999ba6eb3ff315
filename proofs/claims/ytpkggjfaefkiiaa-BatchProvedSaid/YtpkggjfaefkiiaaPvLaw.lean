/- Prove, by its contract; no statement is proved here. -/
import Derived.Test.YtpkggjfaefkiiaaClimb
import Derived.Test.YtpkggjfaefkiiaaRecIt
import Derived.Test.YtpkggjfaefkiiaaChM
import Derived.Test.YtpkggjfaefkiiaaForm
import Derived.Test.YtpkggjfaefkiiaaTill
import Derived.Deep.DeepCutAuto
import Derived.Deep.QuietTactic
import Derived.BigQuiet
namespace Go.Proofs.Ytpkggjfaefkiiaa
open Go.RowKit Go.PlainAid
set_option linter.unusedVariables false

/-- a proof that may be, and is worth no less than one without weights. -/
def GoodP (b : Bat) (s : Int) (ws : List Int) : Prop := PfOk (psB b) (linesB b) s ws ∧ worthE b s (zeroW b) ≤ worthE b s ws
def ProveIs (b : Bat) (w : World) (e : Ending) (w' : World) : Prop :=
  (checkB b ≠ 0 ∧ e = .returned (.tuple #[.agg #[.int .i64 0, .slice none 0 0], .int .i64 (checkB b)]) ∧ Below w.heap.size w w') ∨
  (checkB b = 0 ∧ ∃ (s : Int) (p : Option Addr) (k : Nat) (ws : List Int), e = .returned (.tuple #[.agg #[.int .i64 s, .slice p ws.length k], .int .i64 0]) ∧ GoodP b s ws ∧ RInts w' (.slice p ws.length k) ws ∧ Below w.heap.size w w')

/-- the best proof so far, in its box. -/
def BestAt (b : Bat) (w : World) (b6 : Nat) (wr : World) : Prop :=
  ∃ (s : Int) (p : Option Addr) (k : Nat) (ws : List Int), Blk wr b6 #[.int .i64 s, .slice p ws.length k] 42 ∧ GoodP b s ws ∧ RInts (vis (fun q => w.heap.size + 1 < q ∧ q ≠ b6) wr) (.slice p ws.length k) ws

set_option maxHeartbeats 8000000 in
set_option maxRecDepth 100000 in
theorem prove_any (vb : Value) (b : Bat) (w : World) (h : RBat w vb b) :
    Calls Try.prog 46 #[vb] w (ProveIs b w) := by
  obtain ⟨a0, k0, a1, k1, a2, k2, a3, k3, rfl⟩ := h.agg
  obtain ⟨W, hW⟩ : ∃ W : World, W = (w.alloc (.cells #[.slice a0 b.oxides.length k0, .slice a1 b.mats.length k1, .slice a2 b.shares.length k2, .slice a3 b.props.length k3, .int .i64 b.redox.lo, .int .i64 b.redox.hi, .int .i64 b.wanted] 29)).alloc (.cells #[.int .i64 0, .slice none 0 0] 42) := ⟨_, rfl⟩
  have hA : Below w.heap.size w W := by subst hW; go_grown
  have hB : Blk W w.heap.size #[.slice a0 b.oxides.length k0, .slice a1 b.mats.length k1, .slice a2 b.shares.length k2, .slice a3 b.props.length k3, .int .i64 b.redox.lo, .int .i64 b.redox.hi, .int .i64 b.wanted] 29 := by subst hW; exact (Blk.new _ _ _).alloc _
  have BR : Blk W (w.heap.size + 1) #[.int .i64 0, .slice none 0 0] 42 := by
    subst hW
    have := Blk.new (w.alloc (.cells #[.slice a0 b.oxides.length k0, .slice a1 b.mats.length k1, .slice a2 b.shares.length k2, .slice a3 b.props.length k3, .int .i64 b.redox.lo, .int .i64 b.redox.hi, .int .i64 b.wanted] 29)) #[.int .i64 0, .slice none 0 0] 42
    simpa using this
  have hzW : w.heap.size + 1 < W.heap.size := BR.lt
  go_enter Try.func46, Try.ntmps46
  go_wp2_with fail
  rw [← hW]
  clear hW
  have f0 := hB.cell 0 _ rfl
  have f1 := hB.cell 1 _ rfl
  have f2 := hB.cell 2 _ rfl
  have f3 := hB.cell 3 _ rfl
  have f4 := hB.cell 4 _ rfl
  have f5 := hB.cell 5 _ rfl
  have f6 := hB.cell 6 _ rfl
  refine (check_any _ b W (h.mono (ext_of_below hA))).mono ?_
  rintro e w1 ⟨rfl, hb1⟩
  have hA1 := hA.trans (hb1.mono hA.size)
  have hB1 := hB.more hb1
  have BR1 := BR.more hb1
  have hz1 := BR1.lt
  clear hA hB BR hb1 hzW f0 f1 f2 f3 f4 f5 f6
  by_cases e1 : checkB b = 0
  case neg =>
    have e1' : (checkB b != 0) = true := by simp [e1]
    have hfin := Lib.hid e1
    have r0 := BR1.cell 0 _ rfl
    have r1 := BR1.cell 1 _ rfl
    have y0 := BR1.frozen 0
    have y1 := BR1.frozen 1
    clear hB1 e1
    go_wp2
    have BF : Blk ((w1.setCell ⟨w.heap.size + 1, 0, none⟩ (.int .i64 0)).setCell ⟨w.heap.size + 1, 1, none⟩ (.slice none 0 0)) (w.heap.size + 1) #[.int .i64 0, .slice none 0 0] 42 := by simpa using (BR1.set 0 (.int .i64 0)).set 1 (.slice none 0 0)
    have hFE : Below w.heap.size w ((w1.setCell ⟨w.heap.size + 1, 0, none⟩ (.int .i64 0)).setCell ⟨w.heap.size + 1, 1, none⟩ (.slice none 0 0)) := (hA1.setCell (p := ⟨w.heap.size + 1, 0, none⟩) (Nat.le_succ _) _).setCell (p := ⟨w.heap.size + 1, 1, none⟩) (Nat.le_succ _) _
    generalize (w1.setCell ⟨w.heap.size + 1, 0, none⟩ (.int .i64 0)).setCell ⟨w.heap.size + 1, 1, none⟩ (.slice none 0 0) = WF at *
    have t0 := BF.cell 0 _ rfl
    have t1 := BF.cell 1 _ rfl
    refine bodyPost_ret (v := .tuple #[.agg #[.int .i64 0, .slice none 0 0], .int .i64 (checkB b)]) (by simp only [results, Try.results46]; simp [go_sem, t0, t1]) rfl ?_
    exact .inl ⟨hfin.out, rfl, hFE⟩
  have e1' : (checkB b != 0) = false := by simp [e1]
  have hok := ok_of e1
  have E1 := Lib.hid e1
  clear e1
  have f0 := hB1.cell 0 _ rfl
  have f1 := hB1.cell 1 _ rfl
  have f2 := hB1.cell 2 _ rfl
  have f3 := hB1.cell 3 _ rfl
  have f4 := hB1.cell 4 _ rfl
  have f5 := hB1.cell 5 _ rfl
  have f6 := hB1.cell 6 _ rfl
  go_wp2_with fail
  refine (newProver_any _ b w1 (h.mono (ext_of_below hA1)) hok).mono ?_
  rintro e w2 ⟨vp, rfl, hvp, hb2⟩
  obtain ⟨pl, jl, pp, jp, pa, ja, pm, jm, rfl, -, -, -, -⟩ := id hvp.ex
  have hX := below_box w2 (.cells #[.slice pl (linesB b).length jl, .slice pp (psB b).length jp, .slice pa (lsB b).length ja, .slice pm (msB b).length jm] 107)
  have BV := Blk.new w2 #[.slice pl (linesB b).length jl, .slice pp (psB b).length jp, .slice pa (lsB b).length ja, .slice pm (msB b).length jm] 107
  have hA2 := (hA1.trans (hb2.mono hA1.size)).trans (hX.mono (hA1.trans (hb2.mono hA1.size)).size)
  have BR2 := (BR1.more hb2).more hX
  have hvp2 := hvp.mono (ext_of_below hX)
  have hN3 := hX
  have hz2 : w.heap.size + 1 < w2.heap.size := (BR1.more hb2).lt
  clear hA1 hB1 BR1 hb2 hX f0 f1 f2 f3 f4 f5 f6 hz1
  go_wp2_with fail
  generalize w2.alloc (.cells #[.slice pl (linesB b).length jl, .slice pp (psB b).length jp, .slice pa (lsB b).length ja, .slice pm (msB b).length jm] 107) = w3 at *
  refine (climb_any b hok 0 (by omega) _ w3 hvp2).mono ?_
  rintro e w4 ⟨p4, k4, ws4, rfl, hk4, hg4, hr4, hb4⟩
  have BX4 := Blk.new w4 #[.int .i64 0, .slice p4 ws4.length k4] 42
  have hX := below_box w4 (.cells #[.int .i64 0, .slice p4 ws4.length k4] 42)
  have hA5 := (hA2.trans (hb4.mono hA2.size)).trans (hX.mono (hA2.trans (hb4.mono hA2.size)).size)
  have BR5 := (BR2.more hb4).more hX
  have BV5 := (BV.more hb4).more hX
  have hz4 : w2.heap.size < w4.heap.size := (BV.more hb4).lt
  have hN5 := (hN3.trans (hb4.mono hN3.size)).trans (hX.mono (hN3.trans (hb4.mono hN3.size)).size)
  have hB6 : BestAt b w w4.heap.size (w4.alloc (.cells #[.int .i64 0, .slice p4 ws4.length k4] 42)) := by
    refine ⟨0, p4, k4, ws4, BX4, ⟨hk4, hg4⟩, hr4.mono (ext_vis fun p y hp hy => ?_)⟩
    have hlt := cell_lt hy
    have := BR2.lt
    exact ⟨⟨by omega, by omega⟩, ext_of_below hX _ _ hy⟩
  have HK4 := Lib.hid hk4
  clear hN3 hA2 BR2 BV hb4 hX hvp2 hr4 hk4 hg4 BX4
  generalize hm4 : worthE b 0 ws4 = m4 at *
  by_cases hpos : 0 < m4
  case pos =>
    clear BV5
    have hmm := Lib.hid hm4
    clear hm4
    obtain ⟨s', p', k', ws', BX, hG, hR⟩ := hB6
    have r0 := BR5.cell 0 _ rfl
    have r1 := BR5.cell 1 _ rfl
    have y0 := BR5.frozen 0
    have y1 := BR5.frozen 1
    have b0 := BX.cell 0 _ rfl
    have b1 := BX.cell 1 _ rfl
    go_wp2
    have BF : Blk (((w4.alloc (.cells #[.int .i64 0, .slice p4 ws4.length k4] 42)).setCell ⟨w.heap.size + 1, 0, none⟩ (.int .i64 s')).setCell ⟨w.heap.size + 1, 1, none⟩ (.slice p' ws'.length k')) (w.heap.size + 1) #[.int .i64 s', .slice p' ws'.length k'] 42 := by simpa using (BR5.set 0 (.int .i64 s')).set 1 (.slice p' ws'.length k')
    have hFE : Below w.heap.size w (((w4.alloc (.cells #[.int .i64 0, .slice p4 ws4.length k4] 42)).setCell ⟨w.heap.size + 1, 0, none⟩ (.int .i64 s')).setCell ⟨w.heap.size + 1, 1, none⟩ (.slice p' ws'.length k')) := (hA5.setCell (p := ⟨w.heap.size + 1, 0, none⟩) (Nat.le_succ _) _).setCell (p := ⟨w.heap.size + 1, 1, none⟩) (Nat.le_succ _) _
    have hRE : RInts (((w4.alloc (.cells #[.int .i64 0, .slice p4 ws4.length k4] 42)).setCell ⟨w.heap.size + 1, 0, none⟩ (.int .i64 s')).setCell ⟨w.heap.size + 1, 1, none⟩ (.slice p' ws'.length k')) (.slice p' ws'.length k') ws' := hR.mono (ext_vis_out fun p y hp hy => by
      have hne : p.block ≠ w.heap.size + 1 := by omega
      unfold World.cell? at hy ⊢
      rw [Below.heap_setCell _ _ _ _ hne, Below.heap_setCell _ _ _ _ hne]
      exact hy)
    generalize ((w4.alloc (.cells #[.int .i64 0, .slice p4 ws4.length k4] 42)).setCell ⟨w.heap.size + 1, 0, none⟩ (.int .i64 s')).setCell ⟨w.heap.size + 1, 1, none⟩ (.slice p' ws'.length k') = WF at *
    have t0 := BF.cell 0 _ rfl
    have t1 := BF.cell 1 _ rfl
    refine bodyPost_ret (v := .tuple #[.agg #[.int .i64 s', .slice p' ws'.length k'], .int .i64 0]) (by simp only [results, Try.results46]; simp [go_sem, t0, t1]) rfl ?_
    exact .inr ⟨E1.out, s', p', k', ws', rfl, hG, hRE, hFE⟩
  have hpos' : m4 ≤ 0 := by omega
  clear hpos hm4
  go_wp2
  generalize w4.alloc (.cells #[.int .i64 0, .slice p4 ws4.length k4] 42) = w5 at *
  go_loopw [8, 9] (fun bv sv wr => ∃ (bd sc : Int), bv = .int .i64 bd ∧ sv = .int .i64 sc ∧ 0 ≤ sc ∧ sc ≤ 1000000 ∧ BestAt b w w4.heap.size wr ∧ BelowS (fun q => q = w4.heap.size) w5.heap.size w5 wr) (fun _ sv _ => (intOf sv).toNat)
  case atStart => exact ⟨_, _, rfl, rfl, by omega, by omega, hB6, BelowS.refl _ _ _⟩
  case round =>
    clear hB6
    obtain ⟨bd, sc, rfl, rfl, hs0, hs1, hB6, hbs⟩ := hrel
    obtain ⟨s', p', k', ws', BX, hG, hR⟩ := hB6
    have hsz5 := BR5.lt
    have hv5 := BV5.lt
    have BRr := hbs.blk BR5 (by omega)
    have BVr := hbs.blk BV5 (by omega)
    have hAr : Below w.heap.size w wr := ⟨hbs.os.trans hA5.os, hbs.tape.trans hA5.tape, hbs.output.trans hA5.output, Nat.le_trans hA5.size hbs.size, fun q hq => (hbs.block q (by omega) (by omega)).trans (hA5.block q hq)⟩
    by_cases hsc : 0 < sc
    · have s0 := BVr.cell 0 _ rfl
      have s1 := BVr.cell 1 _ rfl
      have s2 := BVr.cell 2 _ rfl
      have s3 := BVr.cell 3 _ rfl
      have hvr : VPr wr (.agg #[.slice pl (linesB b).length jl, .slice pp (psB b).length jp, .slice pa (lsB b).length ja, .slice pm (msB b).length jm]) (linesB b) (psB b) (lsB b) (msB b) := hvp.mono (fun p y hy => by
        have hlt := cell_lt hy
        unfold World.cell? at hy ⊢
        rw [hbs.block _ (by omega) (by omega), hN5.block _ hlt]
        exact hy)
      have hvW := hvr
      clear hvr
      go_wp2_with fail
      refine (climb_any b hok sc (by omega) _ wr hvW).mono ?_
      rintro e w6 ⟨p6, k6, ws6, rfl, hk6, hg6, hr6, hb6⟩
      have BX6 := Blk.new w6 #[.int .i64 sc, .slice p6 ws6.length k6] 42
      have hX := below_box w6 (.cells #[.int .i64 sc, .slice p6 ws6.length k6] 42)
      have hwb := worth_bd hok hk6
      have hBN := BX.below hb6 BX.lt
      have hAN := hb6.trans (hX.mono hb6.size)
      have hlt4 : w4.heap.size < wr.heap.size := BX.lt
      have hRN : RInts (vis (fun q => w.heap.size + 1 < q ∧ q ≠ w4.heap.size) (w6.alloc (.cells #[.int .i64 sc, .slice p6 ws6.length k6] 42))) (.slice p' ws'.length k') ws' := hR.mono (ext_vis_of (ext_of_below hAN) (fun _ _ hq => hq))
      have hr7 : RInts (vis (fun q => w.heap.size + 1 < q ∧ q ≠ w4.heap.size) (w6.alloc (.cells #[.int .i64 sc, .slice p6 ws6.length k6] 42))) (.slice p6 ws6.length k6) ws6 := hr6.mono (ext_vis_of (ext_of_below hX) (fun q _ hq => ⟨by omega, by omega⟩))
      have hbN := hbs.trans (BelowS.of_below (hAN.mono hbs.size))
      have hBX7 := hBN.alloc (.cells #[.int .i64 sc, .slice p6 ws6.length k6] 42)
      clear s0 s1 s2 s3 hX hb6 hr6 hR hAN hBN hAr BRr BVr hbs BX hvW
      have HG6 := Lib.hid (show GoodP b sc ws6 from ⟨hk6, hg6⟩)
      clear hk6 hg6
      generalize worthE b sc ws6 = m6 at *
      have hup := fun V => up_any m6 sc V (by omega) (by omega)
      generalize -(-m6 / sc) = n6 at *
      go_wp2_with fail
      generalize w6.alloc (.cells #[.int .i64 sc, .slice p6 ws6.length k6] 42) = w7 at *
      refine (hup _).mono ?_
      rintro e w8 ⟨rfl, rfl⟩
      clear hup
      have x0 := BX6.cell 0 _ rfl
      have x1 := BX6.cell 1 _ rfl
      have b0 := hBX7.cell 0 _ rfl
      have b1 := hBX7.cell 1 _ rfl
      have y0 := hBX7.frozen 0
      have y1 := hBX7.frozen 1
      by_cases hgt : bd < n6
      · go_wp2
        have BN : Blk ((w7.setCell ⟨w4.heap.size, 0, none⟩ (.int .i64 sc)).setCell ⟨w4.heap.size, 1, none⟩ (.slice p6 ws6.length k6)) w4.heap.size #[.int .i64 sc, .slice p6 ws6.length k6] 42 := by simpa using (hBX7.set 0 (.int .i64 sc)).set 1 (.slice p6 ws6.length k6)
        have hBest : BestAt b w w4.heap.size ((w7.setCell ⟨w4.heap.size, 0, none⟩ (.int .i64 sc)).setCell ⟨w4.heap.size, 1, none⟩ (.slice p6 ws6.length k6)) := by
          refine ⟨sc, p6, k6, ws6, BN, HG6.out, hr7.mono (ext_vis fun p y hp hy => ⟨hp, ?_⟩)⟩
          have hne : p.block ≠ w4.heap.size := hp.2
          unfold World.cell? at hy ⊢
          rw [Below.heap_setCell _ _ _ _ hne, Below.heap_setCell _ _ _ _ hne]
          exact hy
        have hbF : BelowS (fun q => q = w4.heap.size) w5.heap.size w5 ((w7.setCell ⟨w4.heap.size, 0, none⟩ (.int .i64 sc)).setCell ⟨w4.heap.size, 1, none⟩ (.slice p6 ws6.length k6)) :=
          ⟨hbN.os, hbN.tape, hbN.output, by simpa using hbN.size, fun q hq hS => by rw [Below.heap_setCell _ _ _ _ hS, Below.heap_setCell _ _ _ _ hS]; exact hbN.block q hq hS⟩
        clear x0 x1 b0 b1 y0 y1
        have hq0 : 0 ≤ sc / 2 := by omega
        go_roundw
        case rel => exact ⟨_, _, rfl, rfl, by omega, by omega, hBest, hbF⟩
        case measure => simp [intOf]; omega
      · have hgt' : n6 ≤ bd := by omega
        have hBest : BestAt b w w4.heap.size w7 := ⟨s', p', k', ws', hBX7, hG, hRN⟩
        clear hgt x0 x1 b0 b1 y0 y1
        go_wp2
        go_roundw
        case rel => exact ⟨_, _, rfl, rfl, by omega, by omega, hBest, hbN⟩
        case measure => simp [intOf]; omega
    · have hsc' : sc ≤ 0 := by omega
      clear hsc
      have r0 := BRr.cell 0 _ rfl
      have r1 := BRr.cell 1 _ rfl
      have y0 := BRr.frozen 0
      have y1 := BRr.frozen 1
      have b0 := BX.cell 0 _ rfl
      have b1 := BX.cell 1 _ rfl
      go_wp2
      have BF : Blk ((wr.setCell ⟨w.heap.size + 1, 0, none⟩ (.int .i64 s')).setCell ⟨w.heap.size + 1, 1, none⟩ (.slice p' ws'.length k')) (w.heap.size + 1) #[.int .i64 s', .slice p' ws'.length k'] 42 := by simpa using (BRr.set 0 (.int .i64 s')).set 1 (.slice p' ws'.length k')
      have hFE : Below w.heap.size w ((wr.setCell ⟨w.heap.size + 1, 0, none⟩ (.int .i64 s')).setCell ⟨w.heap.size + 1, 1, none⟩ (.slice p' ws'.length k')) := (hAr.setCell (p := ⟨w.heap.size + 1, 0, none⟩) (Nat.le_succ _) _).setCell (p := ⟨w.heap.size + 1, 1, none⟩) (Nat.le_succ _) _
      have hRE : RInts ((wr.setCell ⟨w.heap.size + 1, 0, none⟩ (.int .i64 s')).setCell ⟨w.heap.size + 1, 1, none⟩ (.slice p' ws'.length k')) (.slice p' ws'.length k') ws' := hR.mono (ext_vis_out fun p y hp hy => by
        have hne : p.block ≠ w.heap.size + 1 := by omega
        unfold World.cell? at hy ⊢
        rw [Below.heap_setCell _ _ _ _ hne, Below.heap_setCell _ _ _ _ hne]
        exact hy)
      generalize (wr.setCell ⟨w.heap.size + 1, 0, none⟩ (.int .i64 s')).setCell ⟨w.heap.size + 1, 1, none⟩ (.slice p' ws'.length k') = WF at *
      have t0 := BF.cell 0 _ rfl
      have t1 := BF.cell 1 _ rfl
      refine bodyPost_ret (v := .tuple #[.agg #[.int .i64 s', .slice p' ws'.length k'], .int .i64 0]) (by simp only [results, Try.results46]; simp [go_sem, t0, t1]) rfl ?_
      exact .inr ⟨E1.out, s', p', k', ws', rfl, hG, hRE, hFE⟩

end Go.Proofs.Ytpkggjfaefkiiaa

namespace Go.Proofs.Ytpkggjfaefkiiaa
open Go.RowKit Go.PlainAid
set_option linter.unusedVariables false

def sumW (F : Nat → Int) (r : List Int) (k : Nat) : Int := ((List.range k).map fun i => F i * r.getD i 0).sum
theorem sumW_succ (F : Nat → Int) (r : List Int) (k : Nat) : sumW F r (k + 1) = sumW F r k + F k * r.getD k 0 := by
  unfold sumW; rw [List.range_succ, List.map_append, List.map_singleton, sum_snoc]
theorem min_between {f l m r : Int} (h1 : l ≤ r) (h2 : r ≤ m) : min (f * l) (f * m) ≤ f * r := by
  rcases Int.le_total 0 f with h | h
  · have := Int.mul_le_mul_of_nonneg_left h1 h
    omega
  · have := Int.mul_le_mul_of_nonpos_left h h2
    omega
theorem bey_le (F : Nat → Int) (ls ms r : List Int) : ∀ k, (∀ i, i < k → ls.getD i 0 ≤ r.getD i 0 ∧ r.getD i 0 ≤ ms.getD i 0) → beyTo F ls ms k ≤ sumW F r k := by
  intro k
  induction k with
  | zero => intro _; simp [beyTo, sumW]
  | succ k ih =>
    intro h
    have h1 := ih (fun i hi => h i (by omega))
    have h2 := h k (by omega)
    rw [beyTo_succ, sumW_succ]
    have := min_between (f := F k) h2.1 h2.2
    omega

def linesW (L : List Ln) (ws r : List Int) (n k : Nat) : Int := ((List.range k).map fun j => ws.getD j 0 * dotTo (lnAt L j).fs r n).sum
theorem linesW_succ (L : List Ln) (ws r : List Int) (n k : Nat) : linesW L ws r n (k + 1) = linesW L ws r n k + ws.getD k 0 * dotTo (lnAt L k).fs r n := by
  unfold linesW; rw [List.range_succ, List.map_append, List.map_singleton, sum_snoc]
theorem sumW_add (F G : Nat → Int) (r : List Int) (w : Int) (g : List Int) : ∀ n, (∀ i, i < n → F i = G i + w * g.getD i 0) → sumW F r n = sumW G r n + w * dotTo g r n := by
  intro n
  induction n with
  | zero => intro _; simp [sumW, dotTo]
  | succ n ih =>
    intro h
    rw [sumW_succ, sumW_succ, ih (fun i hi => h i (by omega)), h n (by omega), dotTo_succ', Int.mul_add, Int.add_mul, Int.mul_assoc]
    omega
theorem sumW_zero (r : List Int) : ∀ n, sumW (fun _ => 0) r n = 0 := by
  intro n
  induction n with
  | zero => simp [sumW]
  | succ n ih => rw [sumW_succ, ih]; simp
theorem sum_parts (P : List Int) (L : List Ln) (s : Int) (ws r : List Int) (n : Nat) : ∀ k, sumW (FE P L s ws k) r n = s * dotTo P r n + linesW L ws r n k := by
  intro k
  induction k with
  | zero =>
    rw [sumW_add (FE P L s ws 0) (fun _ => 0) r s P n (fun i _ => by simp [FE]), sumW_zero]
    simp [linesW]
  | succ k ih =>
    rw [sumW_add (FE P L s ws (k + 1)) (FE P L s ws k) r (ws.getD k 0) (lnAt L k).fs n (fun i _ => FE_succ P L s ws k i), ih, linesW_succ]
    omega
theorem lines_le {L : List Ln} {ws r : List Int} {n : Nat} : ∀ k, (∀ j, j < k → 0 ≤ ws.getD j 0 ∧ dotTo (lnAt L j).fs r n ≤ (lnAt L j).bound) → linesW L ws r n k ≤ BE L ws k := by
  intro k
  induction k with
  | zero => intro _; simp [linesW, BE]
  | succ k ih =>
    intro h
    have h1 := ih (fun j hj => h j (by omega))
    have h2 := h k (by omega)
    rw [linesW_succ, BE_succ]
    have := Int.mul_le_mul_of_nonneg_left h2.2 h2.1
    omega

theorem worth_le {b : Bat} (hok : OkB b) {s : Int} {ws r : List Int} (hk : PfOk (psB b) (linesB b) s ws) (hbo : bothB b r = 0) (hp : passB b r = true) (hr : r ∈ recsM b.mats) : worthE b s ws ≤ s * dotTo (psB b) r b.mats.length := by
  obtain ⟨-, hl, hbd⟩ := rec_len hbo
  have h1 := (passB_iff hok hbd hl).1 hp
  have h2 := ((recs_mem b.mats (stOk_of hok) r).1 hr).2
  have h3 := bey_le (FE (psB b) (linesB b) s ws (linesB b).length) (lsB b) (msB b) r b.mats.length (fun i hi => by
    obtain ⟨q1, q2, q3⟩ := h2 i hi
    have hm := hok.mats _ (List.getElem_mem hi)
    have e1 : (lsB b).getD i 0 = (b.mats[i]).least := by simp [lsB, List.getD, List.getElem?_eq_getElem hi]
    have e2 : (msB b).getD i 0 = mostE b.mats[i] := by simp [msB, List.getD, List.getElem?_eq_getElem hi]
    rw [e1, e2]
    refine ⟨q1, ?_⟩
    have hst := hm.step
    have h4 := Int.mul_ediv_add_emod (r.getD i 0 - (b.mats[i]).least) (b.mats[i]).step
    rw [q3] at h4
    have h6 : (r.getD i 0 - (b.mats[i]).least) / (b.mats[i]).step ≤ stepsE b.mats[i] := Int.ediv_le_ediv (by omega) (by omega)
    have h7 := Int.mul_le_mul_of_nonneg_left h6 (show 0 ≤ (b.mats[i]).step by omega)
    unfold mostE
    rw [Int.mul_comm (stepsE _)]
    omega)
  have h4 := sum_parts (psB b) (linesB b) s ws r b.mats.length (linesB b).length
  have h5 := lines_le (L := linesB b) (ws := ws) (r := r) (n := b.mats.length) (linesB b).length (fun j hj => by
    refine ⟨(hk.hw _ (getD_mem (d := 0) (by rw [hk.len]; exact hj))).1, ?_⟩
    have hm := List.getElem_mem hj
    have := h1 _ hm
    rw [line_len hm] at this
    rw [ln_at hj]
    exact this)
  unfold worthE
  omega

theorem sound {b : Bat} {s : Int} {ws : List Int} {n : Int} {none : Bool} (hb : boundB b s ws = (n, none, 0)) {r : List Int} {c : Int} (h1 : passesB b r = (true, 0)) (h2 : allowedB b r = (true, 0)) (h3 : costB b r = (c, 0)) : none = false ∧ (0 < s → n ≤ c) := by
  obtain ⟨e1, e2, e3⟩ := pass_and h1 h2
  obtain ⟨hc, hl, hbd⟩ := rec_len e1
  have hok := ok_of hc
  have hm := (al_mem hok hl).1 e3
  unfold boundB at hb
  rw [if_pos hc] at hb
  by_cases hcond : (0 ≤ s ∧ s ≤ 1000000) ∧ allBetweenB ws (linesB b).length 0 1000 = true
  · rw [if_pos hcond] at hb
    obtain ⟨hwl, hwb⟩ := allB_iff hcond.2
    have hk := pf_ok hok hcond.1 hwb hwl
    have hw := worth_le hok hk e1 e2 hm
    have hmt := hok.mt
    have hcst : c = dotTo (psB b) r b.mats.length := by
      unfold costB at h3
      rw [if_pos e1] at h3
      have h4 := (Prod.mk.inj h3).1
      rw [← h4]
      have hp : ∀ y ∈ b.mats.map Mat.price, -2000000000 ≤ y ∧ y ≤ 2000000000 := fun y hy => by
        obtain ⟨m, hm, rfl⟩ := List.mem_map.1 hy
        have := (hok.mats m hm).price; omega
      rw [dot_exact hp hbd (by simpa using hl.symm) (by simpa using hmt.2)]
      simp [psB]
    rw [← hcst] at hw
    by_cases hs : s = 0
    · rw [if_pos hs] at hb
      have h5 := (Prod.mk.inj (Prod.mk.inj hb).2).1
      subst hs
      rw [Int.zero_mul] at hw
      refine ⟨?_, fun h => by omega⟩
      rw [← h5]
      exact decide_eq_false (by omega)
    · rw [if_neg hs] at hb
      have h5 := (Prod.mk.inj (Prod.mk.inj hb).2).1
      have h6 := (Prod.mk.inj hb).1
      refine ⟨h5.symm, fun h => ?_⟩
      rw [← h6]
      have : -c ≤ (-(worthE b s ws)) / s := Int.le_ediv_of_mul_le h (by rw [Int.neg_mul, Int.mul_comm]; omega)
      omega
  · rw [if_neg hcond] at hb
    have h5 := (Prod.mk.inj (Prod.mk.inj hb).2).2
    omega

theorem zero_worth {b : Bat} (hok : OkB b) {s : Int} (hs : 0 ≤ s) : worthE b s (zeroW b) = s * dotTo (psB b) (lsB b) b.mats.length := by
  have hz : ∀ j, (zeroW b).getD j 0 = 0 := fun j => by
    unfold zeroW
    rw [List.getD_eq_getElem?_getD, List.getElem?_replicate]
    split <;> rfl
  have hB : ∀ k, BE (linesB b) (zeroW b) k = 0 := by
    intro k
    induction k with
    | zero => simp [BE]
    | succ k ih => rw [BE_succ, ih, hz]; simp
  have hF : ∀ k i, FE (psB b) (linesB b) s (zeroW b) k i = s * (psB b).getD i 0 := by
    intro k i
    induction k with
    | zero => simp [FE]
    | succ k ih => rw [FE_succ, ih, hz]; simp
  have hbey : ∀ k, k ≤ b.mats.length → beyTo (FE (psB b) (linesB b) s (zeroW b) (linesB b).length) (lsB b) (msB b) k = s * dotTo (psB b) (lsB b) k := by
    intro k
    induction k with
    | zero => intro _; simp [beyTo, dotTo]
    | succ k ih =>
      intro hk
      rw [beyTo_succ, ih (by omega), hF, dotTo_succ', Int.mul_add]
      have hi : k < b.mats.length := by omega
      have hm := most_ok (hok.mats _ (List.getElem_mem hi))
      have hp := (hok.mats _ (List.getElem_mem hi)).price
      have e1 : (lsB b).getD k 0 = (b.mats[k]).least := by simp [lsB, List.getD, List.getElem?_eq_getElem hi]
      have e2 : (msB b).getD k 0 = mostE b.mats[k] := by simp [msB, List.getD, List.getElem?_eq_getElem hi]
      have e3 : (psB b).getD k 0 = (b.mats[k]).price := by simp [psB, List.getD, List.getElem?_eq_getElem hi]
      rw [e1, e2, e3]
      have hsp : 0 ≤ s * (b.mats[k]).price := Int.mul_nonneg hs hp.1
      have := Int.mul_le_mul_of_nonneg_left hm.2.2.1 hsp
      rw [Int.min_eq_left this, Int.mul_assoc]
  unfold worthE
  rw [hB, hbey _ (Nat.le_refl _)]
  omega

theorem dotPL_bd {b : Bat} (hok : OkB b) : ∀ k, k ≤ b.mats.length → 0 ≤ dotTo (psB b) (lsB b) k ∧ dotTo (psB b) (lsB b) k ≤ 100000000 * (k : Int) := by
  intro k
  induction k with
  | zero => intro _; simp [dotTo]
  | succ k ih =>
    intro hk
    have h1 := ih (by omega)
    have hi : k < b.mats.length := by omega
    have hm := hok.mats _ (List.getElem_mem hi)
    have hp := hm.price
    have hl := hm.least
    have hx := hm.most
    have e1 : (psB b).getD k 0 = (b.mats[k]).price := by simp [psB, List.getD, List.getElem?_eq_getElem hi]
    have e2 : (lsB b).getD k 0 = (b.mats[k]).least := by simp [lsB, List.getD, List.getElem?_eq_getElem hi]
    rw [dotTo_succ', e1, e2]
    have h2 := mul_in (A := 10000) (B := 10000) hp (b := (b.mats[k]).least) (by omega)
    have h3 := Int.mul_nonneg hp.1 (show 0 ≤ (b.mats[k]).least by omega)
    omega

/-- what the program's own proof proves is at least the cost of all Leasts. -/
theorem good_bound {b : Bat} (hc : checkB b = 0) {s : Int} {ws : List Int} (hG : GoodP b s ws) {n : Int} {none : Bool} {e : Int} (hb : boundB b s ws = (n, none, e)) : e = 0 ∧ (0 < s → dotTo (psB b) (lsB b) b.mats.length ≤ n) := by
  have hok := ok_of hc
  obtain ⟨hk, hge⟩ := hG
  unfold boundB at hb
  have hal : allBetweenB ws (linesB b).length 0 1000 = true := by
    unfold allBetweenB
    simp only [hk.len, BEq.rfl, Bool.true_and, Bool.not_eq_true', List.any_eq_false]
    intro x hx
    have := hk.hw x hx
    unfold betweenB
    simp [this.1, this.2]
  rw [if_pos hc, if_pos ⟨hk.hs, hal⟩] at hb
  by_cases hs : s = 0
  · rw [if_pos hs] at hb
    exact ⟨((Prod.mk.inj (Prod.mk.inj hb).2).2).symm, fun h => by omega⟩
  · rw [if_neg hs] at hb
    refine ⟨((Prod.mk.inj (Prod.mk.inj hb).2).2).symm, fun h => ?_⟩
    rw [← (Prod.mk.inj hb).1]
    rw [zero_worth hok hk.hs.1] at hge
    have : (-(worthE b s ws)) / s ≤ -(dotTo (psB b) (lsB b) b.mats.length) := Int.ediv_le_of_le_mul h (by rw [Int.neg_mul, Int.mul_comm]; omega)
    omega

end Go.Proofs.Ytpkggjfaefkiiaa

namespace Go.Proofs.Ytpkggjfaefkiiaa
open Go.RowKit Go.PlainAid
set_option linter.unusedVariables false

set_option maxHeartbeats 8000000 in
set_option maxRecDepth 100000 in
theorem pvLaw_any (vb vx : Value) (b : Bat) (x : Ask) (w : World) (h : RBat w vb b) (hx : RAsk w vx x) :
    Calls Try.prog 11 #[vb, vx] w (TrueB w) := by
  obtain ⟨a0, k0, a1, k1, a2, k2, a3, k3, rfl⟩ := h.agg
  obtain ⟨b0, j0, b1, j1, b5, j5, rfl⟩ := hx.agg
  obtain ⟨hr1, -, hr5⟩ := asks hx
  have hA := below_two w (.cells #[.slice a0 b.oxides.length k0, .slice a1 b.mats.length k1, .slice a2 b.shares.length k2, .slice a3 b.props.length k3, .int .i64 b.redox.lo, .int .i64 b.redox.hi, .int .i64 b.wanted] 29) (.cells #[.slice b0 x.recipe.length j0, .slice b1 x.other.length j1, .int .i64 x.property, .int .i64 x.lots, .int .i64 x.scale, .slice b5 x.weights.length j5] 44)
  have hB := (Blk.new w #[.slice a0 b.oxides.length k0, .slice a1 b.mats.length k1, .slice a2 b.shares.length k2, .slice a3 b.props.length k3, .int .i64 b.redox.lo, .int .i64 b.redox.hi, .int .i64 b.wanted] 29).alloc (.cells #[.slice b0 x.recipe.length j0, .slice b1 x.other.length j1, .int .i64 x.property, .int .i64 x.lots, .int .i64 x.scale, .slice b5 x.weights.length j5] 44)
  have hC : Blk ((w.alloc (.cells #[.slice a0 b.oxides.length k0, .slice a1 b.mats.length k1, .slice a2 b.shares.length k2, .slice a3 b.props.length k3, .int .i64 b.redox.lo, .int .i64 b.redox.hi, .int .i64 b.wanted] 29)).alloc (.cells #[.slice b0 x.recipe.length j0, .slice b1 x.other.length j1, .int .i64 x.property, .int .i64 x.lots, .int .i64 x.scale, .slice b5 x.weights.length j5] 44)) (w.heap.size + 1) #[.slice b0 x.recipe.length j0, .slice b1 x.other.length j1, .int .i64 x.property, .int .i64 x.lots, .int .i64 x.scale, .slice b5 x.weights.length j5] 44 := by
    have := Blk.new (w.alloc (.cells #[.slice a0 b.oxides.length k0, .slice a1 b.mats.length k1, .slice a2 b.shares.length k2, .slice a3 b.props.length k3, .int .i64 b.redox.lo, .int .i64 b.redox.hi, .int .i64 b.wanted] 29)) #[.slice b0 x.recipe.length j0, .slice b1 x.other.length j1, .int .i64 x.property, .int .i64 x.lots, .int .i64 x.scale, .slice b5 x.weights.length j5] 44
    simpa using this
  go_enter Try.func11, Try.ntmps11
  go_wp2_with fail
  generalize (w.alloc (.cells #[.slice a0 b.oxides.length k0, .slice a1 b.mats.length k1, .slice a2 b.shares.length k2, .slice a3 b.props.length k3, .int .i64 b.redox.lo, .int .i64 b.redox.hi, .int .i64 b.wanted] 29)).alloc (.cells #[.slice b0 x.recipe.length j0, .slice b1 x.other.length j1, .int .i64 x.property, .int .i64 x.lots, .int .i64 x.scale, .slice b5 x.weights.length j5] 44) = W at *
  refine (great_any _ b _ (h.mono (ext_of_below hA))).mono ?_
  rintro e w1 ⟨t1, rfl, hb1⟩
  have hA1 := hA.trans (hb1.mono hA.size)
  have hB1 := hB.below hb1 hB.lt
  have hC1 := hC.below hb1 hC.lt
  clear hA hB hC hb1
  cases t1
  case true =>
    go_wp2_with fail
    refine (lives_any _).mono ?_
    rintro e wl ⟨rfl, hbl⟩
    have hAl := hA1.trans (hbl.mono hA1.size)
    clear hbl hB1 hC1
    go_wp2
    go_ret
    exact ⟨rfl, hAl⟩
  have c0 := hC1.cell 0 _ rfl
  have c1 := hC1.cell 1 _ rfl
  have c2 := hC1.cell 2 _ rfl
  have c3 := hC1.cell 3 _ rfl
  have c4 := hC1.cell 4 _ rfl
  have c5 := hC1.cell 5 _ rfl
  go_wp2_with fail
  refine (wide_any _ x _ ?_).mono ?_
  · exact hx.mono (ext_of_below hA1)
  rintro e w2 ⟨t2, rfl, hb2⟩
  have hA2 := hA1.trans (hb2.mono hA1.size)
  have hB2 := hB1.below hb2 hB1.lt
  have hC2 := hC1.below hb2 hC1.lt
  clear hA1 hB1 hC1 hb2 c0 c1 c2 c3 c4 c5
  cases t2
  case true =>
    go_wp2_with fail
    refine (lives_any _).mono ?_
    rintro e wl ⟨rfl, hbl⟩
    have hAl := hA2.trans (hbl.mono hA2.size)
    clear hbl hB2 hC2
    go_wp2
    go_ret
    exact ⟨rfl, hAl⟩
  have f0 := hB2.cell 0 _ rfl
  have f1 := hB2.cell 1 _ rfl
  have f2 := hB2.cell 2 _ rfl
  have f3 := hB2.cell 3 _ rfl
  have f4 := hB2.cell 4 _ rfl
  have f5 := hB2.cell 5 _ rfl
  have f6 := hB2.cell 6 _ rfl
  go_wp2_with fail
  refine (many_any _ b _ (h.mono (ext_of_below hA2))).mono ?_
  rintro e w3 ⟨t3, rfl, hb3⟩
  have hA3 := hA2.trans (hb3.mono hA2.size)
  have hB3 := hB2.below hb3 hB2.lt
  have hC3 := hC2.below hb3 hC2.lt
  clear hA2 hB2 hC2 hb3 f0 f1 f2 f3 f4 f5 f6
  cases t3
  case true =>
    go_wp2_with fail
    refine (lives_any _).mono ?_
    rintro e wl ⟨rfl, hbl⟩
    have hAl := hA3.trans (hbl.mono hA3.size)
    clear hbl hB3 hC3
    go_wp2
    go_ret
    exact ⟨rfl, hAl⟩
  have f0 := hB3.cell 0 _ rfl
  have f1 := hB3.cell 1 _ rfl
  have f2 := hB3.cell 2 _ rfl
  have f3 := hB3.cell 3 _ rfl
  have f4 := hB3.cell 4 _ rfl
  have f5 := hB3.cell 5 _ rfl
  have f6 := hB3.cell 6 _ rfl
  go_wp2_with fail
  refine (prove_any _ b w3 (h.mono (ext_of_below hA3))).mono ?_
  rintro e w4 (⟨hne, rfl, hb4⟩ | ⟨hc0, s, p, k9, ws, rfl, hG, hR, hb4⟩)
  · have hX := below_box w4 (.cells #[.int .i64 0, .slice none 0 0] 42)
    have hA4 := (hA3.trans (hb4.mono hA3.size)).trans (hX.mono (hA3.trans (hb4.mono hA3.size)).size)
    have hB4 := (hB3.more hb4).more hX
    have BP := Blk.new w4 #[.int .i64 0, .slice none 0 0] 42
    have d1 : (checkB b != 0) = true := by simp [hne]
    clear hA3 hB3 hC3 hb4 f0 f1 f2 f3 f4 f5 f6 hne hX
    have hck := fun (V : World) (hV : RBat V (.agg #[.slice a0 b.oxides.length k0, .slice a1 b.mats.length k1, .slice a2 b.shares.length k2, .slice a3 b.props.length k3, .int .i64 b.redox.lo, .int .i64 b.redox.hi, .int .i64 b.wanted]) b) => check_any (.agg #[.slice a0 b.oxides.length k0, .slice a1 b.mats.length k1, .slice a2 b.shares.length k2, .slice a3 b.props.length k3, .int .i64 b.redox.lo, .int .i64 b.redox.hi, .int .i64 b.wanted]) b V hV
    generalize checkB b = cb at *
    have f0 := hB4.cell 0 _ rfl
    have f1 := hB4.cell 1 _ rfl
    have f2 := hB4.cell 2 _ rfl
    have f3 := hB4.cell 3 _ rfl
    have f4 := hB4.cell 4 _ rfl
    have f5 := hB4.cell 5 _ rfl
    have f6 := hB4.cell 6 _ rfl
    have p0 := BP.cell 0 _ rfl
    have p1 := BP.cell 1 _ rfl
    go_wp2_with fail
    generalize w4.alloc (.cells #[.int .i64 0, .slice none 0 0] 42) = w5 at *
    refine (hck _ (h.mono (ext_of_below hA4))).mono ?_
    rintro e w6 ⟨rfl, hb6⟩
    have hA6 := hA4.trans (hb6.mono hA4.size)
    have BP6 := BP.more hb6
    clear f0 f1 f2 f3 f4 f5 f6 p0 p1 hck hA4 hB4 hb6 BP
    have p0 := BP6.cell 0 _ rfl
    have p1 := BP6.cell 1 _ rfl
    go_wp2_with fail
    refine (lives_any _).mono ?_
    rintro e wl ⟨rfl, hbl⟩
    have hAl := hA6.trans (hbl.mono hA6.size)
    clear hbl BP6 p0 p1
    go_wp2
    go_ret
    exact ⟨rfl, hAl⟩
  have hok := ok_of hc0
  have HC0 := Lib.hid hc0
  have HG := Lib.hid hG
  have hX := below_box w4 (.cells #[.int .i64 s, .slice p ws.length k9] 42)
  have hA4 := (hA3.trans (hb4.mono hA3.size)).trans (hX.mono (hA3.trans (hb4.mono hA3.size)).size)
  have hB4 := (hB3.more hb4).more hX
  have hC4 := (hC3.more hb4).more hX
  have hP4 := Blk.new w4 #[.int .i64 s, .slice p ws.length k9] 42
  have hR4 := hR.mono (ext_of_below hX)
  have hlP : w.heap.size + 1 < w4.heap.size := (hC3.more hb4).lt
  have hs01 : 0 ≤ s := hG.1.hs.1
  clear hA3 hB3 hC3 hb4 f0 f1 f2 f3 f4 f5 f6 hX hR hG hc0
  have HBO := both_res b x.recipe
  obtain ⟨⟨ps, pn⟩, hps⟩ : ∃ q, q = passesB b x.recipe := ⟨_, rfl⟩
  obtain ⟨⟨qs, qn⟩, hqs⟩ : ∃ q, q = allowedB b x.recipe := ⟨_, rfl⟩
  obtain ⟨⟨cs, cn⟩, hcs⟩ : ∃ q, q = costB b x.recipe := ⟨_, rfl⟩
  obtain ⟨⟨ob, eb⟩, hob⟩ : ∃ q, q = bestB b := ⟨_, rfl⟩
  obtain ⟨⟨n0, t0, e0⟩, hbd⟩ : ∃ q, q = boundB b s ws := ⟨_, rfl⟩
  obtain ⟨⟨n9, t9, j9⟩, hbx⟩ : ∃ q, q = boundB b x.scale x.weights := ⟨_, rfl⟩
  rw [← hps, ← hqs, ← hcs] at HBO
  have hgb := good_bound HC0.out HG.out hbd.symm
  obtain ⟨rfl, hgn⟩ := hgb
  have hbe := fun (V : World) (hV : RBat V (.agg #[.slice a0 b.oxides.length k0, .slice a1 b.mats.length k1, .slice a2 b.shares.length k2, .slice a3 b.props.length k3, .int .i64 b.redox.lo, .int .i64 b.redox.hi, .int .i64 b.wanted]) b) => best_any (.agg #[.slice a0 b.oxides.length k0, .slice a1 b.mats.length k1, .slice a2 b.shares.length k2, .slice a3 b.props.length k3, .int .i64 b.redox.lo, .int .i64 b.redox.hi, .int .i64 b.wanted]) b V hV
  have c1 := fun (V : World) (hV : RBat V (.agg #[.slice a0 b.oxides.length k0, .slice a1 b.mats.length k1, .slice a2 b.shares.length k2, .slice a3 b.props.length k3, .int .i64 b.redox.lo, .int .i64 b.redox.hi, .int .i64 b.wanted]) b) (hW : RInts V (.slice b0 x.recipe.length j0) x.recipe) => passes_any (.agg #[.slice a0 b.oxides.length k0, .slice a1 b.mats.length k1, .slice a2 b.shares.length k2, .slice a3 b.props.length k3, .int .i64 b.redox.lo, .int .i64 b.redox.hi, .int .i64 b.wanted]) (.slice b0 x.recipe.length j0) b x.recipe V hV hW
  have c2 := fun (V : World) (hV : RBat V (.agg #[.slice a0 b.oxides.length k0, .slice a1 b.mats.length k1, .slice a2 b.shares.length k2, .slice a3 b.props.length k3, .int .i64 b.redox.lo, .int .i64 b.redox.hi, .int .i64 b.wanted]) b) (hW : RInts V (.slice b0 x.recipe.length j0) x.recipe) => ballowed_any (.agg #[.slice a0 b.oxides.length k0, .slice a1 b.mats.length k1, .slice a2 b.shares.length k2, .slice a3 b.props.length k3, .int .i64 b.redox.lo, .int .i64 b.redox.hi, .int .i64 b.wanted]) (.slice b0 x.recipe.length j0) b x.recipe V hV hW
  have c3 := fun (V : World) (hV : RBat V (.agg #[.slice a0 b.oxides.length k0, .slice a1 b.mats.length k1, .slice a2 b.shares.length k2, .slice a3 b.props.length k3, .int .i64 b.redox.lo, .int .i64 b.redox.hi, .int .i64 b.wanted]) b) (hW : RInts V (.slice b0 x.recipe.length j0) x.recipe) => bcost_any (.agg #[.slice a0 b.oxides.length k0, .slice a1 b.mats.length k1, .slice a2 b.shares.length k2, .slice a3 b.props.length k3, .int .i64 b.redox.lo, .int .i64 b.redox.hi, .int .i64 b.wanted]) (.slice b0 x.recipe.length j0) b x.recipe V hV hW
  have c4 := fun (V : World) (hV : RBat V (.agg #[.slice a0 b.oxides.length k0, .slice a1 b.mats.length k1, .slice a2 b.shares.length k2, .slice a3 b.props.length k3, .int .i64 b.redox.lo, .int .i64 b.redox.hi, .int .i64 b.wanted]) b) (hW : RInts V (.slice p ws.length k9) ws) => bound_any (.agg #[.slice a0 b.oxides.length k0, .slice a1 b.mats.length k1, .slice a2 b.shares.length k2, .slice a3 b.props.length k3, .int .i64 b.redox.lo, .int .i64 b.redox.hi, .int .i64 b.wanted]) b s (.slice p ws.length k9) ws V hV hW
  have c5 := fun (V : World) (hV : RBat V (.agg #[.slice a0 b.oxides.length k0, .slice a1 b.mats.length k1, .slice a2 b.shares.length k2, .slice a3 b.props.length k3, .int .i64 b.redox.lo, .int .i64 b.redox.hi, .int .i64 b.wanted]) b) (hW : RInts V (.slice b5 x.weights.length j5) x.weights) => bound_any (.agg #[.slice a0 b.oxides.length k0, .slice a1 b.mats.length k1, .slice a2 b.shares.length k2, .slice a3 b.props.length k3, .int .i64 b.redox.lo, .int .i64 b.redox.hi, .int .i64 b.wanted]) b x.scale (.slice b5 x.weights.length j5) x.weights V hV hW
  rw [← hob] at hbe
  rw [← hps] at c1
  rw [← hqs] at c2
  rw [← hcs] at c3
  rw [← hbd] at c4
  rw [← hbx] at c5
  have HPS := Lib.hid hps
  have HQS := Lib.hid hqs
  have HCS := Lib.hid hcs
  have HOB := Lib.hid hob
  have HBD := Lib.hid hbd
  have HBX := Lib.hid hbx
  have HBO2 := Lib.hid HBO
  have HGN := Lib.hid hgn
  clear hps hqs hcs hob hbd hbx HBO hgn
  have f0 := hB4.cell 0 _ rfl
  have f1 := hB4.cell 1 _ rfl
  have f2 := hB4.cell 2 _ rfl
  have f3 := hB4.cell 3 _ rfl
  have f4 := hB4.cell 4 _ rfl
  have f5 := hB4.cell 5 _ rfl
  have f6 := hB4.cell 6 _ rfl
  go_wp2_with fail
  generalize w4.alloc (.cells #[.int .i64 s, .slice p ws.length k9] 42) = w5 at *
  refine (hbe _ (h.mono (ext_of_below hA4))).mono ?_
  rintro e w6 ⟨v, c, f, rfl, hb5, hres⟩
  have HRS : Hid (ResIs (w5.heap.size ≤ ·) w6 v c f ob) := hres
  obtain ⟨va, vn, vc, rfl⟩ := res_slice hres
  dsimp only at *
  have hA5 := hA4.trans (hb5.mono hA4.size)
  have hB5 := hB4.more hb5
  have hC5 := hC4.more hb5
  have hP5 := hP4.more hb5
  have hR5 := hR4.mono (ext_of_below hb5)
  clear hA4 hB4 hC4 hP4 hb5 f0 f1 f2 f3 f4 f5 f6 hbe hres hR4
  have f0 := hB5.cell 0 _ rfl
  have f1 := hB5.cell 1 _ rfl
  have f2 := hB5.cell 2 _ rfl
  have f3 := hB5.cell 3 _ rfl
  have f4 := hB5.cell 4 _ rfl
  have f5 := hB5.cell 5 _ rfl
  have f6 := hB5.cell 6 _ rfl
  have c0 := hC5.cell 0 (.slice b0 x.recipe.length j0) rfl
  go_wp2_with fail
  refine (c1 _ (h.mono (ext_of_below hA5)) (hr1.mono (ext_of_below hA5))).mono ?_
  rintro e w7 ⟨rfl, hb6⟩
  have hA6 := hA5.trans (hb6.mono hA5.size)
  have hB6 := hB5.more hb6
  have hC6 := hC5.more hb6
  have hP6 := hP5.more hb6
  have hR6 := hR5.mono (ext_of_below hb6)
  clear hA5 hB5 hC5 hP5 hb6 f0 f1 f2 f3 f4 f5 f6 c0 c1
  have f0 := hB6.cell 0 _ rfl
  have f1 := hB6.cell 1 _ rfl
  have f2 := hB6.cell 2 _ rfl
  have f3 := hB6.cell 3 _ rfl
  have f4 := hB6.cell 4 _ rfl
  have f5 := hB6.cell 5 _ rfl
  have f6 := hB6.cell 6 _ rfl
  have c0 := hC6.cell 0 (.slice b0 x.recipe.length j0) rfl
  go_wp2_with fail
  refine (c2 _ (h.mono (ext_of_below hA6)) (hr1.mono (ext_of_below hA6))).mono ?_
  rintro e w8 ⟨rfl, hb7⟩
  have hA7 := hA6.trans (hb7.mono hA6.size)
  have hB7 := hB6.more hb7
  have hC7 := hC6.more hb7
  have hP7 := hP6.more hb7
  have hR7 := hR6.mono (ext_of_below hb7)
  clear hA6 hB6 hC6 hP6 hb7 f0 f1 f2 f3 f4 f5 f6 c0 c2
  have f0 := hB7.cell 0 _ rfl
  have f1 := hB7.cell 1 _ rfl
  have f2 := hB7.cell 2 _ rfl
  have f3 := hB7.cell 3 _ rfl
  have f4 := hB7.cell 4 _ rfl
  have f5 := hB7.cell 5 _ rfl
  have f6 := hB7.cell 6 _ rfl
  have c0 := hC7.cell 0 (.slice b0 x.recipe.length j0) rfl
  go_wp2_with fail
  refine (c3 _ (h.mono (ext_of_below hA7)) (hr1.mono (ext_of_below hA7))).mono ?_
  rintro e w9 ⟨rfl, hb8⟩
  have hA8 := hA7.trans (hb8.mono hA7.size)
  have hB8 := hB7.more hb8
  have hC8 := hC7.more hb8
  have hP8 := hP7.more hb8
  have hR8 := hR7.mono (ext_of_below hb8)
  clear hA7 hB7 hC7 hP7 hb8 f0 f1 f2 f3 f4 f5 f6 c0 c3
  have f0 := hB8.cell 0 _ rfl
  have f1 := hB8.cell 1 _ rfl
  have f2 := hB8.cell 2 _ rfl
  have f3 := hB8.cell 3 _ rfl
  have f4 := hB8.cell 4 _ rfl
  have f5 := hB8.cell 5 _ rfl
  have f6 := hB8.cell 6 _ rfl
  have p0 := hP8.cell 0 _ rfl
  have p1 := hP8.cell 1 _ rfl
  go_wp2_with fail
  refine (c4 _ (h.mono (ext_of_below hA8)) hR8).mono ?_
  rintro e wB ⟨rfl, hb9⟩
  have hA9 := hA8.trans (hb9.mono hA8.size)
  have hB9 := hB8.more hb9
  have hC9 := hC8.more hb9
  have hP9 := hP8.more hb9
  clear hA8 hB8 hC8 hP8 hR8 hR5 hR6 hR7 hb9 f0 f1 f2 f3 f4 f5 f6 p0 p1 c4
  dsimp only at *
  obtain ⟨z0, z1, z2, z3, ez, -, hmr, -⟩ := id h
  simp only [Value.agg.injEq, Array.mk.injEq, List.cons.injEq, and_true] at ez
  obtain ⟨-, rfl, -, -⟩ := ez
  obtain ⟨ya, yk, yq, -, ⟨-, yb⟩, hmc⟩ := hmr
  cases yq
  have hmt := hok.mt
  have HBE : Hid ((f = false ∧ eb ≠ 0) ∨ (f = false ∧ eb = 0) ∨ (f = true ∧ eb = 0 ∧ ∃ rb, passesB b rb = (true, 0) ∧ allowedB b rb = (true, 0) ∧ costB b rb = (c, 0))) := by
    have hrs := HRS.out
    cases ob with
    | none =>
      obtain ⟨rfl, -, -⟩ := hrs
      by_cases he : eb = 0
      · exact .inr (.inl ⟨rfl, he⟩)
      · exact .inl ⟨rfl, he⟩
    | some q =>
      obtain ⟨rq, cq⟩ := q
      obtain ⟨rfl, rfl, -⟩ := hrs
      have he : eb = 0 := by
        by_cases he : eb = 0
        · exact he
        · have := best_err HOB.out.symm he
          cases this
      subst he
      obtain ⟨-, -, s3, s4, s5, -⟩ := best_some HOB.out.symm
      exact .inr (.inr ⟨rfl, rfl, rq, s3, s4, s5⟩)
  clear HRS
  go_wp2_with fail
  go_loopw [20, 21] (fun lv iv wr => ∃ k : Nat, k ≤ b.mats.length ∧ iv = .int .i64 (k : Int) ∧ lv = .int .i64 (dotTo (psB b) (lsB b) k) ∧ Below wB.heap.size wB wr) (fun _ iv _ => b.mats.length - (intOf iv).toNat)
  case atStart => exact ⟨0, Nat.zero_le _, rfl, by simp [dotTo], Below.refl _ _⟩
  case round =>
    obtain ⟨k, hkk, rfl, rfl, hbk⟩ := hrel
    have hAk := hA9.trans (hbk.mono hA9.size)
    have hBk := hB9.more hbk
    by_cases hlt : k < b.mats.length
    · obtain ⟨b7, o7, rfl, cc, ⟨-, g1, -, g3, -, -, -⟩, -, -⟩ := hmc k hlt
      have hmo := hok.mats _ (List.getElem_mem hlt)
      have hp := hmo.price
      have hl := hmo.least
      have hmx := hmo.most
      have e1 : (psB b).getD k 0 = (b.mats[k]).price := by simp [psB, List.getD, List.getElem?_eq_getElem hlt]
      have e2 : (lsB b).getD k 0 = (b.mats[k]).least := by simp [lsB, List.getD, List.getElem?_eq_getElem hlt]
      have hds := dotTo_succ' (psB b) (lsB b) k
      rw [e1, e2] at hds
      have hdb := dotPL_bd hok k hkk
      have hpr := mul_in (A := 10000) (B := 10000) hp (b := (b.mats[k]).least) (by omega)
      have eA := ext_of_below hAk
      simp only at g1 g3
      replace g1 := eA _ _ g1
      replace g3 := eA _ _ g3
      have f1 := hBk.cell 1 _ rfl
      have hkn : (k : Int) < (b.mats.length : Int) := by omega
      have HDS := Lib.hid hds
      clear hds e1 e2 hmc eA hp hl hmx hmo
      generalize (b.mats[k]'hlt).price = pr at *
      generalize (b.mats[k]'hlt).least = le at *
      generalize hda : dotTo (psB b) (lsB b) k = da at *
      have HDA := Lib.hid hda
      have q1 : IntKind.i64.wrap (pr * le) = pr * le := IntWalk.i64_in _ (by omega)
      have q2 : IntKind.i64.wrap (da + pr * le) = da + pr * le := IntWalk.i64_in _ (by omega)
      clear hda
      have HW : Hid (wrap64 (da + wrap64 (pr * le)) = da + pr * le) := by
        show wrap64 (da + wrap64 (pr * le)) = da + pr * le
        rw [wrap_id (pr * le) (by unfold I64; omega), wrap_id _ (by unfold I64; omega)]
      go_wp2
      go_quiet (fail)
      go_wp2
      go_roundw
      case rel => exact ⟨k + 1, by omega, by go_num, by rw [HDS.out], below_drewN hbk _⟩
      case measure => simp [intOf]; omega
    · have dk : decide (k < b.mats.length) = false := decide_eq_false hlt
      have hkq : k = b.mats.length := by omega
      subst hkq
      have hCk := hC9.more hbk
      have hPk := hP9.more hbk
      have p0 := hPk.cell 0 _ rfl
      have f1 := hBk.cell 1 _ rfl
      have hgn := HGN.out
      clear hmc HGN
      generalize hda : dotTo (psB b) (lsB b) b.mats.length = da at *
      clear hda hB9 hC9 hP9
      by_cases hsp0 : 0 < s
      · have hgx : da ≤ n0 := hgn hsp0
        clear hgn hlt
        go_wp2
        clear p0 f1
        go_loopw [17, 18, 19, 22] (fun nv tv jv rv wr => ∃ (r : Nat) (n' : Int) (t' : Bool) (j' s' : Int) (p' : Option Addr) (k' : Nat) (ws' : List Int), r ≤ 2 ∧ nv = .int .i64 n' ∧ tv = .bool t' ∧ jv = .int .i64 j' ∧ rv = .int .i64 (r : Int) ∧ Hid (boundB b s' ws' = (n', t', j')) ∧ Blk wr w4.heap.size #[.int .i64 s', .slice p' ws'.length k'] 42 ∧ Blk wr w.heap.size #[.slice a0 b.oxides.length k0, .slice a1 b.mats.length k1, .slice a2 b.shares.length k2, .slice a3 b.props.length k3, .int .i64 b.redox.lo, .int .i64 b.redox.hi, .int .i64 b.wanted] 29 ∧ Blk wr (w.heap.size + 1) #[.slice b0 x.recipe.length j0, .slice b1 x.other.length j1, .int .i64 x.property, .int .i64 x.lots, .int .i64 x.scale, .slice b5 x.weights.length j5] 44 ∧ Below w.heap.size w wr) (fun _ _ _ rv _ => 2 - (intOf rv).toNat)
        case atStart => exact ⟨0, n0, t0, 0, s, p, k9, ws, by omega, rfl, rfl, rfl, rfl, HBD.out.symm, hPk, hBk, hCk, hAk⟩
        case round =>
          obtain ⟨r, n', t', j', s', p', k', ws', hr, rfl, rfl, rfl, rfl, hbd', hPr, hBr, hCr, hAr⟩ := hrel
          clear hPk hBk hCk hAk
          by_cases hr2 : r < 2
          · have hr2' : (r : Int) < 2 := by omega
            have hr0 : (0 : Int) ≤ (r : Int) := Int.natCast_nonneg _
            have f0 := hBr.cell 0 _ rfl
            have f1 := hBr.cell 1 _ rfl
            have f2 := hBr.cell 2 _ rfl
            have f3 := hBr.cell 3 _ rfl
            have f4 := hBr.cell 4 _ rfl
            have f5 := hBr.cell 5 _ rfl
            have f6 := hBr.cell 6 _ rfl
            have z4 := hCr.cell 4 _ rfl
            have z5 := hCr.cell 5 _ rfl
            have p0 := hPr.cell 0 _ rfl
            have p1 := hPr.cell 1 _ rfl
            have y0 := hPr.frozen 0
            have y1 := hPr.frozen 1
            go_upto_region 23 with fail
            go_cut [151] (fun sv wx => sv = .bool false ∧ wr = wx)
            case first =>
              by_cases hj : j' = 0
              case neg =>
                have d1 : (j' == 0) = false := by simp [hj]
                clear hj hbd'
                go_wp2_with fail
                go_meet
                exact ⟨rfl, rfl⟩
              subst hj
              have HS := Lib.hid (fun (r : List Int) (c : Int) (h1 : passesB b r = (true, 0)) (h2 : allowedB b r = (true, 0)) (h3 : costB b r = (c, 0)) => sound hbd'.out h1 h2 h3)
              clear hbd'
              have hways := HBE.out
              rcases hways with ⟨rfl, heb⟩ | ⟨rfl, heb⟩ | ⟨rfl, rfl, rb, g1, g2, g3⟩
              · have de : (eb == 0) = false := by simp [heb]
                clear heb
                go_wp2_with fail
                go_meet
                exact ⟨rfl, rfl⟩
              · subst heb
                go_wp2_with fail
                go_meet
                exact ⟨rfl, rfl⟩
              · obtain ⟨rfl, hn1⟩ := HS.out rb c g1 g2 g3
                clear g1 g2 g3
                by_cases hsp : 0 < s'
                · have hn1x : n' ≤ c := hn1 hsp
                  clear hn1
                  go_wp2_with fail
                  go_meet
                  exact ⟨by rw [decide_eq_false (by omega)], rfl⟩
                · have hsq : s' ≤ 0 := by omega
                  clear hsp hn1
                  go_wp2_with fail
                  go_meet
                  exact ⟨rfl, rfl⟩
            case rest =>
              obtain ⟨rfl, rfl⟩ := hcut
              go_upto_region 25 with fail
              go_cut [184] (fun sv wx => sv = .bool false ∧ wr = wx)
              case first =>
                by_cases hj : j' = 0
                case neg =>
                  have d1 : (j' == 0) = false := by simp [hj]
                  clear hj hbd'
                  go_wp2_with fail
                  go_meet
                  exact ⟨rfl, rfl⟩
                subst hj
                have HS := Lib.hid (fun (r : List Int) (c : Int) (h1 : passesB b r = (true, 0)) (h2 : allowedB b r = (true, 0)) (h3 : costB b r = (c, 0)) => sound hbd'.out h1 h2 h3)
                clear hbd'
                have hasks := HBO2.out
                rcases hasks with ⟨hpn, rfl, rfl⟩ | ⟨rfl, rfl, rfl⟩
                · have dp : (pn == 0) = false := by simp [hpn]
                  clear hpn
                  go_wp2_with fail
                  go_meet
                  exact ⟨rfl, rfl⟩
                · cases ps
                  · go_wp2_with fail
                    go_meet
                    exact ⟨rfl, rfl⟩
                  · cases qs
                    · go_wp2_with fail
                      go_meet
                      exact ⟨rfl, rfl⟩
                    · obtain ⟨rfl, hn2⟩ := HS.out _ _ HPS.out.symm HQS.out.symm HCS.out.symm
                      by_cases hsp : 0 < s'
                      · have hn2x : n' ≤ cs := hn2 hsp
                        clear hn2
                        go_wp2_with fail
                        go_meet
                        exact ⟨by rw [decide_eq_false (by omega)], rfl⟩
                      · have hsq : s' ≤ 0 := by omega
                        clear hsp hn2
                        go_wp2_with fail
                        go_meet
                        exact ⟨rfl, rfl⟩
              case rest =>
                obtain ⟨rfl, rfl⟩ := hcut
                clear hbd'
                go_wp2_with fail
                have BPN : Blk ((wr.setCell ⟨w4.heap.size, 0, none⟩ (.int .i64 x.scale)).setCell ⟨w4.heap.size, 1, none⟩ (.slice b5 x.weights.length j5)) w4.heap.size #[.int .i64 x.scale, .slice b5 x.weights.length j5] 42 := by simpa using (hPr.set 0 (.int .i64 x.scale)).set 1 (.slice b5 x.weights.length j5)
                have hBN : Blk ((wr.setCell ⟨w4.heap.size, 0, none⟩ (.int .i64 x.scale)).setCell ⟨w4.heap.size, 1, none⟩ (.slice b5 x.weights.length j5)) w.heap.size #[.slice a0 b.oxides.length k0, .slice a1 b.mats.length k1, .slice a2 b.shares.length k2, .slice a3 b.props.length k3, .int .i64 b.redox.lo, .int .i64 b.redox.hi, .int .i64 b.wanted] 29 := by
                  unfold Blk at *
                  rw [Below.heap_setCell _ _ _ _ (by simp; omega), Below.heap_setCell _ _ _ _ (by simp; omega)]
                  exact hBr
                have hCN : Blk ((wr.setCell ⟨w4.heap.size, 0, none⟩ (.int .i64 x.scale)).setCell ⟨w4.heap.size, 1, none⟩ (.slice b5 x.weights.length j5)) (w.heap.size + 1) #[.slice b0 x.recipe.length j0, .slice b1 x.other.length j1, .int .i64 x.property, .int .i64 x.lots, .int .i64 x.scale, .slice b5 x.weights.length j5] 44 := by
                  unfold Blk at *
                  rw [Below.heap_setCell _ _ _ _ (by simp; omega), Below.heap_setCell _ _ _ _ (by simp; omega)]
                  exact hCr
                have hAN : Below w.heap.size w ((wr.setCell ⟨w4.heap.size, 0, none⟩ (.int .i64 x.scale)).setCell ⟨w4.heap.size, 1, none⟩ (.slice b5 x.weights.length j5)) := (hAr.setCell (p := ⟨w4.heap.size, 0, none⟩) (by show w.heap.size ≤ w4.heap.size; omega) _).setCell (p := ⟨w4.heap.size, 1, none⟩) (by show w.heap.size ≤ w4.heap.size; omega) _
                clear f0 f1 f2 f3 f4 f5 f6 p0 p1 y0 y1 z4 z5 hPr hBr hCr hAr
                generalize (wr.setCell ⟨w4.heap.size, 0, none⟩ (.int .i64 x.scale)).setCell ⟨w4.heap.size, 1, none⟩ (.slice b5 x.weights.length j5) = wN at *
                refine (c5 _ (h.mono (ext_of_below hAN)) (hr5.mono (ext_of_below hAN))).mono ?_
                rintro e wM ⟨rfl, hbM⟩
                dsimp only at *
                have BPM := BPN.more hbM
                have hBM := hBN.more hbM
                have hCM := hCN.more hbM
                have hAM := hAN.trans (hbM.mono hAN.size)
                clear BPN hBN hCN hAN hbM c5
                go_wp2
                go_roundw
                case rel => exact ⟨r + 1, n9, t9, j9, x.scale, b5, j5, x.weights, by omega, rfl, rfl, rfl, by go_num, HBX.out.symm, BPM, hBM, hCM, hAM⟩
                case measure => simp [intOf]; omega
          · have hr2' : ¬ (r : Int) < 2 := by omega
            clear hr2 hbd' c5
            go_wp2_with fail
            refine (lives_any _).mono ?_
            rintro e wl ⟨rfl, hbl⟩
            have hAl := hAr.trans (hbl.mono hAr.size)
            clear hbl hPr hBr hCr
            go_wp2
            go_ret
            exact ⟨rfl, hAl⟩
      · have hsq0 : s ≤ 0 := by omega
        clear hgn hsp0 hlt
        go_wp2
        clear p0 f1
        go_loopw [17, 18, 19, 22] (fun nv tv jv rv wr => ∃ (r : Nat) (n' : Int) (t' : Bool) (j' s' : Int) (p' : Option Addr) (k' : Nat) (ws' : List Int), r ≤ 2 ∧ nv = .int .i64 n' ∧ tv = .bool t' ∧ jv = .int .i64 j' ∧ rv = .int .i64 (r : Int) ∧ Hid (boundB b s' ws' = (n', t', j')) ∧ Blk wr w4.heap.size #[.int .i64 s', .slice p' ws'.length k'] 42 ∧ Blk wr w.heap.size #[.slice a0 b.oxides.length k0, .slice a1 b.mats.length k1, .slice a2 b.shares.length k2, .slice a3 b.props.length k3, .int .i64 b.redox.lo, .int .i64 b.redox.hi, .int .i64 b.wanted] 29 ∧ Blk wr (w.heap.size + 1) #[.slice b0 x.recipe.length j0, .slice b1 x.other.length j1, .int .i64 x.property, .int .i64 x.lots, .int .i64 x.scale, .slice b5 x.weights.length j5] 44 ∧ Below w.heap.size w wr) (fun _ _ _ rv _ => 2 - (intOf rv).toNat)
        case atStart => exact ⟨0, n0, t0, 0, s, p, k9, ws, by omega, rfl, rfl, rfl, rfl, HBD.out.symm, hPk, hBk, hCk, hAk⟩
        case round =>
          obtain ⟨r, n', t', j', s', p', k', ws', hr, rfl, rfl, rfl, rfl, hbd', hPr, hBr, hCr, hAr⟩ := hrel
          clear hPk hBk hCk hAk
          by_cases hr2 : r < 2
          · have hr2' : (r : Int) < 2 := by omega
            have hr0 : (0 : Int) ≤ (r : Int) := Int.natCast_nonneg _
            have f0 := hBr.cell 0 _ rfl
            have f1 := hBr.cell 1 _ rfl
            have f2 := hBr.cell 2 _ rfl
            have f3 := hBr.cell 3 _ rfl
            have f4 := hBr.cell 4 _ rfl
            have f5 := hBr.cell 5 _ rfl
            have f6 := hBr.cell 6 _ rfl
            have z4 := hCr.cell 4 _ rfl
            have z5 := hCr.cell 5 _ rfl
            have p0 := hPr.cell 0 _ rfl
            have p1 := hPr.cell 1 _ rfl
            have y0 := hPr.frozen 0
            have y1 := hPr.frozen 1
            go_upto_region 23 with fail
            go_cut [151] (fun sv wx => sv = .bool false ∧ wr = wx)
            case first =>
              by_cases hj : j' = 0
              case neg =>
                have d1 : (j' == 0) = false := by simp [hj]
                clear hj hbd'
                go_wp2_with fail
                go_meet
                exact ⟨rfl, rfl⟩
              subst hj
              have HS := Lib.hid (fun (r : List Int) (c : Int) (h1 : passesB b r = (true, 0)) (h2 : allowedB b r = (true, 0)) (h3 : costB b r = (c, 0)) => sound hbd'.out h1 h2 h3)
              clear hbd'
              have hways := HBE.out
              rcases hways with ⟨rfl, heb⟩ | ⟨rfl, heb⟩ | ⟨rfl, rfl, rb, g1, g2, g3⟩
              · have de : (eb == 0) = false := by simp [heb]
                clear heb
                go_wp2_with fail
                go_meet
                exact ⟨rfl, rfl⟩
              · subst heb
                go_wp2_with fail
                go_meet
                exact ⟨rfl, rfl⟩
              · obtain ⟨rfl, hn1⟩ := HS.out rb c g1 g2 g3
                clear g1 g2 g3
                by_cases hsp : 0 < s'
                · have hn1x : n' ≤ c := hn1 hsp
                  clear hn1
                  go_wp2_with fail
                  go_meet
                  exact ⟨by rw [decide_eq_false (by omega)], rfl⟩
                · have hsq : s' ≤ 0 := by omega
                  clear hsp hn1
                  go_wp2_with fail
                  go_meet
                  exact ⟨rfl, rfl⟩
            case rest =>
              obtain ⟨rfl, rfl⟩ := hcut
              go_upto_region 25 with fail
              go_cut [184] (fun sv wx => sv = .bool false ∧ wr = wx)
              case first =>
                by_cases hj : j' = 0
                case neg =>
                  have d1 : (j' == 0) = false := by simp [hj]
                  clear hj hbd'
                  go_wp2_with fail
                  go_meet
                  exact ⟨rfl, rfl⟩
                subst hj
                have HS := Lib.hid (fun (r : List Int) (c : Int) (h1 : passesB b r = (true, 0)) (h2 : allowedB b r = (true, 0)) (h3 : costB b r = (c, 0)) => sound hbd'.out h1 h2 h3)
                clear hbd'
                have hasks := HBO2.out
                rcases hasks with ⟨hpn, rfl, rfl⟩ | ⟨rfl, rfl, rfl⟩
                · have dp : (pn == 0) = false := by simp [hpn]
                  clear hpn
                  go_wp2_with fail
                  go_meet
                  exact ⟨rfl, rfl⟩
                · cases ps
                  · go_wp2_with fail
                    go_meet
                    exact ⟨rfl, rfl⟩
                  · cases qs
                    · go_wp2_with fail
                      go_meet
                      exact ⟨rfl, rfl⟩
                    · obtain ⟨rfl, hn2⟩ := HS.out _ _ HPS.out.symm HQS.out.symm HCS.out.symm
                      by_cases hsp : 0 < s'
                      · have hn2x : n' ≤ cs := hn2 hsp
                        clear hn2
                        go_wp2_with fail
                        go_meet
                        exact ⟨by rw [decide_eq_false (by omega)], rfl⟩
                      · have hsq : s' ≤ 0 := by omega
                        clear hsp hn2
                        go_wp2_with fail
                        go_meet
                        exact ⟨rfl, rfl⟩
              case rest =>
                obtain ⟨rfl, rfl⟩ := hcut
                clear hbd'
                go_wp2_with fail
                have BPN : Blk ((wr.setCell ⟨w4.heap.size, 0, none⟩ (.int .i64 x.scale)).setCell ⟨w4.heap.size, 1, none⟩ (.slice b5 x.weights.length j5)) w4.heap.size #[.int .i64 x.scale, .slice b5 x.weights.length j5] 42 := by simpa using (hPr.set 0 (.int .i64 x.scale)).set 1 (.slice b5 x.weights.length j5)
                have hBN : Blk ((wr.setCell ⟨w4.heap.size, 0, none⟩ (.int .i64 x.scale)).setCell ⟨w4.heap.size, 1, none⟩ (.slice b5 x.weights.length j5)) w.heap.size #[.slice a0 b.oxides.length k0, .slice a1 b.mats.length k1, .slice a2 b.shares.length k2, .slice a3 b.props.length k3, .int .i64 b.redox.lo, .int .i64 b.redox.hi, .int .i64 b.wanted] 29 := by
                  unfold Blk at *
                  rw [Below.heap_setCell _ _ _ _ (by simp; omega), Below.heap_setCell _ _ _ _ (by simp; omega)]
                  exact hBr
                have hCN : Blk ((wr.setCell ⟨w4.heap.size, 0, none⟩ (.int .i64 x.scale)).setCell ⟨w4.heap.size, 1, none⟩ (.slice b5 x.weights.length j5)) (w.heap.size + 1) #[.slice b0 x.recipe.length j0, .slice b1 x.other.length j1, .int .i64 x.property, .int .i64 x.lots, .int .i64 x.scale, .slice b5 x.weights.length j5] 44 := by
                  unfold Blk at *
                  rw [Below.heap_setCell _ _ _ _ (by simp; omega), Below.heap_setCell _ _ _ _ (by simp; omega)]
                  exact hCr
                have hAN : Below w.heap.size w ((wr.setCell ⟨w4.heap.size, 0, none⟩ (.int .i64 x.scale)).setCell ⟨w4.heap.size, 1, none⟩ (.slice b5 x.weights.length j5)) := (hAr.setCell (p := ⟨w4.heap.size, 0, none⟩) (by show w.heap.size ≤ w4.heap.size; omega) _).setCell (p := ⟨w4.heap.size, 1, none⟩) (by show w.heap.size ≤ w4.heap.size; omega) _
                clear f0 f1 f2 f3 f4 f5 f6 p0 p1 y0 y1 z4 z5 hPr hBr hCr hAr
                generalize (wr.setCell ⟨w4.heap.size, 0, none⟩ (.int .i64 x.scale)).setCell ⟨w4.heap.size, 1, none⟩ (.slice b5 x.weights.length j5) = wN at *
                refine (c5 _ (h.mono (ext_of_below hAN)) (hr5.mono (ext_of_below hAN))).mono ?_
                rintro e wM ⟨rfl, hbM⟩
                dsimp only at *
                have BPM := BPN.more hbM
                have hBM := hBN.more hbM
                have hCM := hCN.more hbM
                have hAM := hAN.trans (hbM.mono hAN.size)
                clear BPN hBN hCN hAN hbM c5
                go_wp2
                go_roundw
                case rel => exact ⟨r + 1, n9, t9, j9, x.scale, b5, j5, x.weights, by omega, rfl, rfl, rfl, by go_num, HBX.out.symm, BPM, hBM, hCM, hAM⟩
                case measure => simp [intOf]; omega
          · have hr2' : ¬ (r : Int) < 2 := by omega
            clear hr2 hbd' c5
            go_wp2_with fail
            refine (lives_any _).mono ?_
            rintro e wl ⟨rfl, hbl⟩
            have hAl := hAr.trans (hbl.mono hAr.size)
            clear hbl hPr hBr hCr
            go_wp2
            go_ret
            exact ⟨rfl, hAl⟩

end Go.Proofs.Ytpkggjfaefkiiaa
