/- The law StrengthStresses: every input; no statement is proved here. -/
import Derived.Test.YtokgnbagegcnpaaDoorRBurst
import Derived.Test.YtokgnbagegcnpaaDoorRStP
import Derived.Test.YtokgnbagegcnpaaDoorSCells
import Derived.Test.YtokgnbagegcnpaaDoorSCLaw
import Derived.Test.YtokgnbagegcnpaaDoorSSame
namespace Go.Proofs.YtokgnbagegcnpaaDoor
open Go.RowKit Go.PlainAid
set_option linter.unusedVariables false
set_option linter.unusedSimpArgs false
attribute [local go_sem ↓] exec_ask
attribute [local go_sem] beq_self_eq_true bne_self_eq_false
theorem sp_eq {u v : Sp} (h : u.lo = v.lo ∧ u.hi = v.hi) : u = v := by cases u; cases v; simp only at h; rw [h.1, h.2]
theorem iff_bool {p q : Bool} {P : Prop} (h : p = true ↔ P) (k : q = true ↔ P) : p = q := by
  have := h.trans k.symm
  cases p <;> cases q <;> simp_all

set_option maxHeartbeats 8000000 in
set_option maxRecDepth 100000 in
theorem sStressesLaw_any (vb vx : Value) (b : Bot) (x : Ask5) (w : World) (h : RBot w vb b) (hx : RAskC w vx x) (hC : Circ w) :
    Calls Tryd.prog 4 #[vb, vx] w (TrueB w) := by
  have h0 := h
  have hx0 := hx
  obtain ⟨v0, rfl, hr, hI⟩ := h
  obtain ⟨a, cap, rfl, -, -, -⟩ := hr
  obtain ⟨vt, vm, vr, pa, pk, cl, rfl, hx', -⟩ := hx
  obtain ⟨vt', vm', vr', pa', pk', he, hx1, hx2, hx3, -, hxi⟩ := hx'
  simp only [askCells, Value.agg.injEq, Array.mk.injEq, List.cons.injEq, and_true, true_and] at he
  obtain ⟨rfl, rfl, rfl, -⟩ := he
  have ht0 := hx1
  have hm0 := hx2
  have hc0 := hx3
  obtain ⟨at', kt, rfl, -, ⟨-, htm⟩, htl⟩ := hx1
  obtain ⟨am, km, rfl, -, ⟨-, hmm⟩, hml⟩ := hx2
  obtain ⟨ar, kr, rfl, -, -, -⟩ := hx3
  have hA : Below w.heap.size w ((w.alloc (.cells #[.slice a b.rings.length cap, .int .i64 b.flaw, .int .i64 b.tough] 24)).alloc (.cells (askCells x (.slice at' x.thick.length kt) (.slice am x.measured.length km) (.slice ar x.recipe.length kr) pa pk) 33)) := (below_boxS w _).alloc (by simp) _
  have hB := (Blk.new w #[.slice a b.rings.length cap, .int .i64 b.flaw, .int .i64 b.tough] 24).alloc (.cells (askCells x (.slice at' x.thick.length kt) (.slice am x.measured.length km) (.slice ar x.recipe.length kr) pa pk) 33)
  have hX := Blk.new (w.alloc (.cells #[.slice a b.rings.length cap, .int .i64 b.flaw, .int .i64 b.tough] 24)) (askCells x (.slice at' x.thick.length kt) (.slice am x.measured.length km) (.slice ar x.recipe.length kr) pa pk) 33
  rw [World.size_alloc] at hX
  have hz : ((w.alloc (.cells #[.slice a b.rings.length cap, .int .i64 b.flaw, .int .i64 b.tough] 24)).alloc (.cells (askCells x (.slice at' x.thick.length kt) (.slice am x.measured.length km) (.slice ar x.recipe.length kr) pa pk) 33)).heap.size = w.heap.size + 2 := by simp
  replace hz := And.intro (Nat.le_of_eq hz) (Nat.le_of_eq hz.symm)
  simp only [askCells] at hA hB hX hz ⊢
  go_enter Tryd.func4, Tryd.ntmps4
  go_wp2_with fail
  generalize (w.alloc (.cells #[.slice a b.rings.length cap, .int .i64 b.flaw, .int .i64 b.tough] 24)).alloc _ = W2 at *
  have HI := Lib.hid hxi
  have HR := Lib.hid (fun V (hV : Below w.heap.size w V) => h0.mono (ext_of_below hV))
  have HX := Lib.hid (fun V (hV : Below w.heap.size w V) => hx0.mono (ext_of_below hV))
  have HT := Lib.hid (fun V (hV : Below w.heap.size w V) => ht0.mono (ext_of_below hV))
  have HM := Lib.hid (fun V (hV : Below w.heap.size w V) => hm0.mono (ext_of_below hV))
  have HRC := Lib.hid (fun V (hV : Below w.heap.size w V) => hc0.mono (ext_of_below hV))
  have HTL := Lib.hid (fun V (hV : Below w.heap.size w V) i (h : i < x.thick.length) => (htl i h).elim fun b' h1 => h1.elim fun o' h2 => (⟨b', o', h2.1, h2.2.mono (ext_of_below hV)⟩ : ∃ b' o', at' = some ⟨b', o', none⟩ ∧ RSp V ⟨b', o' + i * 2, none⟩ x.thick[i]))
  have HML := Lib.hid hml
  have HC := Lib.hid (fun V (hV : Below w.heap.size w V) => hC.mono (ext_of_below hV))
  clear h0 hx0 ht0 htl hC hm0 hc0 hml hxi
  simp only [askCells] at HX
  refine (great5_any _ b _ (HR.out _ hA)).mono ?_
  rintro e w1 ⟨rfl, hb1⟩
  have hA1 := hA.trans (hb1.mono hA.size)
  have hB1 := hB.below hb1 hB.lt
  have hX1 := hX.below hb1 hX.lt
  have hz1 : w.heap.size + 2 ≤ w1.heap.size := by have := hb1.size; omega
  clear hA hB hX hb1 hz
  cases hg : decide (40 < b.rings.length) with
  | true =>
    clear hB1 hX1
    go_wp2_with fail
    refine (lives5_any _ (HC.out _ hA1)).mono ?_
    rintro e wl ⟨rfl, hbl⟩
    have hAl := hA1.trans (hbl.mono hA1.size)
    clear hbl hA1
    go_wp2
    go_ret
    exact ⟨rfl, hAl⟩

  | false =>
  have c0 := hB1.cell 0 _ rfl
  have c1 := hB1.cell 1 _ rfl
  have c2 := hB1.cell 2 _ rfl
  have hld := ld_ask hX1 rfl
  go_wp2_with fail
  refine (wide5_any _ x _ (HX.out _ hA1)).mono ?_
  rintro e w2 ⟨rw, rfl, hwd, hb2⟩
  have hA2 := hA1.trans (hb2.mono hA1.size)
  have hB2 := hB1.below hb2 hB1.lt
  have hX2 := hX1.below hb2 hX1.lt
  have hz2 : w.heap.size + 2 ≤ w2.heap.size := by have := hb2.size; omega
  clear hA1 hB1 hX1 hb2 hz1 c0 c1 c2 hld
  cases rw with
  | true =>
    clear hB2 hX2
    go_wp2_with fail
    refine (lives5_any _ (HC.out _ hA2)).mono ?_
    rintro e wl ⟨rfl, hbl⟩
    have hAl := hA2.trans (hbl.mono hA2.size)
    clear hbl hA2
    go_wp2
    go_ret
    exact ⟨rfl, hAl⟩

  | false =>
  have h40 := hwd rfl
  clear hwd
  have c0 := hB2.cell 0 _ rfl
  have c1 := hB2.cell 1 _ rfl
  have c2 := hB2.cell 2 _ rfl
  have x0 := hX2.cell 0 _ rfl
  have x1 := hX2.cell 1 _ rfl
  have x2 := hX2.cell 2 _ rfl
  have x3 := hX2.cell 3 _ rfl
  have x4 := hX2.cell 4 _ rfl
  go_wp2_with fail
  refine (stressP_any _ _ b x.thick x.load _ (HR.out _ hA2) (HT.out _ hA2) (HC.out _ hA2)).mono ?_
  rintro e w3 ⟨v3, rfl, hv3, hb3⟩
  have hA3 := hA2.trans (hb3.mono hA2.size)
  have hB3 := hB2.below hb3 hB2.lt
  have hX3 := hX2.below hb3 hX2.lt
  have hz3 : w.heap.size + 2 ≤ w3.heap.size := by have := hb3.size; omega
  clear hA2 hB2 hX2 hb3 hz2
  have hv3' := hv3.mono (vis_ext _ _)
  clear hv3
  clear c0 c1 c2 x0 x1 x2 x3 x4
  have c0 := hB3.cell 0 _ rfl
  have c1 := hB3.cell 1 _ rfl
  have c2 := hB3.cell 2 _ rfl
  have x0 := hX3.cell 0 _ rfl
  have x1 := hX3.cell 1 _ rfl
  have x2 := hX3.cell 2 _ rfl
  have x3 := hX3.cell 3 _ rfl
  have x4 := hX3.cell 4 _ rfl
  go_wp2_with fail
  refine (rstressP_any _ _ b x.thick x.load _ (HR.out _ hA3) (HT.out _ hA3)).mono ?_
  rintro e w4 ⟨v4, rfl, hv4, hb4⟩
  have hv4' := hv4.mono (vis_ext _ _)
  have hss := sameSpans_any v3 v4 _ _ w4 (hv3'.mono (ext_of_below hb4)) hv4'
  rw [decide_eq_true rfl] at hss
  clear hv3' hv4 hv4'
  have hA4 := hA3.trans (hb4.mono hA3.size)
  have hB4 := hB3.below hb4 hB3.lt
  have hX4 := hX3.below hb4 hX3.lt
  have hz4 : w.heap.size + 2 ≤ w4.heap.size := by have := hb4.size; omega
  clear hA3 hB3 hX3 hb4 hz3
  clear c0 c1 c2 x0 x1 x2 x3 x4
  have hqq : (wallS b x.thick x.load != wallS b x.thick x.load) = false := by simp
  go_wp2_with fail
  refine hss.mono ?_
  rintro e w5 ⟨rfl, hb5⟩
  clear hss
  have hA5 := hA4.trans (hb5.mono hA4.size)
  have hB5 := hB4.below hb5 hB4.lt
  have hX5 := hX4.below hb5 hX4.lt
  have hz5 : w.heap.size + 2 ≤ w5.heap.size := by have := hb5.size; omega
  clear hA4 hB4 hX4 hb5 hz4
  have c0 := hB5.cell 0 _ rfl
  have c1 := hB5.cell 1 _ rfl
  have c2 := hB5.cell 2 _ rfl
  have x0 := hX5.cell 0 _ rfl
  have x1 := hX5.cell 1 _ rfl
  have x2 := hX5.cell 2 _ rfl
  have x3 := hX5.cell 3 _ rfl
  have x4 := hX5.cell 4 _ rfl
  go_wp2_with fail
  refine (holdsP_any _ _ b x.thick x.load _ (HR.out _ hA5) (HT.out _ hA5) (HC.out _ hA5)).mono ?_
  rintro e w6 ⟨h, i, rfl, p1, p2, hb6⟩
  have P1 := Lib.hid p1
  have P2 := Lib.hid p2
  clear p1 p2
  have hA6 := hA5.trans (hb6.mono hA5.size)
  have hB6 := hB5.below hb6 hB5.lt
  have hX6 := hX5.below hb6 hX5.lt
  have hz6 : w.heap.size + 2 ≤ w6.heap.size := by have := hb6.size; omega
  clear hA5 hB5 hX5 hb6 hz5
  clear c0 c1 c2 x0 x1 x2 x3 x4
  have c0 := hB6.cell 0 _ rfl
  have c1 := hB6.cell 1 _ rfl
  have c2 := hB6.cell 2 _ rfl
  have x0 := hX6.cell 0 _ rfl
  have x1 := hX6.cell 1 _ rfl
  have x2 := hX6.cell 2 _ rfl
  have x3 := hX6.cell 3 _ rfl
  have x4 := hX6.cell 4 _ rfl
  go_wp2_with fail
  refine (rholds_any _ _ b x.thick x.load _ (HR.out _ hA6) (HT.out _ hA6)).mono ?_
  rintro e w7 ⟨j, k, rfl, q1, q2, hb7⟩
  have hjk : h = j ∧ i = k := by
    by_cases hw : wallS b x.thick x.load = 0
    · exact ⟨iff_bool (P1.out hw).1 (q1 hw).1, iff_bool (P1.out hw).2 (q1 hw).2⟩
    · exact ⟨(P2.out hw).1.trans (q2 hw).1.symm, (P2.out hw).2.trans (q2 hw).2.symm⟩
  obtain ⟨rfl, rfl⟩ := hjk
  clear P1 P2 q1 q2
  have hA7 := hA6.trans (hb7.mono hA6.size)
  have hB7 := hB6.below hb7 hB6.lt
  have hX7 := hX6.below hb7 hX6.lt
  have hz7 : w.heap.size + 2 ≤ w7.heap.size := by have := hb7.size; omega
  clear hA6 hB6 hX6 hb7 hz6
  clear c0 c1 c2 x0 x1 x2 x3 x4
  have c0 := hB7.cell 0 _ rfl
  have c1 := hB7.cell 1 _ rfl
  have c2 := hB7.cell 2 _ rfl
  have x0 := hX7.cell 0 _ rfl
  have x1 := hX7.cell 1 _ rfl
  have x2 := hX7.cell 2 _ rfl
  have x3 := hX7.cell 3 _ rfl
  have x4 := hX7.cell 4 _ rfl
  go_wp2_with fail
  refine (burstP_any _ _ b x.thick x.load _ (HR.out _ hA7) (HT.out _ hA7) (HC.out _ hA7)).mono ?_
  rintro e w8 ⟨u, rfl, u1, u2, hb8⟩
  have U1 := Lib.hid u1
  have U2 := Lib.hid u2
  clear u1 u2
  have hA8 := hA7.trans (hb8.mono hA7.size)
  have hB8 := hB7.below hb8 hB7.lt
  have hX8 := hX7.below hb8 hX7.lt
  have hz8 : w.heap.size + 2 ≤ w8.heap.size := by have := hb8.size; omega
  clear hA7 hB7 hX7 hb8 hz7
  clear c0 c1 c2 x0 x1 x2 x3 x4
  have hA9 : Below w.heap.size w (w8.alloc (.cells #[.int .i64 u.lo, .int .i64 u.hi] 29)) := hA8.alloc hA8.size _
  have hB9 := hB8.alloc (.cells #[.int .i64 u.lo, .int .i64 u.hi] 29)
  have hX9 := hX8.alloc (.cells #[.int .i64 u.lo, .int .i64 u.hi] 29)
  have hU9 := Blk.new w8 #[.int .i64 u.lo, .int .i64 u.hi] 29
  have c0 := hB9.cell 0 _ rfl
  have c1 := hB9.cell 1 _ rfl
  have c2 := hB9.cell 2 _ rfl
  have x0 := hX9.cell 0 _ rfl
  have x1 := hX9.cell 1 _ rfl
  have x2 := hX9.cell 2 _ rfl
  have x3 := hX9.cell 3 _ rfl
  have x4 := hX9.cell 4 _ rfl
  clear hA8 hB8 hX8
  go_wp2_with fail
  generalize w8.alloc (.cells #[.int .i64 u.lo, .int .i64 u.hi] 29) = W9 at *
  generalize w8.heap.size = pu at *
  refine (rburst_any _ _ b x.thick x.load _ (HR.out _ hA9) (HT.out _ hA9)).mono ?_
  rintro e w10 ⟨v, rfl, v1, v2, hb10⟩
  have huv : u = v := by
    by_cases hw : wallS b x.thick x.load = 0
    · exact sp_eq ((U1.out hw).unique (v1 hw))
    · exact (U2.out hw).trans (v2 hw).symm
  obtain rfl := huv
  have hA10 := hA9.trans (hb10.mono hA9.size)
  have hU10 := hU9.below hb10 hU9.lt
  clear U1 U2 v1 v2 hb10 hA9 hB9 hX9 hU9
  clear c0 c1 c2 x0 x1 x2 x3 x4
  have hA11 : Below w.heap.size w (w10.alloc (.cells #[.int .i64 u.lo, .int .i64 u.hi] 29)) := hA10.alloc hA10.size _
  have hU11 := hU10.alloc (.cells #[.int .i64 u.lo, .int .i64 u.hi] 29)
  have hV11 := Blk.new w10 #[.int .i64 u.lo, .int .i64 u.hi] 29
  have lU := hU10.lt
  have y0 := hU11.cell 0 _ rfl
  have y1 := hU11.cell 1 _ rfl
  have z0 := hV11.cell 0 _ rfl
  have z1 := hV11.cell 1 _ rfl
  clear hA10 hU10 hU11 hV11
  cases h <;> cases i
  all_goals
    go_wp2_with fail
    refine (lives5_any _ (HC.out _ hA11)).mono ?_
    rintro e wl ⟨rfl, hbl⟩
    have hAl := hA11.trans (hbl.mono hA11.size)
    clear hbl hA11
    go_wp2
    go_ret
    exact ⟨rfl, hAl⟩

end Go.Proofs.YtokgnbagegcnpaaDoor
