/- The law StrengthNeeds: every input; no statement is proved here. -/
import Derived.Test.YtokgnbagegcnpaaDoorRLightP
import Derived.Test.YtokgnbagegcnpaaDoorRPassP
import Derived.Test.YtokgnbagegcnpaaDoorSSame
import Derived.BigQuiet
import Derived.Test.YtokgnbagegcnpaaDoorSCells
import Derived.Test.YtokgnbagegcnpaaDoorSCLaw
namespace Go.Proofs.YtokgnbagegcnpaaDoor
open Go.RowKit Go.PlainAid
set_option linter.unusedVariables false
set_option linter.unusedSimpArgs false
attribute [local go_sem ↓] exec_ask
set_option maxRecDepth 100000 in
theorem sameInts_eq (v1 v2 : Value) (a : List Int) (w : World) (h1 : RInts w v1 a) (h2 : RInts w v2 a) :
    Calls Tryd.prog 32 #[v1, v2] w fun e w' => e = .returned (.bool true) ∧ ∃ n, w' = w.drewN n := by
  obtain ⟨pa, ka, rfl, -, ⟨-, la⟩, hal⟩ := h1
  obtain ⟨pb, kb, rfl, -, ⟨-, lb⟩, hbl⟩ := h2
  go_enter Tryd.func32, Tryd.ntmps32
  go_wp2
  go_loopw [5] (fun i wr => ∃ (k n : Nat), k ≤ a.length ∧ i = .int .i64 k ∧ wr = w.drewN n) (fun i _ => a.length - (intOf i).toNat)
  case atStart => exact ⟨0, 0, Nat.zero_le _, rfl, rfl⟩
  case round =>
    obtain ⟨k, n, hk, rfl, rfl⟩ := hrel
    by_cases hlt : k < a.length
    · obtain ⟨b1, o1, rfl, q1, -⟩ := hal k hlt
      obtain ⟨b2, o2, rfl, q2, -⟩ := hbl k hlt
      simp only [Nat.mul_one] at q1 q2
      have j1 : (0 : Int) ≤ (k : Int) := Int.natCast_nonneg _
      have j2 : (k : Int) < (a.length : Int) := by omega
      clear hal hbl
      generalize a[k] = x at *
      go_wp2_with fail
      go_quiet (fail)
      go_wp2
      go_roundw
      case rel => exact ⟨k + 1, _, by omega, by go_num, rfl⟩
      case measure => simp [intOf]; omega
    · go_wp2
      go_ret
      exact ⟨rfl, n, rfl⟩

attribute [local go_sem] beq_self_eq_true bne_self_eq_false
theorem iff_bool' {p q : Bool} {P : Prop} (h : p = true ↔ P) (k : q = true ↔ P) : p = q := by
  have := h.trans k.symm
  cases p <;> cases q <;> simp_all

set_option maxHeartbeats 8000000 in
set_option maxRecDepth 100000 in
theorem sNeedsLaw_any (vb vx : Value) (b : Bot) (x : Ask5) (w : World) (h : RBot w vb b) (hx : RAskC w vx x) (hC : Circ w) :
    Calls Tryd.prog 5 #[vb, vx] w (TrueB w) := by
  have h0 := h
  have hx0 := hx
  obtain ⟨v0, rfl, hr, hI⟩ := h
  obtain ⟨a, cap, rfl, -, -, -⟩ := hr
  obtain ⟨vt, vm, vr, pa, pk, cl, rfl, hx', -⟩ := hx
  obtain ⟨vt', vm', vr', pa', pk', he, hx1, hx2, hx3, -, hxi⟩ := hx'
  simp only [askCells, Value.agg.injEq, Array.mk.injEq, List.cons.injEq, and_true, true_and] at he
  obtain ⟨rfl, rfl, rfl, -⟩ := he
  have ht0 := hx1
  have hm0 := hx2
  have hc0 := hx3
  obtain ⟨at', kt, rfl, -, ⟨-, htm⟩, htl⟩ := hx1
  obtain ⟨am, km, rfl, -, ⟨-, hmm⟩, hml⟩ := hx2
  obtain ⟨ar, kr, rfl, -, -, -⟩ := hx3
  have hA : Below w.heap.size w ((w.alloc (.cells #[.slice a b.rings.length cap, .int .i64 b.flaw, .int .i64 b.tough] 24)).alloc (.cells (askCells x (.slice at' x.thick.length kt) (.slice am x.measured.length km) (.slice ar x.recipe.length kr) pa pk) 33)) := (below_boxS w _).alloc (by simp) _
  have hB := (Blk.new w #[.slice a b.rings.length cap, .int .i64 b.flaw, .int .i64 b.tough] 24).alloc (.cells (askCells x (.slice at' x.thick.length kt) (.slice am x.measured.length km) (.slice ar x.recipe.length kr) pa pk) 33)
  have hX := Blk.new (w.alloc (.cells #[.slice a b.rings.length cap, .int .i64 b.flaw, .int .i64 b.tough] 24)) (askCells x (.slice at' x.thick.length kt) (.slice am x.measured.length km) (.slice ar x.recipe.length kr) pa pk) 33
  rw [World.size_alloc] at hX
  have hz : ((w.alloc (.cells #[.slice a b.rings.length cap, .int .i64 b.flaw, .int .i64 b.tough] 24)).alloc (.cells (askCells x (.slice at' x.thick.length kt) (.slice am x.measured.length km) (.slice ar x.recipe.length kr) pa pk) 33)).heap.size = w.heap.size + 2 := by simp
  replace hz := And.intro (Nat.le_of_eq hz) (Nat.le_of_eq hz.symm)
  simp only [askCells] at hA hB hX hz ⊢
  go_enter Tryd.func5, Tryd.ntmps5
  go_wp2_with fail
  generalize (w.alloc (.cells #[.slice a b.rings.length cap, .int .i64 b.flaw, .int .i64 b.tough] 24)).alloc _ = W2 at *
  have HI := Lib.hid hxi
  have HR := Lib.hid (fun V (hV : Below w.heap.size w V) => h0.mono (ext_of_below hV))
  have HX := Lib.hid (fun V (hV : Below w.heap.size w V) => hx0.mono (ext_of_below hV))
  have HT := Lib.hid (fun V (hV : Below w.heap.size w V) => ht0.mono (ext_of_below hV))
  have HM := Lib.hid (fun V (hV : Below w.heap.size w V) => hm0.mono (ext_of_below hV))
  have HRC := Lib.hid (fun V (hV : Below w.heap.size w V) => hc0.mono (ext_of_below hV))
  have HTL := Lib.hid (fun V (hV : Below w.heap.size w V) i (h : i < x.thick.length) => (htl i h).elim fun b' h1 => h1.elim fun o' h2 => (⟨b', o', h2.1, h2.2.mono (ext_of_below hV)⟩ : ∃ b' o', at' = some ⟨b', o', none⟩ ∧ RSp V ⟨b', o' + i * 2, none⟩ x.thick[i]))
  have HML := Lib.hid hml
  have HC := Lib.hid (fun V (hV : Below w.heap.size w V) => hC.mono (ext_of_below hV))
  clear h0 hx0 ht0 htl hC hm0 hc0 hml hxi
  simp only [askCells] at HX
  refine (great5_any _ b _ (HR.out _ hA)).mono ?_
  rintro e w1 ⟨rfl, hb1⟩
  have hA1 := hA.trans (hb1.mono hA.size)
  have hB1 := hB.below hb1 hB.lt
  have hX1 := hX.below hb1 hX.lt
  have hz1 : w.heap.size + 2 ≤ w1.heap.size := by have := hb1.size; omega
  clear hA hB hX hb1 hz
  cases hg : decide (40 < b.rings.length) with
  | true =>
    clear hB1 hX1
    go_wp2_with fail
    refine (lives5_any _ (HC.out _ hA1)).mono ?_
    rintro e wl ⟨rfl, hbl⟩
    have hAl := hA1.trans (hbl.mono hA1.size)
    clear hbl hA1
    go_wp2
    go_ret
    exact ⟨rfl, hAl⟩

  | false =>
  have c0 := hB1.cell 0 _ rfl
  have c1 := hB1.cell 1 _ rfl
  have c2 := hB1.cell 2 _ rfl
  have hld := ld_ask hX1 rfl
  go_wp2_with fail
  refine (wide5_any _ x _ (HX.out _ hA1)).mono ?_
  rintro e w2 ⟨rw, rfl, hwd, hb2⟩
  have hA2 := hA1.trans (hb2.mono hA1.size)
  have hB2 := hB1.below hb2 hB1.lt
  have hX2 := hX1.below hb2 hX1.lt
  have hz2 : w.heap.size + 2 ≤ w2.heap.size := by have := hb2.size; omega
  clear hA1 hB1 hX1 hb2 hz1 c0 c1 c2 hld
  cases rw with
  | true =>
    clear hB2 hX2
    go_wp2_with fail
    refine (lives5_any _ (HC.out _ hA2)).mono ?_
    rintro e wl ⟨rfl, hbl⟩
    have hAl := hA2.trans (hbl.mono hA2.size)
    clear hbl hA2
    go_wp2
    go_ret
    exact ⟨rfl, hAl⟩

  | false =>
  have h40 := hwd rfl
  clear hwd
  have c0 := hB2.cell 0 _ rfl
  have c1 := hB2.cell 1 _ rfl
  have c2 := hB2.cell 2 _ rfl
  have x1 := hX2.cell 1 _ rfl
  have x2 := hX2.cell 2 _ rfl
  have x3 := hX2.cell 3 _ rfl
  have x4 := hX2.cell 4 _ rfl
  go_wp2_with fail
  refine (neededP_any _ b x.load _ (HR.out _ hA2) (HC.out _ hA2)).mono ?_
  rintro e w3 ⟨v3, rfl, hv3, hb3⟩
  have hA3 := hA2.trans (hb3.mono hA2.size)
  have hB3 := hB2.below hb3 hB2.lt
  have hX3 := hX2.below hb3 hX2.lt
  have hz3 : w.heap.size + 2 ≤ w3.heap.size := by have := hb3.size; omega
  clear hA2 hB2 hX2 hb3 hz2
  have hv3' := hv3.mono (vis_ext _ _)
  clear hv3
  clear c0 c1 c2 x1 x2 x3 x4
  have c0 := hB3.cell 0 _ rfl
  have c1 := hB3.cell 1 _ rfl
  have c2 := hB3.cell 2 _ rfl
  have x1 := hX3.cell 1 _ rfl
  have x2 := hX3.cell 2 _ rfl
  have x3 := hX3.cell 3 _ rfl
  have x4 := hX3.cell 4 _ rfl
  go_wp2_with fail
  refine (rneededP_any _ b x.load _ (HR.out _ hA3)).mono ?_
  rintro e w4 ⟨v4, rfl, hv4, hb4⟩
  have hv4' := hv4.mono (vis_ext _ _)
  have hss := sameInts_eq v3 v4 _ w4 (hv3'.mono (ext_of_below hb4)) hv4'
  clear hv3' hv4 hv4'
  have hA4 := hA3.trans (hb4.mono hA3.size)
  have hB4 := hB3.below hb4 hB3.lt
  have hX4 := hX3.below hb4 hX3.lt
  have hz4 : w.heap.size + 2 ≤ w4.heap.size := by have := hb4.size; omega
  clear hA3 hB3 hX3 hb4 hz3
  clear c0 c1 c2 x1 x2 x3 x4
  have hqq : (bothS b x.load != bothS b x.load) = false := by simp
  go_wp2_with fail
  refine hss.mono ?_
  rintro e w5 ⟨rfl, nd, rfl⟩
  have hb5 : Below w4.heap.size w4 (w4.drewN nd) := below_drewN5' (Below.refl _ _)
  clear hss
  generalize w4.drewN nd = w5 at *
  have hA5 := hA4.trans (hb5.mono hA4.size)
  have hB5 := hB4.below hb5 hB4.lt
  have hX5 := hX4.below hb5 hX4.lt
  have hz5 : w.heap.size + 2 ≤ w5.heap.size := by have := hb5.size; omega
  clear hA4 hB4 hX4 hb5 hz4
  have c0 := hB5.cell 0 _ rfl
  have c1 := hB5.cell 1 _ rfl
  have c2 := hB5.cell 2 _ rfl
  have x1 := hX5.cell 1 _ rfl
  have x2 := hX5.cell 2 _ rfl
  have x3 := hX5.cell 3 _ rfl
  have x4 := hX5.cell 4 _ rfl
  have x9 := hX5.cell 9 _ rfl
  have x10 := hX5.cell 10 _ rfl
  go_wp2_with fail
  refine (passesP_any _ _ b x.load x.measured x.acc _ (HR.out _ hA5) (HM.out _ hA5) (HC.out _ hA5)).mono ?_
  rintro e w6 ⟨i, rfl, p1, p2, hb6⟩
  have P1 := Lib.hid p1
  have P2 := Lib.hid p2
  clear p1 p2
  have hA6 := hA5.trans (hb6.mono hA5.size)
  have hB6 := hB5.below hb6 hB5.lt
  have hX6 := hX5.below hb6 hX5.lt
  have hz6 : w.heap.size + 2 ≤ w6.heap.size := by have := hb6.size; omega
  clear hA5 hB5 hX5 hb6 hz5
  clear c0 c1 c2 x1 x2 x3 x4 x9 x10
  have c0 := hB6.cell 0 _ rfl
  have c1 := hB6.cell 1 _ rfl
  have c2 := hB6.cell 2 _ rfl
  have x1 := hX6.cell 1 _ rfl
  have x2 := hX6.cell 2 _ rfl
  have x3 := hX6.cell 3 _ rfl
  have x4 := hX6.cell 4 _ rfl
  have x9 := hX6.cell 9 _ rfl
  have x10 := hX6.cell 10 _ rfl
  go_wp2_with fail
  refine (rpassesP_any _ _ b x.load x.measured x.acc _ (HR.out _ hA6) (HM.out _ hA6)).mono ?_
  rintro e w7 ⟨j, rfl, q1, q2, hb7⟩
  have hij : i = j := by
    by_cases hw : passE b x.load x.measured x.acc = 0
    · exact iff_bool' (P1.out hw) (q1 hw)
    · exact (P2.out hw).trans (q2 hw).symm
  obtain rfl := hij
  clear P1 P2 q1 q2
  have hA7 := hA6.trans (hb7.mono hA6.size)
  have hB7 := hB6.below hb7 hB6.lt
  have hX7 := hX6.below hb7 hX6.lt
  have hz7 : w.heap.size + 2 ≤ w7.heap.size := by have := hb7.size; omega
  clear hA6 hB6 hX6 hb7 hz6
  clear c0 c1 c2 x1 x2 x3 x4 x9 x10
  have c0 := hB7.cell 0 _ rfl
  have c1 := hB7.cell 1 _ rfl
  have c2 := hB7.cell 2 _ rfl
  have x1 := hX7.cell 1 _ rfl
  have x2 := hX7.cell 2 _ rfl
  have x3 := hX7.cell 3 _ rfl
  have x4 := hX7.cell 4 _ rfl
  go_wp2_with fail
  refine (lightestP_any _ b x.load _ (HR.out _ hA7) (HC.out _ hA7)).mono ?_
  rintro e w8 ⟨rfl, hb8⟩
  have hA8 := hA7.trans (hb8.mono hA7.size)
  have hB8 := hB7.below hb8 hB7.lt
  have hX8 := hX7.below hb8 hX7.lt
  have hz8 : w.heap.size + 2 ≤ w8.heap.size := by have := hb8.size; omega
  clear hA7 hB7 hX7 hb8 hz7
  clear c0 c1 c2 x1 x2 x3 x4
  have c0 := hB8.cell 0 _ rfl
  have c1 := hB8.cell 1 _ rfl
  have c2 := hB8.cell 2 _ rfl
  have x1 := hX8.cell 1 _ rfl
  have x2 := hX8.cell 2 _ rfl
  have x3 := hX8.cell 3 _ rfl
  have x4 := hX8.cell 4 _ rfl
  go_wp2_with fail
  refine (rlightestP_any _ b x.load _ (HR.out _ hA8)).mono ?_
  rintro e w9 ⟨rfl, hb9⟩
  have hA9 := hA8.trans (hb9.mono hA8.size)
  have hB9 := hB8.below hb9 hB8.lt
  have hX9 := hX8.below hb9 hX8.lt
  have hz9 : w.heap.size + 2 ≤ w9.heap.size := by have := hb9.size; omega
  clear hA8 hB8 hX8 hb9 hz8
  clear c0 c1 c2 x1 x2 x3 x4
  clear hB9 hX9
  cases i
  all_goals
    go_wp2_with fail
    refine (lives5_any _ (HC.out _ hA9)).mono ?_
    rintro e wl ⟨rfl, hbl⟩
    have hAl := hA9.trans (hbl.mono hA9.size)
    clear hbl hA9
    go_wp2
    go_ret
    exact ⟨rfl, hAl⟩

end Go.Proofs.YtokgnbagegcnpaaDoor
