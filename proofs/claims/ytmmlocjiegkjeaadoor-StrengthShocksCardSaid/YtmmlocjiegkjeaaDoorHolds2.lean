/- Holds by its contract; no statement is proved here. -/
import Derived.Test.YtmmlocjiegkjeaaDoorHolds
namespace Go.Proofs.YtmmlocjiegkjeaaDoor
open Go.RowKit Go.PlainAid
set_option linter.unusedVariables false
attribute [local go_sem] Oper.semAt_some

theorem isFn_holds1 : IsFn 66 := fun xs w => by kernel_rfl

/-- what Holds answers. -/
def HoldsA (w : World) (b : Bot) (ts : List Sp) (l : Ld) (e : Ending) (w' : World) : Prop :=
  ∃ h br, e = .returned (.tuple #[.bool h, .bool br, .int .i64 (wallS b ts l)]) ∧ (wallS b ts l = 0 → (h = true ↔ HoldsB b ts l) ∧ (br = true ↔ BreaksB b ts l)) ∧ (wallS b ts l ≠ 0 → h = false ∧ br = false) ∧ Below w.heap.size w w'

/-- the last region: the results are read and laid again. -/
def Fin (W : World) (p3 p4 : Nat) (hh br : Bool) : Prop := Blk W p3 #[.bool hh] 4 ∧ Blk W p4 #[.bool br] 4

set_option maxHeartbeats 2000000 in
set_option maxRecDepth 100000 in
theorem holdsP_any (vb vt : Value) (b : Bot) (ts : List Sp) (l : Ld) (w : World) (h : RBot w vb b) (ht : RSps w vt ts) (hC : Circ w) :
    Calls Tryd.prog 23 #[vb, vt, .agg #[.int .i64 l.press, .int .i64 l.force, .int .i64 l.speed, .int .i64 l.other]] w (HoldsA w b ts l) := by
  have hmf : ∀ (fn : Fn) (first cap : Array Value) (w : World), (Instr.makeFunc fn first cap).run Tryd.prog w = .ok (.func fn first cap) w := fun _ _ _ _ => rfl
  have h0 := h
  have ht0 := ht
  obtain ⟨v0, rfl, hr, hI⟩ := h
  obtain ⟨a, cap, rfl, -, -, -⟩ := hr
  obtain ⟨ta, tc, rfl, -, -, -⟩ := ht
  have hA1 : Below w.heap.size w (w.alloc (.cells #[.slice a b.rings.length cap, .int .i64 b.flaw, .int .i64 b.tough] 47)) := below_boxS w _
  have hA2 : Below w.heap.size w ((w.alloc (.cells #[.slice a b.rings.length cap, .int .i64 b.flaw, .int .i64 b.tough] 47)).alloc (.cells #[.slice ta ts.length tc] 25)) := hA1.alloc hA1.size _
  have hA3 : Below w.heap.size w (((w.alloc (.cells #[.slice a b.rings.length cap, .int .i64 b.flaw, .int .i64 b.tough] 47)).alloc (.cells #[.slice ta ts.length tc] 25)).alloc (.cells #[.int .i64 l.press, .int .i64 l.force, .int .i64 l.speed, .int .i64 l.other] 27)) := hA2.alloc hA2.size _
  have hA4 : Below w.heap.size w ((((w.alloc (.cells #[.slice a b.rings.length cap, .int .i64 b.flaw, .int .i64 b.tough] 47)).alloc (.cells #[.slice ta ts.length tc] 25)).alloc (.cells #[.int .i64 l.press, .int .i64 l.force, .int .i64 l.speed, .int .i64 l.other] 27)).alloc (.cells #[.bool false] 4)) := hA3.alloc hA3.size _
  have hA5 : Below w.heap.size w (((((w.alloc (.cells #[.slice a b.rings.length cap, .int .i64 b.flaw, .int .i64 b.tough] 47)).alloc (.cells #[.slice ta ts.length tc] 25)).alloc (.cells #[.int .i64 l.press, .int .i64 l.force, .int .i64 l.speed, .int .i64 l.other] 27)).alloc (.cells #[.bool false] 4)).alloc (.cells #[.bool false] 4)) := hA4.alloc hA4.size _
  have hB0 := ((((Blk.new w #[.slice a b.rings.length cap, .int .i64 b.flaw, .int .i64 b.tough] 47).alloc (.cells #[.slice ta ts.length tc] 25)).alloc (.cells #[.int .i64 l.press, .int .i64 l.force, .int .i64 l.speed, .int .i64 l.other] 27)).alloc (.cells #[.bool false] 4)).alloc (.cells #[.bool false] 4)
  have hB1 := (((Blk.new (w.alloc (.cells #[.slice a b.rings.length cap, .int .i64 b.flaw, .int .i64 b.tough] 47)) #[.slice ta ts.length tc] 25).alloc (.cells #[.int .i64 l.press, .int .i64 l.force, .int .i64 l.speed, .int .i64 l.other] 27)).alloc (.cells #[.bool false] 4)).alloc (.cells #[.bool false] 4)
  have hB2 := ((Blk.new ((w.alloc (.cells #[.slice a b.rings.length cap, .int .i64 b.flaw, .int .i64 b.tough] 47)).alloc (.cells #[.slice ta ts.length tc] 25)) #[.int .i64 l.press, .int .i64 l.force, .int .i64 l.speed, .int .i64 l.other] 27).alloc (.cells #[.bool false] 4)).alloc (.cells #[.bool false] 4)
  have hB3 := (Blk.new (((w.alloc (.cells #[.slice a b.rings.length cap, .int .i64 b.flaw, .int .i64 b.tough] 47)).alloc (.cells #[.slice ta ts.length tc] 25)).alloc (.cells #[.int .i64 l.press, .int .i64 l.force, .int .i64 l.speed, .int .i64 l.other] 27)) #[.bool false] 4).alloc (.cells #[.bool false] 4)
  have hB4 := Blk.new ((((w.alloc (.cells #[.slice a b.rings.length cap, .int .i64 b.flaw, .int .i64 b.tough] 47)).alloc (.cells #[.slice ta ts.length tc] 25)).alloc (.cells #[.int .i64 l.press, .int .i64 l.force, .int .i64 l.speed, .int .i64 l.other] 27)).alloc (.cells #[.bool false] 4)) #[.bool false] 4
  have hz : (((((w.alloc (.cells #[.slice a b.rings.length cap, .int .i64 b.flaw, .int .i64 b.tough] 47)).alloc (.cells #[.slice ta ts.length tc] 25)).alloc (.cells #[.int .i64 l.press, .int .i64 l.force, .int .i64 l.speed, .int .i64 l.other] 27)).alloc (.cells #[.bool false] 4)).alloc (.cells #[.bool false] 4)).heap.size = w.heap.size + 5 := by simp
  simp only [World.size_alloc] at hB1 hB2 hB3 hB4
  replace hz := And.intro (Nat.le_of_eq hz) (Nat.le_of_eq hz.symm)
  clear hA1 hA2 hA3 hA4
  go_enter Tryd.func23, Tryd.ntmps23
  go_wp2_with fail
  generalize (((((w.alloc (.cells #[.slice a b.rings.length cap, .int .i64 b.flaw, .int .i64 b.tough] 47)).alloc (.cells #[.slice ta ts.length tc] 25)).alloc (.cells #[.int .i64 l.press, .int .i64 l.force, .int .i64 l.speed, .int .i64 l.other] 27)).alloc (.cells #[.bool false] 4)).alloc (.cells #[.bool false] 4)) = W5 at *
  have hE := below_boxS W5 (.cells #[.int .i64 8] 37)
  have hBE := Blk.new W5 #[.int .i64 8] 37
  have hAE := hA5.trans (hE.mono hA5.size)
  have hX := ext_of_below hAE
  have hcall := holds1_any a ta cap tc b ts l (w.heap.size) (w.heap.size + 1) (w.heap.size + 1 + 1) (w.heap.size + 1 + 1 + 1) (w.heap.size + 1 + 1 + 1 + 1) (W5.alloc (.cells #[.int .i64 8] 37)) (h0.mono hX) (ht0.mono hX) (hC.mono hX) (hB0.alloc _) (hB1.alloc _) (hB2.alloc _) (hB3.alloc _) (hB4.alloc _) (by omega) (by omega) (by omega)
  have hsE : (W5.alloc (.cells #[.int .i64 8] 37)).heap.size = W5.heap.size + 1 := by simp
  have hK : Calls Tryd.prog 66 #[.pointer (some ⟨w.heap.size, 0, none⟩), .pointer (some ⟨w.heap.size + 1, 0, none⟩), .pointer (some ⟨w.heap.size + 1 + 1, 0, none⟩), .pointer (some ⟨w.heap.size + 1 + 1 + 1, 0, none⟩), .pointer (some ⟨w.heap.size + 1 + 1 + 1 + 1, 0, none⟩)] (W5.alloc (.cells #[.int .i64 8] 37)) fun e w' => Blk w' W5.heap.size #[.int .i64 8] 37 ∧ ((e = .returned (.tuple #[]) ∧ (wallS b ts l = 0 ∧ ∃ h br, (h = true ↔ HoldsB b ts l) ∧ (br = true ↔ BreaksB b ts l) ∧ Blk w' (w.heap.size + 1 + 1 + 1) #[.bool h] 4 ∧ Blk w' (w.heap.size + 1 + 1 + 1 + 1) #[.bool br] 4 ∧ W5.heap.size < w'.heap.size ∧ Below w.heap.size w w')) ∨ (∃ n, e = .panicked (failC n) ∧ (n = wallS b ts l ∧ wallS b ts l ≠ 0 ∧ Below W5.heap.size W5 w'))) := by
    refine hcall.mono ?_
    rintro e w' (⟨hc, rfl, hh, br, h1, h2, h3, h4, h5⟩ | ⟨hc, rfl, hb⟩)
    · refine ⟨h5.blk hBE (fun e => by rcases e with e | e <;> omega) hBE.lt, .inl ⟨rfl, hc, hh, br, h1, h2, h3, h4, by have := h5.size; omega, ?_⟩⟩
      exact hAE.trans ⟨h5.os, h5.tape, h5.output, h5.size, fun k hk => h5.block k (by omega) (fun e => by rcases e with e | e <;> omega)⟩
    · exact ⟨hBE.below hb hBE.lt, .inr ⟨_, rfl, rfl, hc, hE.trans (hb.mono hE.size)⟩⟩
  clear hcall hBE hE hAE hX hsE h0 ht0 hC hB0 hB1 hB2 hI
  refine (errorOf_any 66 #[.pointer (some ⟨w.heap.size, 0, none⟩), .pointer (some ⟨w.heap.size + 1, 0, none⟩), .pointer (some ⟨w.heap.size + 1 + 1, 0, none⟩), .pointer (some ⟨w.heap.size + 1 + 1 + 1, 0, none⟩), .pointer (some ⟨w.heap.size + 1 + 1 + 1 + 1, 0, none⟩)] W5 isFn_holds1 (fun w' => wallS b ts l = 0 ∧ ∃ h br, (h = true ↔ HoldsB b ts l) ∧ (br = true ↔ BreaksB b ts l) ∧ Blk w' (w.heap.size + 1 + 1 + 1) #[.bool h] 4 ∧ Blk w' (w.heap.size + 1 + 1 + 1 + 1) #[.bool br] 4 ∧ W5.heap.size < w'.heap.size ∧ Below w.heap.size w w') (fun n w' => n = wallS b ts l ∧ wallS b ts l ≠ 0 ∧ Below W5.heap.size W5 w') hK).mono ?_
  have hJ : ∀ e w', ((∃ w2, e = Ending.returned (.int .i64 0) ∧ (wallS b ts l = 0 ∧ ∃ h br, (h = true ↔ HoldsB b ts l) ∧ (br = true ↔ BreaksB b ts l) ∧ Blk w2 (w.heap.size + 1 + 1 + 1) #[.bool h] 4 ∧ Blk w2 (w.heap.size + 1 + 1 + 1 + 1) #[.bool br] 4 ∧ W5.heap.size < w2.heap.size ∧ Below w.heap.size w w2) ∧ w' = (w2.setCell ⟨W5.heap.size, 0, none⟩ (.int .i64 0)).alloc (.cells #[.int .i64 0] 137)) ∨
      (∃ n w2, e = Ending.returned (.int .i64 n) ∧ (n = wallS b ts l ∧ wallS b ts l ≠ 0 ∧ Below W5.heap.size W5 w2) ∧ w' = (w2.alloc (.cells #[.int .i64 n] 137)).setCell ⟨W5.heap.size, 0, none⟩ (.int .i64 n))) →
      ∃ hh br, e = Ending.returned (.int .i64 (wallS b ts l)) ∧ (wallS b ts l = 0 → (hh = true ↔ HoldsB b ts l) ∧ (br = true ↔ BreaksB b ts l)) ∧ (wallS b ts l ≠ 0 → hh = false ∧ br = false) ∧ Blk w' (w.heap.size + 1 + 1 + 1) #[.bool hh] 4 ∧ Blk w' (w.heap.size + 1 + 1 + 1 + 1) #[.bool br] 4 ∧ Below w.heap.size w w' := by
    rintro e w' (⟨w2, rfl, ⟨hc, hh, br, h1, h2, h3, h4, hs, hb⟩, rfl⟩ | ⟨n, w2, rfl, ⟨rfl, hc, hb⟩, rfl⟩)
    · have hS := (BelS.refl (fun k => k = W5.heap.size) w2.heap.size w2).set ⟨W5.heap.size, 0, none⟩ (.int .i64 0) (.inr rfl)
      have hb1 := hb.setCell (p := ⟨W5.heap.size, 0, none⟩) hA5.size (.int .i64 0)
      exact ⟨hh, br, by rw [hc], fun _ => ⟨h1, h2⟩, fun e => absurd hc e, (hS.blk h3 (fun e => by omega) h3.lt).alloc _, (hS.blk h4 (fun e => by omega) h4.lt).alloc _, hb1.alloc hb1.size _⟩
    · have hb0 := hb.alloc hb.size (.cells #[.int .i64 (wallS b ts l)] 137)
      have hb1 := hb0.setCell (p := ⟨W5.heap.size, 0, none⟩) (Nat.le_refl _) (.int .i64 (wallS b ts l))
      exact ⟨false, false, rfl, fun e => absurd e hc, fun _ => ⟨rfl, rfl⟩, hB3.below hb1 hB3.lt, hB4.below hb1 hB4.lt, hA5.trans (hb1.mono hA5.size)⟩
  rintro e WF hq
  obtain ⟨hh, br, rfl, hk1, hk2, hh3, hh4, hbF⟩ := hJ _ _ hq
  have HK1 := Lib.hid hk1
  have HK2 := Lib.hid hk2
  clear hJ hq hK hk1 hk2 hB3 hB4 hA5 hz
  go_wp2_with fail
  have hD3 : Blk WF.drew (w.heap.size + 1 + 1 + 1) #[.bool hh] 4 := hh3
  have hD4 : Blk WF.drew (w.heap.size + 1 + 1 + 1 + 1) #[.bool br] 4 := hh4
  have hbD : Below w.heap.size w WF.drew := hbF.drew
  clear hh3 hh4 hbF
  refine wp_region_till (fun w' : World => w'.cell? ⟨w.heap.size + 1 + 1 + 1, 0, none⟩ = some (.bool hh) ∧ w'.cell? ⟨w.heap.size + 1 + 1 + 1 + 1, 0, none⟩ = some (.bool br)) 99 (by kernel_rfl) ⟨hD3.cell 0 _ rfl, hD4.cell 0 _ rfl⟩ (fun hHeld => ?_)
  generalize WF.drew = WD at *
  refine Till.take 0 (some 11) (v := ?_) rfl rfl (by kernel_rfl) (by kernel_rfl) (by kernel_rfl) (by kernel_rfl) (fun _ _ _ h => h) (Or.inl ⟨by rfl, ?_⟩) (by assumption) ?_
  rotate_left
  · (intro w hSw; (try dsimp only at hSw); go_simp; try with_reducible rfl)
  try simp only [Act.put, List.setIfInBounds_toArray, List.set_cons_zero, List.set_cons_succ]
  refine Till.take 1 (some 12) (v := ?_) rfl rfl (by kernel_rfl) (by kernel_rfl) (by kernel_rfl) (by kernel_rfl) (fun _ _ _ h => h) (Or.inl ⟨by rfl, ?_⟩) (by assumption) ?_
  rotate_left
  · (intro w hSw; (try dsimp only at hSw); go_simp; try with_reducible rfl)
  try simp only [Act.put, List.setIfInBounds_toArray, List.set_cons_zero, List.set_cons_succ]
  refine Till.take 2 (some 13) (v := ?_) rfl rfl (by kernel_rfl) (by kernel_rfl) (by kernel_rfl) (by kernel_rfl) (fun _ _ _ h => h) (Or.inl ⟨by rfl, ?_⟩) (by assumption) ?_
  rotate_left
  · (intro w hSw; (try dsimp only at hSw); go_simp; try with_reducible rfl)
  try simp only [Act.put, List.setIfInBounds_toArray, List.set_cons_zero, List.set_cons_succ]
  have q0 := hD3.cell 0 _ rfl
  have g0 := hD3.frozen 0
  have hE3 : Blk (WD.setCell ⟨w.heap.size + 1 + 1 + 1, 0, none⟩ (.bool hh)) (w.heap.size + 1 + 1 + 1) #[.bool hh] 4 := by simpa using hD3.set 0 (.bool hh)
  have hE4 : Blk (WD.setCell ⟨w.heap.size + 1 + 1 + 1, 0, none⟩ (.bool hh)) (w.heap.size + 1 + 1 + 1 + 1) #[.bool br] 4 := ((BelS.refl (fun k => k = w.heap.size + 1 + 1 + 1) WD.heap.size WD).set ⟨w.heap.size + 1 + 1 + 1, 0, none⟩ (.bool hh) (.inr rfl)).blk hD4 (fun e => by omega) hD4.lt
  have hbE := hbD.setCell (p := ⟨w.heap.size + 1 + 1 + 1, 0, none⟩) (by simp only; omega) (.bool hh)
  have hF4 : Blk ((WD.setCell ⟨w.heap.size + 1 + 1 + 1, 0, none⟩ (.bool hh)).setCell ⟨w.heap.size + 1 + 1 + 1 + 1, 0, none⟩ (.bool br)) (w.heap.size + 1 + 1 + 1 + 1) #[.bool br] 4 := by simpa using hE4.set 0 (.bool br)
  have hF3 : Blk ((WD.setCell ⟨w.heap.size + 1 + 1 + 1, 0, none⟩ (.bool hh)).setCell ⟨w.heap.size + 1 + 1 + 1 + 1, 0, none⟩ (.bool br)) (w.heap.size + 1 + 1 + 1) #[.bool hh] 4 := ((BelS.refl (fun k => k = w.heap.size + 1 + 1 + 1 + 1) (WD.setCell ⟨w.heap.size + 1 + 1 + 1, 0, none⟩ (.bool hh)).heap.size (WD.setCell ⟨w.heap.size + 1 + 1 + 1, 0, none⟩ (.bool hh))).set ⟨w.heap.size + 1 + 1 + 1 + 1, 0, none⟩ (.bool br) (.inr rfl)).blk hE3 (fun e => by omega) hE3.lt
  have hbF := hbE.setCell (p := ⟨w.heap.size + 1 + 1 + 1 + 1, 0, none⟩) (by simp only; omega) (.bool br)
  have q1 := hE4.cell 0 _ rfl
  have g1 := hE4.frozen 0
  have H6 := Lib.hid (And.intro (hE3.cell 0 (.bool hh) rfl) (hE4.cell 0 (.bool br) rfl))
  have H7 := Lib.hid (And.intro (hF3.cell 0 (.bool hh) rfl) (hF4.cell 0 (.bool br) rfl))
  have HB := Lib.hid hbF
  clear hHeld hD3 hD4 hE3 hE4 hF3 hF4 hbE hbD hbF
  refine Till.one 3 rfl (by kernel_rfl) (fun K hK => ?_)
  go_simp
  refine hK.out _ _ (fun _ => H6.out) (fun _ => ?_)
  clear hK K
  refine Till.one 4 rfl (by kernel_rfl) (fun K hK => ?_)
  go_simp
  refine hK.out _ _ (fun _ => H7.out) (fun _ => ?_)
  clear hK K
  refine Till.one 5 rfl (by kernel_rfl) (fun K hK => ?_)
  go_simp
  refine hK.out _ _ (fun _ => H7.out) (fun _ => ?_)
  clear hK K
  try simp only [Act.put, List.setIfInBounds_toArray, List.set_cons_zero, List.set_cons_succ]
  refine Till.done (by kernel_rfl) ?_ _
  clear q0 q1 g0 g1
  go_wp2
  have r0 := H7.out.1
  have r1 := H7.out.2
  refine ⟨rfl, .tuple #[.bool hh, .bool br, .int .i64 (wallS b ts l)], ?_, hh, br, rfl, HK1.out, HK2.out, HB.out⟩
  simp [results, Tryd.results23, go_sem, r0, r1]

end Go.Proofs.YtmmlocjiegkjeaaDoor
