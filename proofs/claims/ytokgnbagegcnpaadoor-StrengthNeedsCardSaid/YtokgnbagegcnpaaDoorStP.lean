/- Stress by its contract; no statement is proved here. -/
import Derived.Test.YtokgnbagegcnpaaDoorSt1
import Derived.Test.YtokgnbagegcnpaaDoorThP
namespace Go.Proofs.YtokgnbagegcnpaaDoor
open Go.RowKit Go.PlainAid
set_option linter.unusedVariables false

theorem isFn_stress1 : IsFn 69 := fun xs w => by kernel_rfl
/-- what Stress tells: the spans. -/
def strS (b : Bot) (ts : List Sp) (l : Ld) : List Sp := if wallS b ts l = 0 then strL b ts l else []

set_option maxHeartbeats 1000000 in
set_option maxRecDepth 100000 in
theorem stressP_any (vb vt : Value) (b : Bot) (ts : List Sp) (l : Ld) (w : World) (h : RBot w vb b) (ht : RSps w vt ts) (hC : Circ w) :
    Calls Tryd.prog 24 #[vb, vt, .agg #[.int .i64 l.press, .int .i64 l.force, .int .i64 l.speed, .int .i64 l.other]] w fun e w' => ∃ v, e = .returned (.tuple #[v, .int .i64 (wallS b ts l)]) ∧ RSps (vis (w.heap.size ≤ ·) w') v (strS b ts l) ∧ Below w.heap.size w w' := by
  have hmf : ∀ (fn : Fn) (first cap : Array Value) (w : World), (Instr.makeFunc fn first cap).run Tryd.prog w = .ok (.func fn first cap) w := fun _ _ _ _ => rfl
  have h0 := h
  have ht0 := ht
  obtain ⟨v0, rfl, hr, hI⟩ := h
  obtain ⟨a, cap, rfl, -, -, -⟩ := hr
  obtain ⟨ta, tc, rfl, -, -, -⟩ := ht
  have hA4 : Below w.heap.size w (((w.alloc (.cells #[.slice a b.rings.length cap, .int .i64 b.flaw, .int .i64 b.tough] 24)).alloc (.cells #[.slice ta ts.length tc] 25)).alloc (.cells #[.int .i64 l.press, .int .i64 l.force, .int .i64 l.speed, .int .i64 l.other] 27)) := (((below_boxS w _).alloc (by simp) _).alloc (by simp only [World.size_alloc]; omega) _)
  have hB0 := ((Blk.new w #[.slice a b.rings.length cap, .int .i64 b.flaw, .int .i64 b.tough] 24).alloc (.cells #[.slice ta ts.length tc] 25)).alloc (.cells #[.int .i64 l.press, .int .i64 l.force, .int .i64 l.speed, .int .i64 l.other] 27)
  have hB1 := (Blk.new (w.alloc (.cells #[.slice a b.rings.length cap, .int .i64 b.flaw, .int .i64 b.tough] 24)) #[.slice ta ts.length tc] 25).alloc (.cells #[.int .i64 l.press, .int .i64 l.force, .int .i64 l.speed, .int .i64 l.other] 27)
  have hB2 := Blk.new ((w.alloc (.cells #[.slice a b.rings.length cap, .int .i64 b.flaw, .int .i64 b.tough] 24)).alloc (.cells #[.slice ta ts.length tc] 25)) #[.int .i64 l.press, .int .i64 l.force, .int .i64 l.speed, .int .i64 l.other] 27
  simp only [World.size_alloc] at hB1 hB2
  go_enter Tryd.func24, Tryd.ntmps24
  go_wp2_with fail
  generalize ((w.alloc (.cells #[.slice a b.rings.length cap, .int .i64 b.flaw, .int .i64 b.tough] 24)).alloc (.cells #[.slice ta ts.length tc] 25)).alloc (.cells #[.int .i64 l.press, .int .i64 l.force, .int .i64 l.speed, .int .i64 l.other] 27) = W2 at *
  have hE := ext_of_below hA4
  have hsz := hA4.size
  refine (told_any 69 #[.pointer (some ⟨w.heap.size, 0, none⟩), .pointer (some ⟨w.heap.size + 1, 0, none⟩), .pointer (some ⟨w.heap.size + 1 + 1, 0, none⟩)] W2 (fun W v => wallS b ts l = 0 ∧ RSps W v (strL b ts l)) (fun n => n ≠ 0 ∧ n = wallS b ts l) isFn_stress1
    (fun _ _ ⟨_, a, c, h, _⟩ => ⟨a, _, c, h⟩) (fun _ _ _ e h => ⟨h.1, h.2.mono e⟩)
    (fun W hW => stress1_any a ta cap tc b ts l _ _ _ W ((h0.mono hE).mono (ext_of_below hW)) ((ht0.mono hE).mono (ext_of_below hW)) ((hC.mono hE).mono (ext_of_below hW)) (hB0.below hW hB0.lt) (hB1.below hW hB1.lt) (hB2.below hW hB2.lt))).mono ?_
  rintro e w' ⟨hb, (⟨v, rfl, hw0, hv⟩ | ⟨n, rfl, hn, hn2⟩)⟩
  · have HF := Lib.hid (hA4.trans (hb.mono hA4.size))
    have HV := Lib.hid (hv.mono (ext_vis_of (S := (W2.heap.size ≤ ·)) (T := (w.heap.size ≤ ·)) (Ext.refl w') (fun k _ h => Nat.le_trans hsz h)))
    have H0 := Lib.hid hw0
    clear hb hv hw0 hB0 hB1 hB2 hA4 hE h0 ht0
    go_wp2
    go_ret2
    exact ⟨v, by rw [H0.out]; rfl, by rw [strS, if_pos H0.out]; exact HV.out, HF.out⟩
  · have HF := Lib.hid (hA4.trans (hb.mono hA4.size))
    have HN := Lib.hid hn
    have H2 := Lib.hid hn2
    clear hb hn hn2 hB0 hB1 hB2 hA4 hE h0 ht0
    go_wp2
    go_ret2
    exact ⟨_, by rw [← H2.out]; rfl, by rw [strS, if_neg (by rw [← H2.out]; exact HN.out)]; exact rsps_nil _, HF.out⟩

end Go.Proofs.YtokgnbagegcnpaaDoor
