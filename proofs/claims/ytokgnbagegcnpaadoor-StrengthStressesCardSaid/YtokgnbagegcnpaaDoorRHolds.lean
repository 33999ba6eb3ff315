/- The specification's Holds; no statement is proved here. -/
import Derived.Test.YtokgnbagegcnpaaDoorRBoth
import Derived.Test.YtokgnbagegcnpaaDoorHolds2
import Derived.OwnWalk
namespace Go.Proofs.YtokgnbagegcnpaaDoor
open Go.RowKit Go.PlainAid
set_option linter.unusedVariables false
set_option linter.unusedSimpArgs false

set_option maxHeartbeats 2000000 in
set_option maxRecDepth 100000 in
theorem rholds_any (vb vt : Value) (b : Bot) (ts : List Sp) (l : Ld) (w : World) (h : RBot w vb b) (ht : RSps w vt ts) :
    Calls Tryd.prog 27 #[vb, vt, .agg #[.int .i64 l.press, .int .i64 l.force, .int .i64 l.speed, .int .i64 l.other]] w (HoldsA w b ts l) := by
  have h0 := h
  have ht0 := ht
  obtain ⟨v0, rfl, hr, hI⟩ := h
  obtain ⟨a, cap, rfl, -, -, -⟩ := hr
  obtain ⟨ta, tc, rfl, -, -, -⟩ := ht
  have hA : Below w.heap.size w ((w.alloc (.cells #[.slice a b.rings.length cap, .int .i64 b.flaw, .int .i64 b.tough] 24)).alloc (.cells #[.int .i64 l.press, .int .i64 l.force, .int .i64 l.speed, .int .i64 l.other] 27)) := (below_boxS w _).alloc (by simp) _
  have hB := (Blk.new w #[.slice a b.rings.length cap, .int .i64 b.flaw, .int .i64 b.tough] 24).alloc (.cells #[.int .i64 l.press, .int .i64 l.force, .int .i64 l.speed, .int .i64 l.other] 27)
  have hL := Blk.new (w.alloc (.cells #[.slice a b.rings.length cap, .int .i64 b.flaw, .int .i64 b.tough] 24)) #[.int .i64 l.press, .int .i64 l.force, .int .i64 l.speed, .int .i64 l.other] 27
  rw [World.size_alloc] at hL
  have HR := Lib.hid (fun V (hV : Below w.heap.size w V) => h0.mono (ext_of_below hV))
  have HT := Lib.hid (fun V (hV : Below w.heap.size w V) => ht0.mono (ext_of_below hV))
  clear h0 ht0
  go_enter Tryd.func27, Tryd.ntmps27
  go_wp2_with fail
  generalize (w.alloc (.cells #[.slice a b.rings.length cap, .int .i64 b.flaw, .int .i64 b.tough] 24)).alloc _ = W2 at *
  refine (rborne_any _ _ b ts l _ (HR.out _ hA) (HT.out _ hA)).mono ?_
  rintro e w3 ⟨rfl, hb3⟩
  have hA3 := hA.trans (hb3.mono hA.size)
  have hB3 := hB.below hb3 hB.lt
  have hL3 := hL.below hb3 hL.lt
  clear hA hB hL hb3
  by_cases hc : wallS b ts l = 0
  case neg =>
    have hne : (wallS b ts l != 0) = true := by simpa using hc
    have HF := Lib.hid hc
    clear hB3 hL3 hc
    go_wp2
    go_ret3
    exact ⟨false, false, rfl, fun h => absurd h HF.out, fun _ => ⟨rfl, rfl⟩, hA3⟩
  have HC := Lib.hid hc
  rw [hc]
  clear hc
  have c0 := hB3.cell 0 _ rfl
  have c1 := hB3.cell 1 _ rfl
  have c2 := hB3.cell 2 _ rfl
  have l0 := hL3.cell 0 _ rfl
  have l1 := hL3.cell 1 _ rfl
  have l2 := hL3.cell 2 _ rfl
  have l3 := hL3.cell 3 _ rfl
  go_wp2_with fail
  refine (rboth_any _ _ b ts l _ (HR.out _ hA3) (HT.out _ hA3) (okWall_of HC.out)).mono ?_
  rintro e w4 ⟨h, br, rfl, h1, h2, hb4⟩
  have hA4 := hA3.trans (hb4.mono hA3.size)
  have H1 := Lib.hid h1
  have H2 := Lib.hid h2
  clear hA3 hB3 hL3 hb4 c0 c1 c2 l0 l1 l2 l3 h1 h2
  go_wp2
  go_ret3
  have hrt := (okWall_of HC.out).bot.root
  exact ⟨h, br, by rw [HC.out]; rfl, fun _ => ⟨H1.out.trans (holdsB_iff hrt).symm, H2.out.trans (breaksB_iff hrt).symm⟩, fun hh => absurd HC.out hh, hA4⟩

end Go.Proofs.YtokgnbagegcnpaaDoor
