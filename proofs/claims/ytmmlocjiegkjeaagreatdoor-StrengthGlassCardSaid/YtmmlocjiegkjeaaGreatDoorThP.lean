/- Package strength's Thickness and Check, by their contracts; no statement is proved here. -/
import Derived.Test.YtmmlocjiegkjeaaGreatDoorTh2
namespace Go.Proofs.YtmmlocjiegkjeaaGreatDoor
open Go.RowKit Go.PlainAid
set_option linter.unusedVariables false
theorem isFn_thick1 : IsFn 37 := fun xs w => by kernel_rfl
theorem rsps_nil (w : World) : RSps w (.slice none 0 0) [] := ⟨none, 0, rfl, Nat.le_refl _, ⟨by omega, by simp⟩, fun i hi => by simp at hi⟩
theorem thickS_err {b : Bot} {s : Sp} (h : (thickS b s).2 ≠ 0) : (thickS b s).1 = [] := by
  unfold thickS at *
  split at h
  · split at h
    · exact absurd rfl h
    · rename_i h1 h2; rw [if_pos h1, if_neg h2]
  · rename_i h1; rw [if_neg h1]

set_option maxRecDepth 100000 in
theorem thicknessP_any (vb : Value) (b : Bot) (s : Sp) (w : World) (h : RBot w vb b) (hC : Circ w) :
    Calls Tryz.prog 12 #[vb, .agg #[.int .i64 s.lo, .int .i64 s.hi]] w fun e w' => ∃ v, e = .returned (.tuple #[v, .int .i64 (thickS b s).2]) ∧ RSps (vis (w.heap.size ≤ ·) w') v (thickS b s).1 ∧ Below w.heap.size w w' := by
  have hmf : ∀ (fn : Fn) (first cap : Array Value) (w : World), (Instr.makeFunc fn first cap).run Tryz.prog w = .ok (.func fn first cap) w := fun _ _ _ _ => rfl
  obtain ⟨v0, rfl, hr, hI⟩ := h
  have hrr := hr
  obtain ⟨a, cap, rfl, -, -, -⟩ := hr
  have hA2 : Below w.heap.size w ((w.alloc (.cells #[.slice a b.rings.length cap, .int .i64 b.flaw, .int .i64 b.tough] 57)).alloc (.cells #[.int .i64 s.lo, .int .i64 s.hi] 30)) := (below_boxS w _).alloc (by simp) _
  have hB := (Blk.new w #[.slice a b.rings.length cap, .int .i64 b.flaw, .int .i64 b.tough] 57).alloc (.cells #[.int .i64 s.lo, .int .i64 s.hi] 30)
  have hS := Blk.new (w.alloc (.cells #[.slice a b.rings.length cap, .int .i64 b.flaw, .int .i64 b.tough] 57)) #[.int .i64 s.lo, .int .i64 s.hi] 30
  rw [World.size_alloc] at hS
  go_enter Tryz.func12, Tryz.ntmps12
  go_wp2_with fail
  generalize (w.alloc (.cells #[.slice a b.rings.length cap, .int .i64 b.flaw, .int .i64 b.tough] 57)).alloc (.cells #[.int .i64 s.lo, .int .i64 s.hi] 30) = W2 at *
  have hsz := hA2.size
  refine (told_any 37 #[.pointer (some ⟨w.heap.size, 0, none⟩), .pointer (some ⟨w.heap.size + 1, 0, none⟩)] W2 (fun W v => (thickS b s).2 = 0 ∧ RSps W v (thickS b s).1) (fun n => n ≠ 0 ∧ n = (thickS b s).2) isFn_thick1
    (fun _ _ ⟨_, a, c, h, _⟩ => ⟨a, _, c, h⟩) (fun _ _ _ e h => ⟨h.1, h.2.mono e⟩)
    (fun W hW => thick1_any _ b s _ _ W (hB.below hW hB.lt) (hS.below hW hS.lt) ((hrr.mono (ext_of_below hA2)).mono (ext_of_below hW)) hI ((hC.mono (ext_of_below hA2)).mono (ext_of_below hW)))).mono ?_
  rintro e w' ⟨hb, (⟨v, rfl, h0, hv⟩ | ⟨n, rfl, hn, hn2⟩)⟩
  · have HF := Lib.hid (hA2.trans (hb.mono hA2.size))
    have HV := Lib.hid (hv.mono (ext_vis_of (S := (W2.heap.size ≤ ·)) (T := (w.heap.size ≤ ·)) (Ext.refl w') (fun k _ h => Nat.le_trans hsz h)))
    have H0 := Lib.hid h0
    clear hb hv h0 hB hS hA2
    go_wp2
    go_ret2
    exact ⟨v, by rw [H0.out]; rfl, HV.out, HF.out⟩
  · have HF := Lib.hid (hA2.trans (hb.mono hA2.size))
    have HN := Lib.hid (thickS_err (b := b) (s := s) (by rw [← hn2]; exact hn))
    have H2 := Lib.hid hn2
    clear hb hn hn2 hB hS hA2
    go_wp2
    go_ret2
    exact ⟨_, by rw [← H2.out]; rfl, by rw [HN.out]; exact rsps_nil _, HF.out⟩

end Go.Proofs.YtmmlocjiegkjeaaGreatDoor
