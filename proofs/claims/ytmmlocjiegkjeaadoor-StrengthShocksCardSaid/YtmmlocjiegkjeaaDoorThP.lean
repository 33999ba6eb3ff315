/- Package strength's Thickness and Check, by their contracts; no statement is proved here. -/
import Derived.Test.YtmmlocjiegkjeaaDoorTh2
namespace Go.Proofs.YtmmlocjiegkjeaaDoor
open Go.RowKit Go.PlainAid
set_option linter.unusedVariables false

theorem isFn_thick1 : IsFn 86 := fun xs w => by kernel_rfl
theorem isFn_check1 : IsFn 91 := fun xs w => by kernel_rfl
theorem rsps_nil (w : World) : RSps w (.slice none 0 0) [] := ⟨none, 0, rfl, Nat.le_refl _, ⟨by omega, by simp⟩, fun i hi => by simp at hi⟩
theorem thickS_err {b : Bot} {s : Sp} (h : (thickS b s).2 ≠ 0) : (thickS b s).1 = [] := by
  unfold thickS at *
  split at h
  · split at h
    · exact absurd rfl h
    · rename_i h1 h2; rw [if_pos h1, if_neg h2]
  · rename_i h1; rw [if_neg h1]

set_option maxRecDepth 100000 in
theorem thicknessP_any (vb : Value) (b : Bot) (s : Sp) (w : World) (h : RBot w vb b) (hC : Circ w) :
    Calls Tryd.prog 31 #[vb, .agg #[.int .i64 s.lo, .int .i64 s.hi]] w fun e w' => ∃ v, e = .returned (.tuple #[v, .int .i64 (thickS b s).2]) ∧ RSps (vis (w.heap.size ≤ ·) w') v (thickS b s).1 ∧ Below w.heap.size w w' := by
  have hmf : ∀ (fn : Fn) (first cap : Array Value) (w : World), (Instr.makeFunc fn first cap).run Tryd.prog w = .ok (.func fn first cap) w := fun _ _ _ _ => rfl
  obtain ⟨v0, rfl, hr, hI⟩ := h
  have hrr := hr
  obtain ⟨a, cap, rfl, -, -, -⟩ := hr
  have hA2 : Below w.heap.size w ((w.alloc (.cells #[.slice a b.rings.length cap, .int .i64 b.flaw, .int .i64 b.tough] 47)).alloc (.cells #[.int .i64 s.lo, .int .i64 s.hi] 29)) := (below_boxS w _).alloc (by simp) _
  have hB := (Blk.new w #[.slice a b.rings.length cap, .int .i64 b.flaw, .int .i64 b.tough] 47).alloc (.cells #[.int .i64 s.lo, .int .i64 s.hi] 29)
  have hS := Blk.new (w.alloc (.cells #[.slice a b.rings.length cap, .int .i64 b.flaw, .int .i64 b.tough] 47)) #[.int .i64 s.lo, .int .i64 s.hi] 29
  rw [World.size_alloc] at hS
  go_enter Tryd.func31, Tryd.ntmps31
  go_wp2_with fail
  generalize (w.alloc (.cells #[.slice a b.rings.length cap, .int .i64 b.flaw, .int .i64 b.tough] 47)).alloc (.cells #[.int .i64 s.lo, .int .i64 s.hi] 29) = W2 at *
  have hsz := hA2.size
  refine (told_any 86 #[.pointer (some ⟨w.heap.size, 0, none⟩), .pointer (some ⟨w.heap.size + 1, 0, none⟩)] W2 (fun W v => (thickS b s).2 = 0 ∧ RSps W v (thickS b s).1) (fun n => n ≠ 0 ∧ n = (thickS b s).2) isFn_thick1
    (fun _ _ ⟨_, a, c, h, _⟩ => ⟨a, _, c, h⟩) (fun _ _ _ e h => ⟨h.1, h.2.mono e⟩)
    (fun W hW => thick1_any _ b s _ _ W (hB.below hW hB.lt) (hS.below hW hS.lt) ((hrr.mono (ext_of_below hA2)).mono (ext_of_below hW)) hI ((hC.mono (ext_of_below hA2)).mono (ext_of_below hW)))).mono ?_
  rintro e w' ⟨hb, (⟨v, rfl, h0, hv⟩ | ⟨n, rfl, hn, hn2⟩)⟩
  · have HF := Lib.hid (hA2.trans (hb.mono hA2.size))
    have HV := Lib.hid (hv.mono (ext_vis_of (S := (W2.heap.size ≤ ·)) (T := (w.heap.size ≤ ·)) (Ext.refl w') (fun k _ h => Nat.le_trans hsz h)))
    have H0 := Lib.hid h0
    clear hb hv h0 hB hS hA2
    go_wp2
    go_ret2
    exact ⟨v, by rw [H0.out]; rfl, HV.out, HF.out⟩
  · have HF := Lib.hid (hA2.trans (hb.mono hA2.size))
    have HN := Lib.hid (thickS_err (b := b) (s := s) (by rw [← hn2]; exact hn))
    have H2 := Lib.hid hn2
    clear hb hn hn2 hB hS hA2
    go_wp2
    go_ret2
    exact ⟨_, by rw [← H2.out]; rfl, by rw [HN.out]; exact rsps_nil _, HF.out⟩

set_option maxRecDepth 100000 in
theorem check1_any (vb : Array Value) (b : Bot) (p0 : Nat) (w : World) (h : RBot w (.agg vb) b) (hB : Blk w p0 vb 47) :
    Calls Tryd.prog 91 #[.pointer (some ⟨p0, 0, none⟩)] w (Need w (checkS b)) := by
  have hnb := needBottle_in _ b w 9 h
  obtain ⟨v0, he, hr, hI⟩ := h
  cases he
  have c0 := hB.cell 0 _ rfl
  have c1 := hB.cell 1 _ rfl
  have c2 := hB.cell 2 _ rfl
  obtain ⟨a, cap, rfl, -, -, -⟩ := hr
  go_enter Tryd.func91, Tryd.ntmps91
  go_wp2_with fail
  refine (calls_p hnb).mono ?_
  rintro e w' ⟨(⟨hc, rfl⟩ | ⟨hc, rfl⟩), hb⟩
  · have HC := Lib.hid hc
    have HB := Lib.hid hb
    clear hc hb hB c0 c1 c2 hnb
    go_wp2
    go_end0
    exact ⟨.inl ⟨HC.out, rfl⟩, HB.out⟩
  · have HC := Lib.hid hc
    have HB := Lib.hid hb
    clear hc hb hB c0 c1 c2 hnb
    go_wp2
    exact ⟨rfl, .inr ⟨HC.out, rfl⟩, HB.out⟩

set_option maxRecDepth 100000 in
theorem checkP_any (vb : Value) (b : Bot) (w : World) (h : RBot w vb b) :
    Calls Tryd.prog 33 #[vb] w fun e w' => e = .returned (.int .i64 (checkS b)) ∧ Below w.heap.size w w' := by
  have hmf : ∀ (fn : Fn) (first cap : Array Value) (w : World), (Instr.makeFunc fn first cap).run Tryd.prog w = .ok (.func fn first cap) w := fun _ _ _ _ => rfl
  have h0 := h
  obtain ⟨v0, rfl, hr, hI⟩ := h
  have hA2 := below_boxS w (.cells #[v0, .int .i64 b.flaw, .int .i64 b.tough] 47)
  have hB := Blk.new w #[v0, .int .i64 b.flaw, .int .i64 b.tough] 47
  obtain ⟨a, cap, rfl, -, -, -⟩ := hr
  go_enter Tryd.func33, Tryd.ntmps33
  go_wp2_with fail
  generalize w.alloc (.cells #[.slice a b.rings.length cap, .int .i64 b.flaw, .int .i64 b.tough] 47) = W2 at *
  have hE := below_boxS W2 (.cells #[.int .i64 8] 37)
  have hBE := Blk.new W2 #[.int .i64 8] 37
  have hsz := hA2.size
  refine (errorOf_any 91 #[.pointer (some ⟨w.heap.size, 0, none⟩)] W2 isFn_check1 (fun w' => checkS b = 0 ∧ Below W2.heap.size W2 w') (fun n w' => n = checkS b ∧ Below W2.heap.size W2 w')
    ((check1_any _ b _ _ ((h0.mono (ext_of_below hA2)).mono (ext_of_below hE)) (hB.alloc _)).mono ?_)).mono ?_
  · rintro e w' ⟨(⟨hc, rfl⟩ | ⟨hc, rfl⟩), hb⟩
    · exact ⟨hBE.below hb hBE.lt, .inl ⟨rfl, hc, hE.trans (hb.mono hE.size)⟩⟩
    · exact ⟨hBE.below hb hBE.lt, .inr ⟨_, rfl, rfl, hE.trans (hb.mono hE.size)⟩⟩
  rintro e w' (⟨w2, rfl, ⟨hc, hb⟩, rfl⟩ | ⟨n, w2, rfl, ⟨rfl, hb⟩, rfl⟩)
  · have h1 := hA2.trans (hb.mono hA2.size)
    have h2 := h1.setCell (p := ⟨W2.heap.size, 0, none⟩) hsz (.int .i64 0)
    have HF := Lib.hid (h2.alloc h2.size (.cells #[.int .i64 0] 137))
    have HC := Lib.hid hc
    clear h1 h2 hb hc hE hBE hB h0 hA2
    generalize (w2.setCell ⟨W2.heap.size, 0, none⟩ (.int .i64 0)).alloc (.cells #[.int .i64 0] 137) = WF at *
    go_wp2
    go_ret
    exact ⟨by rw [HC.out]; rfl, HF.out⟩
  · have h1 := hA2.trans (hb.mono hA2.size)
    have HF := Lib.hid ((h1.alloc h1.size (.cells #[.int .i64 (checkS b)] 137)).setCell (p := ⟨W2.heap.size, 0, none⟩) hsz (.int .i64 (checkS b)))
    clear h1 hb hE hBE hB h0 hA2
    generalize (w2.alloc (.cells #[.int .i64 (checkS b)] 137)).setCell ⟨W2.heap.size, 0, none⟩ (.int .i64 (checkS b)) = WF at *
    go_wp2
    go_ret
    exact ⟨rfl, HF.out⟩

end Go.Proofs.YtmmlocjiegkjeaaDoor
