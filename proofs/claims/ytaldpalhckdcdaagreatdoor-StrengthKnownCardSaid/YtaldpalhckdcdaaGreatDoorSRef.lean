/- Needed by its contract; no statement is proved here. -/
import Derived.Test.YtaldpalhckdcdaaGreatDoorNeed
import Derived.Test.YtaldpalhckdcdaaGreatDoorToldIs
import Derived.Test.YtaldpalhckdcdaaGreatDoorSmall
import Derived.Handy
namespace Go.Proofs.YtaldpalhckdcdaaGreatDoor
open Go.RowKit Go.PlainAid
set_option linter.unusedVariables false
set_option linter.unusedSimpArgs false
theorem isFn_needed_1 : IsFn 36 := fun xs w => by kernel_rfl
theorem rints_nil (w : World) : RInts w (.slice none 0 0) [] := ⟨none, 0, rfl, Nat.le_refl _, ⟨by omega, by simp⟩, fun i hi => by simp at hi⟩
/-- what Needed tells: the thicknesses. -/
noncomputable def needsS (b : Bot) (l : Ld) : List Int := if bothS b l = 0 then needS b l else []

set_option maxHeartbeats 1000000 in
set_option maxRecDepth 100000 in
theorem neededC_any (a : Option Addr) (cap : Nat) (b : Bot) (l : Ld) (p0 p1 : Nat) (w : World) (h : RBot w (.agg #[.slice a b.rings.length cap, .int .i64 b.flaw, .int .i64 b.tough]) b) (hC : Circ w) (hB : Blk w p0 #[.slice a b.rings.length cap, .int .i64 b.flaw, .int .i64 b.tough] 24) (hL : Blk w p1 #[.int .i64 l.press, .int .i64 l.force, .int .i64 l.speed, .int .i64 l.other] 33) :
    Calls Tryz.prog 36 #[.pointer (some ⟨p0, 0, none⟩), .pointer (some ⟨p1, 0, none⟩)] w (Finds (fun W v => bothS b l = 0 ∧ RInts W v (needS b l)) (fun n => n ≠ 0 ∧ n = bothS b l) w) := by
  have hnb := needBoth_in _ b l w 9 h
  have c0 := hB.cell 0 _ rfl
  have c1 := hB.cell 1 _ rfl
  have c2 := hB.cell 2 _ rfl
  have l0 := hL.cell 0 _ rfl
  have l1 := hL.cell 1 _ rfl
  have l2 := hL.cell 2 _ rfl
  have l3 := hL.cell 3 _ rfl
  go_enter Tryz.func36, Tryz.ntmps36
  go_wp2_with fail
  refine (calls_p hnb).mono ?_
  rintro e w1 ⟨hc, hb1⟩
  clear c0 c1 c2 l0 l1 l2 l3 hnb
  rcases hc with ⟨hc, rfl⟩ | ⟨hc, rfl⟩
  case inr =>
    have HC := Lib.hid hc
    have HB := Lib.hid hb1
    clear hc hb1 hB hL
    go_wp2
    exact ⟨rfl, HB.out, .inr ⟨_, rfl, HC.out, rfl⟩⟩
  obtain ⟨hok, hl⟩ := both_ok hc
  have HC := Lib.hid hc
  have hB1 := hB.below hb1 hB.lt
  have hL1 := hL.below hb1 hL.lt
  have c0 := hB1.cell 0 _ rfl
  have c1 := hB1.cell 1 _ rfl
  have c2 := hB1.cell 2 _ rfl
  have l0 := hL1.cell 0 _ rfl
  have l1 := hL1.cell 1 _ rfl
  have l2 := hL1.cell 2 _ rfl
  have l3 := hL1.cell 3 _ rfl
  have hE := ext_of_below hb1
  clear hc
  go_wp2_with fail
  refine (needed_any a cap b l w1 (h.mono hE) hok hl (hC.mono hE)).mono ?_
  rintro e w2 ⟨v, rfl, hv, hb2⟩
  have HV := Lib.hid (hv.mono (ext_vis_of (S := (w1.heap.size ≤ ·)) (T := (w.heap.size ≤ ·)) (Ext.refl w2) (fun k _ h => Nat.le_trans hb1.size h)))
  have HB := Lib.hid (hb1.trans (hb2.mono hb1.size))
  clear hv hb2 hb1 hB1 hL1 c0 c1 c2 l0 l1 l2 l3 hB hL hE
  go_wp2
  go_ret
  exact ⟨HB.out, .inl ⟨v, rfl, HC.out, HV.out⟩⟩

set_option maxHeartbeats 1000000 in
set_option maxRecDepth 100000 in
theorem neededP_any (vb : Value) (b : Bot) (l : Ld) (w : World) (h : RBot w vb b) (hC : Circ w) :
    Calls Tryz.prog 7 #[vb, .agg #[.int .i64 l.press, .int .i64 l.force, .int .i64 l.speed, .int .i64 l.other]] w fun e w' => ∃ v, e = .returned (.tuple #[v, .int .i64 (bothS b l)]) ∧ RInts (vis (w.heap.size ≤ ·) w') v (needsS b l) ∧ Below w.heap.size w w' := by
  have hmf : ∀ (fn : Fn) (first cap : Array Value) (w : World), (Instr.makeFunc fn first cap).run Tryz.prog w = .ok (.func fn first cap) w := fun _ _ _ _ => rfl
  have h0 := h
  obtain ⟨v0, rfl, hr, hI⟩ := h
  obtain ⟨a, cap, rfl, -, -, -⟩ := hr
  have hA4 : Below w.heap.size w ((w.alloc (.cells #[.slice a b.rings.length cap, .int .i64 b.flaw, .int .i64 b.tough] 24)).alloc (.cells #[.int .i64 l.press, .int .i64 l.force, .int .i64 l.speed, .int .i64 l.other] 33)) := (below_boxS w _).alloc (by simp) _
  have hB0 := (Blk.new w #[.slice a b.rings.length cap, .int .i64 b.flaw, .int .i64 b.tough] 24).alloc (.cells #[.int .i64 l.press, .int .i64 l.force, .int .i64 l.speed, .int .i64 l.other] 33)
  have hB2 := Blk.new (w.alloc (.cells #[.slice a b.rings.length cap, .int .i64 b.flaw, .int .i64 b.tough] 24)) #[.int .i64 l.press, .int .i64 l.force, .int .i64 l.speed, .int .i64 l.other] 33
  simp only [World.size_alloc] at hB2
  go_enter Tryz.func7, Tryz.ntmps7
  go_wp2_with fail
  generalize (w.alloc (.cells #[.slice a b.rings.length cap, .int .i64 b.flaw, .int .i64 b.tough] 24)).alloc (.cells #[.int .i64 l.press, .int .i64 l.force, .int .i64 l.speed, .int .i64 l.other] 33) = W2 at *
  have hE := ext_of_below hA4
  have hsz := hA4.size
  refine (told_is_any 36 #[.pointer (some ⟨w.heap.size, 0, none⟩), .pointer (some ⟨w.heap.size + 1, 0, none⟩)] W2 (fun W v => bothS b l = 0 ∧ RInts W v (needS b l)) (fun n => n ≠ 0 ∧ n = bothS b l) isFn_needed_1
    (fun _ _ ⟨_, a, c, h, _⟩ => ⟨a, _, c, h⟩) (fun _ _ _ e h => ⟨h.1, h.2.mono e⟩)
    (fun W hW => neededC_any a cap b l _ _ W ((h0.mono hE).mono (ext_of_below hW)) ((hC.mono hE).mono (ext_of_below hW)) (hB0.below hW hB0.lt) (hB2.below hW hB2.lt))).mono ?_
  rintro e w' ⟨hb, (⟨v, rfl, hw0, hv⟩ | ⟨n, rfl, hn, hn2⟩)⟩
  · have HF := Lib.hid (hA4.trans (hb.mono hA4.size))
    have HV := Lib.hid (hv.mono (ext_vis_of (S := (W2.heap.size ≤ ·)) (T := (w.heap.size ≤ ·)) (Ext.refl w') (fun k _ h => Nat.le_trans hsz h)))
    have H0 := Lib.hid hw0
    clear hb hv hw0 hB0 hB2 hA4 hE h0
    go_wp2
    go_ret2
    exact ⟨v, by rw [H0.out]; rfl, by rw [needsS, if_pos H0.out]; exact HV.out, HF.out⟩
  · have HF := Lib.hid (hA4.trans (hb.mono hA4.size))
    have HN := Lib.hid hn
    have H2 := Lib.hid hn2
    clear hb hn hn2 hB0 hB2 hA4 hE h0
    go_wp2
    go_ret2
    exact ⟨_, by rw [← H2.out]; rfl, by rw [needsS, if_neg (by rw [← H2.out]; exact HN.out)]; exact rints_nil _, HF.out⟩

end Go.Proofs.YtaldpalhckdcdaaGreatDoor

namespace Go.Proofs.YtaldpalhckdcdaaGreatDoor
open Go.RowKit Go.PlainAid
set_option linter.unusedVariables false
end Go.Proofs.YtaldpalhckdcdaaGreatDoor
