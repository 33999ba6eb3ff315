/- Lightest by its contract; no statement is proved here. -/
import Derived.Test.YtaldpalhckdcdaaGreatDoorLight
namespace Go.Proofs.YtaldpalhckdcdaaGreatDoor
open Go.RowKit Go.PlainAid
set_option linter.unusedVariables false
set_option linter.unusedSimpArgs false
set_option maxHeartbeats 1000000 in
set_option maxRecDepth 100000 in
theorem lightest_any (a : Option Addr) (cap : Nat) (b : Bot) (l : Ld) (w : World) (h : RBot w (.agg #[.slice a b.rings.length cap, .int .i64 b.flaw, .int .i64 b.tough]) b) (hok : OkS b) (hl : OkL l) (hC : Circ w) :
    Calls Tryz.prog 41 #[.agg #[.slice a b.rings.length cap, .int .i64 b.flaw, .int .i64 b.tough], .agg #[.int .i64 l.press, .int .i64 l.force, .int .i64 l.speed, .int .i64 l.other]] w fun e w' => e = .returned (.int .i64 (lightF b l)) ∧ Below w.heap.size w w' := by
  have hmf : ∀ (fn : Fn) (first cap : Array Value) (w : World), (Instr.makeFunc fn first cap).run Tryz.prog w = .ok (.func fn first cap) w := fun _ _ _ _ => rfl
  have hA2 : Below w.heap.size w ((w.alloc (.cells #[.slice a b.rings.length cap, .int .i64 b.flaw, .int .i64 b.tough] 24)).alloc (.cells #[.int .i64 l.press, .int .i64 l.force, .int .i64 l.speed, .int .i64 l.other] 33)) := (below_boxS w _).alloc (by simp) _
  have hB2 := (Blk.new w #[.slice a b.rings.length cap, .int .i64 b.flaw, .int .i64 b.tough] 24).alloc (.cells #[.int .i64 l.press, .int .i64 l.force, .int .i64 l.speed, .int .i64 l.other] 33)
  have hE := ext_of_below hA2
  have hnd := needed_any a cap b l ((w.alloc (.cells #[.slice a b.rings.length cap, .int .i64 b.flaw, .int .i64 b.tough] 24)).alloc (.cells #[.int .i64 l.press, .int .i64 l.force, .int .i64 l.speed, .int .i64 l.other] 33)) (h.mono hE) hok hl (hC.mono hE)
  go_enter Tryz.func41, Tryz.ntmps41
  go_wp2_with fail
  generalize (w.alloc (.cells #[.slice a b.rings.length cap, .int .i64 b.flaw, .int .i64 b.tough] 24)).alloc (.cells #[.int .i64 l.press, .int .i64 l.force, .int .i64 l.speed, .int .i64 l.other] 33) = W2 at *
  refine hnd.mono ?_
  rintro e w3 ⟨v, rfl, hv, hb3⟩
  obtain ⟨an, kn, rfl, h1, ⟨h2, hnm⟩, hnl⟩ := hv
  have hv3 : RInts w3 (.slice an (needS b l).length kn) (needS b l) := RInts.mono (vis_ext _ _) ⟨an, kn, rfl, h1, ⟨h2, hnm⟩, hnl⟩
  have hA3 := hA2.trans (hb3.mono hA2.size)
  have hA4 := hA3.alloc hA3.size (.cells #[.slice an (needS b l).length kn] 36)
  have hN4 := Blk.new w3 #[.slice an (needS b l).length kn] 36
  have hB4 := (hB2.below hb3 hB2.lt).alloc (.cells #[.slice an (needS b l).length kn] 36)
  have hv4 := RInts.mono (ext_of_below (below_boxS w3 (.cells #[.slice an (needS b l).length kn] 36))) hv3
  clear hnd hA2 hB2 hE hb3 hnl h1 h2 hnm hA3 hv3
  go_wp2_with fail
  generalize w3.alloc (.cells #[.slice an (needS b l).length kn] 36) = W4 at *
  have hE := ext_of_below hA4
  refine (firstOr_any 83 #[.pointer (some ⟨w.heap.size, 0, none⟩), .pointer (some ⟨w3.heap.size, 0, none⟩)] (enoughWb b (needS b l)) 100000 W4 isFn_light1 (by omega) (by omega) (fun x y a1 a2 a3 a4 => enoughWb_mono hok (by omega) a2 a4)
    (fun x q1 q2 V hV => light1_any a an cap kn b (needS b l) x _ _ V ((h.mono hE).mono (ext_of_below hV)) (RInts.mono (ext_of_below hV) hv4) (needS_len b l) hok ⟨q1, q2⟩ ((hC.mono hE).mono (ext_of_below hV)) (hB4.below hV hB4.lt) (hN4.below hV hN4.lt))).mono ?_
  rintro e w5 ⟨n, rfl, hn, hb5⟩
  have HN : Hid (lightF b l = n) := Lib.hid (by unfold lightF; exact foF_eq hn)
  have HB := Lib.hid (hA4.trans (hb5.mono hA4.size))
  clear hn hb5 hA4 hB4 hN4 hv4 hE
  go_wp2
  go_ret
  exact ⟨by rw [HN.out]; rfl, HB.out⟩

set_option maxHeartbeats 1000000 in
set_option maxRecDepth 100000 in
theorem lightC_any (a : Option Addr) (cap : Nat) (b : Bot) (l : Ld) (p0 p1 : Nat) (w : World) (h : RBot w (.agg #[.slice a b.rings.length cap, .int .i64 b.flaw, .int .i64 b.tough]) b) (hC : Circ w) (hB : Blk w p0 #[.slice a b.rings.length cap, .int .i64 b.flaw, .int .i64 b.tough] 24) (hL : Blk w p1 #[.int .i64 l.press, .int .i64 l.force, .int .i64 l.speed, .int .i64 l.other] 33) :
    Calls Tryz.prog 40 #[.pointer (some ⟨p0, 0, none⟩), .pointer (some ⟨p1, 0, none⟩)] w (Finds_int (fun n => bothS b l = 0 ∧ n = lightF b l) (fun n => n ≠ 0 ∧ n = bothS b l) w) := by
  have hnb := needBoth_in _ b l w 9 h
  have c0 := hB.cell 0 _ rfl
  have c1 := hB.cell 1 _ rfl
  have c2 := hB.cell 2 _ rfl
  have l0 := hL.cell 0 _ rfl
  have l1 := hL.cell 1 _ rfl
  have l2 := hL.cell 2 _ rfl
  have l3 := hL.cell 3 _ rfl
  go_enter Tryz.func40, Tryz.ntmps40
  go_wp2_with fail
  refine (calls_p hnb).mono ?_
  rintro e w1 ⟨hc, hb1⟩
  clear c0 c1 c2 l0 l1 l2 l3 hnb
  rcases hc with ⟨hc, rfl⟩ | ⟨hc, rfl⟩
  case inr =>
    have HC := Lib.hid hc
    have HB := Lib.hid hb1
    clear hc hb1 hB hL
    go_wp2
    exact ⟨rfl, HB.out, .inr ⟨_, rfl, HC.out, rfl⟩⟩
  obtain ⟨hok, hl⟩ := both_ok hc
  have HC := Lib.hid hc
  have hB1 := hB.below hb1 hB.lt
  have hL1 := hL.below hb1 hL.lt
  have c0 := hB1.cell 0 _ rfl
  have c1 := hB1.cell 1 _ rfl
  have c2 := hB1.cell 2 _ rfl
  have l0 := hL1.cell 0 _ rfl
  have l1 := hL1.cell 1 _ rfl
  have l2 := hL1.cell 2 _ rfl
  have l3 := hL1.cell 3 _ rfl
  have hE := ext_of_below hb1
  clear hc
  go_wp2_with fail
  refine (lightest_any a cap b l w1 (h.mono hE) hok hl (hC.mono hE)).mono ?_
  rintro e w2 ⟨rfl, hb2⟩
  have HB := Lib.hid (hb1.trans (hb2.mono hb1.size))
  clear hb2 hb1 hB1 hL1 c0 c1 c2 l0 l1 l2 l3 hB hL hE
  go_wp2
  go_ret
  exact ⟨HB.out, .inl ⟨_, rfl, HC.out, rfl⟩⟩

/-- what Lightest tells. -/
noncomputable def lightS (b : Bot) (l : Ld) : Int := if bothS b l = 0 then lightF b l else 0
set_option maxHeartbeats 1000000 in
set_option maxRecDepth 100000 in
theorem lightestP_any (vb : Value) (b : Bot) (l : Ld) (w : World) (h : RBot w vb b) (hC : Circ w) :
    Calls Tryz.prog 8 #[vb, .agg #[.int .i64 l.press, .int .i64 l.force, .int .i64 l.speed, .int .i64 l.other]] w fun e w' => e = .returned (.tuple #[.int .i64 (lightS b l), .int .i64 (bothS b l)]) ∧ Below w.heap.size w w' := by
  have hmf : ∀ (fn : Fn) (first cap : Array Value) (w : World), (Instr.makeFunc fn first cap).run Tryz.prog w = .ok (.func fn first cap) w := fun _ _ _ _ => rfl
  have h0 := h
  obtain ⟨v0, rfl, hr, hI⟩ := h
  obtain ⟨a, cap, rfl, -, -, -⟩ := hr
  have hA4 : Below w.heap.size w ((w.alloc (.cells #[.slice a b.rings.length cap, .int .i64 b.flaw, .int .i64 b.tough] 24)).alloc (.cells #[.int .i64 l.press, .int .i64 l.force, .int .i64 l.speed, .int .i64 l.other] 33)) := (below_boxS w _).alloc (by simp) _
  have hB0 := (Blk.new w #[.slice a b.rings.length cap, .int .i64 b.flaw, .int .i64 b.tough] 24).alloc (.cells #[.int .i64 l.press, .int .i64 l.force, .int .i64 l.speed, .int .i64 l.other] 33)
  have hB2 := Blk.new (w.alloc (.cells #[.slice a b.rings.length cap, .int .i64 b.flaw, .int .i64 b.tough] 24)) #[.int .i64 l.press, .int .i64 l.force, .int .i64 l.speed, .int .i64 l.other] 33
  simp only [World.size_alloc] at hB2
  go_enter Tryz.func8, Tryz.ntmps8
  go_wp2_with fail
  generalize (w.alloc (.cells #[.slice a b.rings.length cap, .int .i64 b.flaw, .int .i64 b.tough] 24)).alloc (.cells #[.int .i64 l.press, .int .i64 l.force, .int .i64 l.speed, .int .i64 l.other] 33) = W2 at *
  have hE := ext_of_below hA4
  refine (told_int_any 40 #[.pointer (some ⟨w.heap.size, 0, none⟩), .pointer (some ⟨w.heap.size + 1, 0, none⟩)] W2 (fun n => bothS b l = 0 ∧ n = lightF b l) (fun n => n ≠ 0 ∧ n = bothS b l) isFn_Light1
    (fun W hW => lightC_any a cap b l _ _ W ((h0.mono hE).mono (ext_of_below hW)) ((hC.mono hE).mono (ext_of_below hW)) (hB0.below hW hB0.lt) (hB2.below hW hB2.lt))).mono ?_
  rintro e w' ⟨hb, (⟨v, rfl, hw0, hv⟩ | ⟨n, rfl, hn, hn2⟩)⟩
  · have HF := Lib.hid (hA4.trans (hb.mono hA4.size))
    have HV := Lib.hid hv
    have H0 := Lib.hid hw0
    clear hb hv hw0 hB0 hB2 hA4 hE h0
    go_wp2
    go_ret2
    exact ⟨by rw [H0.out, lightS, if_pos H0.out, HV.out]; rfl, HF.out⟩
  · have HF := Lib.hid (hA4.trans (hb.mono hA4.size))
    have HN := Lib.hid hn
    have H2 := Lib.hid hn2
    clear hb hn hn2 hB0 hB2 hA4 hE h0
    go_wp2
    go_ret2
    exact ⟨by rw [lightS, if_neg (by rw [← H2.out]; exact HN.out), ← H2.out]; rfl, HF.out⟩

end Go.Proofs.YtaldpalhckdcdaaGreatDoor
