/- Burst by its contract; no statement is proved here. -/
import Derived.Test.YtaldpalhckdcdaaGreatDoorBurst
namespace Go.Proofs.YtaldpalhckdcdaaGreatDoor
open Go.RowKit Go.PlainAid
set_option linter.unusedVariables false
attribute [local go_sem] Oper.semAt_some
theorem burst_of {b : Bot} {ts : List Sp} {l : Ld} {m n1 n2 : Int} (hm : IsRoot (b.tough / b.flaw) m) (h1 : IsFirst (fun q => !holdsWb b ts (pressed l q) m) 0 10000 n1) (h2 : IsFirst (fun q => breaksWb b ts (pressed l q) m) 0 10000 n2) : IsBurst b ts l ⟨n1 - 1, n2⟩ := by
  have a1 := h1.ge
  have a2 := h1.le
  have b1 := h2.ge
  have b2 := h2.le
  refine ⟨by simp only; omega, by simp only; omega, fun p p1 p2 => ?_, fun p p1 p2 => ?_⟩
  · rw [holdsB_iff (b := b) hm, ← holdsWb_iff]
    simp only
    by_cases hlt : p < n1
    · have := h1.no p p1 hlt
      simp only [Bool.not_eq_false'] at this
      rw [this]
      simp
      omega
    · have := h1.yes p (by omega) p2
      simp only [Bool.not_eq_true'] at this
      rw [this]
      simp
      omega
  · rw [breaksB_iff (b := b) hm, ← breaksWb_iff]
    simp only
    by_cases hlt : p < n2
    · rw [h2.no p p1 hlt]
      simp
      omega
    · rw [h2.yes p (by omega) p2]
      simp
      omega

set_option maxHeartbeats 2000000 in
set_option maxRecDepth 100000 in
theorem burst1_any (a ta : Option Addr) (cap tc : Nat) (b : Bot) (ts : List Sp) (l : Ld) (p0 p1 p2 : Nat) (w : World) (h : RBot w (.agg #[.slice a b.rings.length cap, .int .i64 b.flaw, .int .i64 b.tough]) b) (ht : RSps w (.slice ta ts.length tc) ts) (hC : Circ w)
    (hP0 : Blk w p0 #[.slice a b.rings.length cap, .int .i64 b.flaw, .int .i64 b.tough] 24) (hP1 : Blk w p1 #[.slice ta ts.length tc] 28) (hP2 : Blk w p2 #[.int .i64 l.press, .int .i64 l.force, .int .i64 l.speed, .int .i64 l.other] 33) :
    Calls Tryz.prog 27 #[.pointer (some ⟨p0, 0, none⟩), .pointer (some ⟨p1, 0, none⟩), .pointer (some ⟨p2, 0, none⟩)] w (Finds_sp (fun u => wallS b ts l = 0 ∧ IsBurst b ts l u) (fun n => n ≠ 0 ∧ n = wallS b ts l) w) := by
  have hmf : ∀ (fn : Fn) (first cap : Array Value) (w : World), (Instr.makeFunc fn first cap).run Tryz.prog w = .ok (.func fn first cap) w := fun _ _ _ _ => rfl
  have hA1 : Below w.heap.size w (w.alloc (.cells #[.int .i64 0, .int .i64 0] 27)) := below_boxS w _
  have hU := Blk.new w #[.int .i64 0, .int .i64 0] 27
  have hX1 := ext_of_below hA1
  have hnw := needWall_in _ _ b ts l (w.alloc (.cells #[.int .i64 0, .int .i64 0] 27)) 9 (h.mono hX1) (ht.mono hX1)
  have lP0 := hP0.lt
  have lP1 := hP1.lt
  have lP2 := hP2.lt
  have c0 := (hP0.alloc (.cells #[.int .i64 0, .int .i64 0] 27)).cell 0 _ rfl
  have c1 := (hP0.alloc (.cells #[.int .i64 0, .int .i64 0] 27)).cell 1 _ rfl
  have c2 := (hP0.alloc (.cells #[.int .i64 0, .int .i64 0] 27)).cell 2 _ rfl
  have d0 := (hP1.alloc (.cells #[.int .i64 0, .int .i64 0] 27)).cell 0 _ rfl
  have l0 := (hP2.alloc (.cells #[.int .i64 0, .int .i64 0] 27)).cell 0 _ rfl
  have l1 := (hP2.alloc (.cells #[.int .i64 0, .int .i64 0] 27)).cell 1 _ rfl
  have l2 := (hP2.alloc (.cells #[.int .i64 0, .int .i64 0] 27)).cell 2 _ rfl
  have l3 := (hP2.alloc (.cells #[.int .i64 0, .int .i64 0] 27)).cell 3 _ rfl
  have hz : (w.alloc (.cells #[.int .i64 0, .int .i64 0] 27)).heap.size = w.heap.size + 1 := by simp
  replace hz := And.intro (Nat.le_of_eq hz) (Nat.le_of_eq hz.symm)
  go_enter Tryz.func27, Tryz.ntmps27
  go_wp2_with fail
  generalize w.alloc (.cells #[.int .i64 0, .int .i64 0] 27) = W1 at *
  refine (calls_p hnw).mono ?_
  rintro e w1 ⟨hc, hb1⟩
  have hA2 := hA1.trans (hb1.mono hA1.size)
  have hU2 := hU.below hb1 hU.lt
  clear hnw c0 c1 c2 d0 l0 l1 l2 l3 hX1
  rcases hc with ⟨hc, rfl⟩ | ⟨hc, rfl⟩
  case inr =>
    have HC := Lib.hid hc
    clear hc
    go_wp2
    exact ⟨rfl, hA2, .inr ⟨_, rfl, HC.out, rfl⟩⟩
  have HC := Lib.hid hc
  have HOK := Lib.hid (okWall_of hc)
  clear hc
  have hE2 := ext_of_below hA2
  have c0 := hE2 _ _ (hP0.cell 0 _ rfl)
  have c1 := hE2 _ _ (hP0.cell 1 _ rfl)
  have c2 := hE2 _ _ (hP0.cell 2 _ rfl)
  have d0 := hE2 _ _ (hP1.cell 0 _ rfl)
  go_wp2_with fail
  refine (newWall_any a ta cap tc ts.length b w1 (h.mono hE2) HOK.out.bot.flaw HOK.out.bot.tough).mono ?_
  rintro e w2 ⟨m, rfl, hm, hmb, hb2⟩
  have hA3 := hA2.trans (hb2.mono hA2.size)
  have hU3 := hU2.below hb2 hU2.lt
  have HM := Lib.hid hm
  clear hb2 c0 c1 c2 d0 hm hmb hE2
  have hA4 := hA3.trans ((below_boxS w2 (.cells #[.slice a b.rings.length cap, .int .i64 b.flaw, .int .i64 b.tough, .slice ta ts.length tc, .int .i64 m] 79)).mono hA3.size)
  have hU4 := hU3.alloc (.cells #[.slice a b.rings.length cap, .int .i64 b.flaw, .int .i64 b.tough, .slice ta ts.length tc, .int .i64 m] 79)
  have hW4 := Blk.new w2 #[.slice a b.rings.length cap, .int .i64 b.flaw, .int .i64 b.tough, .slice ta ts.length tc, .int .i64 m] 79
  go_wp2_with fail
  generalize w2.alloc (.cells #[.slice a b.rings.length cap, .int .i64 b.flaw, .int .i64 b.tough, .slice ta ts.length tc, .int .i64 m] 79) = W4 at *
  have hP24 := hP2.below hA4 lP2
  have hEx := ext_of_below hA4
  refine (first5_any 30 #[.pointer (some ⟨w2.heap.size, 0, none⟩), .pointer (some ⟨p2, 0, none⟩)] (fun q => !holdsWb b ts (pressed l q) m) 0 10000 W4 isFn_burst11 (by omega) (by omega) (by omega)
    (fun x y h1 h2 h3 hx => by
      simp only [Bool.not_eq_true'] at hx ⊢
      cases hy : holdsWb b ts (pressed l y) m with
      | false => rfl
      | true => rw [holdsWb_iff.2 (holdsW_press HC.out h1 h2 (holdsWb_iff.1 hy))] at hx; cases hx)
    (fun x h1 h2 V hV => burst11_any a ta cap tc b ts l m _ _ x V ((h.mono hEx).mono (ext_of_below hV)) ((ht.mono hEx).mono (ext_of_below hV)) HC.out ⟨h1, h2⟩ ((hC.mono hEx).mono (ext_of_below hV)) (hW4.below hV hW4.lt) (hP24.below hV hP24.lt))).mono ?_
  rintro e w5 ⟨n1, rfl, hn1, hb5⟩
  have hA5 := hA4.trans (hb5.mono hA4.size)
  have hU5 := hU4.below hb5 hU4.lt
  have hW5 := hW4.below hb5 hW4.lt
  have HN1 := Lib.hid hn1
  clear hn1 hb5 hW4 hU4 hA4 hEx hP24
  go_wp2_with fail
  have hP25 := hP2.below hA5 lP2
  have hEx := ext_of_below hA5
  refine (first5_any 33 #[.pointer (some ⟨w2.heap.size, 0, none⟩), .pointer (some ⟨p2, 0, none⟩)] (fun q => breaksWb b ts (pressed l q) m) 0 10000 w5 isFn_burst12 (by omega) (by omega) (by omega)
    (fun x y h1 h2 h3 hx => breaksWb_iff.2 (breaksW_press HC.out h1 h2 (breaksWb_iff.1 hx)))
    (fun x h1 h2 V hV => burst12_any a ta cap tc b ts l m _ _ x V ((h.mono hEx).mono (ext_of_below hV)) ((ht.mono hEx).mono (ext_of_below hV)) HC.out ⟨h1, h2⟩ ((hC.mono hEx).mono (ext_of_below hV)) (hW5.below hV hW5.lt) (hP25.below hV hP25.lt))).mono ?_
  rintro e w6 ⟨n2, rfl, hn2, hb6⟩
  have hA6 := hA5.trans (hb6.mono hA5.size)
  have hU6 := hU5.below hb6 hU5.lt
  have HB := Lib.hid (burst_of HM.out HN1.out hn2)
  have a1 := HN1.out.ge
  have a2 := HN1.out.le
  have q1 := wrap_id (n1 - 1) (by unfold I64; omega)
  have u0 := hU6.cell 0 _ rfl
  have u1 := hU6.cell 1 _ rfl
  have g0 := hU6.frozen 0
  have g1 := hU6.frozen 1
  have HU := Lib.hid ((hU6.set 0 (.int .i64 (n1 - 1))).set 1 (.int .i64 n2))
  have HA := Lib.hid ((hA6.setCell (p := ⟨w.heap.size, 0, none⟩) (Nat.le_refl _) (.int .i64 (n1 - 1))).setCell (p := ⟨w.heap.size, 1, none⟩) (Nat.le_refl _) (.int .i64 n2))
  clear hn2 hb6 hW5 hU5 hA5 hEx hP25 hU6 hA6 hP0 hP1 hP2 h ht hC hU hA1 hA2 hA3 hU2 hU3
  go_wp2
  have r0 := HU.out.cell 0 (.int .i64 (n1 - 1)) (by simp)
  have r1 := HU.out.cell 1 (.int .i64 n2) (by simp)
  refine ⟨rfl, .agg #[.int .i64 (n1 - 1), .int .i64 n2], ?_, HA.out, .inl ⟨⟨n1 - 1, n2⟩, rfl, HC.out, HB.out⟩⟩
  simp [results, Tryz.results27, go_sem, r0, r1]

/-- what Burst answers. -/
def BurstA (w : World) (b : Bot) (ts : List Sp) (l : Ld) (e : Ending) (w' : World) : Prop :=
  ∃ u : Sp, e = .returned (.tuple #[.agg #[.int .i64 u.lo, .int .i64 u.hi], .int .i64 (wallS b ts l)]) ∧ (wallS b ts l = 0 → IsBurst b ts l u) ∧ (wallS b ts l ≠ 0 → u = ⟨0, 0⟩) ∧ Below w.heap.size w w'

set_option maxHeartbeats 2000000 in
set_option maxRecDepth 100000 in
theorem burstP_any (vb vt : Value) (b : Bot) (ts : List Sp) (l : Ld) (w : World) (h : RBot w vb b) (ht : RSps w vt ts) (hC : Circ w) :
    Calls Tryz.prog 6 #[vb, vt, .agg #[.int .i64 l.press, .int .i64 l.force, .int .i64 l.speed, .int .i64 l.other]] w (BurstA w b ts l) := by
  have hmf : ∀ (fn : Fn) (first cap : Array Value) (w : World), (Instr.makeFunc fn first cap).run Tryz.prog w = .ok (.func fn first cap) w := fun _ _ _ _ => rfl
  have h0 := h
  have ht0 := ht
  obtain ⟨v0, rfl, hr, hI⟩ := h
  obtain ⟨a, cap, rfl, -, -, -⟩ := hr
  obtain ⟨ta, tc, rfl, -, -, -⟩ := ht
  have hA4 : Below w.heap.size w ((((w.alloc (.cells #[.slice a b.rings.length cap, .int .i64 b.flaw, .int .i64 b.tough] 24)).alloc (.cells #[.slice ta ts.length tc] 28)).alloc (.cells #[.int .i64 l.press, .int .i64 l.force, .int .i64 l.speed, .int .i64 l.other] 33)).alloc (.cells #[.int .i64 0, .int .i64 0] 27)) := (((below_boxS w _).alloc (by simp) _).alloc (by simp only [World.size_alloc]; omega) _).alloc (by simp only [World.size_alloc]; omega) _
  have hB0 := (((Blk.new w #[.slice a b.rings.length cap, .int .i64 b.flaw, .int .i64 b.tough] 24).alloc (.cells #[.slice ta ts.length tc] 28)).alloc (.cells #[.int .i64 l.press, .int .i64 l.force, .int .i64 l.speed, .int .i64 l.other] 33)).alloc (.cells #[.int .i64 0, .int .i64 0] 27)
  have hB1 := ((Blk.new (w.alloc (.cells #[.slice a b.rings.length cap, .int .i64 b.flaw, .int .i64 b.tough] 24)) #[.slice ta ts.length tc] 28).alloc (.cells #[.int .i64 l.press, .int .i64 l.force, .int .i64 l.speed, .int .i64 l.other] 33)).alloc (.cells #[.int .i64 0, .int .i64 0] 27)
  have hB2 := (Blk.new ((w.alloc (.cells #[.slice a b.rings.length cap, .int .i64 b.flaw, .int .i64 b.tough] 24)).alloc (.cells #[.slice ta ts.length tc] 28)) #[.int .i64 l.press, .int .i64 l.force, .int .i64 l.speed, .int .i64 l.other] 33).alloc (.cells #[.int .i64 0, .int .i64 0] 27)
  have hB3 := Blk.new (((w.alloc (.cells #[.slice a b.rings.length cap, .int .i64 b.flaw, .int .i64 b.tough] 24)).alloc (.cells #[.slice ta ts.length tc] 28)).alloc (.cells #[.int .i64 l.press, .int .i64 l.force, .int .i64 l.speed, .int .i64 l.other] 33)) #[.int .i64 0, .int .i64 0] 27
  simp only [World.size_alloc] at hB1 hB2 hB3
  go_enter Tryz.func6, Tryz.ntmps6
  go_wp2_with fail
  generalize (((w.alloc (.cells #[.slice a b.rings.length cap, .int .i64 b.flaw, .int .i64 b.tough] 24)).alloc (.cells #[.slice ta ts.length tc] 28)).alloc (.cells #[.int .i64 l.press, .int .i64 l.force, .int .i64 l.speed, .int .i64 l.other] 33)).alloc (.cells #[.int .i64 0, .int .i64 0] 27) = W2 at *
  have hE := ext_of_below hA4
  refine (told_sp_any 27 #[.pointer (some ⟨w.heap.size, 0, none⟩), .pointer (some ⟨w.heap.size + 1, 0, none⟩), .pointer (some ⟨w.heap.size + 1 + 1, 0, none⟩)] W2 (fun u => wallS b ts l = 0 ∧ IsBurst b ts l u) (fun n => n ≠ 0 ∧ n = wallS b ts l) isFn_burst1
    (fun W hW => burst1_any a ta cap tc b ts l _ _ _ W ((h0.mono hE).mono (ext_of_below hW)) ((ht0.mono hE).mono (ext_of_below hW)) ((hC.mono hE).mono (ext_of_below hW)) (hB0.below hW hB0.lt) (hB1.below hW hB1.lt) (hB2.below hW hB2.lt))).mono ?_
  rintro e w' ⟨hb, (⟨u, rfl, hw0, hu⟩ | ⟨n, rfl, hn, rfl⟩)⟩
  · have hU := hB3.below hb hB3.lt
    have hA := hA4.trans (hb.mono hA4.size)
    have u0 := hU.cell 0 _ rfl
    have u1 := hU.cell 1 _ rfl
    have g0 := hU.frozen 0
    have g1 := hU.frozen 1
    have HU := Lib.hid ((hU.set 0 (.int .i64 u.lo)).set 1 (.int .i64 u.hi))
    have HA := Lib.hid ((hA.setCell (p := ⟨w.heap.size + 1 + 1 + 1, 0, none⟩) (by simp only; omega) (.int .i64 u.lo)).setCell (p := ⟨w.heap.size + 1 + 1 + 1, 1, none⟩) (by simp only; omega) (.int .i64 u.hi))
    have HX := Lib.hid hu
    have H0 := Lib.hid hw0
    clear hU hA hb hB0 hB1 hB2 hB3 hA4 hE h0 ht0 hC hI hu hw0
    go_wp2
    have r0 := HU.out.cell 0 (.int .i64 u.lo) (by simp)
    have r1 := HU.out.cell 1 (.int .i64 u.hi) (by simp)
    refine ⟨rfl, .tuple #[.agg #[.int .i64 u.lo, .int .i64 u.hi], .int .i64 0], ?_, u, by rw [H0.out], fun _ => HX.out, fun e => absurd H0.out e, HA.out⟩
    simp [results, Tryz.results6, go_sem, r0, r1]
  · have hU := hB3.below hb hB3.lt
    have hA := hA4.trans (hb.mono hA4.size)
    have u0 := hU.cell 0 _ rfl
    have u1 := hU.cell 1 _ rfl
    have g0 := hU.frozen 0
    have g1 := hU.frozen 1
    have HU := Lib.hid ((hU.set 0 (.int .i64 0)).set 1 (.int .i64 0))
    have HA := Lib.hid ((hA.setCell (p := ⟨w.heap.size + 1 + 1 + 1, 0, none⟩) (by simp only; omega) (.int .i64 0)).setCell (p := ⟨w.heap.size + 1 + 1 + 1, 1, none⟩) (by simp only; omega) (.int .i64 0))
    have H0 := Lib.hid hn
    clear hU hA hb hB0 hB1 hB2 hB3 hA4 hE h0 ht0 hC hI hn
    go_wp2
    have r0 := HU.out.cell 0 (.int .i64 0) (by simp)
    have r1 := HU.out.cell 1 (.int .i64 0) (by simp)
    refine ⟨rfl, .tuple #[.agg #[.int .i64 0, .int .i64 0], .int .i64 (wallS b ts l)], ?_, ⟨0, 0⟩, rfl, fun e => absurd e H0.out, fun _ => rfl, HA.out⟩
    simp [results, Tryz.results6, go_sem, r0, r1]

end Go.Proofs.YtaldpalhckdcdaaGreatDoor
