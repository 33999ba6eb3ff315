/- The specification's Burst; no statement is proved here. -/
import Derived.Test.YtokgnbagegcnpaaDoorRHolds
import Derived.Test.YtokgnbagegcnpaaDoorBurst2
namespace Go.Proofs.YtokgnbagegcnpaaDoor
open Go.RowKit Go.PlainAid
set_option linter.unusedVariables false
set_option linter.unusedSimpArgs false

structure BurI (b : Bot) (ts : List Sp) (l : Ld) (m : Int) (p lo : Int) : Prop where
  bd : -1 ≤ lo ∧ lo < p
  holds : ∀ q, 0 ≤ q → q < p → (HoldsW b ts (pressed l q) m ↔ q ≤ lo)
  breaks : ∀ q, 0 ≤ q → q < p → ¬ BreaksW b ts (pressed l q) m
theorem burI_yes {b : Bot} {ts : List Sp} {l : Ld} {m p lo : Int} (hw : wallS b ts l = 0) (h : BurI b ts l m p lo) (hp : 0 ≤ p) (hH : HoldsW b ts (pressed l p) m) (hB : ¬ BreaksW b ts (pressed l p) m) : BurI b ts l m (p + 1) p :=
  ⟨by omega, fun q h1 h2 => ⟨fun _ => by omega, fun h3 => holdsW_press hw h1 h3 hH⟩, fun q h1 h2 => by
    by_cases e : q = p
    · rw [e]; exact hB
    · exact h.breaks q h1 (by omega)⟩
theorem burI_no {b : Bot} {ts : List Sp} {l : Ld} {m p lo : Int} (h : BurI b ts l m p lo) (hH : ¬ HoldsW b ts (pressed l p) m) (hB : ¬ BreaksW b ts (pressed l p) m) : BurI b ts l m (p + 1) lo :=
  ⟨by have := h.bd; omega, fun q h1 h2 => by
    by_cases e : q = p
    · rw [e]; exact ⟨fun h3 => absurd h3 hH, fun h3 => by have := h.bd; omega⟩
    · exact h.holds q h1 (by omega), fun q h1 h2 => by
    by_cases e : q = p
    · rw [e]; exact hB
    · exact h.breaks q h1 (by omega)⟩
theorem burI_end {b : Bot} {ts : List Sp} {l : Ld} {m lo : Int} (hm : IsRoot (b.tough / b.flaw) m) (h : BurI b ts l m 10001 lo) : IsBurst b ts l ⟨lo, 10001⟩ := by
  have := h.bd
  exact ⟨by simp only; omega, by simp only; omega, fun p p1 p2 => by rw [holdsB_iff (b := b) hm]; exact h.holds p p1 (by omega), fun p p1 p2 => by rw [breaksB_iff (b := b) hm]; exact ⟨fun h3 => absurd h3 (h.breaks p p1 (by omega)), fun h3 => by simp only at h3; omega⟩⟩
theorem burI_stop {b : Bot} {ts : List Sp} {l : Ld} {m p lo : Int} (hw : wallS b ts l = 0) (hm : IsRoot (b.tough / b.flaw) m) (h : BurI b ts l m p lo) (hp : 0 ≤ p ∧ p ≤ 10000) (hB : BreaksW b ts (pressed l p) m) : IsBurst b ts l ⟨lo, p⟩ := by
  have := h.bd
  refine ⟨by simp only; omega, by simp only; omega, fun q p1 p2 => ?_, fun q p1 p2 => ?_⟩
  · simp only
    by_cases e : q < p
    · rw [holdsB_iff (b := b) hm]; exact h.holds q p1 e
    · exact ⟨fun h3 => (not_both (wallS_pressed hw p1 p2) h3 ((breaksB_iff (b := b) hm).2 (breaksW_press hw hp.1 (by omega) hB))).elim, fun h3 => by omega⟩
  · simp only
    rw [breaksB_iff (b := b) hm]
    by_cases e : q < p
    · exact ⟨fun h3 => absurd h3 (h.breaks q p1 e), fun h3 => by omega⟩
    · exact ⟨fun _ => by omega, fun _ => breaksW_press hw hp.1 (by omega) hB⟩
theorem IsBurst.unique {b : Bot} {ts : List Sp} {l : Ld} {u v : Sp} (h : IsBurst b ts l u) (k : IsBurst b ts l v) : u.lo = v.lo ∧ u.hi = v.hi := by
  have a1 := h.lo
  have a2 := h.hi
  have b1 := k.lo
  have b2 := k.hi
  constructor
  · by_cases e : u.lo < v.lo
    · have := (h.holds v.lo (by omega) (by omega)).1 ((k.holds v.lo (by omega) (by omega)).2 (Int.le_refl _)); omega
    · by_cases e2 : v.lo < u.lo
      · have := (k.holds u.lo (by omega) (by omega)).1 ((h.holds u.lo (by omega) (by omega)).2 (Int.le_refl _)); omega
      · omega
  · by_cases e : u.hi < v.hi
    · have := (k.breaks u.hi (by omega) (by omega)).1 ((h.breaks u.hi (by omega) (by omega)).2 (Int.le_refl _)); omega
    · by_cases e2 : v.hi < u.hi
      · have := (h.breaks v.hi (by omega) (by omega)).1 ((k.breaks v.hi (by omega) (by omega)).2 (Int.le_refl _)); omega
      · omega

set_option maxHeartbeats 4000000 in
set_option maxRecDepth 100000 in
theorem rburst_any (vb vt : Value) (b : Bot) (ts : List Sp) (l : Ld) (w : World) (h : RBot w vb b) (ht : RSps w vt ts) :
    Calls Tryd.prog 29 #[vb, vt, .agg #[.int .i64 l.press, .int .i64 l.force, .int .i64 l.speed, .int .i64 l.other]] w (BurstA w b ts l) := by
  have h0 := h
  have ht0 := ht
  obtain ⟨v0, rfl, hr, hI⟩ := h
  obtain ⟨a, cap, rfl, -, -, -⟩ := hr
  obtain ⟨ta, tc, rfl, -, -, -⟩ := ht
  have hA : Below w.heap.size w (((w.alloc (.cells #[.slice a b.rings.length cap, .int .i64 b.flaw, .int .i64 b.tough] 24)).alloc (.cells #[.int .i64 l.press, .int .i64 l.force, .int .i64 l.speed, .int .i64 l.other] 27)).alloc (.cells #[.int .i64 0, .int .i64 0] 29)) := ((below_boxS w _).alloc (by simp) _).alloc (by simp only [World.size_alloc]; omega) _
  have hB := ((Blk.new w #[.slice a b.rings.length cap, .int .i64 b.flaw, .int .i64 b.tough] 24).alloc (.cells #[.int .i64 l.press, .int .i64 l.force, .int .i64 l.speed, .int .i64 l.other] 27)).alloc (.cells #[.int .i64 0, .int .i64 0] 29)
  have hL := (Blk.new (w.alloc (.cells #[.slice a b.rings.length cap, .int .i64 b.flaw, .int .i64 b.tough] 24)) #[.int .i64 l.press, .int .i64 l.force, .int .i64 l.speed, .int .i64 l.other] 27).alloc (.cells #[.int .i64 0, .int .i64 0] 29)
  have hZ := Blk.new ((w.alloc (.cells #[.slice a b.rings.length cap, .int .i64 b.flaw, .int .i64 b.tough] 24)).alloc (.cells #[.int .i64 l.press, .int .i64 l.force, .int .i64 l.speed, .int .i64 l.other] 27)) #[.int .i64 0, .int .i64 0] 29
  simp only [World.size_alloc] at hL hZ
  have HR := Lib.hid (fun V (hV : Below w.heap.size w V) => h0.mono (ext_of_below hV))
  have HT := Lib.hid (fun V (hV : Below w.heap.size w V) => ht0.mono (ext_of_below hV))
  clear h0 ht0
  go_enter Tryd.func29, Tryd.ntmps29
  go_wp2_with fail
  generalize ((w.alloc (.cells #[.slice a b.rings.length cap, .int .i64 b.flaw, .int .i64 b.tough] 24)).alloc _).alloc _ = W2 at *
  refine (rborne_any _ _ b ts l _ (HR.out _ hA) (HT.out _ hA)).mono ?_
  rintro e w3 ⟨rfl, hb3⟩
  have hA3 := hA.trans (hb3.mono hA.size)
  have hB3 := hB.below hb3 hB.lt
  have hL3 := hL.below hb3 hL.lt
  have hZ3 := hZ.below hb3 hZ.lt
  clear hA hB hL hZ hb3
  by_cases hc : wallS b ts l = 0
  case neg =>
    have hne : (wallS b ts l != 0) = true := by simpa using hc
    have HF := Lib.hid hc
    have z0 := hZ3.cell 0 _ rfl
    have z1 := hZ3.cell 1 _ rfl
    have f0 := hZ3.frozen 0
    have f1 := hZ3.frozen 1
    have HU := Lib.hid ((hZ3.set 0 (.int .i64 0)).set 1 (.int .i64 0))
    have HA := Lib.hid ((hA3.setCell (p := ⟨w.heap.size + 1 + 1, 0, none⟩) (by simp only; omega) (.int .i64 0)).setCell (p := ⟨w.heap.size + 1 + 1, 1, none⟩) (by simp only; omega) (.int .i64 0))
    clear hB3 hL3 hZ3 hA3 hc
    go_wp2
    have r0 := HU.out.cell 0 (.int .i64 0) (by simp)
    have r1 := HU.out.cell 1 (.int .i64 0) (by simp)
    refine ⟨rfl, .tuple #[.agg #[.int .i64 0, .int .i64 0], .int .i64 (wallS b ts l)], ?_, ⟨0, 0⟩, rfl, fun e => absurd e HF.out, fun _ => rfl, HA.out⟩
    simp [results, Tryd.results29, go_sem, r0, r1]
  have HC := Lib.hid hc
  have HRT := Lib.hid (okWall_of hc).bot.root
  rw [hc]
  clear hc
  have hA4 : Below w.heap.size w (w3.alloc (.cells #[.int .i64 (-1), .int .i64 10001] 29)) := hA3.alloc hA3.size _
  have hB4 := hB3.alloc (.cells #[.int .i64 (-1), .int .i64 10001] 29)
  have hL4 := hL3.alloc (.cells #[.int .i64 (-1), .int .i64 10001] 29)
  have hZ4 := hZ3.alloc (.cells #[.int .i64 (-1), .int .i64 10001] 29)
  have hO4 := Blk.new w3 #[.int .i64 (-1), .int .i64 10001] 29
  have lZ := hZ3.lt
  clear hA3 hB3 hL3 hZ3
  go_wp2_with fail
  generalize w3.alloc (.cells #[.int .i64 (-1), .int .i64 10001] 29) = W4 at *
  generalize w3.heap.size = po at *
  have lO := hO4.lt
  have HLP : Hid (l.press = l.press) := Lib.hid rfl
  go_loopw [10] (fun i wr => ∃ (p : Nat) (cp lo : Int), p ≤ 10001 ∧ i = .int .i64 p ∧ Hid (BurI b ts l (rootF (b.tough / b.flaw)) p lo) ∧ Blk wr (w.heap.size + 1) #[.int .i64 cp, .int .i64 l.force, .int .i64 l.speed, .int .i64 l.other] 27 ∧ Blk wr po #[.int .i64 lo, .int .i64 10001] 29 ∧ BelS (fun k => k = w.heap.size + 1 ∨ k = po) W4.heap.size W4 wr ∧ Below w.heap.size w wr) (fun i _ => 10001 - (intOf i).toNat)
  case atStart => exact ⟨0, l.press, -1, by omega, rfl, Lib.hid ⟨⟨by omega, by omega⟩, fun q h1 h2 => by omega, fun q h1 h2 => by omega⟩, hL4, hO4, BelS.refl _ _ _, hA4⟩
  case round =>
    obtain ⟨p, cp, lo, hp, rfl, hq, hLr, hOr, hBS, hAr⟩ := hrel
    have hBr := hBS.blk hB4 (by omega) (by omega)
    have hZr := hBS.blk hZ4 (by omega) (by omega)
    by_cases hlt : p < 10001
    · have i1 : (0 : Int) ≤ (p : Int) := Int.natCast_nonneg _
      have i2 : (p : Int) ≤ 10000 := by omega
      have c0 := hBr.cell 0 _ rfl
      have c1 := hBr.cell 1 _ rfl
      have c2 := hBr.cell 2 _ rfl
      have l0 := hLr.cell 0 _ rfl
      have l1 := hLr.cell 1 _ rfl
      have l2 := hLr.cell 2 _ rfl
      have l3 := hLr.cell 3 _ rfl
      have g0 := hLr.frozen 0
      have hL5 : Blk (wr.setCell ⟨w.heap.size + 1, 0, none⟩ (.int .i64 p)) (w.heap.size + 1) #[.int .i64 p, .int .i64 l.force, .int .i64 l.speed, .int .i64 l.other] 27 := by simpa using hLr.set 0 (.int .i64 p)
      have hS5 := hBS.set ⟨w.heap.size + 1, 0, none⟩ (.int .i64 p) (.inr (.inl rfl))
      have hA5 := hAr.setCell (p := ⟨w.heap.size + 1, 0, none⟩) (by simp only; omega) (.int .i64 p)
      have hX5 : BelS (fun k => k = w.heap.size + 1) wr.heap.size wr (wr.setCell ⟨w.heap.size + 1, 0, none⟩ (.int .i64 p)) := BelS.set (BelS.refl _ _ _) _ _ (.inr rfl)
      have hO5 := hX5.blk hOr (by omega) hOr.lt
      have hZ5 := hX5.blk hZr (by omega) hZr.lt
      clear hX5 hBr hZr hLr hOr hBS hAr
      go_wp2_with fail
      generalize wr.setCell ⟨w.heap.size + 1, 0, none⟩ (.int .i64 p) = W5 at *
      refine (rboth_any _ _ b ts (pressed l p) _ (HR.out _ hA5) (HT.out _ hA5) (okWall_of (wallS_pressed HC.out i1 i2))).mono ?_
      rintro e w6 ⟨hh, br, rfl, h1, h2, hb6⟩
      have hL6 := hL5.below hb6 hL5.lt
      have hO6 := hO5.below hb6 hO5.lt
      have hZ6 := hZ5.below hb6 hZ5.lt
      have hS6 := hS5.trans (BelS.of_below (hb6.mono hS5.size))
      have hA6 := hA5.trans (hb6.mono hA5.size)
      clear hL5 hO5 hZ5 hS5 hA5 hb6 c0 c1 c2 l0 l1 l2 l3 g0
      have H1 := Lib.hid h1
      have H2 := Lib.hid h2
      clear h1 h2
      cases hh with
      | false =>
        have hno : ¬ HoldsW b ts (pressed l p) (rootF (b.tough / b.flaw)) := fun h => by have := H1.out.2 h; cases this
        cases br with
        | false =>
          have HN := Lib.hid (burI_no hq.out hno (fun h => by have := H2.out.2 h; cases this))
          clear hno H1 H2 hq hZ6
          go_wp2
          go_roundw
          case rel => exact ⟨p + 1, p, lo, by omega, by go_num, HN, hL6, hO6, hS6, hA6⟩
          case measure => simp [intOf]; omega
        | true =>
          have HN := Lib.hid (burI_stop HC.out HRT.out hq.out ⟨i1, i2⟩ (H2.out.1 rfl))
          have e1 := hO6.cell 1 _ rfl
          have k1 := hO6.frozen 1
          have hO7 : Blk (w6.setCell ⟨po, 1, none⟩ (.int .i64 p)) po #[.int .i64 lo, .int .i64 p] 29 := by simpa using hO6.set 1 (.int .i64 p)
          have hX7 : BelS (fun k => k = po) w6.heap.size w6 (w6.setCell ⟨po, 1, none⟩ (.int .i64 p)) := BelS.set (BelS.refl _ _ _) _ _ (.inr rfl)
          have hZ7 := hX7.blk hZ6 (by omega) hZ6.lt
          have hA7 := hA6.setCell (p := ⟨po, 1, none⟩) (by simp only; omega) (.int .i64 p)
          have o0 := hO7.cell 0 _ rfl
          have o1 := hO7.cell 1 _ rfl
          have z0 := hZ7.cell 0 _ rfl
          have z1 := hZ7.cell 1 _ rfl
          have f0 := hZ7.frozen 0
          have f1 := hZ7.frozen 1
          have HU := Lib.hid ((hZ7.set 0 (.int .i64 lo)).set 1 (.int .i64 p))
          have HA := Lib.hid ((hA7.setCell (p := ⟨w.heap.size + 1 + 1, 0, none⟩) (by simp only; omega) (.int .i64 lo)).setCell (p := ⟨w.heap.size + 1 + 1, 1, none⟩) (by simp only; omega) (.int .i64 p))
          have o0' := hO6.cell 0 _ rfl
          have z0' := hZ6.cell 0 _ rfl
          have z1' := hZ6.cell 1 _ rfl
          have f0' := hZ6.frozen 0
          have f1' := hZ6.frozen 1
          clear hno H1 H2 hq hO6 hO7 hX7 hZ6 hZ7 hA6 hA7 hS6 hL6
          go_wp2
          have r0 := HU.out.cell 0 (.int .i64 lo) (by simp)
          have r1 := HU.out.cell 1 (.int .i64 p) (by simp)
          refine ⟨rfl, .tuple #[.agg #[.int .i64 lo, .int .i64 p], .int .i64 0], ?_, ⟨lo, p⟩, by rw [HC.out], fun _ => HN.out, fun e => absurd HC.out e, HA.out⟩
          simp [results, Tryd.results29, go_sem, r0, r1]
      | true =>
        have hyes := H1.out.1 rfl
        cases br with
        | true => exact (not_both (wallS_pressed HC.out i1 i2) ((holdsB_iff HRT.out).2 hyes) ((breaksB_iff HRT.out).2 (H2.out.1 rfl))).elim
        | false =>
          have HN := Lib.hid (burI_yes HC.out hq.out i1 hyes (fun h => by have := H2.out.2 h; cases this))
          have e0 := hO6.cell 0 _ rfl
          have k0 := hO6.frozen 0
          have HO7 : Hid (Blk (w6.setCell ⟨po, 0, none⟩ (.int .i64 p)) po #[.int .i64 p, .int .i64 10001] 29) := Lib.hid (by simpa using hO6.set 0 (.int .i64 p))
          have hX7 : BelS (fun k => k = po) w6.heap.size w6 (w6.setCell ⟨po, 0, none⟩ (.int .i64 p)) := BelS.set (BelS.refl _ _ _) _ _ (.inr rfl)
          have HL7 := Lib.hid (hX7.blk hL6 (by omega) hL6.lt)
          have HS7 := Lib.hid (hS6.set ⟨po, 0, none⟩ (.int .i64 p) (.inr (.inr rfl)))
          have HA7 := Lib.hid (hA6.setCell (p := ⟨po, 0, none⟩) (by simp only; omega) (.int .i64 p))
          clear hyes H1 H2 hq hO6 hX7 hZ6 hA6 hS6 hL6
          go_wp2
          go_roundw
          case rel => exact ⟨p + 1, p, p, by omega, by go_num, HN, HL7.out, HO7.out, HS7.out, HA7.out⟩
          case measure => simp [intOf]; omega
    · obtain rfl : p = 10001 := by omega
      have HN := Lib.hid (burI_end HRT.out hq.out)
      have o0 := hOr.cell 0 _ rfl
      have o1 := hOr.cell 1 _ rfl
      have z0 := hZr.cell 0 _ rfl
      have z1 := hZr.cell 1 _ rfl
      have f0 := hZr.frozen 0
      have f1 := hZr.frozen 1
      have HU := Lib.hid ((hZr.set 0 (.int .i64 lo)).set 1 (.int .i64 10001))
      have HA := Lib.hid ((hAr.setCell (p := ⟨w.heap.size + 1 + 1, 0, none⟩) (by simp only; omega) (.int .i64 lo)).setCell (p := ⟨w.heap.size + 1 + 1, 1, none⟩) (by simp only; omega) (.int .i64 10001))
      clear hq hOr hZr hAr hBr hLr hBS hB4 hZ4 hL4 hO4 hA4
      go_wp2
      have r0 := HU.out.cell 0 (.int .i64 lo) (by simp)
      have r1 := HU.out.cell 1 (.int .i64 10001) (by simp)
      refine ⟨rfl, .tuple #[.agg #[.int .i64 lo, .int .i64 10001], .int .i64 0], ?_, ⟨lo, 10001⟩, by rw [HC.out], fun _ => HN.out, fun e => absurd HC.out e, HA.out⟩
      simp [results, Tryd.results29, go_sem, r0, r1]

end Go.Proofs.YtokgnbagegcnpaaDoor
