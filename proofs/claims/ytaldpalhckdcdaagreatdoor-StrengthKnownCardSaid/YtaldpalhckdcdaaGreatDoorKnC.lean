/- The examples of chapter 05, with the blocks in which they lie; no statement is proved here. -/
import Derived.Test.YtaldpalhckdcdaaGreatDoorKnM
import Derived.Test.YtaldpalhckdcdaaGreatDoorSLives
import Derived.Test.YtaldpalhckdcdaaGreatDoorTh1
namespace Go.Proofs.YtaldpalhckdcdaaGreatDoor
open Go.RowKit Go.PlainAid
set_option linter.unusedVariables false
set_option linter.unusedSimpArgs false
set_option maxHeartbeats 1000000 in
set_option maxRecDepth 100000 in
theorem example5B_any (w : World) : Calls Tryz.prog 4 #[] w fun e w' => ∃ g, e = .returned (.agg #[.slice (some ⟨g, 0, none⟩) 1 1, .int .i64 10, .int .i64 40000000000]) ∧ w.heap.size ≤ g ∧ RBot w' (.agg #[.slice (some ⟨g, 0, none⟩) 1 1, .int .i64 10, .int .i64 40000000000]) exB5 ∧ Blk w' g (rgCells exR).toArray 63 ∧ Below w.heap.size w w' := by
  go_enter Tryz.func4, Tryz.ntmps4
  have hB := Blk.new w #[.slice none 0 0, .int .i64 0, .int .i64 0] 24
  have hA := below_boxS w (.cells #[.slice none 0 0, .int .i64 0, .int .i64 0] 24)
  go_wp2_with fail
  generalize w.alloc (.cells #[.slice none 0 0, .int .i64 0, .int .i64 0] 24) = W0 at *
  refine (exact_any 300 _).mono ?_
  rintro e w1 ⟨rfl, hb1⟩
  have hA1 := hA.trans (hb1.mono hA.size)
  have hB1 := hB.below hb1 hB.lt
  clear hA hB hb1
  go_wp2_with fail
  refine (exact_any 1000 _).mono ?_
  rintro e w2 ⟨rfl, hb2⟩
  have hA2 := hA1.trans (hb2.mono hA1.size)
  have hB2 := hB1.below hb2 hB1.lt
  clear hA1 hB1 hb2
  go_wp2_with fail
  refine (exact_any 1000 _).mono ?_
  rintro e w3 ⟨rfl, hb3⟩
  have hA3 := hA2.trans (hb3.mono hA2.size)
  have hB3 := hB2.below hb3 hB2.lt
  clear hA2 hB2 hb3
  go_wp2_with fail
  refine (exact_any 1000 _).mono ?_
  rintro e w4 ⟨rfl, hb4⟩
  have hA4 := hA3.trans (hb4.mono hA3.size)
  have hB4 := hB3.below hb4 hB3.lt
  clear hA3 hB3 hb4
  go_wp2_with fail
  refine (exact_any 500 _).mono ?_
  rintro e w5 ⟨rfl, hb5⟩
  have hA5 := hA4.trans (hb5.mono hA4.size)
  have hB5 := hB4.below hb5 hB4.lt
  clear hA4 hB4 hb5
  have c0 := hB5.cell 0 _ rfl
  have c1 := hB5.cell 1 _ rfl
  have c2 := hB5.cell 2 _ rfl
  have f0 := hB5.frozen 0
  have f1 := hB5.frozen 1
  have f2 := hB5.frozen 2
  have l5 := hB5.lt
  have HB := Lib.hid hB5
  have HA := Lib.hid hA5
  have HSZ := Lib.hid hA5.size
  clear hB5 hA5
  go_wp2
  have hB6 : Blk (((w5.setCell ⟨w.heap.size, 0, none⟩ (.slice (some ⟨w5.heap.size, 0, none⟩) 1 1)).setCell ⟨w.heap.size, 1, none⟩ (.int .i64 10)).setCell ⟨w.heap.size, 2, none⟩ (.int .i64 40000000000)) w.heap.size #[.slice (some ⟨w5.heap.size, 0, none⟩) 1 1, .int .i64 10, .int .i64 40000000000] 24 := by
    have := ((HB.out.set 0 (.slice (some ⟨w5.heap.size, 0, none⟩) 1 1)).set 1 (.int .i64 10)).set 2 (.int .i64 40000000000)
    simpa using this
  have hA6 : Below w.heap.size w (((w5.setCell ⟨w.heap.size, 0, none⟩ (.slice (some ⟨w5.heap.size, 0, none⟩) 1 1)).setCell ⟨w.heap.size, 1, none⟩ (.int .i64 10)).setCell ⟨w.heap.size, 2, none⟩ (.int .i64 40000000000)) := ((HA.out.setCell (p := ⟨w.heap.size, 0, none⟩) (Nat.le_refl _) _).setCell (p := ⟨w.heap.size, 1, none⟩) (Nat.le_refl _) _).setCell (p := ⟨w.heap.size, 2, none⟩) (Nat.le_refl _) _
  have hz6 : (((w5.setCell ⟨w.heap.size, 0, none⟩ (.slice (some ⟨w5.heap.size, 0, none⟩) 1 1)).setCell ⟨w.heap.size, 1, none⟩ (.int .i64 10)).setCell ⟨w.heap.size, 2, none⟩ (.int .i64 40000000000)).heap.size = w5.heap.size := by simp
  generalize ((w5.setCell ⟨w.heap.size, 0, none⟩ (.slice (some ⟨w5.heap.size, 0, none⟩) 1 1)).setCell ⟨w.heap.size, 1, none⟩ (.int .i64 10)).setCell ⟨w.heap.size, 2, none⟩ (.int .i64 40000000000) = W6 at *
  have hG := Blk.new W6 (rgCells exR).toArray 63
  rw [hz6] at hG
  have hBF := hB6.alloc (.cells (rgCells exR).toArray 63)
  have hAF := hA6.alloc hA6.size (.cells (rgCells exR).toArray 63)
  have hRB : RBot (W6.alloc (.cells (rgCells exR).toArray 63)) (.agg #[.slice (some ⟨w5.heap.size, 0, none⟩) 1 1, .int .i64 10, .int .i64 40000000000]) exB5 :=
    ⟨_, rfl, ⟨_, 1, rfl, Nat.le_refl _, ⟨by omega, by simp [exB5]⟩, fun i hi => ⟨w5.heap.size, 0, rfl, fun j x hj => by
      have hi0 : i = 0 := by have : i < 1 := hi; omega
      subst hi0
      have hj' : (rgCells exR)[j]? = some x := hj
      have := hG.cell j x (by simpa using hj')
      simpa using this, by
      have hi0 : i = 0 := by have : i < 1 := hi; omega
      subst hi0
      show I64r exR
      exact ⟨⟨i64d _ (by decide), i64d _ (by decide)⟩, ⟨i64d _ (by decide), i64d _ (by decide)⟩, ⟨i64d _ (by decide), i64d _ (by decide)⟩, ⟨i64d _ (by decide), i64d _ (by decide)⟩, ⟨i64d _ (by decide), i64d _ (by decide)⟩⟩⟩⟩, i64d _ (by decide), i64d _ (by decide)⟩
  have r0 := hBF.cell 0 _ rfl
  have r1 := hBF.cell 1 _ rfl
  have r2 := hBF.cell 2 _ rfl
  simp only [List.getElem_toArray, List.getElem_cons_zero, List.getElem_cons_succ] at r0 r1 r2
  have hsz5 := HSZ.out
  refine ⟨rfl, .agg #[.slice (some ⟨w5.heap.size, 0, none⟩) 1 1, .int .i64 10, .int .i64 40000000000], ?_, _, rfl, hsz5, hRB, hG, hAF⟩
  simp only [rgCells, exR] at r0 r1 r2
  simp [results, Tryz.results4, go_sem, r0, r1, r2]

set_option maxHeartbeats 1000000 in
set_option maxRecDepth 100000 in
theorem cooling_any (w : World) : Calls Tryz.prog 10 #[] w fun e w' => ∃ g, e = .returned (.agg #[.slice (some ⟨g, 0, none⟩) 4 4, .int .i64 100]) ∧ w.heap.size ≤ g ∧ RLr w' (.agg #[.slice (some ⟨g, 0, none⟩) 4 4, .int .i64 100]) coolL ∧ Blk w' g #[.int .i64 0, .int .i64 5600, .int .i64 30, .int .i64 5600, .int .i64 130, .int .i64 4600, .int .i64 150, .int .i64 600] 65 ∧ Below w.heap.size w w' := by
  go_enter Tryz.func10, Tryz.ntmps10
  have hL := (Blk.new w #[.slice (some ⟨w.heap.size + 1, 0, none⟩) 4 4, .int .i64 100] 44).alloc (.cells #[.int .i64 0, .int .i64 5600, .int .i64 30, .int .i64 5600, .int .i64 130, .int .i64 4600, .int .i64 150, .int .i64 600] 65)
  have hK := Blk.new (w.alloc (.cells #[.slice (some ⟨w.heap.size + 1, 0, none⟩) 4 4, .int .i64 100] 44)) #[.int .i64 0, .int .i64 5600, .int .i64 30, .int .i64 5600, .int .i64 130, .int .i64 4600, .int .i64 150, .int .i64 600] 65
  rw [World.size_alloc] at hK
  have hA : Below w.heap.size w ((w.alloc (.cells #[.slice (some ⟨w.heap.size + 1, 0, none⟩) 4 4, .int .i64 100] 44)).alloc (.cells #[.int .i64 0, .int .i64 5600, .int .i64 30, .int .i64 5600, .int .i64 130, .int .i64 4600, .int .i64 150, .int .i64 600] 65)) := (below_boxS w _).alloc (by simp) _
  have HA := Lib.hid hA
  have HK := Lib.hid hK
  have c0 := hL.cell 0 _ rfl
  have c1 := hL.cell 1 _ rfl
  clear hL hA hK
  go_wp2
  generalize (w.alloc (.cells #[.slice (some ⟨w.heap.size + 1, 0, none⟩) 4 4, .int .i64 100] 44)).alloc (.cells #[.int .i64 0, .int .i64 5600, .int .i64 30, .int .i64 5600, .int .i64 130, .int .i64 4600, .int .i64 150, .int .i64 600] 65) = W at *
  have hK := HK.out
  have k0 := hK.cell 0 _ rfl
  have k1 := hK.cell 1 _ rfl
  have k2 := hK.cell 2 _ rfl
  have k3 := hK.cell 3 _ rfl
  have k4 := hK.cell 4 _ rfl
  have k5 := hK.cell 5 _ rfl
  have k6 := hK.cell 6 _ rfl
  have k7 := hK.cell 7 _ rfl
  simp only [List.getElem_toArray, List.getElem_cons_zero, List.getElem_cons_succ] at c0 c1 k0 k1 k2 k3 k4 k5 k6 k7
  have hR : RLr W (.agg #[.slice (some ⟨w.heap.size + 1, 0, none⟩) 4 4, .int .i64 100]) coolL := ⟨_, rfl, ⟨_, 4, rfl, Nat.le_refl _, ⟨by omega, by simp [coolL]⟩, fun i hi => ⟨w.heap.size + 1, 0, rfl, by
    have hi4 : i = 0 ∨ i = 1 ∨ i = 2 ∨ i = 3 := by have : i < 4 := hi; omega
    rcases hi4 with rfl | rfl | rfl | rfl
    · exact ⟨k0, k1, i64d 0 (by decide), i64d 5600 (by decide)⟩
    · exact ⟨k2, k3, i64d 30 (by decide), i64d 5600 (by decide)⟩
    · exact ⟨k4, k5, i64d 130 (by decide), i64d 4600 (by decide)⟩
    · exact ⟨k6, k7, i64d 150 (by decide), i64d 600 (by decide)⟩⟩⟩, i64d 100 (by decide)⟩
  exact bodyPost_ret (v := .agg #[.slice (some ⟨w.heap.size + 1, 0, none⟩) 4 4, .int .i64 100]) (by simp [results, Tryz.results10, go_sem, c0, c1]) rfl ⟨w.heap.size + 1, rfl, by omega, hR, hK, HA.out⟩

set_option maxRecDepth 100000 in
theorem sameInts_eq (v1 v2 : Value) (a : List Int) (w : World) (h1 : RInts w v1 a) (h2 : RInts w v2 a) :
    Calls Tryz.prog 9 #[v1, v2] w fun e w' => e = .returned (.bool true) ∧ ∃ n, w' = w.drewN n := by
  obtain ⟨pa, ka, rfl, -, ⟨-, la⟩, hal⟩ := h1
  obtain ⟨pb, kb, rfl, -, ⟨-, lb⟩, hbl⟩ := h2
  go_enter Tryz.func9, Tryz.ntmps9
  go_wp2
  go_loopw [5] (fun i wr => ∃ (k n : Nat), k ≤ a.length ∧ i = .int .i64 k ∧ wr = w.drewN n) (fun i _ => a.length - (intOf i).toNat)
  case atStart => exact ⟨0, 0, Nat.zero_le _, rfl, rfl⟩
  case round =>
    obtain ⟨k, n, hk, rfl, rfl⟩ := hrel
    by_cases hlt : k < a.length
    · obtain ⟨b1, o1, rfl, q1, -⟩ := hal k hlt
      obtain ⟨b2, o2, rfl, q2, -⟩ := hbl k hlt
      simp only [Nat.mul_one] at q1 q2
      have j1 : (0 : Int) ≤ (k : Int) := Int.natCast_nonneg _
      have j2 : (k : Int) < (a.length : Int) := by omega
      clear hal hbl
      generalize a[k] = x at *
      go_wp2_with fail
      go_quiet (fail)
      go_wp2
      go_roundw
      case rel => exact ⟨k + 1, _, by omega, by go_num, rfl⟩
      case measure => simp [intOf]; omega
    · go_wp2
      go_ret
      exact ⟨rfl, n, rfl⟩


end Go.Proofs.YtaldpalhckdcdaaGreatDoor
