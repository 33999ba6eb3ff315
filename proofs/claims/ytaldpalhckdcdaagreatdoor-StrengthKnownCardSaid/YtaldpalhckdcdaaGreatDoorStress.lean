/- The stress of a ring under a load; no statement is proved here. -/
import Derived.Test.YtaldpalhckdcdaaGreatDoorStr
import Derived.Test.YtaldpalhckdcdaaGreatDoorRange
namespace Go.Proofs.YtaldpalhckdcdaaGreatDoor
open Go.RowKit Go.PlainAid
set_option linter.unusedVariables false
def partAt (r : Rg) (t : Sp) (l : Ld) (k : Nat) : Sp := if k = 0 then pP r t l else if k = 1 then pF r t l else if k = 2 then pB r t l else pO r t l
def fnAt (k : Nat) : Nat := if k = 0 then 73 else if k = 1 then 74 else if k = 2 then 75 else 76
def sumLo (r : Rg) (t : Sp) (l : Ld) : Nat → Int
  | 0 => 0
  | k + 1 => sumLo r t l k + (partAt r t l k).lo
def sumHi (r : Rg) (t : Sp) (l : Ld) : Nat → Int
  | 0 => 0
  | k + 1 => sumHi r t l k + (partAt r t l k).hi
theorem sum4 (r : Rg) (t : Sp) (l : Ld) : sumLo r t l 4 = (strR r t l).lo ∧ sumHi r t l 4 = (strR r t l).hi := by
  simp [sumLo, sumHi, partAt, strR]
theorem partAt_in {r : Rg} {t : Sp} {l : Ld} (hr : OkR r) (ht : OkT t) (hl : OkL l) (k : Nat) : SpIn (partAt r t l k) 2000000000000 := by
  obtain ⟨h1, h2, h3, h4⟩ := parts_in hr ht hl
  unfold partAt
  split
  · exact h1
  split
  · exact h2
  split
  · exact h3
  · exact h4
theorem sum_in {r : Rg} {t : Sp} {l : Ld} (hr : OkR r) (ht : OkT t) (hl : OkL l) : ∀ k : Nat, (0 ≤ sumLo r t l k ∧ sumLo r t l k ≤ 2000000000000 * (k : Int)) ∧ (0 ≤ sumHi r t l k ∧ sumHi r t l k ≤ 2000000000000 * (k : Int))
  | 0 => by simp [sumLo, sumHi]
  | k + 1 => by
    obtain ⟨⟨h1, h2⟩, h3, h4⟩ := sum_in hr ht hl k
    obtain ⟨⟨h5, h6⟩, h7, h8⟩ := partAt_in hr ht hl k
    unfold sumLo sumHi
    push_cast
    omega
theorem strR_in {r : Rg} {t : Sp} {l : Ld} (hr : OkR r) (ht : OkT t) (hl : OkL l) : SpIn (strR r t l) 8000000000000 := by
  have h := sum_in hr ht hl 4
  rw [(sum4 r t l).1, (sum4 r t l).2] at h
  unfold SpIn
  omega

theorem isFn_p : IsFn 73 := fun xs w => by kernel_rfl
theorem isFn_f : IsFn 74 := fun xs w => by kernel_rfl
theorem isFn_b : IsFn 75 := fun xs w => by kernel_rfl
theorem isFn_o : IsFn 76 := fun xs w => by kernel_rfl
theorem isFn_at (k : Nat) : IsFn (fnAt k) := by
  unfold fnAt
  split
  · exact isFn_p
  split
  · exact isFn_f
  split
  · exact isFn_b
  · exact isFn_o

set_option maxRecDepth 100000 in
theorem at_any (r : Rg) (t : Sp) (l : Ld) (k : Nat) (w : World) (hr : OkR r) (ht : OkT t) (hl : OkL l) (hC : Circ w) :
    Calls Tryz.prog (fnAt k) #[.agg (rgCells r).toArray, .agg #[.int .i64 t.lo, .int .i64 t.hi], .agg #[.int .i64 l.press, .int .i64 l.force, .int .i64 l.speed, .int .i64 l.other]] w fun e w' => e = .returned (.tuple #[.int .i64 (partAt r t l k).lo, .int .i64 (partAt r t l k).hi]) ∧ Below w.heap.size w w' := by
  unfold fnAt partAt
  split
  · exact ofPress_any r t l w hr ht hl
  split
  · exact ofForce_any r t l w hr ht hl hC
  split
  · exact ofBlow_any r t l w hr ht hl
  · exact ofOther_any r t l w

theorem fn_cells (k : Nat) (hk : k < 4) : (#[.func (.func 73) #[] #[], .func (.func 74) #[] #[], .func (.func 75) #[] #[], .func (.func 76) #[] #[]] : Array Value)[k]? = some (.func (.func (fnAt k)) #[] #[]) := by
  have : k = 0 ∨ k = 1 ∨ k = 2 ∨ k = 3 := by omega
  rcases this with rfl | rfl | rfl | rfl <;> rfl

set_option maxHeartbeats 2000000 in
set_option maxRecDepth 100000 in
theorem stress_any (r : Rg) (t : Sp) (l : Ld) (w : World) (hr : OkR r) (ht : OkT t) (hl : OkL l) (hC : Circ w) :
    Calls Tryz.prog 25 #[.agg (rgCells r).toArray, .agg #[.int .i64 t.lo, .int .i64 t.hi], .agg #[.int .i64 l.press, .int .i64 l.force, .int .i64 l.speed, .int .i64 l.other]] w fun e w' => e = .returned (.agg #[.int .i64 (strR r t l).lo, .int .i64 (strR r t l).hi]) ∧ Below w.heap.size w w' := by
  have hA : Below w.heap.size w ((((((w.alloc (.cells #[.int .i64 r.radius.lo, .int .i64 r.radius.hi, .int .i64 r.height.lo, .int .i64 r.height.hi, .int .i64 r.share.lo, .int .i64 r.share.hi, .int .i64 r.factor.lo, .int .i64 r.factor.hi, .int .i64 r.hit.lo, .int .i64 r.hit.hi] 63)).alloc (.cells #[.int .i64 t.lo, .int .i64 t.hi] 27)).alloc (.cells #[.int .i64 l.press, .int .i64 l.force, .int .i64 l.speed, .int .i64 l.other] 33)).alloc (.cells #[.int .i64 0, .int .i64 0] 27)).alloc (.cells #[.int .i64 0, .int .i64 0] 27)).alloc (.cells #[.func (.func 73) #[] #[], .func (.func 74) #[] #[], .func (.func 75) #[] #[], .func (.func 76) #[] #[]] 118)) := (((((below_boxS w _).alloc (by simp) _).alloc (by simp only [World.size_alloc]; omega) _).alloc (by simp only [World.size_alloc]; omega) _).alloc (by simp only [World.size_alloc]; omega) _).alloc (by simp only [World.size_alloc]; omega) _
  have hB := (((((Blk.new w #[.int .i64 r.radius.lo, .int .i64 r.radius.hi, .int .i64 r.height.lo, .int .i64 r.height.hi, .int .i64 r.share.lo, .int .i64 r.share.hi, .int .i64 r.factor.lo, .int .i64 r.factor.hi, .int .i64 r.hit.lo, .int .i64 r.hit.hi] 63).alloc (.cells #[.int .i64 t.lo, .int .i64 t.hi] 27)).alloc (.cells #[.int .i64 l.press, .int .i64 l.force, .int .i64 l.speed, .int .i64 l.other] 33)).alloc (.cells #[.int .i64 0, .int .i64 0] 27)).alloc (.cells #[.int .i64 0, .int .i64 0] 27)).alloc (.cells #[.func (.func 73) #[] #[], .func (.func 74) #[] #[], .func (.func 75) #[] #[], .func (.func 76) #[] #[]] 118)
  have hT := ((((Blk.new (w.alloc (.cells #[.int .i64 r.radius.lo, .int .i64 r.radius.hi, .int .i64 r.height.lo, .int .i64 r.height.hi, .int .i64 r.share.lo, .int .i64 r.share.hi, .int .i64 r.factor.lo, .int .i64 r.factor.hi, .int .i64 r.hit.lo, .int .i64 r.hit.hi] 63)) #[.int .i64 t.lo, .int .i64 t.hi] 27).alloc (.cells #[.int .i64 l.press, .int .i64 l.force, .int .i64 l.speed, .int .i64 l.other] 33)).alloc (.cells #[.int .i64 0, .int .i64 0] 27)).alloc (.cells #[.int .i64 0, .int .i64 0] 27)).alloc (.cells #[.func (.func 73) #[] #[], .func (.func 74) #[] #[], .func (.func 75) #[] #[], .func (.func 76) #[] #[]] 118)
  have hL := (((Blk.new ((w.alloc (.cells #[.int .i64 r.radius.lo, .int .i64 r.radius.hi, .int .i64 r.height.lo, .int .i64 r.height.hi, .int .i64 r.share.lo, .int .i64 r.share.hi, .int .i64 r.factor.lo, .int .i64 r.factor.hi, .int .i64 r.hit.lo, .int .i64 r.hit.hi] 63)).alloc (.cells #[.int .i64 t.lo, .int .i64 t.hi] 27)) #[.int .i64 l.press, .int .i64 l.force, .int .i64 l.speed, .int .i64 l.other] 33).alloc (.cells #[.int .i64 0, .int .i64 0] 27)).alloc (.cells #[.int .i64 0, .int .i64 0] 27)).alloc (.cells #[.func (.func 73) #[] #[], .func (.func 74) #[] #[], .func (.func 75) #[] #[], .func (.func 76) #[] #[]] 118)
  have hO := ((Blk.new (((w.alloc (.cells #[.int .i64 r.radius.lo, .int .i64 r.radius.hi, .int .i64 r.height.lo, .int .i64 r.height.hi, .int .i64 r.share.lo, .int .i64 r.share.hi, .int .i64 r.factor.lo, .int .i64 r.factor.hi, .int .i64 r.hit.lo, .int .i64 r.hit.hi] 63)).alloc (.cells #[.int .i64 t.lo, .int .i64 t.hi] 27)).alloc (.cells #[.int .i64 l.press, .int .i64 l.force, .int .i64 l.speed, .int .i64 l.other] 33)) #[.int .i64 0, .int .i64 0] 27).alloc (.cells #[.int .i64 0, .int .i64 0] 27)).alloc (.cells #[.func (.func 73) #[] #[], .func (.func 74) #[] #[], .func (.func 75) #[] #[], .func (.func 76) #[] #[]] 118)
  have hS := (Blk.new ((((w.alloc (.cells #[.int .i64 r.radius.lo, .int .i64 r.radius.hi, .int .i64 r.height.lo, .int .i64 r.height.hi, .int .i64 r.share.lo, .int .i64 r.share.hi, .int .i64 r.factor.lo, .int .i64 r.factor.hi, .int .i64 r.hit.lo, .int .i64 r.hit.hi] 63)).alloc (.cells #[.int .i64 t.lo, .int .i64 t.hi] 27)).alloc (.cells #[.int .i64 l.press, .int .i64 l.force, .int .i64 l.speed, .int .i64 l.other] 33)).alloc (.cells #[.int .i64 0, .int .i64 0] 27)) #[.int .i64 0, .int .i64 0] 27).alloc (.cells #[.func (.func 73) #[] #[], .func (.func 74) #[] #[], .func (.func 75) #[] #[], .func (.func 76) #[] #[]] 118)
  have hF := Blk.new (((((w.alloc (.cells #[.int .i64 r.radius.lo, .int .i64 r.radius.hi, .int .i64 r.height.lo, .int .i64 r.height.hi, .int .i64 r.share.lo, .int .i64 r.share.hi, .int .i64 r.factor.lo, .int .i64 r.factor.hi, .int .i64 r.hit.lo, .int .i64 r.hit.hi] 63)).alloc (.cells #[.int .i64 t.lo, .int .i64 t.hi] 27)).alloc (.cells #[.int .i64 l.press, .int .i64 l.force, .int .i64 l.speed, .int .i64 l.other] 33)).alloc (.cells #[.int .i64 0, .int .i64 0] 27)).alloc (.cells #[.int .i64 0, .int .i64 0] 27)) #[.func (.func 73) #[] #[], .func (.func 74) #[] #[], .func (.func 75) #[] #[], .func (.func 76) #[] #[]] 118
  simp only [World.size_alloc] at hT hL hO hS hF
  have hz : ((((((w.alloc (.cells #[.int .i64 r.radius.lo, .int .i64 r.radius.hi, .int .i64 r.height.lo, .int .i64 r.height.hi, .int .i64 r.share.lo, .int .i64 r.share.hi, .int .i64 r.factor.lo, .int .i64 r.factor.hi, .int .i64 r.hit.lo, .int .i64 r.hit.hi] 63)).alloc (.cells #[.int .i64 t.lo, .int .i64 t.hi] 27)).alloc (.cells #[.int .i64 l.press, .int .i64 l.force, .int .i64 l.speed, .int .i64 l.other] 33)).alloc (.cells #[.int .i64 0, .int .i64 0] 27)).alloc (.cells #[.int .i64 0, .int .i64 0] 27)).alloc (.cells #[.func (.func 73) #[] #[], .func (.func 74) #[] #[], .func (.func 75) #[] #[], .func (.func 76) #[] #[]] 118)).heap.size = w.heap.size + 6 := by simp
  replace hz := And.intro (Nat.le_of_eq hz) (Nat.le_of_eq hz.symm)
  have hC0 := hC.mono (ext_of_below hA)
  have hat := fun k V (hV : Circ V) => at_any r t l k V hr ht hl hV
  have hsm := sum_in hr ht hl
  have hpt := partAt_in hr ht hl
  have h4 := sum4 r t l
  simp only [rgCells] at hat ⊢
  have HAT := Lib.hid hat
  have HSM := Lib.hid hsm
  have HPT := Lib.hid hpt
  have H4 := Lib.hid h4
  clear hat hsm hpt h4
  generalize strR r t l = T at *
  go_enter Tryz.func25, Tryz.ntmps25
  go_wp2
  generalize (((((w.alloc (.cells #[.int .i64 r.radius.lo, .int .i64 r.radius.hi, .int .i64 r.height.lo, .int .i64 r.height.hi, .int .i64 r.share.lo, .int .i64 r.share.hi, .int .i64 r.factor.lo, .int .i64 r.factor.hi, .int .i64 r.hit.lo, .int .i64 r.hit.hi] 63)).alloc (.cells #[.int .i64 t.lo, .int .i64 t.hi] 27)).alloc (.cells #[.int .i64 l.press, .int .i64 l.force, .int .i64 l.speed, .int .i64 l.other] 33)).alloc (.cells #[.int .i64 0, .int .i64 0] 27)).alloc (.cells #[.int .i64 0, .int .i64 0] 27)).alloc (.cells #[.func (.func 73) #[] #[], .func (.func 74) #[] #[], .func (.func 75) #[] #[], .func (.func 76) #[] #[]] 118) = W0 at *
  go_loopw [16] (fun i wr => ∃ (k : Nat), k ≤ 4 ∧ i = .int .i64 k ∧ Blk wr (w.heap.size + 1 + 1 + 1 + 1) #[.int .i64 (sumLo r t l k), .int .i64 (sumHi r t l k)] 27 ∧ BelS (fun k => k = w.heap.size + 1 + 1 + 1 + 1) W0.heap.size W0 wr ∧ Below w.heap.size w wr) (fun i _ => 4 - (intOf i).toNat)
  case atStart => exact ⟨0, by omega, rfl, by simpa [sumLo, sumHi] using hS, BelS.refl _ _ _, hA⟩
  case round =>
    obtain ⟨k, hk, rfl, hSr, hBS, hBr⟩ := hrel
    by_cases hlt : k < 4
    · have hB' := hBS.blk hB (by omega) (by omega)
      have hT' := hBS.blk hT (by omega) (by omega)
      have hL' := hBS.blk hL (by omega) (by omega)
      have hF' := hBS.blk hF (by omega) (by omega)
      have hCr := hC.mono (ext_of_below hBr)
      have cf := hF'.cell k _ (fn_cells k hlt)
      have hen := fun xs w => isFn_at k xs w
      have hcall := HAT.out k wr hCr
      have hsk := HSM.out k
      have hpk := HPT.out k
      have hs1 : sumLo r t l (k + 1) = sumLo r t l k + (partAt r t l k).lo := rfl
      have hs2 : sumHi r t l (k + 1) = sumHi r t l k + (partAt r t l k).hi := rfl
      generalize fnAt k = f at *
      generalize partAt r t l k = P at *
      obtain ⟨⟨p1, p2⟩, p3, p4⟩ := hpk
      have w0 := wrap_id (sumLo r t l k + P.lo) (by unfold I64; omega)
      have w1 := wrap_id (sumHi r t l k + P.hi) (by unfold I64; omega)
      have c0 := hB'.cell 0 _ rfl
      have c1 := hB'.cell 1 _ rfl
      have c2 := hB'.cell 2 _ rfl
      have c3 := hB'.cell 3 _ rfl
      have c4 := hB'.cell 4 _ rfl
      have c5 := hB'.cell 5 _ rfl
      have c6 := hB'.cell 6 _ rfl
      have c7 := hB'.cell 7 _ rfl
      have c8 := hB'.cell 8 _ rfl
      have c9 := hB'.cell 9 _ rfl
      have t0 := hT'.cell 0 _ rfl
      have t1 := hT'.cell 1 _ rfl
      have l0 := hL'.cell 0 _ rfl
      have l1 := hL'.cell 1 _ rfl
      have l2 := hL'.cell 2 _ rfl
      have l3 := hL'.cell 3 _ rfl
      have i1 : (0 : Int) ≤ (k : Int) := Int.natCast_nonneg _
      have i2 : (k : Int) < 4 := by omega
      have HS1 := Lib.hid hs1
      have HS2 := Lib.hid hs2
      clear hs1 hs2 p1 p2 p3 p4 hsk hB' hT' hL' hF' hB hT hL hO hS hF hC hCr hC0
      go_wp2_with fail
      refine hcall.mono ?_
      rintro e w5 ⟨rfl, hb5⟩
      have hSr5 := hSr.below hb5 hSr.lt
      have hBr5 := hBr.trans (hb5.mono hBr.size)
      have hBS5 := hBS.trans (BelS.of_below (hb5.mono hBS.size))
      have d0 := hSr5.cell 0 _ rfl
      have d1 := hSr5.cell 1 _ rfl
      have g0 := hSr5.frozen 0
      have g1 := hSr5.frozen 1
      have HF1 : Hid (Blk ((w5.setCell ⟨w.heap.size + 1 + 1 + 1 + 1, 0, none⟩ (.int .i64 (sumLo r t l k + P.lo))).setCell ⟨w.heap.size + 1 + 1 + 1 + 1, 1, none⟩ (.int .i64 (sumHi r t l k + P.hi))) (w.heap.size + 1 + 1 + 1 + 1) #[.int .i64 (sumLo r t l k + P.lo), .int .i64 (sumHi r t l k + P.hi)] 27) := Lib.hid (by
        have := (hSr5.set 0 (.int .i64 (sumLo r t l k + P.lo))).set 1 (.int .i64 (sumHi r t l k + P.hi))
        simpa using this)
      have HF2 := Lib.hid (BelS.set (S := fun k => k = w.heap.size + 1 + 1 + 1 + 1) (BelS.set (S := fun k => k = w.heap.size + 1 + 1 + 1 + 1) hBS5 ⟨w.heap.size + 1 + 1 + 1 + 1, 0, none⟩ (.int .i64 (sumLo r t l k + P.lo)) (.inr rfl)) ⟨w.heap.size + 1 + 1 + 1 + 1, 1, none⟩ (.int .i64 (sumHi r t l k + P.hi)) (.inr rfl))
      have HF3 := Lib.hid ((hBr5.setCell (p := ⟨w.heap.size + 1 + 1 + 1 + 1, 0, none⟩) (by simp only; omega) (.int .i64 (sumLo r t l k + P.lo))).setCell (p := ⟨w.heap.size + 1 + 1 + 1 + 1, 1, none⟩) (by simp only; omega) (.int .i64 (sumHi r t l k + P.hi)))
      clear c0 c1 c2 c3 c4 c5 c6 c7 c8 c9 t0 t1 l0 l1 l2 l3 cf hb5 hSr5 hBr5 hBS5 hBS hBr hSr hcall
      go_wp2
      go_roundw
      case rel => exact ⟨k + 1, by omega, by go_num, by rw [HS1.out, HS2.out]; exact HF1.out, HF2.out, HF3.out⟩
      case measure => simp [intOf]; omega
    · have hke : k = 4 := by omega
      subst hke
      rw [H4.out.1, H4.out.2] at hSr
      have hO' := hBS.blk hO (by omega) (by omega)
      have d0 := hSr.cell 0 _ rfl
      have d1 := hSr.cell 1 _ rfl
      have o0 := hO'.cell 0 _ rfl
      have o1 := hO'.cell 1 _ rfl
      have f0 := hO'.frozen 0
      have f1 := hO'.frozen 1
      have HF1 : Hid (Blk ((wr.setCell ⟨w.heap.size + 1 + 1 + 1, 0, none⟩ (.int .i64 T.lo)).setCell ⟨w.heap.size + 1 + 1 + 1, 1, none⟩ (.int .i64 T.hi)) (w.heap.size + 1 + 1 + 1) #[.int .i64 T.lo, .int .i64 T.hi] 27) := Lib.hid (by
        have := (hO'.set 0 (.int .i64 T.lo)).set 1 (.int .i64 T.hi)
        simpa using this)
      have HF3 := Lib.hid ((hBr.setCell (p := ⟨w.heap.size + 1 + 1 + 1, 0, none⟩) (by simp only; omega) (.int .i64 T.lo)).setCell (p := ⟨w.heap.size + 1 + 1 + 1, 1, none⟩) (by simp only; omega) (.int .i64 T.hi))
      clear hB hT hL hO hS hF hC hC0 hBS hBr hSr hO'
      go_wp2
      have r0 := HF1.out.cell 0 _ rfl
      have r1 := HF1.out.cell 1 _ rfl
      simp only [List.getElem_toArray, List.getElem_cons_zero, List.getElem_cons_succ] at r0 r1
      refine ⟨rfl, .agg #[.int .i64 T.lo, .int .i64 T.hi], ?_, rfl, HF3.out⟩
      simp [results, Tryz.results25, go_sem, r0, r1]

end Go.Proofs.YtaldpalhckdcdaaGreatDoor
