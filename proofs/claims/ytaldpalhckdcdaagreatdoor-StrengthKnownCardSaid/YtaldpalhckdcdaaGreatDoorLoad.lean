/- Whether a load, and a wall, may be: they go wrong with their first error; no statement is proved here. -/
import Derived.Test.YtaldpalhckdcdaaGreatDoorNeedB
import Derived.Test.YtaldpalhckdcdaaGreatDoorStr
namespace Go.Proofs.YtaldpalhckdcdaaGreatDoor
open Go.RowKit Go.PlainAid
set_option linter.unusedVariables false
attribute [local go_sem] Oper.semAt_some fp_round fp_depth
def loadS (l : Ld) : Int := if btw l.press 0 10000 = true then if btw l.force 0 20000 = true then if btw l.speed 0 2000 = true then if btw l.other 0 10000000 = true then 0 else 1 else 1 else 1 else 1
def allT (ts : List Sp) : Bool := ts.all (fun t => wi t 1 2000)
def wallS (b : Bot) (ts : List Sp) (l : Ld) : Int := if checkS b = 0 then if ts.length = b.rings.length then if allT ts = true then loadS l else 1 else 1 else checkS b
theorem okL_of {l : Ld} (h : loadS l = 0) : OkL l := by
  simp only [loadS] at h
  split at h
  next h1 =>
    split at h
    next h2 =>
      split at h
      next h3 =>
        split at h
        next h4 => exact ⟨btw_true.1 h1, btw_true.1 h2, btw_true.1 h3, btw_true.1 h4⟩
        next => cases h
      next => cases h
    next => cases h
  next => cases h
theorem loadS_of {l : Ld} (h : OkL l) : loadS l = 0 := by
  simp only [loadS, btw_true.2 h.press, btw_true.2 h.force, btw_true.2 h.speed, btw_true.2 h.other, if_true]
theorem loadS_bd (l : Ld) : 0 ≤ loadS l ∧ loadS l ≤ 12 := by
  simp only [loadS]; (repeat' split) <;> omega
theorem allT_true {ts : List Sp} : allT ts = true ↔ ∀ i (h : i < ts.length), OkT ts[i] := by
  simp only [allT, List.all_eq_true]
  constructor
  · intro h i hi
    have := wi_true.1 (h _ (List.getElem_mem hi))
    exact ⟨this.1, this.2.1, this.2.2⟩
  · intro h t ht
    obtain ⟨i, hi, rfl⟩ := List.getElem_of_mem ht
    have := h i hi
    exact wi_true.2 ⟨this.lo, this.le, this.hi⟩
theorem allT_false {ts : List Sp} {i : Nat} (h : i < ts.length) (hj : wi ts[i] 1 2000 = false) : allT ts = false := by
  cases e : allT ts with
  | false => rfl
  | true =>
    have := allT_true.1 e i h
    rw [wi_true.2 ⟨this.lo, this.le, this.hi⟩] at hj
    cases hj
theorem wallS_bd (b : Bot) (ts : List Sp) (l : Ld) : 0 ≤ wallS b ts l ∧ wallS b ts l ≤ 12 := by
  have := loadS_bd l
  have := checkS_bd b
  simp only [wallS]; (repeat' split) <;> omega

theorem fp_needLoad : Fp.fn 71 := ⟨_, Tryz.func71⟩
theorem fp_needWall : Fp.fn 23 := ⟨_, Tryz.func23⟩

set_option maxRecDepth 100000 in
set_option maxHeartbeats 1000000 in
theorem needLoad_in (l : Ld) (w : World) (k : Nat) : CallsIn Fp k Tryz.prog 71 #[.agg #[.int .i64 l.press, .int .i64 l.force, .int .i64 l.speed, .int .i64 l.other]] w (Need w (loadS l)) := by
  have hA := below_boxS w (.cells #[.int .i64 l.press, .int .i64 l.force, .int .i64 l.speed, .int .i64 l.other] 33)
  have hB := Blk.new w #[.int .i64 l.press, .int .i64 l.force, .int .i64 l.speed, .int .i64 l.other] 33
  refine callsIn_of_wp Tryz.func71 rfl fp_needLoad ?_ rfl
  simp only [Tryz.ntmps71, List.size_toArray, List.length_cons, List.length_nil, Nat.reduceAdd, Nat.reduceSub, Array.replicate_succ, Array.replicate_zero, List.push_toArray, List.append_toArray, List.nil_append, List.cons_append] at hA hB ⊢
  have c0 := hB.cell 0 _ rfl
  have c1 := hB.cell 1 _ rfl
  have c2 := hB.cell 2 _ rfl
  have c3 := hB.cell 3 _ rfl
  gi_wp2_with fail
  refine ⟨fp_between, ?_⟩
  refine (between_in l.press 0 10000 _ _).mono ?_
  rintro e w' ⟨rfl, rfl⟩
  cases h1 : btw l.press 0 10000 with
  | false =>
    gi_wp2_with fail
    refine ⟨fp_need, ?_⟩
    refine (need_no 1 _ _).mono ?_
    rintro e w' ⟨rfl, rfl⟩
    exact ⟨rfl, .inr ⟨by simp [loadS, h1], by simp [loadS, h1]⟩, hA⟩
  | true =>
  gi_wp2_with fail
  refine ⟨fp_need, ?_⟩
  refine (need_ok 1 _ _).mono ?_
  rintro e w' ⟨rfl, rfl⟩
  gi_wp2_with fail
  refine ⟨fp_between, ?_⟩
  refine (between_in l.force 0 20000 _ _).mono ?_
  rintro e w' ⟨rfl, rfl⟩
  cases h2 : btw l.force 0 20000 with
  | false =>
    gi_wp2_with fail
    refine ⟨fp_need, ?_⟩
    refine (need_no 1 _ _).mono ?_
    rintro e w' ⟨rfl, rfl⟩
    exact ⟨rfl, .inr ⟨by simp [loadS, h1, h2], by simp [loadS, h1, h2]⟩, hA⟩
  | true =>
  gi_wp2_with fail
  refine ⟨fp_need, ?_⟩
  refine (need_ok 1 _ _).mono ?_
  rintro e w' ⟨rfl, rfl⟩
  gi_wp2_with fail
  refine ⟨fp_between, ?_⟩
  refine (between_in l.speed 0 2000 _ _).mono ?_
  rintro e w' ⟨rfl, rfl⟩
  cases h3 : btw l.speed 0 2000 with
  | false =>
    gi_wp2_with fail
    refine ⟨fp_need, ?_⟩
    refine (need_no 1 _ _).mono ?_
    rintro e w' ⟨rfl, rfl⟩
    exact ⟨rfl, .inr ⟨by simp [loadS, h1, h2, h3], by simp [loadS, h1, h2, h3]⟩, hA⟩
  | true =>
  gi_wp2_with fail
  refine ⟨fp_need, ?_⟩
  refine (need_ok 1 _ _).mono ?_
  rintro e w' ⟨rfl, rfl⟩
  gi_wp2_with fail
  refine ⟨fp_between, ?_⟩
  refine (between_in l.other 0 10000000 _ _).mono ?_
  rintro e w' ⟨rfl, rfl⟩
  cases h4 : btw l.other 0 10000000 with
  | false =>
    gi_wp2_with fail
    refine ⟨fp_need, ?_⟩
    refine (need_no 1 _ _).mono ?_
    rintro e w' ⟨rfl, rfl⟩
    exact ⟨rfl, .inr ⟨by simp [loadS, h1, h2, h3, h4], by simp [loadS, h1, h2, h3, h4]⟩, hA⟩
  | true =>
  gi_wp2_with fail
  refine ⟨fp_need, ?_⟩
  refine (need_ok 1 _ _).mono ?_
  rintro e w' ⟨rfl, rfl⟩
  gi_wp2
  exact ⟨rfl, _, results_none rfl _ _ _, .inl ⟨by simp [loadS, h1, h2, h3, h4], rfl⟩, hA⟩

set_option maxRecDepth 100000 in
set_option maxHeartbeats 2000000 in
theorem needWall_in (vb vt : Value) (b : Bot) (ts : List Sp) (l : Ld) (w : World) (n : Nat) (h : RBot w vb b) (ht : RSps w vt ts) : CallsIn Fp n Tryz.prog 23 #[vb, vt, .agg #[.int .i64 l.press, .int .i64 l.force, .int .i64 l.speed, .int .i64 l.other]] w (Need w (wallS b ts l)) := by
  have h0 := h
  have ht0 := ht
  obtain ⟨v0, rfl, hr, hI⟩ := h
  obtain ⟨a, cap, rfl, -, -, -⟩ := hr
  obtain ⟨ta, tc, rfl, -, ⟨-, htm⟩, htl⟩ := ht
  have hA : Below w.heap.size w ((w.alloc (.cells #[.slice a b.rings.length cap, .int .i64 b.flaw, .int .i64 b.tough] 24)).alloc (.cells #[.int .i64 l.press, .int .i64 l.force, .int .i64 l.speed, .int .i64 l.other] 33)) := (below_boxS w _).alloc (by simp) _
  have hB := (Blk.new w #[.slice a b.rings.length cap, .int .i64 b.flaw, .int .i64 b.tough] 24).alloc (.cells #[.int .i64 l.press, .int .i64 l.force, .int .i64 l.speed, .int .i64 l.other] 33)
  have hL := Blk.new (w.alloc (.cells #[.slice a b.rings.length cap, .int .i64 b.flaw, .int .i64 b.tough] 24)) #[.int .i64 l.press, .int .i64 l.force, .int .i64 l.speed, .int .i64 l.other] 33
  rw [World.size_alloc] at hL
  have hnb := fun W (e : Ext w W) k => needBottle_in _ b W k (h0.mono e)
  have HT : Hid (∀ W, Ext w W → ∀ i (h : i < ts.length), ∃ bb off, ta = some ⟨bb, off, none⟩ ∧ RSp W ⟨bb, off + i * 2, none⟩ ts[i]) := Lib.hid (fun W e i hi => by
    obtain ⟨bb, off, h1, h2⟩ := htl i hi
    exact ⟨bb, off, h1, h2.mono e⟩)
  clear h0 ht0 htl
  refine callsIn_of_wp Tryz.func23 rfl fp_needWall ?_ rfl
  simp only [Tryz.ntmps23, List.size_toArray, List.length_cons, List.length_nil, Nat.reduceAdd, Nat.reduceSub, Array.replicate_succ, Array.replicate_zero, List.push_toArray, List.append_toArray, List.nil_append, List.cons_append]
  have c0 := hB.cell 0 _ rfl
  have c1 := hB.cell 1 _ rfl
  have c2 := hB.cell 2 _ rfl
  gi_wp2_with fail
  refine ⟨fp_needBottle, ?_⟩
  refine (hnb _ (ext_of_below hA) _).mono ?_
  rintro e w1 ⟨hc, hb1⟩
  have hA1 := hA.trans (hb1.mono hA.size)
  have hB1 := hB.below hb1 hB.lt
  have hL1 := hL.below hb1 hL.lt
  clear hb1 hnb c0 c1 c2 hA hB hL
  rcases hc with ⟨hc, rfl⟩ | ⟨hc, rfl⟩
  case inr => exact ⟨rfl, .inr ⟨by simp [wallS, hc], by simp [wallS, hc]⟩, hA1⟩
  have HC := Lib.hid hc
  clear hc
  have c0 := hB1.cell 0 _ rfl
  gi_wp2_with fail
  refine ⟨fp_need, ?_⟩
  by_cases hlen : ts.length = b.rings.length
  case neg =>
    rw [show (((ts.length : Nat) : Int) == ((b.rings.length : Nat) : Int)) = false from by simp; omega]
    refine (need_no 1 _ _).mono ?_
    rintro e w' ⟨rfl, rfl⟩
    exact ⟨rfl, .inr ⟨by simp [wallS, HC.out, hlen], by simp [wallS, HC.out, hlen]⟩, hA1⟩
  rw [show (((ts.length : Nat) : Int) == ((b.rings.length : Nat) : Int)) = true from by simp; omega]
  refine (need_ok 1 _ _).mono ?_
  rintro e w' ⟨rfl, hw'⟩
  obtain rfl := hw'.symm
  clear hw'
  have hLE := Lib.hid hlen
  clear hlen
  gi_wp2_with fail
  gi_loopw [19] (fun i wr => ∃ (k : Nat), k ≤ ts.length ∧ i = .int .i64 k ∧ Below w1.heap.size w1 wr ∧ Hid (∀ j (h : j < ts.length), j < k → OkT ts[j])) (fun i _ => ts.length - (intOf i).toNat)
  case atStart => exact ⟨0, Nat.zero_le _, rfl, Below.refl _ _, Lib.hid (fun j h hj => absurd hj (by omega))⟩
  case round =>
    obtain ⟨k, hk, rfl, hB, hall⟩ := hrel
    have hAB := hA1.trans (hB.mono hA1.size)
    have i1 : (0 : Int) ≤ (k : Int) := Int.natCast_nonneg _
    by_cases hlt : k < ts.length
    · obtain ⟨bb, off, rfl, q1, q2, -, -⟩ := HT.out _ (ext_of_below hAB) k hlt
      have i2 : (k : Int) < (ts.length : Int) := by omega
      have hfa : wi ts[k] 1 2000 = false → allT ts = false := fun h => allT_false hlt h
      have htr : wi ts[k] 1 2000 = true → Hid (∀ j (h : j < ts.length), j < k + 1 → OkT ts[j]) := fun h => Lib.hid (fun j hj hjk => by
        by_cases e : j = k
        · subst e
          have := wi_true.1 h
          exact ⟨this.1, this.2.1, this.2.2⟩
        · exact hall.out j hj (by omega))
      generalize ts[k] = t at q1 q2 hfa htr
      simp only at q1 q2
      have hA2 := hAB.trans ((below_boxS wr (.cells #[.int .i64 t.lo, .int .i64 t.hi] 27)).mono hAB.size)
      have hB2 := hB.trans ((below_boxS wr (.cells #[.int .i64 t.lo, .int .i64 t.hi] 27)).mono hB.size)
      clear hall hAB hB
      gi_wp2_with fail
      refine ⟨fp_within, ?_⟩
      refine (within_in t 1 2000 _ _).mono ?_
      rintro e w2 ⟨rfl, hb2⟩
      have hA3 := hA2.trans (hb2.mono hA2.size)
      have hB3 := hB2.trans (hb2.mono hB2.size)
      clear hA2 hB2 hb2
      cases hw : wi t 1 2000 with
      | false =>
        have hf := Lib.hid (hfa hw)
        gi_wp2_with fail
        refine ⟨fp_need, ?_⟩
        refine (need_no 1 _ _).mono ?_
        rintro e w' ⟨rfl, rfl⟩
        exact ⟨rfl, .inr ⟨by simp [wallS, HC.out, hLE.out, hf.out], by simp [wallS, HC.out, hLE.out, hf.out]⟩, hA3⟩
      | true =>
      have hall3 := htr hw
      clear htr hfa
      gi_wp2_with fail
      refine ⟨fp_need, ?_⟩
      refine (need_ok 1 _ _).mono ?_
      rintro e w' ⟨rfl, rfl⟩
      gi_wp2
      go_roundw
      case rel => exact ⟨k + 1, by omega, by go_num, hB3, hall3⟩
      case measure => simp [intOf]; omega
    · have hkk : k = ts.length := by omega
      subst hkk
      have hT : allT ts = true := allT_true.2 (fun i h => hall.out i h h)
      have hLw := hL1.below hB hL1.lt
      have c0 := hLw.cell 0 _ rfl
      have c1 := hLw.cell 1 _ rfl
      have c2 := hLw.cell 2 _ rfl
      have c3 := hLw.cell 3 _ rfl
      have HW : Hid (wallS b ts l = loadS l) := Lib.hid (by simp [wallS, HC.out, hLE.out, hT])
      clear hT hall
      gi_wp2_with fail
      refine ⟨fp_needLoad, ?_⟩
      refine (needLoad_in l _ _).mono ?_
      rintro e w2 ⟨hc, hb2⟩
      have hA3 := hAB.trans (hb2.mono hAB.size)
      clear hAB hb2
      rcases hc with ⟨hc, rfl⟩ | ⟨hc, rfl⟩
      · have hh := Lib.hid hc
        clear hc
        gi_wp2
        exact ⟨rfl, _, results_none rfl _ _ _, .inl ⟨by rw [HW.out]; exact hh.out, rfl⟩, hA3⟩
      · exact ⟨rfl, .inr ⟨by rw [HW.out]; exact hc, by rw [HW.out]⟩, hA3⟩

end Go.Proofs.YtaldpalhckdcdaaGreatDoor
