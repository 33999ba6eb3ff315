/- The specification's Load, thin, borne; no statement is proved here. -/
import Derived.Test.YtokgnbagegcnpaaDoorSRef
import Derived.Test.YtokgnbagegcnpaaDoorThinM
namespace Go.Proofs.YtokgnbagegcnpaaDoor
open Go.RowKit Go.PlainAid
set_option linter.unusedVariables false
set_option linter.unusedSimpArgs false

theorem loadS_01 (l : Ld) : loadS l = 0 ∨ loadS l = 1 := by unfold loadS; (repeat' split) <;> simp

set_option maxHeartbeats 2000000 in
set_option maxRecDepth 100000 in
theorem rload_any (l : Ld) (w : World) : Calls Tryd.prog 134 #[.agg #[.int .i64 l.press, .int .i64 l.force, .int .i64 l.speed, .int .i64 l.other]] w fun e w' => e = .returned (.bool (decide (loadS l = 0))) ∧ Below w.heap.size w w' := by
  have hA := below_boxS w (.cells #[.int .i64 l.press, .int .i64 l.force, .int .i64 l.speed, .int .i64 l.other] 27)
  by_cases h0 : 0 ≤ l.press
  case neg =>
    have HF := Lib.hid (show decide (loadS l = 0) = false from decide_eq_false (fun h => by have := (okL_of h).press; omega))
    go_enter Tryd.func134, Tryd.ntmps134
    go_wp2
    go_ret
    exact ⟨ret_bool HF.out.symm, hA⟩
  by_cases h1 : l.press ≤ 10000
  case neg =>
    have HF := Lib.hid (show decide (loadS l = 0) = false from decide_eq_false (fun h => by have := (okL_of h).press; omega))
    go_enter Tryd.func134, Tryd.ntmps134
    go_wp2
    go_ret
    exact ⟨ret_bool HF.out.symm, hA⟩
  by_cases h2 : 0 ≤ l.force
  case neg =>
    have HF := Lib.hid (show decide (loadS l = 0) = false from decide_eq_false (fun h => by have := (okL_of h).force; omega))
    go_enter Tryd.func134, Tryd.ntmps134
    go_wp2
    go_ret
    exact ⟨ret_bool HF.out.symm, hA⟩
  by_cases h3 : l.force ≤ 20000
  case neg =>
    have HF := Lib.hid (show decide (loadS l = 0) = false from decide_eq_false (fun h => by have := (okL_of h).force; omega))
    go_enter Tryd.func134, Tryd.ntmps134
    go_wp2
    go_ret
    exact ⟨ret_bool HF.out.symm, hA⟩
  by_cases h4 : 0 ≤ l.speed
  case neg =>
    have HF := Lib.hid (show decide (loadS l = 0) = false from decide_eq_false (fun h => by have := (okL_of h).speed; omega))
    go_enter Tryd.func134, Tryd.ntmps134
    go_wp2
    go_ret
    exact ⟨ret_bool HF.out.symm, hA⟩
  by_cases h5 : l.speed ≤ 2000
  case neg =>
    have HF := Lib.hid (show decide (loadS l = 0) = false from decide_eq_false (fun h => by have := (okL_of h).speed; omega))
    go_enter Tryd.func134, Tryd.ntmps134
    go_wp2
    go_ret
    exact ⟨ret_bool HF.out.symm, hA⟩
  by_cases h6 : 0 ≤ l.other
  case neg =>
    have HF := Lib.hid (show decide (loadS l = 0) = false from decide_eq_false (fun h => by have := (okL_of h).other; omega))
    go_enter Tryd.func134, Tryd.ntmps134
    go_wp2
    go_ret
    exact ⟨ret_bool HF.out.symm, hA⟩
  by_cases h7 : l.other ≤ 10000000
  case neg =>
    have HF := Lib.hid (show decide (loadS l = 0) = false from decide_eq_false (fun h => by have := (okL_of h).other; omega))
    go_enter Tryd.func134, Tryd.ntmps134
    go_wp2
    go_ret
    exact ⟨ret_bool HF.out.symm, hA⟩
  have HF := Lib.hid (show decide (loadS l = 0) = true from decide_eq_true (loadS_of ⟨⟨h0, h1⟩, ⟨h2, h3⟩, ⟨h4, h5⟩, ⟨h6, h7⟩⟩))
  go_enter Tryd.func134, Tryd.ntmps134
  go_wp2
  go_ret
  exact ⟨ret_bool HF.out.symm, hA⟩

set_option maxHeartbeats 2000000 in
set_option maxRecDepth 100000 in
theorem rthin_any (vb vt : Value) (b : Bot) (ts : List Sp) (w : World) (h : RBot w vb b) (ht : RSps w vt ts) :
    Calls Tryd.prog 133 #[vb, vt] w fun e w' => e = .returned (.bool (decide (ts.length = b.rings.length) && allT ts)) ∧ Below w.heap.size w w' := by
  obtain ⟨v0, rfl, hr, hI⟩ := h
  obtain ⟨a, cap, rfl, -, ⟨-, hm⟩, -⟩ := hr
  obtain ⟨ta, tc, rfl, -, ⟨-, htm⟩, htl⟩ := ht
  have hA := below_boxS w (.cells #[.slice a b.rings.length cap, .int .i64 b.flaw, .int .i64 b.tough] 24)
  have hB := Blk.new w #[.slice a b.rings.length cap, .int .i64 b.flaw, .int .i64 b.tough] 24
  by_cases hn : ts.length = b.rings.length
  case neg =>
    have hne : ((ts.length : Int) != (b.rings.length : Int)) = true := by rw [bne_iff_ne]; omega
    have HF := Lib.hid (show (decide (ts.length = b.rings.length) && allT ts) = false by rw [decide_eq_false hn]; rfl)
    clear hn htl
    go_enter Tryd.func133, Tryd.ntmps133
    go_wp2
    go_ret
    exact ⟨ret_bool HF.out.symm, hA⟩
  have hne : ((ts.length : Int) != (b.rings.length : Int)) = false := by rw [bne_eq_false_iff_eq]; omega
  have HT := Lib.hid (show (decide (ts.length = b.rings.length) && allT ts) = allT ts by rw [decide_eq_true hn]; rfl)
  have HTL := Lib.hid htl
  clear hn htl
  go_enter Tryd.func133, Tryd.ntmps133
  go_wp2
  clear hne
  generalize w.alloc (.cells #[.slice a b.rings.length cap, .int .i64 b.flaw, .int .i64 b.tough] 24) = W0 at *
  go_loopw [5] (fun i wr => ∃ k : Nat, k ≤ ts.length ∧ i = .int .i64 k ∧ Hid (∀ j (h : j < k) (h2 : j < ts.length), OkT ts[j]) ∧ Below W0.heap.size W0 wr) (fun i _ => ts.length - (intOf i).toNat)
  case atStart => exact ⟨0, Nat.zero_le _, rfl, fun j h => absurd h (by omega), Below.refl _ _⟩
  case round =>
    obtain ⟨k, hk, rfl, hok, hb⟩ := hrel
    have hAF := hA.trans (hb.mono hA.size)
    by_cases hlt : k < ts.length
    · obtain ⟨b1, o1, rfl, hcr, hir⟩ := HTL.out k hlt
      have hcr1 := ext_of_below hAF _ _ hcr
      have hir1 := ext_of_below hAF _ _ hir.1
      have hall : wi ts[k] 1 2000 = false → allT ts = false := allT_false hlt
      have hnx : wi ts[k] 1 2000 = true → ∀ j (h : j < k + 1) (h2 : j < ts.length), OkT ts[j] := fun h j h1 h2 => by
        by_cases hj : j = k
        · subst hj
          have := wi_true.1 h
          exact ⟨this.1, this.2.1, this.2.2⟩
        · exact hok.out j (by omega) h2
      have HALL := Lib.hid hall
      have HNX := Lib.hid hnx
      clear hall hnx hcr hir hok
      generalize ts[k] = T at *
      have i3 : (0 : Int) ≤ (k : Int) := Int.natCast_nonneg _
      have i4 : (k : Int) < (ts.length : Int) := by omega
      simp only [Addr.add] at hir1
      go_wp2_with fail
      refine (rwithin_any T 1 2000 _).mono ?_
      rintro e V1 ⟨rfl, hv1⟩
      have hb1 := hb.trans (hv1.mono hb.size)
      have hA1 := hAF.trans (hv1.mono hAF.size)
      cases h1 : wi T 1 2000 with
      | false =>
        have HF := Lib.hid (HALL.out h1)
        go_wp2
        go_ret
        exact ⟨ret_bool (by rw [HT.out, HF.out]), hA1⟩
      | true =>
        have HN := Lib.hid (HNX.out h1)
        clear hv1 hb hAF hcr1 hir1
        go_wp2
        go_roundw
        case rel => exact ⟨k + 1, by omega, by go_num, HN, hb1⟩
        case measure => simp [intOf]; omega
    · have HF := Lib.hid (show allT ts = true from allT_true.2 (fun i h => hok.out i (by omega) h))
      go_wp2
      go_ret
      exact ⟨ret_bool (by rw [HT.out, HF.out]), hAF⟩

set_option maxHeartbeats 2000000 in
set_option maxRecDepth 100000 in
theorem rborne_any (vb vt : Value) (b : Bot) (ts : List Sp) (l : Ld) (w : World) (h : RBot w vb b) (ht : RSps w vt ts) :
    Calls Tryd.prog 72 #[vb, vt, .agg #[.int .i64 l.press, .int .i64 l.force, .int .i64 l.speed, .int .i64 l.other]] w fun e w' => e = .returned (.int .i64 (wallS b ts l)) ∧ Below w.heap.size w w' := by
  have h0 := h
  have ht0 := ht
  obtain ⟨v0, rfl, hr, hI⟩ := h
  obtain ⟨a, cap, rfl, -, -, -⟩ := hr
  obtain ⟨ta, tc, rfl, -, -, -⟩ := ht
  have hA : Below w.heap.size w ((w.alloc (.cells #[.slice a b.rings.length cap, .int .i64 b.flaw, .int .i64 b.tough] 24)).alloc (.cells #[.int .i64 l.press, .int .i64 l.force, .int .i64 l.speed, .int .i64 l.other] 27)) := (below_boxS w _).alloc (by simp) _
  have hB := (Blk.new w #[.slice a b.rings.length cap, .int .i64 b.flaw, .int .i64 b.tough] 24).alloc (.cells #[.int .i64 l.press, .int .i64 l.force, .int .i64 l.speed, .int .i64 l.other] 27)
  have hL := Blk.new (w.alloc (.cells #[.slice a b.rings.length cap, .int .i64 b.flaw, .int .i64 b.tough] 24)) #[.int .i64 l.press, .int .i64 l.force, .int .i64 l.speed, .int .i64 l.other] 27
  rw [World.size_alloc] at hL
  have HR := Lib.hid (fun V (hV : Below w.heap.size w V) => h0.mono (ext_of_below hV))
  have HT := Lib.hid (fun V (hV : Below w.heap.size w V) => ht0.mono (ext_of_below hV))
  have hcb := checkS_bd b
  clear h0 ht0
  go_enter Tryd.func72, Tryd.ntmps72
  go_wp2_with fail
  generalize (w.alloc (.cells #[.slice a b.rings.length cap, .int .i64 b.flaw, .int .i64 b.tough] 24)).alloc _ = W2 at *
  refine (rcheck5_any _ b _ (HR.out _ hA)).mono ?_
  rintro e w3 ⟨rfl, hb3⟩
  have hA3 := hA.trans (hb3.mono hA.size)
  have hB3 := hB.below hb3 hB.lt
  have hL3 := hL.below hb3 hL.lt
  clear hA hB hL hb3
  by_cases hc : checkS b = 0
  case neg =>
    have hne : (checkS b != 0) = true := by simpa using hc
    have HF := Lib.hid (show wallS b ts l = checkS b by rw [wallS, if_neg hc])
    clear hB3 hL3 hc
    go_wp2
    go_ret
    exact ⟨ret_int HF.out.symm, hA3⟩
  have HC := Lib.hid hc
  rw [hc]
  clear hc hcb
  have c0 := hB3.cell 0 _ rfl
  have c1 := hB3.cell 1 _ rfl
  have c2 := hB3.cell 2 _ rfl
  go_wp2_with fail
  refine (rthin_any _ _ b ts _ (HR.out _ hA3) (HT.out _ hA3)).mono ?_
  rintro e w4 ⟨rfl, hb4⟩
  have hA4 := hA3.trans (hb4.mono hA3.size)
  have hL4 := hL3.below hb4 hL3.lt
  clear hA3 hB3 hL3 hb4 c0 c1 c2
  cases ht1 : (decide (ts.length = b.rings.length) && allT ts) with
  | false =>
    have HF := Lib.hid (show wallS b ts l = 1 by
      simp only [wallS, HC.out, if_true]
      split
      · rename_i h1
        rw [decide_eq_true h1, Bool.true_and] at ht1
        rw [ht1]; rfl
      · rfl)
    go_wp2
    go_ret
    exact ⟨ret_int HF.out.symm, hA4⟩
  | true =>
  simp only [Bool.and_eq_true, decide_eq_true_eq] at ht1
  have HF := Lib.hid (show wallS b ts l = loadS l by simp only [wallS, HC.out, ht1.1, ht1.2, if_true])
  clear ht1
  have c0 := hL4.cell 0 _ rfl
  have c1 := hL4.cell 1 _ rfl
  have c2 := hL4.cell 2 _ rfl
  have c3 := hL4.cell 3 _ rfl
  go_wp2_with fail
  refine (rload_any l _).mono ?_
  rintro e w5 ⟨rfl, hb5⟩
  have hA5 := hA4.trans (hb5.mono hA4.size)
  clear hA4 hL4 hb5 c0 c1 c2 c3
  by_cases hl : loadS l = 0
  · rw [decide_eq_true hl]
    have HL := Lib.hid hl
    clear hl
    go_wp2
    go_ret
    exact ⟨ret_int (by rw [HF.out, HL.out]), hA5⟩
  · rw [decide_eq_false hl]
    have HL := Lib.hid ((loadS_01 l).resolve_left hl)
    clear hl
    go_wp2
    go_ret
    exact ⟨ret_int (by rw [HF.out, HL.out]), hA5⟩

end Go.Proofs.YtokgnbagegcnpaaDoor
