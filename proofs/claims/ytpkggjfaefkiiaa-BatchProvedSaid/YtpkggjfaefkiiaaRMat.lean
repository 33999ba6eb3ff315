/- The specification's own way to a material's and a property's error; no statement is proved here. -/
import Derived.Test.YtpkggjfaefkiiaaRName
namespace Go.Proofs.Ytpkggjfaefkiiaa
open Go.RowKit Go.PlainAid
set_option linter.unusedVariables false

def BigM (m : Mat) : Prop := 0 ≤ m.price ∧ m.price ≤ 10000 ∧ -1000 ≤ m.redox ∧ m.redox ≤ 1000 ∧ 0 ≤ m.least ∧ m.least ≤ 10000 ∧ m.least ≤ m.most ∧ m.most ≤ 10000 ∧ 1 ≤ m.step ∧ m.step ≤ 10000

theorem numB_bad {m : Mat} (n : Int) (h : ¬ BigM m) : numB m n = 1 := by
  unfold numB
  by_cases h1 : (betweenB m.price 0 10000 && betweenB m.redox (-1000) 1000) = false
  · rw [if_pos h1]
  rw [if_neg h1]
  by_cases h2 : (betweenB m.least 0 10000 && betweenB m.most m.least 10000 && betweenB m.step 1 10000) = false
  · rw [if_pos h2]
  exfalso
  apply h
  simp only [betweenB, Bool.not_eq_false, Bool.and_eq_true, decide_eq_true_eq] at h1 h2
  unfold BigM
  omega

theorem numB_good {m : Mat} (n : Int) (h : BigM m) : numB m n = if allWithinB m.content n 0 1000 = false then 1 else if 1000 < (tot m.content).lo then 12 else 0 := by
  obtain ⟨h1, h2, h3, h4, h5, h6, h7, h8, h9, h10⟩ := h
  unfold numB
  rw [if_neg (by simp [betweenB, h1, h2, h3, h4]), if_neg (by simp [betweenB, h5, h6, h7, h8, h9, h10])]

def loS (l : List Sp) (k : Nat) : Int := ((l.take k).map Sp.lo).sum
theorem loS_succ (l : List Sp) (k : Nat) (h : k < l.length) : loS l (k + 1) = loS l k + l[k].lo := by
  unfold loS
  rw [List.take_succ_eq_append_getElem h, List.map_append, List.map_singleton, sum_snoc]

theorem any_notwithin_end {l : List Sp} {n : Int} (h : (l.length : Int) = n) : allWithinB l n 0 1000 = !(l.any fun s => !withinB s 0 1000) := by
  unfold allWithinB
  rw [h]
  simp

set_option maxHeartbeats 1000000 in
set_option maxRecDepth 100000 in
theorem rmaterial_any (a0 : Option Addr) (n0 cap0 : Nat) (v1 v2 v3 x4 x5 x6 : Value) (m : Mat) (v : Value) (w : World) (h : VMat w v m) (hn0 : n0 ≤ 140737488351232) :
    Calls Try.prog 58 #[.agg #[.slice a0 n0 cap0, v1, v2, v3, x4, x5, x6], v] w fun e w' => e = .returned (.int .i64 (numB m n0)) ∧ Below w.heap.size w w' := by
  obtain ⟨c, rfl, hc, hs⟩ := h
  obtain ⟨ac, kc, rfl, -, ⟨-, lc⟩, hcl⟩ := id hc
  have hA := below_two w (.cells #[.slice a0 n0 cap0, v1, v2, v3, x4, x5, x6] 29) (.cells #[.string m.name, .int .i64 m.price, .int .i64 m.redox, .int .i64 m.least, .int .i64 m.most, .int .i64 m.step, .slice ac m.content.length kc] 68)
  by_cases hbig : BigM m
  case neg =>
    have HF := Lib.hid (numB_bad (n0 : Int) hbig)
    have HB := Lib.hid hbig
    clear hbig hcl hc
    go_enter Try.func58, Try.ntmps58
    go_wp2
    all_goals first
      | (go_ret; exact ⟨ret_int HF.out.symm, hA⟩)
      | (exfalso; have := HB.out; unfold BigM at this; omega)
  obtain ⟨g1, g2, g3, g4, g5, g6, g7, g8, g9, g10⟩ := id hbig
  have HF := Lib.hid (numB_good (n0 : Int) hbig)
  clear hbig
  by_cases hl : m.content.length = n0
  case neg =>
    have hq : ((m.content.length : Int) != (n0 : Int)) = true := by rw [bne_iff_ne]; omega
    have HX := Lib.hid (show numB m n0 = 1 by rw [HF.out, if_pos (by unfold allWithinB; rw [Bool.and_eq_false_iff]; left; simp; omega)])
    clear hl hcl hc
    go_enter Try.func58, Try.ntmps58
    go_wp2
    go_ret
    exact ⟨ret_int HX.out.symm, hA⟩
  have hq : ((m.content.length : Int) != (n0 : Int)) = false := by rw [bne_eq_false_iff_eq]; omega
  have HW := Lib.hid (any_notwithin_end (l := m.content) (n := (n0 : Int)) (by omega))
  have hle : m.content.length ≤ n0 := by omega
  clear hl
  have hB : Blk ((w.alloc (.cells #[.slice a0 n0 cap0, v1, v2, v3, x4, x5, x6] 29)).alloc (.cells #[.string m.name, .int .i64 m.price, .int .i64 m.redox, .int .i64 m.least, .int .i64 m.most, .int .i64 m.step, .slice ac m.content.length kc] 68)) (w.heap.size + 1) #[.string m.name, .int .i64 m.price, .int .i64 m.redox, .int .i64 m.least, .int .i64 m.most, .int .i64 m.step, .slice ac m.content.length kc] 68 := by
    have := Blk.new (w.alloc (.cells #[.slice a0 n0 cap0, v1, v2, v3, x4, x5, x6] 29)) #[.string m.name, .int .i64 m.price, .int .i64 m.redox, .int .i64 m.least, .int .i64 m.most, .int .i64 m.step, .slice ac m.content.length kc] 68
    simpa using this
  go_enter Try.func58, Try.ntmps58
  go_wp2
  generalize (w.alloc (.cells #[.slice a0 n0 cap0, v1, v2, v3, x4, x5, x6] 29)).alloc (.cells #[.string m.name, .int .i64 m.price, .int .i64 m.redox, .int .i64 m.least, .int .i64 m.most, .int .i64 m.step, .slice ac m.content.length kc] 68) = W at *
  clear g1 g2 g3 g4 g5 g6 g7 g8 g9 g10 hq
  go_loopw [5, 6] (fun s i wr => ∃ (k : Nat) (x : Int), k ≤ m.content.length ∧ i = .int .i64 k ∧ s = .int .i64 x ∧ Hid (x = loS m.content k) ∧ (0 ≤ x ∧ x ≤ 1000 * k) ∧ Hid ((m.content.take k).any (fun s => !withinB s 0 1000) = false) ∧ Below W.heap.size W wr) (fun _ i _ => m.content.length - (intOf i).toNat)
  case atStart => exact ⟨0, 0, Nat.zero_le _, rfl, rfl, by simp [Hid, loS], ⟨by omega, by omega⟩, by simp [Hid], Below.refl _ _⟩
  case round =>
    obtain ⟨k, x, hk, rfl, rfl, hx, ⟨hx1, hx2⟩, hall, hb⟩ := hrel
    have hfinB := hA.trans (hb.mono hA.size)
    have hBr := hB.below hb hB.lt
    have c6 : wr.cell? ⟨w.heap.size + 1, 6, none⟩ = some (.slice ac m.content.length kc) := hBr.cell 6 _ rfl
    by_cases hlt : k < m.content.length
    · obtain ⟨b1, o1, rfl, q1, q2, -, -⟩ := hcl k hlt
      have hst := Lib.hid (any_take m.content (fun s => !withinB s 0 1000) k hlt hall.out)
      have hno := Lib.hid (any_of m.content (fun s => !withinB s 0 1000) k hlt)
      have hss := Lib.hid (loS_succ m.content k hlt)
      have hbl := cell_lt q1
      simp only at q1 q2 hbl
      replace q1 := ext_of_below hfinB _ _ q1
      replace q2 := ext_of_below hfinB _ _ q2
      clear hcl hc hall hA hB hBr hs
      generalize m.content[k] = s at *
      go_wp2_with fail
      refine (rwithin_any s 0 1000 _).mono ?_
      rintro e w1 ⟨rfl, hb1⟩
      have hb2 := hb.trans (hb1.mono hb.size)
      have hf2 := hfinB.trans (hb1.mono hfinB.size)
      have r6 := ext_of_below hb1 _ _ c6
      have r1 := ext_of_below hb1 _ _ q1
      clear c6 q1 q2 hb1
      cases hw : withinB s 0 1000 with
      | false =>
        have HX := Lib.hid (show numB m n0 = 1 by rw [HF.out, if_pos (by rw [HW.out, hno.out (by simp [hw])]; rfl)])
        clear hw
        go_wp2
        go_ret
        exact ⟨ret_int HX.out.symm, hf2⟩
      | true =>
        have hsl : 0 ≤ s.lo ∧ s.lo ≤ 1000 := by
          simp only [withinB, Bool.and_eq_true, decide_eq_true_eq] at hw
          omega
        obtain ⟨hs1, hs2⟩ := hsl
        have hst2 : Hid ((m.content.take (k + 1)).any (fun s => !withinB s 0 1000) = false) := by
          unfold Hid; rw [hst.out]; simp [hw]
        clear hw
        go_wp2
        go_roundw
        case rel => exact ⟨k + 1, x + s.lo, by omega, by go_num, rfl, by unfold Hid; rw [hss.out, hx.out], ⟨by omega, by omega⟩, hst2, hb2⟩
        case measure => simp [intOf]; omega
    · have hxe := Lib.hid (show x = loS m.content m.content.length by rw [hx.out, show k = m.content.length from by omega])
      have hwe := Lib.hid (show allWithinB m.content n0 0 1000 = true by
        have := hall.out
        rw [List.take_of_length_le (by omega)] at this
        rw [HW.out, this]; rfl)
      have hte := Lib.hid (show (tot m.content).lo = x by
        rw [hxe.out]
        unfold tot
        simp only
        have e : loS m.content m.content.length = (m.content.map Sp.lo).sum := by unfold loS; rw [List.take_length]
        rw [← e, ← hxe.out, wrap_id _ (by unfold I64; omega)])
      clear hx hall hcl hc hB
      by_cases h1 : 1000 < x
      · have HX := Lib.hid (show numB m n0 = 12 by rw [HF.out, if_neg (by rw [hwe.out]; decide), if_pos (by rw [hte.out]; exact h1)])
        go_wp2
        go_ret
        exact ⟨ret_int HX.out.symm, hfinB⟩
      · have HX := Lib.hid (show numB m n0 = 0 by rw [HF.out, if_neg (by rw [hwe.out]; decide), if_neg (by rw [hte.out]; exact h1)])
        go_wp2
        go_ret
        exact ⟨ret_int HX.out.symm, hfinB⟩

theorem any_notbetween_end {l : List Int} {n : Int} (h : (l.length : Int) = n) : allBetweenB l n (-10000) 10000 = !(l.any fun s => !betweenB s (-10000) 10000) := by
  unfold allBetweenB
  rw [h]
  simp

set_option maxHeartbeats 1000000 in
set_option maxRecDepth 100000 in
theorem rproperty_any (a0 : Option Addr) (n0 cap0 : Nat) (v1 v2 v3 x4 x5 x6 : Value) (m : Prp) (v : Value) (w : World) (h : VPrp w v m) (hn0 : n0 ≤ 140737488351232) :
    Calls Try.prog 60 #[.agg #[.slice a0 n0 cap0, v1, v2, v3, x4, x5, x6], v] w fun e w' => e = .returned (.int .i64 (prpB n0 m)) ∧ Below w.heap.size w w' := by
  obtain ⟨c, rfl, hc, hs⟩ := h
  obtain ⟨ac, kc, rfl, -, ⟨-, lc⟩, hcl⟩ := id hc
  have hA := below_two w (.cells #[.slice a0 n0 cap0, v1, v2, v3, x4, x5, x6] 29) (.cells #[.string m.name, .slice ac m.coefs.length kc, .int .i64 m.target.lo, .int .i64 m.target.hi] 70)
  by_cases hl : m.coefs.length = n0
  case neg =>
    have hq : ((m.coefs.length : Int) != (n0 : Int)) = true := by rw [bne_iff_ne]; omega
    have HX := Lib.hid (show prpB n0 m = 1 by unfold prpB; rw [if_pos (by rw [Bool.and_eq_false_iff]; left; unfold allBetweenB; rw [Bool.and_eq_false_iff]; left; simp; omega)])
    clear hl hcl hc
    go_enter Try.func60, Try.ntmps60
    go_wp2
    go_ret
    exact ⟨ret_int HX.out.symm, hA⟩
  have hq : ((m.coefs.length : Int) != (n0 : Int)) = false := by rw [bne_eq_false_iff_eq]; omega
  have HW := Lib.hid (any_notbetween_end (l := m.coefs) (n := (n0 : Int)) (by omega))
  have hle : m.coefs.length ≤ n0 := by omega
  clear hl
  have hB : Blk ((w.alloc (.cells #[.slice a0 n0 cap0, v1, v2, v3, x4, x5, x6] 29)).alloc (.cells #[.string m.name, .slice ac m.coefs.length kc, .int .i64 m.target.lo, .int .i64 m.target.hi] 70)) (w.heap.size + 1) #[.string m.name, .slice ac m.coefs.length kc, .int .i64 m.target.lo, .int .i64 m.target.hi] 70 := by
    have := Blk.new (w.alloc (.cells #[.slice a0 n0 cap0, v1, v2, v3, x4, x5, x6] 29)) #[.string m.name, .slice ac m.coefs.length kc, .int .i64 m.target.lo, .int .i64 m.target.hi] 70
    simpa using this
  have c1 := hB.cell 1 (.slice ac m.coefs.length kc) rfl
  have c2 := hB.cell 2 (.int .i64 m.target.lo) rfl
  have c3 := hB.cell 3 (.int .i64 m.target.hi) rfl
  go_enter Try.func60, Try.ntmps60
  go_wp2
  generalize (w.alloc (.cells #[.slice a0 n0 cap0, v1, v2, v3, x4, x5, x6] 29)).alloc (.cells #[.string m.name, .slice ac m.coefs.length kc, .int .i64 m.target.lo, .int .i64 m.target.hi] 70) = W at *
  clear hq
  go_loop [5] (fun i => ∃ (k : Nat), k ≤ m.coefs.length ∧ i = .int .i64 k ∧ Hid ((m.coefs.take k).any (fun s => !betweenB s (-10000) 10000) = false)) (fun i => m.coefs.length - (intOf i).toNat)
  case atStart => exact ⟨0, Nat.zero_le _, rfl, by simp [Hid]⟩
  case round =>
    obtain ⟨k, hk, rfl, hall⟩ := hrel
    by_cases hlt : k < m.coefs.length
    · obtain ⟨b1, o1, rfl, q1, -⟩ := hcl k hlt
      have hst := Lib.hid (any_take m.coefs (fun s => !betweenB s (-10000) 10000) k hlt hall.out)
      have hno := Lib.hid (any_of m.coefs (fun s => !betweenB s (-10000) 10000) k hlt)
      have hbl := cell_lt q1
      simp only [Nat.mul_one] at q1 hbl
      replace q1 := ext_of_below hA _ _ q1
      clear hcl hc hall hs hB
      generalize m.coefs[k] = s at *
      by_cases hw : -10000 ≤ s ∧ s ≤ 10000
      · have hst2 : Hid ((m.coefs.take (k + 1)).any (fun s => !betweenB s (-10000) 10000) = false) := by
          unfold Hid; rw [hst.out]; simp [betweenB, hw.1, hw.2]
        obtain ⟨hw1, hw2⟩ := hw
        go_wp2
        go_round
        case rel => exact ⟨k + 1, by omega, by go_num, hst2⟩
        case measure => simp [intOf]; omega
      · have HX := Lib.hid (show prpB n0 m = 1 by
          unfold prpB
          rw [if_pos (by rw [Bool.and_eq_false_iff]; left; rw [HW.out, hno.out (by simp [betweenB]; omega)]; rfl)])
        have HB := Lib.hid hw
        clear hw
        go_wp2
        all_goals first
          | (go_ret; exact ⟨ret_int HX.out.symm, hA⟩)
          | (exfalso; have := HB.out; omega)
    · have hwe := Lib.hid (show allBetweenB m.coefs n0 (-10000) 10000 = true by
        have := hall.out
        rw [List.take_of_length_le (by omega)] at this
        rw [HW.out, this]; rfl)
      clear hall hcl hc hB
      go_wp2_with fail
      refine (rwithin_any m.target (-10000) 10000 _).mono ?_
      rintro e w1 ⟨rfl, hb1⟩
      have hf2 := hA.trans (hb1.mono hA.size)
      cases hw : withinB m.target (-10000) 10000 with
      | false =>
        have HX := Lib.hid (show prpB n0 m = 1 by unfold prpB; rw [hwe.out, hw]; rfl)
        clear hw
        go_wp2
        go_ret
        exact ⟨ret_int HX.out.symm, hf2⟩
      | true =>
        have HX := Lib.hid (show prpB n0 m = 0 by unfold prpB; rw [hwe.out, hw]; rfl)
        clear hw
        go_wp2
        go_ret
        exact ⟨ret_int HX.out.symm, hf2⟩

end Go.Proofs.Ytpkggjfaefkiiaa
