/- tooMany and the specification's Choices, by their contracts; no statement is proved here. -/
import Derived.Test.YtpkggjfaefkiiaaStep
import Derived.Test.YtpkggjfaefkiiaaProv1
import Derived.Test.YtpkggjfaefkiiaaRCheck
import Derived.Test.YtpkggjfaefkiiaaGreat
namespace Go.Proofs.Ytpkggjfaefkiiaa
open Go.RowKit Go.PlainAid
set_option linter.unusedVariables false

/-- how many recipes the first k materials allow. -/
def cntTo (b : Bat) (k : Nat) : Int := ((b.mats.take k).map fun m => stepsE m + 1).foldl (· * ·) 1
theorem cntTo_succ (b : Bat) (k : Nat) (h : k < b.mats.length) : cntTo b (k + 1) = cntTo b k * (stepsE b.mats[k] + 1) := by
  unfold cntTo
  rw [List.take_succ_eq_append_getElem h, List.map_append, List.map_singleton, List.foldl_append]
  rfl
def cntB (b : Bat) : Int := cntTo b b.mats.length
theorem cnt_pos {b : Bat} (hk : OkB b) : ∀ k, k ≤ b.mats.length → 1 ≤ cntTo b k := by
  intro k
  induction k with
  | zero => intro _; simp [cntTo]
  | succ k ih =>
    intro h
    have h1 := ih (by omega)
    have h2 := (most_ok (hk.mats _ (List.getElem_mem (show k < b.mats.length by omega)))).1
    rw [cntTo_succ b k (by omega)]
    have := Int.mul_le_mul_of_nonneg_left (show 1 ≤ stepsE (b.mats[k]) + 1 by omega) (show 0 ≤ cntTo b k by omega)
    omega
theorem cnt_mono {b : Bat} (hk : OkB b) (k : Nat) : ∀ j, k ≤ j → j ≤ b.mats.length → cntTo b k ≤ cntTo b j := by
  intro j hkj
  induction j with
  | zero => intro _; rw [show k = 0 by omega]; exact Int.le_refl _
  | succ j ih =>
    intro h
    by_cases e : k = j + 1
    · rw [e]; exact Int.le_refl _
    · have h1 := ih (by omega) (by omega)
      have h0 := cnt_pos hk j (by omega)
      have h2 := (most_ok (hk.mats _ (List.getElem_mem (show j < b.mats.length by omega)))).1
      rw [cntTo_succ b j (by omega)]
      have := Int.mul_le_mul_of_nonneg_left (show 1 ≤ stepsE (b.mats[j]) + 1 by omega) (show 0 ≤ cntTo b j by omega)
      omega

theorem cnt_prod {n c : Int} (hn : 1 ≤ n ∧ n ≤ 100000) (hc : 1 ≤ c ∧ c ≤ 10001) : 1 ≤ n * c ∧ n * c ≤ 1000100000 := by
  have h1 : n * c ≤ 100000 * c := Int.mul_le_mul_of_nonneg_right hn.2 (by omega)
  have h2 : 1 * c ≤ n * c := Int.mul_le_mul_of_nonneg_right hn.1 (by omega)
  omega

set_option maxRecDepth 100000 in
theorem tooMany_any (vb : Value) (b : Bat) (w : World) (h : RBat w vb b) (hk : OkB b) :
    Calls Try.prog 83 #[vb] w fun e w' => e = .returned (.bool (decide (100000 < cntB b))) ∧ Below w.heap.size w w' := by
  obtain ⟨v0, v1, v2, v3, rfl, h0, h1, h2, h3, i1, i2, i3⟩ := id h
  obtain ⟨a0, k0, rfl, -, ⟨-, l0⟩, -⟩ := h0
  obtain ⟨a1, k1, rfl, -, ⟨-, l1⟩, hl⟩ := id h1
  obtain ⟨a2, k2, rfl, -, ⟨-, l2⟩, -⟩ := h2
  obtain ⟨a3, k3, rfl, -, ⟨-, l3⟩, -⟩ := h3
  clear h1 h
  have hA := below_box w (.cells #[.slice a0 b.oxides.length k0, .slice a1 b.mats.length k1, .slice a2 b.shares.length k2, .slice a3 b.props.length k3, .int .i64 b.redox.lo, .int .i64 b.redox.hi, .int .i64 b.wanted] 29)
  have hB := Blk.new w #[.slice a0 b.oxides.length k0, .slice a1 b.mats.length k1, .slice a2 b.shares.length k2, .slice a3 b.props.length k3, .int .i64 b.redox.lo, .int .i64 b.redox.hi, .int .i64 b.wanted] 29
  go_enter Try.func83, Try.ntmps83
  have f1 := hB.cell 1 _ rfl
  go_wp2
  generalize w.alloc (.cells #[.slice a0 b.oxides.length k0, .slice a1 b.mats.length k1, .slice a2 b.shares.length k2, .slice a3 b.props.length k3, .int .i64 b.redox.lo, .int .i64 b.redox.hi, .int .i64 b.wanted] 29) = W at *
  clear f1
  go_loopw [3, 9] (fun v i wr => ∃ (k : Nat), k ≤ b.mats.length ∧ i = .int .i64 k ∧ v = .int .i64 (cntTo b k) ∧ Hid (cntTo b k ≤ 100000) ∧ Below W.heap.size W wr) (fun _ i _ => b.mats.length - (intOf i).toNat)
  case atStart => exact ⟨0, Nat.zero_le _, rfl, by simp [cntTo], (show cntTo b 0 ≤ 100000 by simp [cntTo]), Below.refl _ _⟩
  case round =>
    obtain ⟨k, hkk, rfl, rfl, hc, hb⟩ := hrel
    have hAw := hA.trans (hb.mono hA.size)
    by_cases hlt : k < b.mats.length
    · obtain ⟨b1, o1, rfl, c, ⟨g0, g1, g2, g3, g4, g5, g6⟩, hcs, hs⟩ := hl k hlt
      obtain ⟨ac, kc, rfl, -, -, -⟩ := id hcs
      have hmo := hk.mats _ (List.getElem_mem hlt)
      have hst := (most_ok hmo).1
      have hsc := cntTo_succ b k hlt
      have hp := cnt_pos hk k hkk
      have hmn := cnt_mono hk (k + 1) b.mats.length (by omega) (Nat.le_refl _)
      have e1 := ext_of_below hAw
      simp only at g0 g1 g2 g3 g4 g5 g6
      replace g0 := e1 _ _ g0
      replace g1 := e1 _ _ g1
      replace g2 := e1 _ _ g2
      replace g3 := e1 _ _ g3
      replace g4 := e1 _ _ g4
      replace g5 := e1 _ _ g5
      replace g6 := e1 _ _ g6
      replace hcs := hcs.mono e1
      have f1 := (hB.below hb hB.lt).cell 1 _ rfl
      have HSC := Lib.hid hsc
      have hc2 := hc.out
      have hpr := cnt_prod (n := cntTo b k) (c := stepsE (b.mats[k]) + 1) ⟨hp, hc2⟩ (by omega)
      rw [hsc] at hmn
      clear hl e1 hsc
      generalize b.mats[k]'hlt = m at *
      generalize cntTo b k = n at *
      have hstp := fun V (hV : VMat V (.agg #[.string m.name, .int .i64 m.price, .int .i64 m.redox, .int .i64 m.least, .int .i64 m.most, .int .i64 m.step, .slice ac m.content.length kc]) m) => steps_any (.agg #[.string m.name, .int .i64 m.price, .int .i64 m.redox, .int .i64 m.least, .int .i64 m.most, .int .i64 m.step, .slice ac m.content.length kc]) m V hV _ hmo
      have hX := below_box wr (.cells #[.string m.name, .int .i64 m.price, .int .i64 m.redox, .int .i64 m.least, .int .i64 m.most, .int .i64 m.step, .slice ac m.content.length kc] 68)
      have BX := Blk.new wr #[.string m.name, .int .i64 m.price, .int .i64 m.redox, .int .i64 m.least, .int .i64 m.most, .int .i64 m.step, .slice ac m.content.length kc] 68
      have hVM : VMat (wr.alloc (.cells #[.string m.name, .int .i64 m.price, .int .i64 m.redox, .int .i64 m.least, .int .i64 m.most, .int .i64 m.step, .slice ac m.content.length kc] 68)) (.agg #[.string m.name, .int .i64 m.price, .int .i64 m.redox, .int .i64 m.least, .int .i64 m.most, .int .i64 m.step, .slice ac m.content.length kc]) m := ⟨_, rfl, hcs.mono (ext_of_below hX), hs⟩
      have hbX := hb.trans (hX.mono hb.size)
      have x0 := BX.cell 0 _ rfl
      have x1 := BX.cell 1 _ rfl
      have x2 := BX.cell 2 _ rfl
      have x3 := BX.cell 3 _ rfl
      have x4 := BX.cell 4 _ rfl
      have x5 := BX.cell 5 _ rfl
      have x6 := BX.cell 6 _ rfl
      obtain ⟨p1, p2⟩ := hpr
      obtain ⟨s1, s2⟩ := hst
      clear hX BX hb hAw hcs
      go_wp2_with fail
      refine (hstp _ hVM).mono ?_
      rintro e w1 ⟨rfl, hb1⟩
      have hb2 := hbX.trans (hb1.mono hbX.size)
      have hfin := hA.trans (hb2.mono hA.size)
      clear x0 x1 x2 x3 x4 x5 x6 g0 g1 g2 g3 g4 g5 g6 f1 hbX hb1 hstp hVM hB hmo
      by_cases hgt : 100000 < n * (stepsE m + 1)
      · have hres : decide (100000 < cntB b) = true := decide_eq_true (by unfold cntB; omega)
        have HR := Lib.hid hres
        clear hres hmn
        go_wp2
        go_ret
        exact ⟨ret_bool HR.out.symm, hfin⟩
      · have hle : cntTo b (k + 1) ≤ 100000 := by rw [HSC.out]; omega
        have HL := Lib.hid hle
        have d1 : decide (100000 < n * (stepsE m + 1)) = false := decide_eq_false hgt
        clear hle hmn
        go_wp2
        go_roundw
        case rel => exact ⟨k + 1, by omega, by go_num, by rw [HSC.out], HL.out, hb2⟩
        case measure => simp [intOf]; omega
    · have hres : decide (100000 < cntB b) = false := decide_eq_false (by unfold cntB; have := hc.out; rw [show k = b.mats.length by omega] at this; omega)
      have HR := Lib.hid hres
      have dk : decide (k < b.mats.length) = false := decide_eq_false hlt
      clear hres hl hB hc
      go_wp2
      go_ret
      exact ⟨ret_bool HR.out.symm, hAw⟩

/-- what Choices tells: it stops counting beyond the limit. -/
def ChoiceIs (b : Bat) (n : Int) : Prop := (n ≤ 100000 → n = cntB b) ∧ (100000 < n ↔ 100000 < cntB b)
def RetCh (b : Bat) (w : World) (e : Ending) (w' : World) : Prop := ∃ n, e = .returned (.int .i64 n) ∧ ChoiceIs b n ∧ Below w.heap.size w w'

set_option maxRecDepth 100000 in
theorem choices_any (vb : Value) (b : Bat) (w : World) (h : RBat w vb b) (hk : OkB b) :
    Calls Try.prog 82 #[vb] w (RetCh b w) := by
  obtain ⟨v0, v1, v2, v3, rfl, h0, h1, h2, h3, i1, i2, i3⟩ := id h
  obtain ⟨a0, k0, rfl, -, ⟨-, l0⟩, -⟩ := h0
  obtain ⟨a1, k1, rfl, -, ⟨-, l1⟩, hl⟩ := id h1
  obtain ⟨a2, k2, rfl, -, ⟨-, l2⟩, -⟩ := h2
  obtain ⟨a3, k3, rfl, -, ⟨-, l3⟩, -⟩ := h3
  clear h1 h
  have hA := below_box w (.cells #[.slice a0 b.oxides.length k0, .slice a1 b.mats.length k1, .slice a2 b.shares.length k2, .slice a3 b.props.length k3, .int .i64 b.redox.lo, .int .i64 b.redox.hi, .int .i64 b.wanted] 29)
  have hB := Blk.new w #[.slice a0 b.oxides.length k0, .slice a1 b.mats.length k1, .slice a2 b.shares.length k2, .slice a3 b.props.length k3, .int .i64 b.redox.lo, .int .i64 b.redox.hi, .int .i64 b.wanted] 29
  go_enter Try.func82, Try.ntmps82
  go_wp2
  generalize w.alloc (.cells #[.slice a0 b.oxides.length k0, .slice a1 b.mats.length k1, .slice a2 b.shares.length k2, .slice a3 b.props.length k3, .int .i64 b.redox.lo, .int .i64 b.redox.hi, .int .i64 b.wanted] 29) = W at *
  go_loopw [3, 4] (fun v i wr => ∃ (k : Nat), k ≤ b.mats.length ∧ i = .int .i64 k ∧ v = .int .i64 (cntTo b k) ∧ Below W.heap.size W wr) (fun _ i _ => b.mats.length - (intOf i).toNat)
  case atStart => exact ⟨0, Nat.zero_le _, rfl, by simp [cntTo], Below.refl _ _⟩
  case round =>
    obtain ⟨k, hkk, rfl, rfl, hb⟩ := hrel
    have hAw := hA.trans (hb.mono hA.size)
    have f1 := (hB.below hb hB.lt).cell 1 _ rfl
    have hp := cnt_pos hk k hkk
    by_cases hlt : k < b.mats.length
    · have hmn := cnt_mono hk k b.mats.length (by omega) (Nat.le_refl _)
      by_cases hgt : 100000 < cntTo b k
      · have hch : ChoiceIs b (cntTo b k) := ⟨fun x => by omega, ⟨fun _ => by unfold cntB; omega, fun _ => hgt⟩⟩
        have d1 : decide (cntTo b k ≤ 100000) = false := decide_eq_false (by omega)
        clear hl hB hmn
        generalize cntTo b k = n at *
        go_wp2
        go_ret
        exact ⟨_, rfl, hch, hAw⟩
      obtain ⟨b1, o1, rfl, c, ⟨g0, g1, g2, g3, g4, g5, g6⟩, hcs, -⟩ := hl k hlt
      obtain ⟨ac, kc, rfl, -, -, -⟩ := hcs
      have hmo := hk.mats _ (List.getElem_mem hlt)
      have hst := (most_ok hmo).1
      have hsc := cntTo_succ b k hlt
      have hle := hmo.least
      have hmx := hmo.most
      have hsp := hmo.step
      have e1 := ext_of_below hAw
      simp only at g0 g1 g2 g3 g4 g5 g6
      replace g0 := e1 _ _ g0
      replace g1 := e1 _ _ g1
      replace g2 := e1 _ _ g2
      replace g3 := e1 _ _ g3
      replace g4 := e1 _ _ g4
      replace g5 := e1 _ _ g5
      replace g6 := e1 _ _ g6
      have HSC := Lib.hid hsc
      have hpr := cnt_prod (n := cntTo b k) (c := stepsE (b.mats[k]) + 1) ⟨hp, by omega⟩ (by omega)
      have hdv : (b.mats[k].most - b.mats[k].least) / b.mats[k].step = stepsE b.mats[k] := rfl
      have HDV := Lib.hid hdv
      have d1 : decide (cntTo b k ≤ 100000) = true := decide_eq_true (by omega)
      have hq : 0 ≤ (b.mats[k].most - b.mats[k].least) / b.mats[k].step ∧ (b.mats[k].most - b.mats[k].least) / b.mats[k].step ≤ 10000 := hst
      have hq2 : 1 ≤ cntTo b k * ((b.mats[k].most - b.mats[k].least) / b.mats[k].step + 1) ∧ cntTo b k * ((b.mats[k].most - b.mats[k].least) / b.mats[k].step + 1) ≤ 1000100000 := hpr
      have hbx := hb.trans ((below_box wr (.cells #[.string b.mats[k].name, .int .i64 b.mats[k].price, .int .i64 b.mats[k].redox, .int .i64 b.mats[k].least, .int .i64 b.mats[k].most, .int .i64 b.mats[k].step, .slice ac b.mats[k].content.length kc] 68)).mono hb.size)
      obtain ⟨q1, q2⟩ := hq
      obtain ⟨q3, q4⟩ := hq2
      clear hl e1 hsc hmo hst hpr hdv hB hAw hb hmn
      generalize b.mats[k]'hlt = m at *
      generalize cntTo b k = n at *
      have n0 : m.step ≠ 0 := by omega
      have n1 : 0 ≤ m.most - m.least := by omega
      go_wp2
      go_roundw
      case rel => exact ⟨k + 1, by omega, by go_num, by rw [HSC.out]; rfl, hbx⟩
      case measure => simp [intOf]; omega
    · have hch : ChoiceIs b (cntTo b k) := by rw [show k = b.mats.length by omega]; exact ⟨fun _ => rfl, Iff.rfl⟩
      have dk : decide (k < b.mats.length) = false := decide_eq_false hlt
      clear hl hB
      generalize cntTo b k = n at *
      go_wp2
      go_ret
      exact ⟨_, rfl, hch, hAw⟩

set_option maxRecDepth 100000 in
theorem many_any (vb : Value) (b : Bat) (w : World) (h : RBat w vb b) :
    Calls Try.prog 36 #[vb] w (SomeB w) := by
  obtain ⟨a0, k0, a1, k1, a2, k2, a3, k3, rfl⟩ := h.agg
  have hA := below_box w (.cells #[.slice a0 b.oxides.length k0, .slice a1 b.mats.length k1, .slice a2 b.shares.length k2, .slice a3 b.props.length k3, .int .i64 b.redox.lo, .int .i64 b.redox.hi, .int .i64 b.wanted] 29)
  have hB := Blk.new w #[.slice a0 b.oxides.length k0, .slice a1 b.mats.length k1, .slice a2 b.shares.length k2, .slice a3 b.props.length k3, .int .i64 b.redox.lo, .int .i64 b.redox.hi, .int .i64 b.wanted] 29
  go_enter Try.func36, Try.ntmps36
  go_wp2_with fail
  generalize w.alloc (.cells #[.slice a0 b.oxides.length k0, .slice a1 b.mats.length k1, .slice a2 b.shares.length k2, .slice a3 b.props.length k3, .int .i64 b.redox.lo, .int .i64 b.redox.hi, .int .i64 b.wanted] 29) = W at *
  refine (rcheck_any _ b _ (h.mono (ext_of_below hA))).mono ?_
  rintro e w1 ⟨rfl, hb⟩
  have hA1 := hA.trans (hb.mono hA.size)
  have hB1 := hB.below hb hB.lt
  clear hb hA hB
  by_cases e1 : checkB b = 0
  case neg =>
    have e1' : (checkB b != 0) = true := by simp [e1]
    clear hB1 e1
    go_wp2
    go_ret
    exact ⟨_, rfl, hA1⟩
  have e1' : (checkB b != 0) = false := by simp [e1]
  have hch := choices_any _ b w1 (h.mono (ext_of_below hA1)) (ok_of e1)
  have f0 := hB1.cell 0 _ rfl
  have f1 := hB1.cell 1 _ rfl
  have f2 := hB1.cell 2 _ rfl
  have f3 := hB1.cell 3 _ rfl
  have f4 := hB1.cell 4 _ rfl
  have f5 := hB1.cell 5 _ rfl
  have f6 := hB1.cell 6 _ rfl
  clear e1
  go_wp2_with fail
  refine hch.mono ?_
  rintro e w2 ⟨n, rfl, -, hb2⟩
  have hA2 := hA1.trans (hb2.mono hA1.size)
  clear hch f0 f1 f2 f3 f4 f5 f6 hB1 hb2
  by_cases hn : 3000 < n
  · have d1 : decide (3000 < n) = true := decide_eq_true hn
    go_wp2
    go_ret
    exact ⟨_, rfl, hA2⟩
  · have d1 : decide (3000 < n) = false := decide_eq_false hn
    go_wp2
    go_ret
    exact ⟨_, rfl, hA2⟩

end Go.Proofs.Ytpkggjfaefkiiaa
