/- The specification's own way to a recipe's error; lines over kilograms; no statement is proved here. -/
import Derived.Test.YtpkggjfaefkiiaaRAbove
import Derived.Deep.QuietTactic
import Derived.BigQuiet
namespace Go.Proofs.Ytpkggjfaefkiiaa
open Go.RowKit Go.PlainAid
set_option linter.unusedVariables false

theorem any_rec_end {l : List Int} {n : Int} (h : (l.length : Int) = n) : allBetweenB l n 0 10000 = !(l.any fun s => !betweenB s 0 10000) := by
  unfold allBetweenB
  rw [h]
  simp

set_option maxRecDepth 100000 in
theorem rrecipe_any (v rv : Value) (b : Bat) (r : List Int) (w : World) (h : RBat w v b) (hr : RInts w rv r) :
    Calls Try.prog 111 #[v, rv] w (RetN w (recB b r)) := by
  obtain ⟨a0, k0, a1, k1, a2, k2, a3, k3, rfl⟩ := h.agg
  obtain ⟨ar, kr, rfl, -, ⟨-, lr⟩, hrl⟩ := hr
  obtain ⟨w0, w1', w2', w3', e, -, q1, -⟩ := id h
  simp only [Value.agg.injEq, Array.mk.injEq, List.cons.injEq, and_true] at e
  obtain ⟨-, rfl, -⟩ := e
  obtain ⟨-, -, -, -, ⟨-, l1⟩, -⟩ := q1
  have hA := below_box w (.cells #[.slice a0 b.oxides.length k0, .slice a1 b.mats.length k1, .slice a2 b.shares.length k2, .slice a3 b.props.length k3, .int .i64 b.redox.lo, .int .i64 b.redox.hi, .int .i64 b.wanted] 29)
  have hB := Blk.new w #[.slice a0 b.oxides.length k0, .slice a1 b.mats.length k1, .slice a2 b.shares.length k2, .slice a3 b.props.length k3, .int .i64 b.redox.lo, .int .i64 b.redox.hi, .int .i64 b.wanted] 29
  have c1 : (w.alloc (.cells #[.slice a0 b.oxides.length k0, .slice a1 b.mats.length k1, .slice a2 b.shares.length k2, .slice a3 b.props.length k3, .int .i64 b.redox.lo, .int .i64 b.redox.hi, .int .i64 b.wanted] 29)).cell? ⟨w.heap.size, 1, none⟩ = some (.slice a1 b.mats.length k1) := hB.cell 1 _ rfl
  by_cases hl : r.length = b.mats.length
  case neg =>
    have HX := Lib.hid (show recB b r = 1 by unfold recB allBetweenB; rw [if_neg (by simp; omega)])
    have hq : ((r.length : Int) != (b.mats.length : Int)) = true := by rw [bne_iff_ne]; omega
    clear hl hrl h hB c1
    go_enter Try.func111, Try.ntmps111
    go_wp2
    go_ret
    exact ⟨ret_int HX.out.symm, hA⟩
  have hq : ((r.length : Int) != (b.mats.length : Int)) = false := by rw [bne_eq_false_iff_eq]; omega
  have HW := Lib.hid (any_rec_end (l := r) (n := (b.mats.length : Int)) (by omega))
  clear hl h
  go_enter Try.func111, Try.ntmps111
  go_wp2
  generalize w.alloc (.cells #[.slice a0 b.oxides.length k0, .slice a1 b.mats.length k1, .slice a2 b.shares.length k2, .slice a3 b.props.length k3, .int .i64 b.redox.lo, .int .i64 b.redox.hi, .int .i64 b.wanted] 29) = W at *
  clear hq c1 hB
  go_loop [5] (fun i => ∃ (k : Nat), k ≤ r.length ∧ i = .int .i64 k ∧ Hid ((r.take k).any (fun s => !betweenB s 0 10000) = false)) (fun i => r.length - (intOf i).toNat)
  case atStart => exact ⟨0, Nat.zero_le _, rfl, by simp [Hid]⟩
  case round =>
    obtain ⟨k, hk, rfl, hall⟩ := hrel
    by_cases hlt : k < r.length
    · obtain ⟨b1, o1, rfl, q1, -⟩ := hrl k hlt
      have hst := Lib.hid (any_take r (fun s => !betweenB s 0 10000) k hlt hall.out)
      have hno := Lib.hid (any_of r (fun s => !betweenB s 0 10000) k hlt)
      have hbl := cell_lt q1
      simp only [Nat.mul_one] at q1 hbl
      replace q1 := ext_of_below hA _ _ q1
      clear hrl hall
      generalize r[k] = s at *
      by_cases hw : 0 ≤ s ∧ s ≤ 10000
      · have hst2 : Hid ((r.take (k + 1)).any (fun s => !betweenB s 0 10000) = false) := by
          unfold Hid; rw [hst.out]; simp [betweenB, hw.1, hw.2]
        obtain ⟨hw1, hw2⟩ := hw
        go_wp2
        go_round
        case rel => exact ⟨k + 1, by omega, by go_num, hst2⟩
        case measure => simp [intOf]; omega
      · have HX := Lib.hid (show recB b r = 1 by
          unfold recB
          rw [if_neg (by rw [HW.out, hno.out (by simp [betweenB]; omega)]; decide)])
        have HB := Lib.hid hw
        clear hw
        go_wp2
        all_goals first
          | (go_ret; exact ⟨ret_int HX.out.symm, hA⟩)
          | (exfalso; have := HB.out; omega)
    · have HX := Lib.hid (show recB b r = 0 by
        have := hall.out
        rw [List.take_of_length_le (by omega)] at this
        unfold recB
        rw [if_pos (by rw [HW.out, this]; rfl)])
      clear hall hrl
      go_wp2
      go_ret
      exact ⟨ret_int HX.out.symm, hA⟩

set_option maxRecDepth 100000 in
theorem rasked_any (v rv : Value) (b : Bat) (r : List Int) (w : World) (h : RBat w v b) (hr : RInts w rv r) :
    Calls Try.prog 63 #[v, rv] w (RetN w (bothB b r)) := by
  obtain ⟨a0, k0, a1, k1, a2, k2, a3, k3, rfl⟩ := h.agg
  have hA := below_box w (.cells #[.slice a0 b.oxides.length k0, .slice a1 b.mats.length k1, .slice a2 b.shares.length k2, .slice a3 b.props.length k3, .int .i64 b.redox.lo, .int .i64 b.redox.hi, .int .i64 b.wanted] 29)
  have hB := Blk.new w #[.slice a0 b.oxides.length k0, .slice a1 b.mats.length k1, .slice a2 b.shares.length k2, .slice a3 b.props.length k3, .int .i64 b.redox.lo, .int .i64 b.redox.hi, .int .i64 b.wanted] 29
  go_enter Try.func63, Try.ntmps63
  go_wp2_with fail
  refine (rcheck_any _ b _ (h.mono (ext_of_below hA))).mono ?_
  rintro e w1 ⟨rfl, hb⟩
  have hA1 := hA.trans (hb.mono (by simp))
  have hB1 := hB.below hb (by simp)
  clear hb hA hB
  by_cases e1 : checkB b = 0
  case neg =>
    have e1' : (checkB b != 0) = true := by simp [e1]
    have hfin := Lib.hid (show bothB b r = checkB b by simp [bothB, e1])
    clear hB1 e1
    go_wp2
    go_ret
    exact ⟨ret_int hfin.out.symm, hA1⟩
  have e1' : (checkB b != 0) = false := by simp [e1]
  have hfin := Lib.hid (show bothB b r = recB b r by simp [bothB, e1])
  clear e1
  have c0 : w1.cell? ⟨w.heap.size, 0, none⟩ = some (.slice a0 b.oxides.length k0) := hB1.cell 0 _ rfl
  have c1 : w1.cell? ⟨w.heap.size, 1, none⟩ = some (.slice a1 b.mats.length k1) := hB1.cell 1 _ rfl
  have c2 : w1.cell? ⟨w.heap.size, 2, none⟩ = some (.slice a2 b.shares.length k2) := hB1.cell 2 _ rfl
  have c3 : w1.cell? ⟨w.heap.size, 3, none⟩ = some (.slice a3 b.props.length k3) := hB1.cell 3 _ rfl
  have c4 : w1.cell? ⟨w.heap.size, 4, none⟩ = some (.int .i64 b.redox.lo) := hB1.cell 4 _ rfl
  have c5 : w1.cell? ⟨w.heap.size, 5, none⟩ = some (.int .i64 b.redox.hi) := hB1.cell 5 _ rfl
  have c6 : w1.cell? ⟨w.heap.size, 6, none⟩ = some (.int .i64 b.wanted) := hB1.cell 6 _ rfl
  go_wp2_with fail
  refine (rrecipe_any _ rv b r _ (h.mono (ext_of_below hA1)) (hr.mono (ext_of_below hA1))).mono ?_
  rintro e w2 ⟨rfl, hb⟩
  have hA2 := hA1.trans (hb.mono hA1.size)
  clear hb c0 c1 c2 c3 c4 c5 c6 hB1 hA1
  go_wp2
  go_ret
  exact ⟨ret_int hfin.out.symm, hA2⟩

theorem dot_step2 (a b : List Int) (k : Nat) (x : Int) (hx : x = wrap64 (dotTo a b k)) : wrap64 (x + wrap64 (b.getD k 0 * a.getD k 0)) = wrap64 (dotTo a b (k + 1)) := by
  rw [Int.mul_comm]; exact dotTo_succ a b k x hx

set_option maxRecDepth 100000 in
theorem rtotal_any (l : Ln) (v rv : Value) (r : List Int) (w : World) (h : VLn w v l) (hr : RInts w rv r) (hl : l.fs.length = r.length) :
    Calls Try.prog 117 #[v, rv] w (RetN w (dotB l.fs r)) := by
  obtain ⟨c, rfl, hc, hi⟩ := h
  obtain ⟨ac, kc, rfl, -, ⟨-, mc⟩, hcl⟩ := hc
  obtain ⟨ar, kr, rfl, -, ⟨-, mr⟩, hrl⟩ := hr
  have hA := below_box w (.cells #[.slice ac l.fs.length kc, .int .i64 l.bound] 39)
  have hB := Blk.new w #[.slice ac l.fs.length kc, .int .i64 l.bound] 39
  have HL := Lib.hid hl
  have hl1 : r.length ≤ l.fs.length := by omega
  clear hl
  go_enter Try.func117, Try.ntmps117
  go_wp2
  generalize w.alloc (.cells #[.slice ac l.fs.length kc, .int .i64 l.bound] 39) = W at *
  go_loopw [5, 6] (fun n i wr => ∃ (k : Nat) (x : Int), k ≤ r.length ∧ i = .int .i64 k ∧ n = .int .i64 x ∧ Hid (x = wrap64 (dotTo l.fs r k)) ∧ Below W.heap.size W wr) (fun _ i _ => r.length - (intOf i).toNat)
  case atStart => exact ⟨0, 0, Nat.zero_le _, rfl, rfl, by simp [wrap64, Hid, dotTo], Below.refl _ _⟩
  case round =>
    obtain ⟨k, x, hk, rfl, rfl, hx, hb⟩ := hrel
    have hf := hA.trans (hb.mono hA.size)
    by_cases hlt : k < r.length
    · have hBr := hB.below hb hB.lt
      obtain ⟨b1, o1, rfl, g1, -⟩ := hcl k (by omega)
      obtain ⟨b2, o2, rfl, g2, -⟩ := hrl k hlt
      have hst := dot_step2 l.fs r k x hx.out
      rw [show l.fs.getD k 0 = l.fs[k]'(by omega) by simp [List.getD, List.getElem?_eq_getElem (show k < l.fs.length by omega)], show r.getD k 0 = r[k]'hlt by simp [List.getD, List.getElem?_eq_getElem hlt]] at hst
      have HS := Lib.hid hst
      have hl1 := cell_lt g1
      have hl2 := cell_lt g2
      simp only [Nat.mul_one] at g1 g2 hl1 hl2
      replace g1 := ext_of_below hf _ _ g1
      replace g2 := ext_of_below hf _ _ g2
      have c0 : wr.cell? ⟨w.heap.size, 0, none⟩ = some (.slice (some ⟨b1, o1, none⟩) l.fs.length kc) := hBr.cell 0 _ rfl
      have j1 : (0 : Int) ≤ (k : Int) := Int.natCast_nonneg _
      have j2 : (k : Int) < (r.length : Int) := by omega
      have j3 : (k : Int) < (l.fs.length : Int) := by omega
      clear hcl hrl hst hx hBr hB
      generalize l.fs[k]'(by omega) = y at *
      generalize r[k] = z at *
      go_wp2_with fail
      go_quiet (fail)
      go_wp2
      go_roundw
      case rel => exact ⟨k + 1, _, by omega, by go_num, rfl, HS, grown_drewN hb⟩
      case measure => simp [intOf]; omega
    · have hxx := hx.out
      rw [show k = l.fs.length from by have := HL.out; omega] at hxx
      have HX := Lib.hid hxx
      clear hx hxx hcl hrl
      go_wp2
      go_ret
      exact ⟨ret_int HX.out, hf⟩

/-- so many times as great: the bounds. -/
def keepsB (l : List Ln) (r : List Int) (t : Int) : Bool := !(l.any fun x => decide (wrap64 (t * x.bound) < dotB x.fs r))

set_option maxRecDepth 100000 in
theorem rkeeps_any (vl rv : Value) (l : List Ln) (r : List Int) (t : Int) (w : World) (h : RLns w vl l) (hr : RInts w rv r) (hl : ∀ x ∈ l, x.fs.length = r.length) :
    Calls Try.prog 78 #[vl, rv, .int .i64 t] w fun e w' => e = .returned (.bool (keepsB l r t)) ∧ Below w.heap.size w w' := by
  obtain ⟨al, kl, rfl, -, ⟨-, ml⟩, hll⟩ := h
  obtain ⟨ar, kr, rfl, -, -, -⟩ := id hr
  go_enter Try.func78, Try.ntmps78
  go_wp2
  go_loopw [7] (fun i wr => ∃ (k : Nat), k ≤ l.length ∧ i = .int .i64 k ∧ Hid ((l.take k).any (fun x => decide (wrap64 (t * x.bound) < dotB x.fs r)) = false) ∧ Below w.heap.size w wr) (fun i _ => l.length - (intOf i).toNat)
  case atStart => exact ⟨0, Nat.zero_le _, rfl, by simp [Hid], Below.refl _ _⟩
  case round =>
    obtain ⟨k, hk, rfl, hall, hb⟩ := hrel
    by_cases hlt : k < l.length
    · obtain ⟨b1, o1, rfl, c, u, g0, g1, hc, rfl, hi⟩ := hll k hlt
      obtain ⟨ac, kc, rfl, -, -, -⟩ := id hc
      have hst := Lib.hid (any_take l (fun x => decide (wrap64 (t * x.bound) < dotB x.fs r)) k hlt hall.out)
      have hno := Lib.hid (any_of l (fun x => decide (wrap64 (t * x.bound) < dotB x.fs r)) k hlt)
      have hlk := Lib.hid (hl _ (List.getElem_mem hlt))
      have hbl := cell_lt g0
      simp only at g0 g1 hbl
      replace g0 := ext_of_below hb _ _ g0
      replace g1 := ext_of_below hb _ _ g1
      have hcr := hc.mono (ext_of_below hb)
      have hrr := hr.mono (ext_of_below hb)
      have j1 : (0 : Int) ≤ (k : Int) := Int.natCast_nonneg _
      have j2 : (k : Int) < (l.length : Int) := by omega
      clear hll hall hl hc hr
      generalize l[k] = x at *
      have htot := rtotal_any x (.agg #[.slice ac x.fs.length kc, .int .i64 x.bound]) (.slice ar r.length kr) r wr.drew ⟨_, rfl, hcr.mono (ext_of_below (Below.refl _ _).drew), hi⟩ (hrr.mono (ext_of_below (Below.refl _ _).drew)) hlk.out
      have hI : Below wr.heap.size wr wr.drew := (Below.refl _ _).drew
      have e1 : IntKind.i64.wrap (t * x.bound) = wrap64 (t * x.bound) := i64_is _
      go_wp2_with fail
      generalize wrap64 (t * x.bound) = tb at *
      generalize dotB x.fs r = d at *
      by_cases hlt2 : tb < d
      all_goals
        go_region_held3 (fun w' => w'.cell? ⟨b1, o1 + k * 2, none⟩ = some (.slice ac x.fs.length kc) ∧ w'.cell? ⟨b1, o1 + k * 2 + 1, none⟩ = some (.int .i64 x.bound) ∧ Below wr.heap.size wr w')
          (first | go_keep | (exact ⟨keepCell (by assumption) (by assumption), keepCell (by assumption) (by assumption), keepBelow (by assumption) (by assumption)⟩))
          (first
          | (go_at_call 117; refine htot.mono ?_; rintro e wA ⟨rfl, hbA⟩))
        have hbF := hb.trans (((Below.refl wr.heap.size wr).drew.trans (hbA.mono (Nat.le_refl _))).mono hb.size)
      · have HX := Lib.hid (show keepsB l r t = false by unfold keepsB; rw [hno.out (by simp [hlt2])]; rfl)
        go_wp2
        go_ret
        exact ⟨ret_bool HX.out.symm, hbF⟩
      · have hst2 := Lib.hid (show (l.take (k + 1)).any (fun x => decide (wrap64 (t * x.bound) < dotB x.fs r)) = false by rw [hst.out]; simp [hlt2])
        go_wp2
        go_roundw
        case rel => exact ⟨k + 1, by omega, by go_num, hst2, hbF⟩
        case measure => simp [intOf]; omega
    · have HX := Lib.hid (show keepsB l r t = true by
        have := hall.out
        rw [List.take_of_length_le (by omega)] at this
        unfold keepsB
        rw [this]; rfl)
      clear hall hll
      go_wp2
      go_ret
      exact ⟨ret_bool HX.out.symm, hb⟩

end Go.Proofs.Ytpkggjfaefkiiaa
