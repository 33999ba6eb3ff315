/- Passes, Allowed and Cost, the program's and the specification's own; no statement is proved here. -/
import Derived.Test.YtpkggjfaefkiiaaRPub
import Derived.StillTailTactics
import Derived.Deep.QuietTactic
import Derived.BigQuiet
namespace Go.Proofs.Ytpkggjfaefkiiaa
open Go.RowKit Go.PlainAid
set_option linter.unusedVariables false

theorem keeps_pass {b : Bat} (h : OkB b) (r : List Int) : keepsB (linesB b) r 1 = passB b r := by
  unfold keepsB passB
  congr 1
  have : ∀ l : List Ln, (∀ x ∈ l, I64 x.bound) → (l.any fun x => decide (wrap64 (1 * x.bound) < dotB x.fs r)) = l.any (brokenB r) := by
    intro l
    induction l with
    | nil => intro _; rfl
    | cons a l ih =>
      intro hl
      rw [List.any_cons, List.any_cons, ih fun x hx => hl x (List.mem_cons_of_mem _ hx), Int.one_mul, wrap_id _ (hl a List.mem_cons_self)]
      rfl
  exact this _ fun x hx => by have := line_bd h x hx; unfold I64; omega

set_option maxRecDepth 100000 in
theorem rpasses_any (v rv : Value) (b : Bat) (r : List Int) (w : World) (h : RBat w v b) (hr : RInts w rv r) :
    Calls Try.prog 31 #[v, rv] w (RetBE w (passesB b r)) := by
  obtain ⟨a0, k0, a1, k1, a2, k2, a3, k3, rfl⟩ := h.agg
  obtain ⟨ar, kr, rfl, -, -, -⟩ := id hr
  have hA := below_box w (.cells #[.slice a0 b.oxides.length k0, .slice a1 b.mats.length k1, .slice a2 b.shares.length k2, .slice a3 b.props.length k3, .int .i64 b.redox.lo, .int .i64 b.redox.hi, .int .i64 b.wanted] 29)
  have hB := Blk.new w #[.slice a0 b.oxides.length k0, .slice a1 b.mats.length k1, .slice a2 b.shares.length k2, .slice a3 b.props.length k3, .int .i64 b.redox.lo, .int .i64 b.redox.hi, .int .i64 b.wanted] 29
  go_enter Try.func31, Try.ntmps31
  go_wp2_with fail
  refine (rasked_any _ _ b r _ (h.mono (ext_of_below hA)) (hr.mono (ext_of_below hA))).mono ?_
  rintro e w1 ⟨rfl, hb⟩
  have hA1 := hA.trans (hb.mono (by simp))
  have hB1 := hB.below hb (by simp)
  clear hb hA hB
  by_cases e1 : bothB b r = 0
  case neg =>
    have e1' : (bothB b r != 0) = true := by simp [e1]
    have hfin := Lib.hid (show passesB b r = (false, bothB b r) by simp [passesB, e1])
    clear hB1 e1
    go_wp2
    go_ret2
    unfold RetBE
    rw [hfin.out]
    exact ⟨rfl, hA1⟩
  have e1' : (bothB b r != 0) = false := by simp [e1]
  obtain ⟨g1, g2, g3⟩ := rec_len e1
  have hok := ok_of g1
  have hfin := Lib.hid (show passesB b r = (passB b r, 0) by simp [passesB, e1])
  have c0 : w1.cell? ⟨w.heap.size, 0, none⟩ = some (.slice a0 b.oxides.length k0) := hB1.cell 0 _ rfl
  have c1 : w1.cell? ⟨w.heap.size, 1, none⟩ = some (.slice a1 b.mats.length k1) := hB1.cell 1 _ rfl
  have c2 : w1.cell? ⟨w.heap.size, 2, none⟩ = some (.slice a2 b.shares.length k2) := hB1.cell 2 _ rfl
  have c3 : w1.cell? ⟨w.heap.size, 3, none⟩ = some (.slice a3 b.props.length k3) := hB1.cell 3 _ rfl
  have c4 : w1.cell? ⟨w.heap.size, 4, none⟩ = some (.int .i64 b.redox.lo) := hB1.cell 4 _ rfl
  have c5 : w1.cell? ⟨w.heap.size, 5, none⟩ = some (.int .i64 b.redox.hi) := hB1.cell 5 _ rfl
  have c6 : w1.cell? ⟨w.heap.size, 6, none⟩ = some (.int .i64 b.wanted) := hB1.cell 6 _ rfl
  have hKP := Lib.hid (keeps_pass hok r)
  have G2 := Lib.hid g2
  clear e1 g1 g2 g3
  go_wp2_with fail
  refine (rlines_any _ b _ (h.mono (ext_of_below hA1)) hok).mono ?_
  rintro e w2 ⟨vl, rfl, hvl, hb2⟩
  have hA2 := hA1.trans (hb2.mono hA1.size)
  clear c0 c1 c2 c3 c4 c5 c6 hB1 hA1 hb2
  go_wp2_with fail
  refine (rkeeps_any _ _ (linesB b) r 1 _ hvl (hr.mono (ext_of_below hA2)) (fun x hx => by rw [line_len hx, G2.out])).mono ?_
  rintro e w3 ⟨rfl, hb3⟩
  have hA3 := hA2.trans (hb3.mono hA2.size)
  rw [hKP.out]
  clear hb3 hA2 hvl
  go_wp2
  go_ret2
  unfold RetBE
  rw [hfin.out]
  exact ⟨rfl, hA3⟩

/-- whether the kilograms of a material are allowed. -/
def alB (m : Mat) (x : Int) : Bool := decide (m.least ≤ x) && decide (x ≤ m.most) && decide ((x - m.least) % m.step = 0)

theorem rallowed_m (m : Mat) (v : Value) (x : Int) (w : World) (h : VMat w v m) (n : Nat) (hm : MatOk m n) (hx : 0 ≤ x ∧ x ≤ 10000) :
    Calls Try.prog 79 #[v, .int .i64 x] w fun e w' => e = .returned (.bool (alB m x)) ∧ Below w.heap.size w w' := by
  obtain ⟨c, rfl, hc, -⟩ := h
  obtain ⟨ac, kc, rfl, -, -, -⟩ := id hc
  obtain ⟨hl1, hl2⟩ := hm.least
  obtain ⟨hmo1, hmo2⟩ := hm.most
  obtain ⟨hs1, hs2⟩ := hm.step
  obtain ⟨hx1, hx2⟩ := hx
  have hA := below_box w (.cells #[.string m.name, .int .i64 m.price, .int .i64 m.redox, .int .i64 m.least, .int .i64 m.most, .int .i64 m.step, .slice ac m.content.length kc] 68)
  clear hc hm
  go_enter Try.func79, Try.ntmps79
  by_cases g1 : m.least ≤ x
  · by_cases g2 : x ≤ m.most
    · go_wp2
      go_ret
      refine ⟨ret_bool ?_, hA⟩
      unfold alB
      rw [decide_eq_true g1, decide_eq_true g2, Bool.eq_iff_iff]
      simp
    · have HX := Lib.hid (show alB m x = false by unfold alB; rw [decide_eq_false g2]; simp)
      go_wp2
      go_ret
      exact ⟨ret_bool HX.out.symm, hA⟩
  · have HX := Lib.hid (show alB m x = false by unfold alB; rw [decide_eq_false g1]; simp)
    go_wp2
    go_ret
    exact ⟨ret_bool HX.out.symm, hA⟩

/-- the first k materials allow what a recipe takes of them. -/
def alTo (b : Bat) (r : List Int) (k : Nat) : Bool := (List.range k).all fun i => match b.mats[i]? with | some m => alB m (r.getD i 0) | none => true
theorem alTo_succ (b : Bat) (r : List Int) (k : Nat) (m : Mat) (x : Int) (hm : b.mats[k]? = some m) (hx : r.getD k 0 = x) : alTo b r (k + 1) = (alTo b r k && alB m x) := by
  unfold alTo
  rw [List.range_succ, List.all_append, List.all_cons, List.all_nil, Bool.and_true, hm, hx]
theorem alTo_stop (b : Bat) (r : List Int) (k n : Nat) (h : alTo b r k = false) (hk : k ≤ n) : alTo b r n = false := by
  obtain ⟨d, rfl⟩ : ∃ d, n = k + d := ⟨n - k, by omega⟩
  unfold alTo at *
  rw [List.range_add, List.all_append, h, Bool.false_and]
def allowedB (b : Bat) (r : List Int) : Bool × Int := if bothB b r = 0 then (alTo b r b.mats.length, 0) else (false, bothB b r)

set_option maxHeartbeats 1000000 in
set_option maxRecDepth 100000 in
theorem rallowed_any (v rv : Value) (b : Bat) (r : List Int) (w : World) (h : RBat w v b) (hr : RInts w rv r) :
    Calls Try.prog 33 #[v, rv] w (RetBE w (allowedB b r)) := by
  obtain ⟨a0, k0, a1, k1, a2, k2, a3, k3, rfl⟩ := h.agg
  obtain ⟨ar, kr, rfl, -, -, -⟩ := id hr
  have hA := below_box w (.cells #[.slice a0 b.oxides.length k0, .slice a1 b.mats.length k1, .slice a2 b.shares.length k2, .slice a3 b.props.length k3, .int .i64 b.redox.lo, .int .i64 b.redox.hi, .int .i64 b.wanted] 29)
  have hB := Blk.new w #[.slice a0 b.oxides.length k0, .slice a1 b.mats.length k1, .slice a2 b.shares.length k2, .slice a3 b.props.length k3, .int .i64 b.redox.lo, .int .i64 b.redox.hi, .int .i64 b.wanted] 29
  go_enter Try.func33, Try.ntmps33
  go_wp2_with fail
  refine (rasked_any _ _ b r _ (h.mono (ext_of_below hA)) (hr.mono (ext_of_below hA))).mono ?_
  rintro e w1 ⟨rfl, hb⟩
  have hA1 := hA.trans (hb.mono (by simp))
  have hB1 := hB.below hb (by simp)
  clear hb hA hB
  by_cases e1 : bothB b r = 0
  case neg =>
    have e1' : (bothB b r != 0) = true := by simp [e1]
    have hfin := Lib.hid (show allowedB b r = (false, bothB b r) by simp [allowedB, e1])
    clear hB1 e1
    go_wp2
    go_ret2
    unfold RetBE
    rw [hfin.out]
    exact ⟨rfl, hA1⟩
  have e1' : (bothB b r != 0) = false := by simp [e1]
  obtain ⟨g1, g2, g3⟩ := rec_len e1
  have hok := ok_of g1
  have hfin := Lib.hid (show allowedB b r = (alTo b r b.mats.length, 0) by simp [allowedB, e1])
  have G2 := Lib.hid g2
  obtain ⟨w0, w1', w2', w3', e, -, q1, -⟩ := id h
  simp only [Value.agg.injEq, Array.mk.injEq, List.cons.injEq, and_true] at e
  obtain ⟨-, rfl, -⟩ := e
  obtain ⟨pm, km, em, -, ⟨-, l1⟩, hl1⟩ := q1
  simp only [Value.slice.injEq, true_and] at em
  obtain ⟨rfl, rfl⟩ := em
  obtain ⟨pr, kr2, er, -, ⟨-, lr⟩, hrl⟩ := id hr
  simp only [Value.slice.injEq, true_and] at er
  obtain ⟨rfl, rfl⟩ := er
  have hl2 : r.length ≤ b.mats.length := by omega
  have hms := hok.mats
  clear e1 g1 g2 h hok
  go_wp2_with fail
  go_loopw [7] (fun i wr => ∃ (k : Nat), k ≤ r.length ∧ i = .int .i64 k ∧ Hid (alTo b r k = true) ∧ Below w1.heap.size w1 wr) (fun i _ => r.length - (intOf i).toNat)
  case atStart => exact ⟨0, Nat.zero_le _, rfl, rfl, Below.refl _ _⟩
  case round =>
    obtain ⟨k, hk, rfl, hal, hb⟩ := hrel
    have hAr := hA1.trans (hb.mono hA1.size)
    by_cases hlt : k < r.length
    · have hBr := hB1.below hb hB1.lt
      obtain ⟨b1, o1, rfl, c, ⟨q0, q1, q2, q3, q4, q5, q6⟩, hc, hsm⟩ := hl1 k (by omega)
      obtain ⟨ac, kc, rfl, -, -, -⟩ := id hc
      obtain ⟨b2, o2, rfl, s1, -⟩ := hrl k hlt
      have hst := Lib.hid (alTo_succ b r k _ _ (List.getElem?_eq_getElem (show k < b.mats.length by omega)) (show r.getD k 0 = r[k]'hlt by simp [List.getD, List.getElem?_eq_getElem hlt]))
      have hmk := hms _ (List.getElem_mem (show k < b.mats.length by omega))
      have hxk := g3 _ (List.getElem_mem hlt)
      simp only at q0 q1 q2 q3 q4 q5 q6
      simp only [Nat.mul_one] at s1
      replace q0 := ext_of_below hAr _ _ q0
      replace q1 := ext_of_below hAr _ _ q1
      replace q2 := ext_of_below hAr _ _ q2
      replace q3 := ext_of_below hAr _ _ q3
      replace q4 := ext_of_below hAr _ _ q4
      replace q5 := ext_of_below hAr _ _ q5
      replace q6 := ext_of_below hAr _ _ q6
      replace s1 := ext_of_below hAr _ _ s1
      have f1 : wr.cell? ⟨w.heap.size, 1, none⟩ = some (.slice (some ⟨b1, o1, none⟩) b.mats.length k1) := hBr.cell 1 _ rfl
      have j1 : (0 : Int) ≤ (k : Int) := Int.natCast_nonneg _
      have j2 : (k : Int) < (r.length : Int) := by omega
      have j3 : (k : Int) < (b.mats.length : Int) := by omega
      have hlk := Lib.hid (show k + 1 ≤ b.mats.length by omega)
      clear hl1 hrl hms g3 hBr hB1 hr
      generalize b.mats[k]'(by omega) = m at *
      generalize r[k]'hlt = x at *
      have hV : VMat wr.drew (.agg #[.string m.name, .int .i64 m.price, .int .i64 m.redox, .int .i64 m.least, .int .i64 m.most, .int .i64 m.step, .slice ac m.content.length kc]) m := ⟨_, rfl, (hc.mono (ext_of_below hAr)).mono (ext_of_below (Below.refl wr.heap.size wr).drew), hsm⟩
      have hcal := rallowed_m m _ x _ hV _ hmk hxk
      clear hc hsm
      go_wp2_with fail
      refine wp_region_still_tail 9 (by kernel_rfl) (by kernel_rfl) ?_
      simp only [List.take_succ_cons, List.take_zero, List.drop_succ_cons, List.drop_zero]
      repeat still_step
      refine wpStill_nil ?_
      change wpList _ _ _ _ _ wr.drew
      go_wp2_with fail
      refine hcal.mono ?_
      rintro e w5 ⟨rfl, hb5⟩
      have hb6 := hb.drew.trans (hb5.mono hb.size)
      clear hcal hV q0 q1 q2 q3 q4 q5 q6 s1 f1 j1 j2 j3 hmk hxk
      cases ha : alB m x with
      | false =>
        have HX := Lib.hid (show allowedB b r = (false, 0) by rw [hfin.out, alTo_stop b r (k + 1) _ (by rw [hst.out, ha, Bool.and_false]) hlk.out])
        have hAF := hA1.trans (hb6.mono hA1.size)
        clear ha
        go_wp2
        go_ret2
        unfold RetBE
        rw [HX.out]
        exact ⟨rfl, hAF⟩
      | true =>
        have HX := Lib.hid (show alTo b r (k + 1) = true by rw [hst.out, ha, hal.out]; rfl)
        clear ha
        go_wp2
        go_roundw
        case rel => exact ⟨k + 1, by omega, by go_num, HX, hb6⟩
        case measure => simp [intOf]; omega
    · have HX := Lib.hid (show allowedB b r = (true, 0) by rw [hfin.out, ← G2.out, show r.length = k from by omega, hal.out])
      clear hl1 hrl hms g3 hal
      go_wp2
      go_ret2
      unfold RetBE
      rw [HX.out]
      exact ⟨rfl, hAr⟩

set_option maxHeartbeats 1000000 in
set_option maxRecDepth 100000 in
theorem ballowed_any (v rv : Value) (b : Bat) (r : List Int) (w : World) (h : RBat w v b) (hr : RInts w rv r) :
    Calls Try.prog 32 #[v, rv] w (RetBE w (allowedB b r)) := by
  obtain ⟨a0, k0, a1, k1, a2, k2, a3, k3, rfl⟩ := h.agg
  obtain ⟨ar, kr, rfl, -, -, -⟩ := id hr
  have hA := below_box w (.cells #[.slice a0 b.oxides.length k0, .slice a1 b.mats.length k1, .slice a2 b.shares.length k2, .slice a3 b.props.length k3, .int .i64 b.redox.lo, .int .i64 b.redox.hi, .int .i64 b.wanted] 29)
  have hB := Blk.new w #[.slice a0 b.oxides.length k0, .slice a1 b.mats.length k1, .slice a2 b.shares.length k2, .slice a3 b.props.length k3, .int .i64 b.redox.lo, .int .i64 b.redox.hi, .int .i64 b.wanted] 29
  go_enter Try.func32, Try.ntmps32
  go_wp2_with fail
  refine (checkBoth_any _ _ b r _ (h.mono (ext_of_below hA)) (hr.mono (ext_of_below hA))).mono ?_
  rintro e w1 ⟨rfl, hb⟩
  have hA1 := hA.trans (hb.mono (by simp))
  have hB1 := hB.below hb (by simp)
  clear hb hA hB
  by_cases e1 : bothB b r = 0
  case neg =>
    have e1' : (bothB b r != 0) = true := by simp [e1]
    have hfin := Lib.hid (show allowedB b r = (false, bothB b r) by simp [allowedB, e1])
    clear hB1 e1
    go_wp2
    go_ret2
    unfold RetBE
    rw [hfin.out]
    exact ⟨rfl, hA1⟩
  have e1' : (bothB b r != 0) = false := by simp [e1]
  obtain ⟨g1, g2, g3⟩ := rec_len e1
  have hok := ok_of g1
  have hfin := Lib.hid (show allowedB b r = (alTo b r b.mats.length, 0) by simp [allowedB, e1])
  have G2 := Lib.hid g2
  obtain ⟨w0, w1', w2', w3', e, -, q1, -⟩ := id h
  simp only [Value.agg.injEq, Array.mk.injEq, List.cons.injEq, and_true] at e
  obtain ⟨-, rfl, -⟩ := e
  obtain ⟨pm, km, em, -, ⟨-, l1⟩, hl1⟩ := q1
  simp only [Value.slice.injEq, true_and] at em
  obtain ⟨rfl, rfl⟩ := em
  obtain ⟨pr, kr2, er, -, ⟨-, lr⟩, hrl⟩ := id hr
  simp only [Value.slice.injEq, true_and] at er
  obtain ⟨rfl, rfl⟩ := er
  have hl2 : b.mats.length ≤ r.length := by omega
  have hms := hok.mats
  have f1 : w1.cell? ⟨w.heap.size, 1, none⟩ = some (.slice a1 b.mats.length k1) := hB1.cell 1 _ rfl
  clear e1 g1 g2 h hok
  go_wp2_with fail
  clear f1
  go_loopw [18] (fun i wr => ∃ (k : Nat), k ≤ b.mats.length ∧ i = .int .i64 k ∧ Hid (alTo b r k = true) ∧ Below w1.heap.size w1 wr) (fun i _ => b.mats.length - (intOf i).toNat)
  case atStart => exact ⟨0, Nat.zero_le _, rfl, rfl, Below.refl _ _⟩
  case round =>
    obtain ⟨k, hk, rfl, hal, hb⟩ := hrel
    have hAr := hA1.trans (hb.mono hA1.size)
    by_cases hlt : k < b.mats.length
    · obtain ⟨b1, o1, rfl, c, ⟨q0, q1, q2, q3, q4, q5, q6⟩, hc, hsm⟩ := hl1 k hlt
      obtain ⟨ac, kc, rfl, -, -, -⟩ := id hc
      obtain ⟨b2, o2, rfl, s1, -⟩ := hrl k (by omega)
      have hst := Lib.hid (alTo_succ b r k _ _ (List.getElem?_eq_getElem hlt) (show r.getD k 0 = r[k]'(by omega) by simp [List.getD, List.getElem?_eq_getElem (show k < r.length by omega)]))
      have hmk := hms _ (List.getElem_mem hlt)
      have hxk := g3 _ (List.getElem_mem (show k < r.length by omega))
      have hbl2 := cell_lt s1
      simp only at q0 q1 q2 q3 q4 q5 q6
      simp only [Nat.mul_one] at s1 hbl2
      replace q0 := ext_of_below hAr _ _ q0
      replace q1 := ext_of_below hAr _ _ q1
      replace q2 := ext_of_below hAr _ _ q2
      replace q3 := ext_of_below hAr _ _ q3
      replace q4 := ext_of_below hAr _ _ q4
      replace q5 := ext_of_below hAr _ _ q5
      replace q6 := ext_of_below hAr _ _ q6
      have hWm := hAr.size
      have j1 : (0 : Int) ≤ (k : Int) := Int.natCast_nonneg _
      have j2 : (k : Int) < (r.length : Int) := by omega
      have j3 : (k : Int) < (b.mats.length : Int) := by omega
      have hlk := Lib.hid (show k + 1 ≤ b.mats.length by omega)
      clear hl1 hrl hms g3 hB1 hr hc hsm
      generalize b.mats[k] = m at *
      generalize r[k]'(by omega) = x at *
      obtain ⟨ls1, ls2⟩ := hmk.least
      obtain ⟨mo1, mo2⟩ := hmk.most
      obtain ⟨sp1, sp2⟩ := hmk.step
      obtain ⟨hx1, hx2⟩ := hxk
      have hbm := below_box wr (.cells #[.string m.name, .int .i64 m.price, .int .i64 m.redox, .int .i64 m.least, .int .i64 m.most, .int .i64 m.step, .slice ac m.content.length kc] 68)
      have hbk := Blk.new wr #[.string m.name, .int .i64 m.price, .int .i64 m.redox, .int .i64 m.least, .int .i64 m.most, .int .i64 m.step, .slice ac m.content.length kc] 68
      have t1 := ext_of_below hbm _ _ (ext_of_below hAr _ _ s1)
      have t3 : (wr.alloc (.cells #[.string m.name, .int .i64 m.price, .int .i64 m.redox, .int .i64 m.least, .int .i64 m.most, .int .i64 m.step, .slice ac m.content.length kc] 68)).cell? ⟨wr.heap.size, 3, none⟩ = some (.int .i64 m.least) := hbk.cell 3 _ rfl
      have t4 : (wr.alloc (.cells #[.string m.name, .int .i64 m.price, .int .i64 m.redox, .int .i64 m.least, .int .i64 m.most, .int .i64 m.step, .slice ac m.content.length kc] 68)).cell? ⟨wr.heap.size, 4, none⟩ = some (.int .i64 m.most) := hbk.cell 4 _ rfl
      have t5 : (wr.alloc (.cells #[.string m.name, .int .i64 m.price, .int .i64 m.redox, .int .i64 m.least, .int .i64 m.most, .int .i64 m.step, .slice ac m.content.length kc] 68)).cell? ⟨wr.heap.size, 5, none⟩ = some (.int .i64 m.step) := hbk.cell 5 _ rfl
      have hb5 := hb.trans (hbm.mono hb.size)
      have hbet := fun w => (betweenN x m.least m.most w).mono fun e w' h => (⟨h.1, h.2.symm⟩ : _ ∧ w' = w)
      clear hmk hbk s1
      go_wp2_with fail
      clear q0 q1 q2 q3 q4 q5 q6
      generalize wr.alloc (.cells #[.string m.name, .int .i64 m.price, .int .i64 m.redox, .int .i64 m.least, .int .i64 m.most, .int .i64 m.step, .slice ac m.content.length kc] 68) = w5 at *
      cases hbt : betweenB x m.least m.most with
      | false =>
        rw [hbt] at hbet
        have HBT := Lib.hid hbet
        have HX := Lib.hid (show allowedB b r = (false, 0) by
          rw [hfin.out, alTo_stop b r (k + 1) _ (by
            rw [hst.out]
            have : alB m x = false := by
              unfold alB
              unfold betweenB at hbt
              rw [hbt, Bool.false_and]
            rw [this, Bool.and_false]) hlk.out])
        clear hbet hbt
        go_quiet ((go_at_call 55; exact Calls.quiet_of_same (HBT.out _)))
        have hAF := hA1.trans ((grown_drewN (n := nq) hb5).mono hA1.size)
        go_wp2
        go_ret2
        unfold RetBE
        rw [HX.out]
        exact ⟨rfl, hAF⟩
      | true =>
        rw [hbt] at hbet
        have HBT := Lib.hid hbet
        unfold betweenB at hbt
        simp only [Bool.and_eq_true, decide_eq_true_eq] at hbt
        obtain ⟨u1, u2⟩ := hbt
        have e1 : IntKind.i64.wrap (x - m.least) = x - m.least := IntWalk.i64_in _ (by omega)
        have e0 : (m.step == 0) = false := by rw [beq_eq_false_iff_ne]; omega
        have hmod := Int.tmod_eq_emod_of_nonneg (a := x - m.least) (b := m.step) (by omega)
        have hqa : Hid (alB m x = decide ((x - m.least) % m.step = 0)) := by unfold Hid alB; rw [decide_eq_true u1, decide_eq_true u2]; rfl
        generalize (x - m.least) % m.step = q at *
        clear hbet
        by_cases hq : q = 0
        · have hq' : (q != 0) = false := by simp [hq]
          have HX := Lib.hid (show alTo b r (k + 1) = true by rw [hst.out, hqa.out, hal.out]; simp [hq])
          clear hq
          go_quiet ((go_at_call 55; exact Calls.quiet_of_same (HBT.out _)))
          go_wp2
          go_roundw
          case rel => exact ⟨k + 1, by omega, by go_num, HX, grown_drewN hb5⟩
          case measure => simp [intOf]; omega
        · have hq' : (q != 0) = true := by simp [hq]
          have HX := Lib.hid (show allowedB b r = (false, 0) by
            rw [hfin.out, alTo_stop b r (k + 1) _ (by rw [hst.out, hqa.out]; simp [hq]) hlk.out])
          clear hq
          go_quiet ((go_at_call 55; exact Calls.quiet_of_same (HBT.out _)))
          have hAF := hA1.trans ((grown_drewN (n := nq) hb5).mono hA1.size)
          go_wp2
          go_ret2
          unfold RetBE
          rw [HX.out]
          exact ⟨rfl, hAF⟩
    · have HX := Lib.hid (show allowedB b r = (true, 0) by rw [hfin.out, show b.mats.length = k from by omega, hal.out])
      clear hl1 hrl hms g3 hal
      go_wp2
      go_ret2
      unfold RetBE
      rw [HX.out]
      exact ⟨rfl, hAr⟩

end Go.Proofs.Ytpkggjfaefkiiaa
