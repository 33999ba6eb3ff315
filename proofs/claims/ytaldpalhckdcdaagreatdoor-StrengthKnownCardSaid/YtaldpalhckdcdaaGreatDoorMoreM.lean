/- Stress by its contract; no statement is proved here. -/
import Derived.Test.YtaldpalhckdcdaaGreatDoorSt1
import Derived.Test.YtaldpalhckdcdaaGreatDoorSSame
import Derived.Test.YtaldpalhckdcdaaGreatDoorHolds
namespace Go.Proofs.YtaldpalhckdcdaaGreatDoor
open Go.RowKit Go.PlainAid
set_option linter.unusedVariables false
theorem isFn_stress1 : IsFn 22 := fun xs w => by kernel_rfl
/-- what Stress tells: the spans. -/
def strS (b : Bot) (ts : List Sp) (l : Ld) : List Sp := if wallS b ts l = 0 then strL b ts l else []

set_option maxHeartbeats 1000000 in
set_option maxRecDepth 100000 in
theorem stressP_any (vb vt : Value) (b : Bot) (ts : List Sp) (l : Ld) (w : World) (h : RBot w vb b) (ht : RSps w vt ts) (hC : Circ w) :
    Calls Tryz.prog 5 #[vb, vt, .agg #[.int .i64 l.press, .int .i64 l.force, .int .i64 l.speed, .int .i64 l.other]] w fun e w' => ∃ v, e = .returned (.tuple #[v, .int .i64 (wallS b ts l)]) ∧ RSps (vis (w.heap.size ≤ ·) w') v (strS b ts l) ∧ Below w.heap.size w w' := by
  have hmf : ∀ (fn : Fn) (first cap : Array Value) (w : World), (Instr.makeFunc fn first cap).run Tryz.prog w = .ok (.func fn first cap) w := fun _ _ _ _ => rfl
  have h0 := h
  have ht0 := ht
  obtain ⟨v0, rfl, hr, hI⟩ := h
  obtain ⟨a, cap, rfl, -, -, -⟩ := hr
  obtain ⟨ta, tc, rfl, -, -, -⟩ := ht
  have hA4 : Below w.heap.size w (((w.alloc (.cells #[.slice a b.rings.length cap, .int .i64 b.flaw, .int .i64 b.tough] 24)).alloc (.cells #[.slice ta ts.length tc] 28)).alloc (.cells #[.int .i64 l.press, .int .i64 l.force, .int .i64 l.speed, .int .i64 l.other] 33)) := (((below_boxS w _).alloc (by simp) _).alloc (by simp only [World.size_alloc]; omega) _)
  have hB0 := ((Blk.new w #[.slice a b.rings.length cap, .int .i64 b.flaw, .int .i64 b.tough] 24).alloc (.cells #[.slice ta ts.length tc] 28)).alloc (.cells #[.int .i64 l.press, .int .i64 l.force, .int .i64 l.speed, .int .i64 l.other] 33)
  have hB1 := (Blk.new (w.alloc (.cells #[.slice a b.rings.length cap, .int .i64 b.flaw, .int .i64 b.tough] 24)) #[.slice ta ts.length tc] 28).alloc (.cells #[.int .i64 l.press, .int .i64 l.force, .int .i64 l.speed, .int .i64 l.other] 33)
  have hB2 := Blk.new ((w.alloc (.cells #[.slice a b.rings.length cap, .int .i64 b.flaw, .int .i64 b.tough] 24)).alloc (.cells #[.slice ta ts.length tc] 28)) #[.int .i64 l.press, .int .i64 l.force, .int .i64 l.speed, .int .i64 l.other] 33
  simp only [World.size_alloc] at hB1 hB2
  go_enter Tryz.func5, Tryz.ntmps5
  go_wp2_with fail
  generalize ((w.alloc (.cells #[.slice a b.rings.length cap, .int .i64 b.flaw, .int .i64 b.tough] 24)).alloc (.cells #[.slice ta ts.length tc] 28)).alloc (.cells #[.int .i64 l.press, .int .i64 l.force, .int .i64 l.speed, .int .i64 l.other] 33) = W2 at *
  have hE := ext_of_below hA4
  have hsz := hA4.size
  refine (told_any 22 #[.pointer (some ⟨w.heap.size, 0, none⟩), .pointer (some ⟨w.heap.size + 1, 0, none⟩), .pointer (some ⟨w.heap.size + 1 + 1, 0, none⟩)] W2 (fun W v => wallS b ts l = 0 ∧ RSps W v (strL b ts l)) (fun n => n ≠ 0 ∧ n = wallS b ts l) isFn_stress1
    (fun _ _ ⟨_, a, c, h, _⟩ => ⟨a, _, c, h⟩) (fun _ _ _ e h => ⟨h.1, h.2.mono e⟩)
    (fun W hW => stress1_any a ta cap tc b ts l _ _ _ W ((h0.mono hE).mono (ext_of_below hW)) ((ht0.mono hE).mono (ext_of_below hW)) ((hC.mono hE).mono (ext_of_below hW)) (hB0.below hW hB0.lt) (hB1.below hW hB1.lt) (hB2.below hW hB2.lt))).mono ?_
  rintro e w' ⟨hb, (⟨v, rfl, hw0, hv⟩ | ⟨n, rfl, hn, hn2⟩)⟩
  · have HF := Lib.hid (hA4.trans (hb.mono hA4.size))
    have HV := Lib.hid (hv.mono (ext_vis_of (S := (W2.heap.size ≤ ·)) (T := (w.heap.size ≤ ·)) (Ext.refl w') (fun k _ h => Nat.le_trans hsz h)))
    have H0 := Lib.hid hw0
    clear hb hv hw0 hB0 hB1 hB2 hA4 hE h0 ht0
    go_wp2
    go_ret2
    exact ⟨v, by rw [H0.out]; rfl, by rw [strS, if_pos H0.out]; exact HV.out, HF.out⟩
  · have HF := Lib.hid (hA4.trans (hb.mono hA4.size))
    have HN := Lib.hid hn
    have H2 := Lib.hid hn2
    clear hb hn hn2 hB0 hB1 hB2 hA4 hE h0 ht0
    go_wp2
    go_ret2
    exact ⟨_, by rw [← H2.out]; rfl, by rw [strS, if_neg (by rw [← H2.out]; exact HN.out)]; exact rsps_nil _, HF.out⟩

end Go.Proofs.YtaldpalhckdcdaaGreatDoor

namespace Go.Proofs.YtaldpalhckdcdaaGreatDoor
open Go.RowKit Go.PlainAid
set_option linter.unusedVariables false
attribute [local go_sem] Oper.semAt_some
/-- what Holds answers. -/
def HoldsA (w : World) (b : Bot) (ts : List Sp) (l : Ld) (e : Ending) (w' : World) : Prop :=
  ∃ h br, e = .returned (.tuple #[.bool h, .bool br, .int .i64 (wallS b ts l)]) ∧ (wallS b ts l = 0 → (h = true ↔ HoldsB b ts l) ∧ (br = true ↔ BreaksB b ts l)) ∧ (wallS b ts l ≠ 0 → h = false ∧ br = false) ∧ Below w.heap.size w w'

/-- the last region: the results are read and laid again. -/
def Fin (W : World) (p3 p4 : Nat) (hh br : Bool) : Prop := Blk W p3 #[.bool hh] 4 ∧ Blk W p4 #[.bool br] 4

end Go.Proofs.YtaldpalhckdcdaaGreatDoor

namespace Go.Proofs.YtaldpalhckdcdaaGreatDoor
open Go.RowKit Go.PlainAid
set_option linter.unusedVariables false
theorem cdiv_ge {a d : Int} (hd : 1 ≤ d) : a ≤ (a + d - 1) / d * d := by
  have h := Int.lt_ediv_add_one_mul_self (a + d - 1) (show 0 < d by omega)
  rw [Int.add_mul, Int.one_mul] at h
  omega
theorem cdiv_nn {a d : Int} (ha : 0 ≤ a) (hd : 1 ≤ d) : 0 ≤ (a + d - 1) / d := Int.ediv_nonneg (by omega) (by omega)
theorem cdiv_le {a d m : Int} (hd : 1 ≤ d) (h : a ≤ m * d) : (a + d - 1) / d ≤ m := by
  have : (a + d - 1) / d < m + 1 := by
    rw [Int.ediv_lt_iff_lt_mul (by omega), Int.add_mul, Int.one_mul]
    omega
  omega
theorem cdiv_mono {a a' d d' : Int} (ha : 0 ≤ a) (h : a ≤ a') (hd : 1 ≤ d') (hdd : d' ≤ d) : (a + d - 1) / d ≤ (a' + d' - 1) / d' := by
  refine cdiv_le (by omega) ?_
  have h1 := cdiv_ge (a := a') hd
  have h2 := cdiv_nn (a := a') (by omega) hd
  have h3 := Int.mul_le_mul_of_nonneg_left hdd h2
  omega
theorem div_le_cdiv {a a' d d' : Int} (hd : 1 ≤ d) (hd' : 1 ≤ d') (h : a * d' ≤ a' * d) : a / d ≤ (a' + d' - 1) / d' := by
  have h1 := cdiv_ge (a := a') hd'
  generalize (a' + d' - 1) / d' = m at *
  have h2 : a * d' ≤ m * d * d' := by
    have h3 := Int.mul_le_mul_of_nonneg_right h1 (show 0 ≤ d by omega)
    have h4 : m * d' * d = m * d * d' := by rw [Int.mul_assoc, Int.mul_comm d' d, ← Int.mul_assoc]
    omega
  have h5 : a ≤ m * d := Int.le_of_mul_le_mul_right h2 (by omega)
  have h6 : a / d < m + 1 := by
    rw [Int.ediv_lt_iff_lt_mul (by omega), Int.add_mul, Int.one_mul]
    omega
  omega

structure LessL (m l : Ld) : Prop where
  press : 0 ≤ m.press ∧ m.press ≤ l.press
  force : 0 ≤ m.force ∧ m.force ≤ l.force
  speed : 0 ≤ m.speed ∧ m.speed ≤ l.speed
  other : 0 ≤ m.other ∧ m.other ≤ l.other

theorem mulN {a b : Int} (ha : 0 ≤ a) (hb : 0 ≤ b) : 0 ≤ a * b := Int.mul_nonneg ha hb
theorem mulL {a a' b : Int} (h : a ≤ a') (hb : 0 ≤ b) : a * b ≤ a' * b := Int.mul_le_mul_of_nonneg_right h hb
theorem mulR {a b b' : Int} (h : b ≤ b') (ha : 0 ≤ a) : a * b ≤ a * b' := Int.mul_le_mul_of_nonneg_left h ha

theorem strR_mono {r : Rg} {t t' : Sp} {l l' : Ld} (hr : OkR r) (ht : OkT t) (htt : t.lo ≤ t'.lo) (hl : LessL l' l) : (strR r t' l').hi ≤ (strR r t l).hi := by
  have h1 := hr.radius
  have h2 := hr.factor
  have h3 := hr.hit
  have h4 := ht.lo
  have h5 := hl.press
  have h6 := hl.force
  have h7 := hl.speed
  have h8 := hl.other
  have p1 : (pP r t' l').hi ≤ (pP r t l).hi := cdiv_mono (mulN (mulN h5.1 (by omega)) (by omega)) (mulL (mulL h5.2 (by omega)) (by omega)) (by omega) (by omega)
  have p2 : (pF r t' l').hi ≤ (pF r t l).hi := by
    have e1 : 1 ≤ r.radius.lo * t.lo := (mulP (A := 1000) (B := 2000) (by omega) (by have := ht.le; have := ht.hi; omega)).1
    have e2 : r.radius.lo * t.lo ≤ r.radius.lo * t'.lo := mulR htt (by omega)
    exact cdiv_mono (by omega) (by omega) (by omega) (by omega)
  have p3 : (pB r t' l').hi ≤ (pB r t l).hi := cdiv_mono (mulN (by omega) h7.1) (mulR h7.2 (by omega)) (by omega) htt
  have p4 : (pO r t' l').hi ≤ (pO r t l).hi := h8.2
  simp only [strR]
  omega

theorem strR_le {r : Rg} {t : Sp} {l : Ld} (hr : OkR r) (ht : OkT t) (hl : OkL l) : (strR r t l).lo ≤ (strR r t l).hi := by
  have h1 := hr.radius
  have h2 := hr.factor
  have h3 := hr.hit
  have h4 := ht.lo
  have h40 := ht.le
  have h41 := ht.hi
  have h5 := hl.press
  have h6 := hl.force
  have h7 := hl.speed
  have p1 : (pP r t l).lo ≤ (pP r t l).hi := by
    refine div_le_cdiv (by omega) (by omega) ?_
    have a1 : l.press * r.radius.lo ≤ l.press * r.radius.hi := mulR (by omega) h5.1
    have a2 : 0 ≤ l.press * r.radius.lo := mulN h5.1 (by omega)
    have a3 : l.press * r.radius.lo * r.factor.lo ≤ l.press * r.radius.hi * r.factor.hi := Int.mul_le_mul a1 (by omega) (by omega) (by omega)
    exact Int.mul_le_mul a3 (by omega) (by omega) (by have := mulN a2 (show 0 ≤ r.factor.lo by omega); omega)
  have p2 : (pF r t l).lo ≤ (pF r t l).hi := by
    have e1 : 1 ≤ r.radius.lo * t.lo := (mulP (A := 1000) (B := 2000) (by omega) (by omega)).1
    have e2 : r.radius.lo * t.lo ≤ r.radius.hi * t.hi := Int.mul_le_mul (by omega) h40 (by omega) (by omega)
    simp only [pF]
    refine div_le_cdiv (by omega) (by omega) ?_
    generalize r.radius.lo * t.lo = P at *
    generalize r.radius.hi * t.hi = Q at *
    have e3 : l.force * P ≤ l.force * Q := mulR e2 h6.1
    have e4 : 0 ≤ l.force * P := mulN h6.1 (by omega)
    have e5 : 500000 * l.force * 113 * (P * 333) = 500000 * 113 * 333 * (l.force * P) := by simp only [Int.mul_comm, Int.mul_left_comm, Int.mul_assoc]
    have e6 : 500000 * l.force * 106 * (Q * 355) = 500000 * 106 * 355 * (l.force * Q) := by simp only [Int.mul_comm, Int.mul_left_comm, Int.mul_assoc]
    rw [e5, e6]
    omega
  have p3 : (pB r t l).lo ≤ (pB r t l).hi := by
    refine div_le_cdiv (by omega) (by omega) ?_
    have a1 : r.hit.lo * l.speed ≤ r.hit.hi * l.speed := mulL (by omega) h7.1
    have a2 : 0 ≤ r.hit.hi * l.speed := mulN (by omega) h7.1
    exact Int.mul_le_mul a1 h40 (by omega) a2
  have p4 : (pO r t l).lo ≤ (pO r t l).hi := Int.le_refl _
  simp only [strR]
  omega

theorem root_ex (q : Int) (h : 0 ≤ q) : ∃ m, IsRoot q m := by
  obtain ⟨n, rfl⟩ := Int.eq_ofNat_of_zero_le h
  clear h
  induction n with
  | zero => exact ⟨0, by omega, by simp, by simp⟩
  | succ n ih =>
    obtain ⟨m, h1, h2, h3⟩ := ih
    by_cases hq : (m + 1) * (m + 1) ≤ ((n + 1 : Nat) : Int)
    · refine ⟨m + 1, by omega, hq, ?_⟩
      have h4 : (m + 1 + 1) * (m + 1 + 1) = (m + 1) * (m + 1) + 2 * (m + 1) + 1 := by rw [Int.add_mul, Int.mul_add, Int.one_mul]; omega
      omega
    · exact ⟨m, h1, by omega, by omega⟩
theorem IsRoot.mono {q q' m m' : Int} (h : IsRoot q m) (k : IsRoot q' m') (hq : q ≤ q') : m ≤ m' := (k.le_iff h.ge).2 (Int.le_trans h.sq hq)

theorem checkS_new {b : Bot} {f t : Int} (h : checkS b = 0) (hf : 1 ≤ f ∧ f ≤ 1000) (ht : 0 ≤ t ∧ t ≤ 1000000000000000) : checkS ⟨b.rings, f, t⟩ = 0 := by
  unfold checkS at h ⊢
  simp only [btw_true.2 hf, btw_true.2 ht, Bool.true_eq_false, if_false]
  split at h
  · cases h
  split at h
  · cases h
  split at h
  · cases h
  split at h
  · cases h
  rename_i h1 h2 h3 h4
  rw [if_neg h1, if_neg h2, if_neg h3, if_neg h4]

theorem more_ok {b : Bot} {ts ts' : List Sp} {l l' : Ld} {f t : Int} (h : wallS b ts l = 0) (hH : HoldsB b ts l) (hf : 1 ≤ f ∧ f ≤ b.flaw) (ht : b.tough ≤ t ∧ t ≤ 1000000000000000)
    (hlen : ts'.length = ts.length) (hT : ∀ i (h : i < ts.length) (h' : i < ts'.length), OkT ts'[i] ∧ ts[i].lo ≤ ts'[i].lo) (hl : LessL l' l) :
    wallS ⟨b.rings, f, t⟩ ts' l' = 0 ∧ HoldsB ⟨b.rings, f, t⟩ ts' l' ∧ ¬ BreaksB ⟨b.rings, f, t⟩ ts' l' := by
  have hok := okWall_of h
  have hfl := hok.bot.flaw
  have hto := hok.bot.tough
  have hlo := hok.load
  have hL : OkL l' := ⟨⟨hl.press.1, Int.le_trans hl.press.2 hlo.press.2⟩, ⟨hl.force.1, Int.le_trans hl.force.2 hlo.force.2⟩, ⟨hl.speed.1, Int.le_trans hl.speed.2 hlo.speed.2⟩, ⟨hl.other.1, Int.le_trans hl.other.2 hlo.other.2⟩⟩
  have hc : checkS b = 0 := by
    simp only [wallS] at h
    split at h
    · assumption
    · exact h
  have hc' := checkS_new hc (f := f) (t := t) (by omega) (by omega)
  have hTa : allT ts' = true := allT_true.2 (fun i hi => (hT i (by omega) hi).1)
  have hln : ts'.length = b.rings.length := by rw [hlen]; exact hok.len
  refine ⟨by simp [wallS, hc', hln, hTa, loadS_of hL], ?_⟩
  obtain ⟨m, hm, hW⟩ := hH
  have hqq : b.tough / b.flaw ≤ t / f := by
    have h1 : 0 ≤ b.tough / b.flaw := Int.ediv_nonneg hto.1 (by omega)
    rw [Int.le_ediv_iff_mul_le (by omega)]
    have h2 := Int.ediv_mul_le b.tough (show b.flaw ≠ 0 by omega)
    have h3 := mulR hf.2 h1
    omega
  obtain ⟨m', hm'⟩ := root_ex (t / f) (Int.ediv_nonneg (by omega) (by omega))
  have hmm := hm.mono hm' hqq
  have key : ∀ i, i < b.rings.length → (strAt ⟨b.rings, f, t⟩ ts' l' i).hi ≤ m' ∧ (strAt ⟨b.rings, f, t⟩ ts' l' i).lo ≤ m' := fun i hi => by
    have h1 := hW i hi
    have hi2 : i < ts.length := by rw [hok.len]; exact hi
    rw [strAt_eq hi hi2] at h1
    rw [strAt_eq (b := ⟨b.rings, f, t⟩) hi (by omega)]
    obtain ⟨o1, o2⟩ := hT i hi2 (by omega)
    have h2 := strR_mono (t' := ts'[i]'(by omega)) (hok.bot.rings i hi) (hok.thick i hi2) o2 hl
    have h3 := strR_le (hok.bot.rings i hi) o1 hL
    simp only
    omega
  refine ⟨⟨m', hm', fun i hi => (key i hi).1⟩, fun hB => ?_⟩
  obtain ⟨i, hi, hlt⟩ := (breaksB_iff (b := ⟨b.rings, f, t⟩) hm').1 hB
  have := (key i hi).2
  omega

end Go.Proofs.YtaldpalhckdcdaaGreatDoor
