/- What a load makes of a ring: its four parts, and their sum; no statement is proved here. -/
import Derived.Test.YtaldpalhckdcdaaGreatDoorThick
namespace Go.Proofs.YtaldpalhckdcdaaGreatDoor
open Go.RowKit Go.PlainAid
set_option linter.unusedVariables false
structure OkL (l : Ld) : Prop where
  press : 0 ≤ l.press ∧ l.press ≤ 10000
  force : 0 ≤ l.force ∧ l.force ≤ 20000
  speed : 0 ≤ l.speed ∧ l.speed ≤ 2000
  other : 0 ≤ l.other ∧ l.other ≤ 10000000
structure OkT (t : Sp) : Prop where
  lo : 1 ≤ t.lo
  le : t.lo ≤ t.hi
  hi : t.hi ≤ 2000

def pP (r : Rg) (t : Sp) (l : Ld) : Sp := ⟨l.press * r.radius.lo * r.factor.lo / (100 * t.hi), (l.press * r.radius.hi * r.factor.hi + 100 * t.lo - 1) / (100 * t.lo)⟩
def pF (r : Rg) (t : Sp) (l : Ld) : Sp := ⟨500000 * l.force * 113 / (r.radius.hi * t.hi * 355), (500000 * l.force * 106 + r.radius.lo * t.lo * 333 - 1) / (r.radius.lo * t.lo * 333)⟩
def pB (r : Rg) (t : Sp) (l : Ld) : Sp := ⟨r.hit.lo * l.speed / t.hi, (r.hit.hi * l.speed + t.lo - 1) / t.lo⟩
def pO (r : Rg) (t : Sp) (l : Ld) : Sp := ⟨l.other, l.other⟩
def strR (r : Rg) (t : Sp) (l : Ld) : Sp := ⟨(pP r t l).lo + (pF r t l).lo + (pB r t l).lo + (pO r t l).lo, (pP r t l).hi + (pF r t l).hi + (pB r t l).hi + (pO r t l).hi⟩

theorem down_bd {a d : Int} (ha : 0 ≤ a) (hd : 1 ≤ d) : 0 ≤ a / d ∧ a / d ≤ a := ⟨Int.ediv_nonneg ha (by omega), Int.ediv_le_self d ha⟩
theorem up_bd {a d : Int} (ha : 0 ≤ a) (hd : 1 ≤ d) : 0 ≤ (a + d - 1) / d ∧ (a + d - 1) / d ≤ a := by
  refine ⟨Int.ediv_nonneg (by omega) (by omega), ?_⟩
  have h : (a + d - 1) / d < a + 1 := by
    rw [Int.ediv_lt_iff_lt_mul (by omega), Int.add_mul, Int.one_mul]
    have := Int.mul_le_mul_of_nonneg_left (c := a) hd ha
    omega
  omega

theorem part_bd {r : Rg} {t : Sp} {l : Ld} (hr : OkR r) (ht : OkT t) (hl : OkL l) :
    ((0 ≤ l.press * r.radius.lo ∧ l.press * r.radius.lo ≤ 10000000) ∧ (0 ≤ l.press * r.radius.lo * r.factor.lo ∧ l.press * r.radius.lo * r.factor.lo ≤ 100000000000) ∧ (0 ≤ l.press * r.radius.hi ∧ l.press * r.radius.hi ≤ 10000000) ∧ (0 ≤ l.press * r.radius.hi * r.factor.hi ∧ l.press * r.radius.hi * r.factor.hi ≤ 100000000000)) ∧
    ((1 ≤ r.radius.hi * t.hi ∧ r.radius.hi * t.hi ≤ 2000000) ∧ (1 ≤ r.radius.lo * t.lo ∧ r.radius.lo * t.lo ≤ 2000000)) ∧ ((0 ≤ r.hit.lo * l.speed ∧ r.hit.lo * l.speed ≤ 20000000) ∧ (0 ≤ r.hit.hi * l.speed ∧ r.hit.hi * l.speed ≤ 20000000)) := by
  have h1 := hr.radius
  have h2 := hr.factor
  have h3 := hr.hit
  have h4 := ht.lo
  have h5 := ht.le
  have h6 := ht.hi
  have h7 := hl.press
  have h8 := hl.speed
  have a1 := mulB (a := l.press) (A := 10000) (b := r.radius.lo) (B := 1000) (by omega) (by omega)
  have a2 := mulB (a := l.press * r.radius.lo) (A := 10000000) (b := r.factor.lo) (B := 10000) (by omega) (by omega)
  have a3 := mulB (a := l.press) (A := 10000) (b := r.radius.hi) (B := 1000) (by omega) (by omega)
  have a4 := mulB (a := l.press * r.radius.hi) (A := 10000000) (b := r.factor.hi) (B := 10000) (by omega) (by omega)
  have a5 := mulP (a := r.radius.hi) (A := 1000) (b := t.hi) (B := 2000) (by omega) (by omega)
  have a6 := mulP (a := r.radius.lo) (A := 1000) (b := t.lo) (B := 2000) (by omega) (by omega)
  have a7 := mulB (a := r.hit.lo) (A := 10000) (b := l.speed) (B := 2000) (by omega) (by omega)
  have a8 := mulB (a := r.hit.hi) (A := 10000) (b := l.speed) (B := 2000) (by omega) (by omega)
  exact ⟨⟨by omega, by omega, by omega, by omega⟩, ⟨by omega, by omega⟩, by omega, by omega⟩

def SpIn (s : Sp) (m : Int) : Prop := (0 ≤ s.lo ∧ s.lo ≤ m) ∧ (0 ≤ s.hi ∧ s.hi ≤ m)
theorem parts_in {r : Rg} {t : Sp} {l : Ld} (hr : OkR r) (ht : OkT t) (hl : OkL l) : SpIn (pP r t l) 2000000000000 ∧ SpIn (pF r t l) 2000000000000 ∧ SpIn (pB r t l) 2000000000000 ∧ SpIn (pO r t l) 2000000000000 := by
  obtain ⟨⟨-, a1, -, a2⟩, ⟨a3, a4⟩, a5, a6⟩ := part_bd hr ht hl
  have h4 := ht.lo
  have h5 := ht.le
  have h8 := hl.force
  have h9 := hl.other
  have d1 := down_bd (a := l.press * r.radius.lo * r.factor.lo) (d := 100 * t.hi) (by omega) (by omega)
  have d2 := up_bd (a := l.press * r.radius.hi * r.factor.hi) (d := 100 * t.lo) (by omega) (by omega)
  have d3 := down_bd (a := 500000 * l.force * 113) (d := r.radius.hi * t.hi * 355) (by omega) (by omega)
  have d4 := up_bd (a := 500000 * l.force * 106) (d := r.radius.lo * t.lo * 333) (by omega) (by omega)
  have d5 := down_bd (a := r.hit.lo * l.speed) (d := t.hi) (by omega) (by omega)
  have d6 := up_bd (a := r.hit.hi * l.speed) (d := t.lo) (by omega) (by omega)
  unfold SpIn pP pF pB pO
  simp only
  omega

set_option maxHeartbeats 1000000 in
set_option maxRecDepth 100000 in
theorem ofPress_any (r : Rg) (t : Sp) (l : Ld) (w : World) (hr : OkR r) (ht : OkT t) (hl : OkL l) :
    Calls Tryz.prog 73 #[.agg (rgCells r).toArray, .agg #[.int .i64 t.lo, .int .i64 t.hi], .agg #[.int .i64 l.press, .int .i64 l.force, .int .i64 l.speed, .int .i64 l.other]] w fun e w' => e = .returned (.tuple #[.int .i64 (pP r t l).lo, .int .i64 (pP r t l).hi]) ∧ Below w.heap.size w w' := by
  obtain ⟨⟨a0, a1, a2, a3⟩, ⟨a4, a5⟩, a6, a7⟩ := part_bd hr ht hl
  have h4 := ht.lo
  have h5 := ht.le
  have h6 := ht.hi
  have h8 := hl.force
  have hlo := Lib.hid (show (pP r t l).lo = l.press * r.radius.lo * r.factor.lo / (100 * t.hi) from rfl)
  have hhi := Lib.hid (show (pP r t l).hi = (l.press * r.radius.hi * r.factor.hi + 100 * t.lo - 1) / (100 * t.lo) from rfl)
  generalize pP r t l = T at *
  have q0 := wrap_id (l.press * r.radius.lo) (by unfold I64; omega)
  have q1 := wrap_id (l.press * r.radius.lo * r.factor.lo) (by unfold I64; omega)
  have q2 := wrap_id (100 * t.hi) (by unfold I64; omega)
  have q3 := wrap_id (l.press * r.radius.hi) (by unfold I64; omega)
  have q4 := wrap_id (l.press * r.radius.hi * r.factor.hi) (by unfold I64; omega)
  have q5 := wrap_id (100 * t.lo) (by unfold I64; omega)
  have hdn := fun V => down_any (l.press * r.radius.lo * r.factor.lo) (100 * t.hi) V (by omega) (by omega)
  have hup := fun V => up_any (l.press * r.radius.hi * r.factor.hi) (100 * t.lo) V (by omega) (by omega)
  rw [← hlo.out] at hdn
  rw [← hhi.out] at hup
  have hA : Below w.heap.size w (((w.alloc (.cells #[.int .i64 r.radius.lo, .int .i64 r.radius.hi, .int .i64 r.height.lo, .int .i64 r.height.hi, .int .i64 r.share.lo, .int .i64 r.share.hi, .int .i64 r.factor.lo, .int .i64 r.factor.hi, .int .i64 r.hit.lo, .int .i64 r.hit.hi] 63)).alloc (.cells #[.int .i64 t.lo, .int .i64 t.hi] 27)).alloc (.cells #[.int .i64 l.press, .int .i64 l.force, .int .i64 l.speed, .int .i64 l.other] 33)) := ((below_boxS w _).alloc (by simp) _).alloc (by simp only [World.size_alloc]; omega) _
  have hB := ((Blk.new w #[.int .i64 r.radius.lo, .int .i64 r.radius.hi, .int .i64 r.height.lo, .int .i64 r.height.hi, .int .i64 r.share.lo, .int .i64 r.share.hi, .int .i64 r.factor.lo, .int .i64 r.factor.hi, .int .i64 r.hit.lo, .int .i64 r.hit.hi] 63).alloc (.cells #[.int .i64 t.lo, .int .i64 t.hi] 27)).alloc (.cells #[.int .i64 l.press, .int .i64 l.force, .int .i64 l.speed, .int .i64 l.other] 33)
  have hT := (Blk.new (w.alloc (.cells #[.int .i64 r.radius.lo, .int .i64 r.radius.hi, .int .i64 r.height.lo, .int .i64 r.height.hi, .int .i64 r.share.lo, .int .i64 r.share.hi, .int .i64 r.factor.lo, .int .i64 r.factor.hi, .int .i64 r.hit.lo, .int .i64 r.hit.hi] 63)) #[.int .i64 t.lo, .int .i64 t.hi] 27).alloc (.cells #[.int .i64 l.press, .int .i64 l.force, .int .i64 l.speed, .int .i64 l.other] 33)
  have hL := Blk.new ((w.alloc (.cells #[.int .i64 r.radius.lo, .int .i64 r.radius.hi, .int .i64 r.height.lo, .int .i64 r.height.hi, .int .i64 r.share.lo, .int .i64 r.share.hi, .int .i64 r.factor.lo, .int .i64 r.factor.hi, .int .i64 r.hit.lo, .int .i64 r.hit.hi] 63)).alloc (.cells #[.int .i64 t.lo, .int .i64 t.hi] 27)) #[.int .i64 l.press, .int .i64 l.force, .int .i64 l.speed, .int .i64 l.other] 33
  simp only [World.size_alloc] at hT hL
  clear a0 a1 a2 a3 a4 a5 a6 a7 h4 h5 h6 h8
  simp only [rgCells]
  go_enter Tryz.func73, Tryz.ntmps73
  go_wp2_with fail
  generalize ((w.alloc (.cells #[.int .i64 r.radius.lo, .int .i64 r.radius.hi, .int .i64 r.height.lo, .int .i64 r.height.hi, .int .i64 r.share.lo, .int .i64 r.share.hi, .int .i64 r.factor.lo, .int .i64 r.factor.hi, .int .i64 r.hit.lo, .int .i64 r.hit.hi] 63)).alloc (.cells #[.int .i64 t.lo, .int .i64 t.hi] 27)).alloc (.cells #[.int .i64 l.press, .int .i64 l.force, .int .i64 l.speed, .int .i64 l.other] 33) = W at *
  refine (hdn _).mono ?_
  rintro e w1 ⟨rfl, hb1⟩
  have hA1 := hA.trans (hb1.mono hA.size)
  have hB1 := hB.below hb1 hB.lt
  have hT1 := hT.below hb1 hT.lt
  have hL1 := hL.below hb1 hL.lt
  clear hB hT hL hA
  have c0 := hB1.cell 0 _ rfl
  have c1 := hB1.cell 1 _ rfl
  have c2 := hB1.cell 2 _ rfl
  have c3 := hB1.cell 3 _ rfl
  have c4 := hB1.cell 4 _ rfl
  have c5 := hB1.cell 5 _ rfl
  have c6 := hB1.cell 6 _ rfl
  have c7 := hB1.cell 7 _ rfl
  have c8 := hB1.cell 8 _ rfl
  have c9 := hB1.cell 9 _ rfl
  have t0 := hT1.cell 0 _ rfl
  have t1 := hT1.cell 1 _ rfl
  have l0 := hL1.cell 0 _ rfl
  have l1 := hL1.cell 1 _ rfl
  have l2 := hL1.cell 2 _ rfl
  have l3 := hL1.cell 3 _ rfl
  go_wp2_with fail
  clear c0 c1 c2 c3 c4 c5 c6 c7 c8 c9 t0 t1 l0 l1 l2 l3
  refine (hup _).mono ?_
  rintro e w2 ⟨rfl, hb2⟩
  have hA2 := hA1.trans (hb2.mono hA1.size)
  have hB2 := hB1.below hb2 hB1.lt
  have hT2 := hT1.below hb2 hT1.lt
  have hL2 := hL1.below hb2 hL1.lt
  clear hB1 hT1 hL1 hA1
  have HF := Lib.hid hA2
  clear hB2 hT2 hL2 hA2
  go_wp2
  go_ret2
  exact ⟨rfl, HF.out⟩

set_option maxHeartbeats 1000000 in
set_option maxRecDepth 100000 in
theorem ofForce_any (r : Rg) (t : Sp) (l : Ld) (w : World) (hr : OkR r) (ht : OkT t) (hl : OkL l) (hC : Circ w) :
    Calls Tryz.prog 74 #[.agg (rgCells r).toArray, .agg #[.int .i64 t.lo, .int .i64 t.hi], .agg #[.int .i64 l.press, .int .i64 l.force, .int .i64 l.speed, .int .i64 l.other]] w fun e w' => e = .returned (.tuple #[.int .i64 (pF r t l).lo, .int .i64 (pF r t l).hi]) ∧ Below w.heap.size w w' := by
  obtain ⟨⟨a0, a1, a2, a3⟩, ⟨a4, a5⟩, a6, a7⟩ := part_bd hr ht hl
  have h4 := ht.lo
  have h5 := ht.le
  have h6 := ht.hi
  have h8 := hl.force
  have hlo := Lib.hid (show (pF r t l).lo = 500000 * l.force * 113 / (r.radius.hi * t.hi * 355) from rfl)
  have hhi := Lib.hid (show (pF r t l).hi = (500000 * l.force * 106 + r.radius.lo * t.lo * 333 - 1) / (r.radius.lo * t.lo * 333) from rfl)
  generalize pF r t l = T at *
  have q0 := wrap_id (500000 * l.force) (by unfold I64; omega)
  have q1 := wrap_id (r.radius.hi * t.hi) (by unfold I64; omega)
  have q2 := wrap_id (r.radius.lo * t.lo) (by unfold I64; omega)
  have hdn := fun V => down_any (500000 * l.force * 113) (r.radius.hi * t.hi * 355) V (by omega) (by omega)
  have hup := fun V => up_any (500000 * l.force * 106) (r.radius.lo * t.lo * 333) V (by omega) (by omega)
  rw [← hlo.out] at hdn
  rw [← hhi.out] at hup
  have hby1 := fun V => by_any (500000 * l.force) (r.radius.hi * t.hi) 355 113 V
  have hby2 := fun V => by_any (500000 * l.force) (r.radius.lo * t.lo) 333 106 V
  rw [wrap_id (500000 * l.force * 113) (by unfold I64; omega), wrap_id (r.radius.hi * t.hi * 355) (by unfold I64; omega)] at hby1
  rw [wrap_id (500000 * l.force * 106) (by unfold I64; omega), wrap_id (r.radius.lo * t.lo * 333) (by unfold I64; omega)] at hby2
  have hA : Below w.heap.size w (((w.alloc (.cells #[.int .i64 r.radius.lo, .int .i64 r.radius.hi, .int .i64 r.height.lo, .int .i64 r.height.hi, .int .i64 r.share.lo, .int .i64 r.share.hi, .int .i64 r.factor.lo, .int .i64 r.factor.hi, .int .i64 r.hit.lo, .int .i64 r.hit.hi] 63)).alloc (.cells #[.int .i64 t.lo, .int .i64 t.hi] 27)).alloc (.cells #[.int .i64 l.press, .int .i64 l.force, .int .i64 l.speed, .int .i64 l.other] 33)) := ((below_boxS w _).alloc (by simp) _).alloc (by simp only [World.size_alloc]; omega) _
  have hB := ((Blk.new w #[.int .i64 r.radius.lo, .int .i64 r.radius.hi, .int .i64 r.height.lo, .int .i64 r.height.hi, .int .i64 r.share.lo, .int .i64 r.share.hi, .int .i64 r.factor.lo, .int .i64 r.factor.hi, .int .i64 r.hit.lo, .int .i64 r.hit.hi] 63).alloc (.cells #[.int .i64 t.lo, .int .i64 t.hi] 27)).alloc (.cells #[.int .i64 l.press, .int .i64 l.force, .int .i64 l.speed, .int .i64 l.other] 33)
  have hT := (Blk.new (w.alloc (.cells #[.int .i64 r.radius.lo, .int .i64 r.radius.hi, .int .i64 r.height.lo, .int .i64 r.height.hi, .int .i64 r.share.lo, .int .i64 r.share.hi, .int .i64 r.factor.lo, .int .i64 r.factor.hi, .int .i64 r.hit.lo, .int .i64 r.hit.hi] 63)) #[.int .i64 t.lo, .int .i64 t.hi] 27).alloc (.cells #[.int .i64 l.press, .int .i64 l.force, .int .i64 l.speed, .int .i64 l.other] 33)
  have hL := Blk.new ((w.alloc (.cells #[.int .i64 r.radius.lo, .int .i64 r.radius.hi, .int .i64 r.height.lo, .int .i64 r.height.hi, .int .i64 r.share.lo, .int .i64 r.share.hi, .int .i64 r.factor.lo, .int .i64 r.factor.hi, .int .i64 r.hit.lo, .int .i64 r.hit.hi] 63)).alloc (.cells #[.int .i64 t.lo, .int .i64 t.hi] 27)) #[.int .i64 l.press, .int .i64 l.force, .int .i64 l.speed, .int .i64 l.other] 33
  simp only [World.size_alloc] at hT hL
  obtain ⟨g0, g1, g2, g3⟩ := hC.mono (ext_of_below hA)
  clear a0 a1 a2 a3 a4 a5 a6 a7 h4 h5 h6 h8
  simp only [rgCells]
  go_enter Tryz.func74, Tryz.ntmps74
  go_wp2_with fail
  generalize ((w.alloc (.cells #[.int .i64 r.radius.lo, .int .i64 r.radius.hi, .int .i64 r.height.lo, .int .i64 r.height.hi, .int .i64 r.share.lo, .int .i64 r.share.hi, .int .i64 r.factor.lo, .int .i64 r.factor.hi, .int .i64 r.hit.lo, .int .i64 r.hit.hi] 63)).alloc (.cells #[.int .i64 t.lo, .int .i64 t.hi] 27)).alloc (.cells #[.int .i64 l.press, .int .i64 l.force, .int .i64 l.speed, .int .i64 l.other] 33) = W at *
  refine (hby1 _).mono ?_
  rintro e w1 ⟨rfl, hb1⟩
  have hA1 := hA.trans (hb1.mono hA.size)
  have hB1 := hB.below hb1 hB.lt
  have hT1 := hT.below hb1 hT.lt
  have hL1 := hL.below hb1 hL.lt
  clear hB hT hL hA
  go_wp2_with fail
  refine (hdn _).mono ?_
  rintro e w2 ⟨rfl, hb2⟩
  have hA2 := hA1.trans (hb2.mono hA1.size)
  have hB2 := hB1.below hb2 hB1.lt
  have hT2 := hT1.below hb2 hT1.lt
  have hL2 := hL1.below hb2 hL1.lt
  clear hB1 hT1 hL1 hA1
  have c0 := hB2.cell 0 _ rfl
  have c1 := hB2.cell 1 _ rfl
  have c2 := hB2.cell 2 _ rfl
  have c3 := hB2.cell 3 _ rfl
  have c4 := hB2.cell 4 _ rfl
  have c5 := hB2.cell 5 _ rfl
  have c6 := hB2.cell 6 _ rfl
  have c7 := hB2.cell 7 _ rfl
  have c8 := hB2.cell 8 _ rfl
  have c9 := hB2.cell 9 _ rfl
  have t0 := hT2.cell 0 _ rfl
  have t1 := hT2.cell 1 _ rfl
  have l0 := hL2.cell 0 _ rfl
  have l1 := hL2.cell 1 _ rfl
  have l2 := hL2.cell 2 _ rfl
  have l3 := hL2.cell 3 _ rfl
  have gg0 := ext_of_below (hb1.trans (hb2.mono hb1.size)) _ _ g0
  have gg1 := ext_of_below (hb1.trans (hb2.mono hb1.size)) _ _ g1
  have gg2 := ext_of_below (hb1.trans (hb2.mono hb1.size)) _ _ g2
  have gg3 := ext_of_below (hb1.trans (hb2.mono hb1.size)) _ _ g3
  go_wp2_with fail
  clear c0 c1 c2 c3 c4 c5 c6 c7 c8 c9 t0 t1 l0 l1 l2 l3 gg0 gg1 gg2 gg3
  refine (hby2 _).mono ?_
  rintro e w3 ⟨rfl, hb3⟩
  have hA3 := hA2.trans (hb3.mono hA2.size)
  have hB3 := hB2.below hb3 hB2.lt
  have hT3 := hT2.below hb3 hT2.lt
  have hL3 := hL2.below hb3 hL2.lt
  clear hB2 hT2 hL2 hA2
  go_wp2_with fail
  refine (hup _).mono ?_
  rintro e w4 ⟨rfl, hb4⟩
  have hA4 := hA3.trans (hb4.mono hA3.size)
  have hB4 := hB3.below hb4 hB3.lt
  have hT4 := hT3.below hb4 hT3.lt
  have hL4 := hL3.below hb4 hL3.lt
  clear hB3 hT3 hL3 hA3
  have HF := Lib.hid hA4
  clear hB4 hT4 hL4 hA4
  go_wp2
  go_ret2
  exact ⟨rfl, HF.out⟩

set_option maxHeartbeats 1000000 in
set_option maxRecDepth 100000 in
theorem ofBlow_any (r : Rg) (t : Sp) (l : Ld) (w : World) (hr : OkR r) (ht : OkT t) (hl : OkL l) :
    Calls Tryz.prog 75 #[.agg (rgCells r).toArray, .agg #[.int .i64 t.lo, .int .i64 t.hi], .agg #[.int .i64 l.press, .int .i64 l.force, .int .i64 l.speed, .int .i64 l.other]] w fun e w' => e = .returned (.tuple #[.int .i64 (pB r t l).lo, .int .i64 (pB r t l).hi]) ∧ Below w.heap.size w w' := by
  obtain ⟨⟨a0, a1, a2, a3⟩, ⟨a4, a5⟩, a6, a7⟩ := part_bd hr ht hl
  have h4 := ht.lo
  have h5 := ht.le
  have h6 := ht.hi
  have h8 := hl.force
  have hlo := Lib.hid (show (pB r t l).lo = r.hit.lo * l.speed / (t.hi) from rfl)
  have hhi := Lib.hid (show (pB r t l).hi = (r.hit.hi * l.speed + t.lo - 1) / (t.lo) from rfl)
  generalize pB r t l = T at *
  have q0 := wrap_id (r.hit.lo * l.speed) (by unfold I64; omega)
  have q1 := wrap_id (r.hit.hi * l.speed) (by unfold I64; omega)
  have hdn := fun V => down_any (r.hit.lo * l.speed) (t.hi) V (by omega) (by omega)
  have hup := fun V => up_any (r.hit.hi * l.speed) (t.lo) V (by omega) (by omega)
  rw [← hlo.out] at hdn
  rw [← hhi.out] at hup
  have hA : Below w.heap.size w (((w.alloc (.cells #[.int .i64 r.radius.lo, .int .i64 r.radius.hi, .int .i64 r.height.lo, .int .i64 r.height.hi, .int .i64 r.share.lo, .int .i64 r.share.hi, .int .i64 r.factor.lo, .int .i64 r.factor.hi, .int .i64 r.hit.lo, .int .i64 r.hit.hi] 63)).alloc (.cells #[.int .i64 t.lo, .int .i64 t.hi] 27)).alloc (.cells #[.int .i64 l.press, .int .i64 l.force, .int .i64 l.speed, .int .i64 l.other] 33)) := ((below_boxS w _).alloc (by simp) _).alloc (by simp only [World.size_alloc]; omega) _
  have hB := ((Blk.new w #[.int .i64 r.radius.lo, .int .i64 r.radius.hi, .int .i64 r.height.lo, .int .i64 r.height.hi, .int .i64 r.share.lo, .int .i64 r.share.hi, .int .i64 r.factor.lo, .int .i64 r.factor.hi, .int .i64 r.hit.lo, .int .i64 r.hit.hi] 63).alloc (.cells #[.int .i64 t.lo, .int .i64 t.hi] 27)).alloc (.cells #[.int .i64 l.press, .int .i64 l.force, .int .i64 l.speed, .int .i64 l.other] 33)
  have hT := (Blk.new (w.alloc (.cells #[.int .i64 r.radius.lo, .int .i64 r.radius.hi, .int .i64 r.height.lo, .int .i64 r.height.hi, .int .i64 r.share.lo, .int .i64 r.share.hi, .int .i64 r.factor.lo, .int .i64 r.factor.hi, .int .i64 r.hit.lo, .int .i64 r.hit.hi] 63)) #[.int .i64 t.lo, .int .i64 t.hi] 27).alloc (.cells #[.int .i64 l.press, .int .i64 l.force, .int .i64 l.speed, .int .i64 l.other] 33)
  have hL := Blk.new ((w.alloc (.cells #[.int .i64 r.radius.lo, .int .i64 r.radius.hi, .int .i64 r.height.lo, .int .i64 r.height.hi, .int .i64 r.share.lo, .int .i64 r.share.hi, .int .i64 r.factor.lo, .int .i64 r.factor.hi, .int .i64 r.hit.lo, .int .i64 r.hit.hi] 63)).alloc (.cells #[.int .i64 t.lo, .int .i64 t.hi] 27)) #[.int .i64 l.press, .int .i64 l.force, .int .i64 l.speed, .int .i64 l.other] 33
  simp only [World.size_alloc] at hT hL
  clear a0 a1 a2 a3 a4 a5 a6 a7 h4 h5 h6 h8
  simp only [rgCells]
  go_enter Tryz.func75, Tryz.ntmps75
  go_wp2_with fail
  generalize ((w.alloc (.cells #[.int .i64 r.radius.lo, .int .i64 r.radius.hi, .int .i64 r.height.lo, .int .i64 r.height.hi, .int .i64 r.share.lo, .int .i64 r.share.hi, .int .i64 r.factor.lo, .int .i64 r.factor.hi, .int .i64 r.hit.lo, .int .i64 r.hit.hi] 63)).alloc (.cells #[.int .i64 t.lo, .int .i64 t.hi] 27)).alloc (.cells #[.int .i64 l.press, .int .i64 l.force, .int .i64 l.speed, .int .i64 l.other] 33) = W at *
  refine (hdn _).mono ?_
  rintro e w1 ⟨rfl, hb1⟩
  have hA1 := hA.trans (hb1.mono hA.size)
  have hB1 := hB.below hb1 hB.lt
  have hT1 := hT.below hb1 hT.lt
  have hL1 := hL.below hb1 hL.lt
  clear hB hT hL hA
  have c0 := hB1.cell 0 _ rfl
  have c1 := hB1.cell 1 _ rfl
  have c2 := hB1.cell 2 _ rfl
  have c3 := hB1.cell 3 _ rfl
  have c4 := hB1.cell 4 _ rfl
  have c5 := hB1.cell 5 _ rfl
  have c6 := hB1.cell 6 _ rfl
  have c7 := hB1.cell 7 _ rfl
  have c8 := hB1.cell 8 _ rfl
  have c9 := hB1.cell 9 _ rfl
  have t0 := hT1.cell 0 _ rfl
  have t1 := hT1.cell 1 _ rfl
  have l0 := hL1.cell 0 _ rfl
  have l1 := hL1.cell 1 _ rfl
  have l2 := hL1.cell 2 _ rfl
  have l3 := hL1.cell 3 _ rfl
  go_wp2_with fail
  clear c0 c1 c2 c3 c4 c5 c6 c7 c8 c9 t0 t1 l0 l1 l2 l3
  refine (hup _).mono ?_
  rintro e w2 ⟨rfl, hb2⟩
  have hA2 := hA1.trans (hb2.mono hA1.size)
  have hB2 := hB1.below hb2 hB1.lt
  have hT2 := hT1.below hb2 hT1.lt
  have hL2 := hL1.below hb2 hL1.lt
  clear hB1 hT1 hL1 hA1
  have HF := Lib.hid hA2
  clear hB2 hT2 hL2 hA2
  go_wp2
  go_ret2
  exact ⟨rfl, HF.out⟩

set_option maxRecDepth 100000 in
theorem ofOther_any (r : Rg) (t : Sp) (l : Ld) (w : World) :
    Calls Tryz.prog 76 #[.agg (rgCells r).toArray, .agg #[.int .i64 t.lo, .int .i64 t.hi], .agg #[.int .i64 l.press, .int .i64 l.force, .int .i64 l.speed, .int .i64 l.other]] w fun e w' => e = .returned (.tuple #[.int .i64 (pO r t l).lo, .int .i64 (pO r t l).hi]) ∧ Below w.heap.size w w' := by
  have hA : Below w.heap.size w (((w.alloc (.cells #[.int .i64 r.radius.lo, .int .i64 r.radius.hi, .int .i64 r.height.lo, .int .i64 r.height.hi, .int .i64 r.share.lo, .int .i64 r.share.hi, .int .i64 r.factor.lo, .int .i64 r.factor.hi, .int .i64 r.hit.lo, .int .i64 r.hit.hi] 63)).alloc (.cells #[.int .i64 t.lo, .int .i64 t.hi] 27)).alloc (.cells #[.int .i64 l.press, .int .i64 l.force, .int .i64 l.speed, .int .i64 l.other] 33)) := ((below_boxS w _).alloc (by simp) _).alloc (by simp only [World.size_alloc]; omega) _
  have hL := Blk.new ((w.alloc (.cells #[.int .i64 r.radius.lo, .int .i64 r.radius.hi, .int .i64 r.height.lo, .int .i64 r.height.hi, .int .i64 r.share.lo, .int .i64 r.share.hi, .int .i64 r.factor.lo, .int .i64 r.factor.hi, .int .i64 r.hit.lo, .int .i64 r.hit.hi] 63)).alloc (.cells #[.int .i64 t.lo, .int .i64 t.hi] 27)) #[.int .i64 l.press, .int .i64 l.force, .int .i64 l.speed, .int .i64 l.other] 33
  simp only [World.size_alloc] at hL
  have l3 := hL.cell 3 _ rfl
  have hlo : pO r t l = ⟨l.other, l.other⟩ := rfl
  rw [hlo]
  simp only [rgCells]
  go_enter Tryz.func76, Tryz.ntmps76
  go_wp2
  generalize ((w.alloc (.cells #[.int .i64 r.radius.lo, .int .i64 r.radius.hi, .int .i64 r.height.lo, .int .i64 r.height.hi, .int .i64 r.share.lo, .int .i64 r.share.hi, .int .i64 r.factor.lo, .int .i64 r.factor.hi, .int .i64 r.hit.lo, .int .i64 r.hit.hi] 63)).alloc (.cells #[.int .i64 t.lo, .int .i64 t.hi] 27)).alloc (.cells #[.int .i64 l.press, .int .i64 l.force, .int .i64 l.speed, .int .i64 l.other] 33) = W at *
  go_region
  all_goals (go_wp2; go_ret2; exact ⟨rfl, hA.drew⟩)

end Go.Proofs.YtaldpalhckdcdaaGreatDoor
