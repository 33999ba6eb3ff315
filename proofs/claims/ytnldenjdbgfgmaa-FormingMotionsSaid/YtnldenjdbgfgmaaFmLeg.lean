/- The legs of a path: when one passes a place, when it is in a span; no statement is proved here. -/
import Derived.Test.YtnldenjdbgfgmaaFmQ
namespace Go.Proofs.Ytnldenjdbgfgmaa
open Go.RowKit Go.PlainAid
set_option linter.unusedVariables false
set_option linter.unusedSimpArgs false

/-- a result's two cells, zero ahead of a call, are stored into behind it. -/
theorem store2 {w W w3 : World} {k : Nat} {T : TypeId} {u v : Value} (hA : Below w.heap.size w W) (hr : Blk W k #[u, v] T) (hk : w.heap.size ≤ k) (hb : Below W.heap.size W w3) (x y : Value) :
    w3.cell? ⟨k, 0, none⟩ = some u ∧ w3.cell? ⟨k, 1, none⟩ = some v ∧ w3.frozen? ⟨k, 0, none⟩ = false ∧ w3.frozen? ⟨k, 1, none⟩ = false
      ∧ Hid (Below w.heap.size w ((w3.setCell ⟨k, 0, none⟩ x).setCell ⟨k, 1, none⟩ y)) ∧ Hid (((w3.setCell ⟨k, 0, none⟩ x).setCell ⟨k, 1, none⟩ y).cell? ⟨k, 0, none⟩ = some x) ∧ Hid (((w3.setCell ⟨k, 0, none⟩ x).setCell ⟨k, 1, none⟩ y).cell? ⟨k, 1, none⟩ = some y) := by
  have hr3 := hr.below hb hr.lt
  have hA3 := hA.trans (hb.mono hA.size)
  have hR : Blk ((w3.setCell ⟨k, 0, none⟩ x).setCell ⟨k, 1, none⟩ y) k #[x, y] T := by simpa using (hr3.set 0 x).set 1 y
  exact ⟨hr3.cell 0 _ rfl, hr3.cell 1 _ rfl, hr3.frozen 0, hr3.frozen 1, Lib.hid ((hA3.setCell (by simpa using hk) _).setCell (by simpa using hk) _), Lib.hid (hR.cell 0 _ rfl), Lib.hid (hR.cell 1 _ rfl)⟩
theorem below_dr (w : World) (n : Nat) : Below w.heap.size w (w.drewN n) := bdrewN (Below.refl _ _)

def lgV (x y : Sp) : Value := .agg #[.int .i64 x.lo, .int .i64 x.hi, .int .i64 y.lo, .int .i64 y.hi]
/-- a leg that may be. -/
structure LegOk (x y : Sp) : Prop where
  a : 0 ≤ x.lo ∧ x.lo < y.lo ∧ y.lo ≤ 3600
  b : 0 ≤ x.hi ∧ x.hi ≤ 1000000
  c : 0 ≤ y.hi ∧ y.hi ≤ 1000000
def timeN (x y : Sp) (p : Int) : Int := x.lo * (y.hi - x.hi) + (p - x.hi) * (y.lo - x.lo)
def timeF (x y : Sp) (p : Int) : Rt := rat (timeN x y p) (y.hi - x.hi)
theorem bd_mul {a b A B : Int} (ha : -A ≤ a ∧ a ≤ A) (hb : -B ≤ b ∧ b ≤ B) (hA : 0 ≤ A) : -(A * B) ≤ a * b ∧ a * b ≤ A * B := by
  have h1 : (a * b).natAbs ≤ (A * B).natAbs := by
    rw [Int.natAbs_mul, Int.natAbs_mul]
    exact Nat.mul_le_mul (by omega) (by omega)
  have h2 : 0 ≤ A * B := Int.mul_nonneg hA (by omega)
  omega
theorem timeN_bd {x y : Sp} (h : LegOk x y) {p : Int} (hp : 0 ≤ p ∧ p ≤ 1000000) : (-3600000000 ≤ x.lo * (y.hi - x.hi) ∧ x.lo * (y.hi - x.hi) ≤ 3600000000) ∧ (-3600000000 ≤ (p - x.hi) * (y.lo - x.lo) ∧ (p - x.hi) * (y.lo - x.lo) ≤ 3600000000) := by
  have h1 := h.a; have h2 := h.b; have h3 := h.c
  have m1 := bd_mul (a := x.lo) (b := y.hi - x.hi) (A := 3600) (B := 1000000) (by omega) (by omega) (by omega)
  have m2 := bd_mul (a := p - x.hi) (b := y.lo - x.lo) (A := 1000000) (B := 3600) (by omega) (by omega) (by omega)
  omega

set_option maxHeartbeats 1000000 in
set_option maxRecDepth 100000 in
theorem time_any (x y : Sp) (p : Int) (w : World) (h : LegOk x y) (hd : x.hi ≠ y.hi) (hp : 0 ≤ p ∧ p ≤ 1000000) :
    Calls Try.prog 62 #[lgV x y, .int .i64 p] w fun e w' => e = .returned (rtV (timeF x y p)) ∧ Below w.heap.size w w' := by
  have hA : Below w.heap.size w ((w.alloc (.cells #[.int .i64 x.lo, .int .i64 x.hi, .int .i64 y.lo, .int .i64 y.hi] 80)).alloc (.cells #[.int .i64 0, .int .i64 0] 24)) := (below_box w _).alloc (by simp) _
  have hq := (Blk.new w #[.int .i64 x.lo, .int .i64 x.hi, .int .i64 y.lo, .int .i64 y.hi] 80).alloc (.cells #[.int .i64 0, .int .i64 0] 24)
  have hr := Blk.new (w.alloc (.cells #[.int .i64 x.lo, .int .i64 x.hi, .int .i64 y.lo, .int .i64 y.hi] 80)) #[.int .i64 0, .int .i64 0] 24
  simp only [World.size_alloc] at hr
  have q0 := hq.cell 0 _ rfl
  have q1 := hq.cell 1 _ rfl
  have q2 := hq.cell 2 _ rfl
  have q3 := hq.cell 3 _ rfl
  obtain ⟨m1, m2⟩ := timeN_bd h hp
  have h1 := h.a; have h2 := h.b; have h3 := h.c
  have HRat := fun V => ratio_any (timeN x y p) (y.hi - x.hi) V (by unfold timeN; omega) (by omega)
  have z1 := wrap_id (y.lo - x.lo) (by unfold I64; omega)
  have z2 := wrap_id (y.hi - x.hi) (by unfold I64; omega)
  have z3 := wrap_id (x.lo * (y.hi - x.hi)) (by unfold I64; omega)
  have z4 := wrap_id (p - x.hi) (by unfold I64; omega)
  have z5 := wrap_id ((p - x.hi) * (y.lo - x.lo)) (by unfold I64; omega)
  have z6 := wrap_id (x.lo * (y.hi - x.hi) + (p - x.hi) * (y.lo - x.lo)) (by unfold I64; omega)
  obtain ⟨R, hR⟩ : ∃ R, timeF x y p = R := ⟨_, rfl⟩
  rw [hR]
  have hT : rat (timeN x y p) (y.hi - x.hi) = R := hR
  rw [hT] at HRat
  unfold timeN at HRat
  have HA := Lib.hid hA
  have HR0 := Lib.hid hr
  clear m1 m2 h1 h2 h3 hA hr hq hR hT h hd hp
  unfold lgV
  go_enter Try.func62, Try.ntmps62
  go_wp2_with fail
  go_quiet (fail)
  go_wp2_with fail
  refine (HRat _).mono ?_
  rintro e w3 ⟨rfl, hb3⟩
  clear q0 q1 q2 q3 z1 z2 z3 z4 z5 z6
  have hd0 := below_dr ((w.alloc (.cells #[.int .i64 x.lo, .int .i64 x.hi, .int .i64 y.lo, .int .i64 y.hi] 80)).alloc (.cells #[.int .i64 0, .int .i64 0] 24)) nq
  obtain ⟨r0, r1, f0, f1, HE, C0, C1⟩ := store2 HA.out HR0.out (by omega) (hd0.trans (hb3.mono hd0.size)) (.int .i64 R.n) (.int .i64 R.d)
  clear hb3 hd0 HA HR0 HRat
  unfold rtV
  go_wp2
  have c0 := C0.out
  have c1 := C1.out
  have hE := HE.out
  clear C0 C1 HE r0 r1 f0 f1
  generalize ((w3.setCell ⟨w.heap.size + 1, 0, none⟩ (.int .i64 R.n)).setCell ⟨w.heap.size + 1, 1, none⟩ (.int .i64 R.d)) = WE at c0 c1 hE ⊢
  refine ⟨rfl, .agg #[.int .i64 R.n, .int .i64 R.d], ?_, rfl, hE⟩
  simp [results, Try.results62, go_sem, c0, c1]
end Go.Proofs.Ytnldenjdbgfgmaa
