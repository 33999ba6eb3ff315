/- Which of two quotients is greater, by products of 128 bits: contracts of package forming and of what it calls; no statement is proved here. -/
import Derived.Test.YtnldenjdbgfgmaaFmQ
namespace Go.Proofs.Ytnldenjdbgfgmaa
open Go.RowKit Go.PlainAid
set_option linter.unusedVariables false
set_option linter.unusedSimpArgs false

set_option maxRecDepth 100000 in
theorem isNaN_any (a : Int) (w : World) : Calls Try.prog 68 #[.int .u64 a] w fun e w' => e = .returned (.bool false) ∧ w' = w := by
  go_enter Try.func68, Try.ntmps68
  go_wp2
  go_ret
  exact ⟨ret_bool (by simp), rfl⟩

def cmpI (a b : Int) : Int := if a < b then -1 else if b < a then 1 else 0

set_option maxRecDepth 100000 in
theorem compare_any (a b : Int) (w : World) : Calls Try.prog 58 #[.int .u64 a, .int .u64 b] w fun e w' => e = .returned (.int .i64 (cmpI a b)) ∧ w' = w := by
  go_enter Try.func58, Try.ntmps58
  go_wp2_with fail
  refine (isNaN_any a _).mono ?_
  rintro e w' ⟨rfl, rfl⟩
  go_wp2_with fail
  refine (isNaN_any b _).mono ?_
  rintro e w' ⟨rfl, rfl⟩
  by_cases h1 : a < b
  · have hc : cmpI a b = -1 := by unfold cmpI; rw [if_pos h1]
    go_wp2
    go_ret
    exact ⟨ret_int hc.symm, rfl⟩
  · by_cases h2 : b < a
    · have hc : cmpI a b = 1 := by unfold cmpI; rw [if_neg h1, if_pos h2]
      go_wp2
      go_ret
      exact ⟨ret_int hc.symm, rfl⟩
    · have hc : cmpI a b = 0 := by unfold cmpI; rw [if_neg h1, if_neg h2]
      go_wp2
      go_ret
      exact ⟨ret_int hc.symm, rfl⟩

theorem and_mask (E : Int) (h0 : 0 ≤ E) (h1 : E ≤ 18446744073709551615) : bits BinOp.and IntKind.u64 E 4294967295 = E % 4294967296 := by
  have h := bits_and_u64_nat E.toNat 4294967295 (by omega) (by omega)
  have h3 := Nat.and_two_pow_sub_one_eq_mod E.toNat 32
  simp only [Nat.reducePow, Nat.reduceSub] at h3
  rw [h3, Int.toNat_of_nonneg h0] at h
  have h2 : ((E.toNat % 4294967296 : Nat) : Int) = E % 4294967296 := by omega
  exact h.trans h2

theorem wrapu (n : Int) : IntKind.u64.wrap n = n % 18446744073709551616 := by
  simp [IntKind.wrap, IntKind.bits, IntKind.signed]
theorem prod32 {a b : Int} (ha : 0 ≤ a ∧ a ≤ 4294967295) (hb : 0 ≤ b ∧ b ≤ 4294967295) : 0 ≤ a * b ∧ a * b ≤ 18446744065119617025 := by
  refine ⟨Int.mul_nonneg ha.1 hb.1, ?_⟩
  have h1 := Int.mul_le_mul_of_nonneg_left hb.2 ha.1
  omega

theorem mul_parts (x0 x1 y0 y1 : Int) (hx0 : 0 ≤ x0 ∧ x0 ≤ 4294967295) (hx1 : 0 ≤ x1 ∧ x1 ≤ 4294967295) (hy0 : 0 ≤ y0 ∧ y0 ≤ 4294967295) (hy1 : 0 ≤ y1 ∧ y1 ≤ 4294967295) (p : Int)
    (hp : p = (x1 * 4294967296 + x0) * (y1 * 4294967296 + y0)) :
    ((x1 * y1 % 18446744073709551616 + (x1 * y0 % 18446744073709551616 + x0 * y0 % 18446744073709551616 / 4294967296) % 18446744073709551616 / 4294967296) % 18446744073709551616
      + ((x1 * y0 % 18446744073709551616 + x0 * y0 % 18446744073709551616 / 4294967296) % 18446744073709551616 % 4294967296 + x0 * y1 % 18446744073709551616) % 18446744073709551616 / 4294967296) % 18446744073709551616 = p / 18446744073709551616 := by
  have e : p = x1 * y1 * 18446744073709551616 + (x1 * y0 + x0 * y1) * 4294967296 + x0 * y0 := by
    rw [hp]; grind
  have b1 := prod32 hx1 hy1
  have b2 := prod32 hx1 hy0
  have b3 := prod32 hx0 hy1
  have b4 := prod32 hx0 hy0
  generalize x1 * y1 = a at *
  generalize x1 * y0 = b at *
  generalize x0 * y1 = c at *
  generalize x0 * y0 = d at *
  clear hp
  subst e
  rw [Int.emod_eq_of_lt (show 0 ≤ a by omega) (by omega), Int.emod_eq_of_lt (show 0 ≤ b by omega) (by omega), Int.emod_eq_of_lt (show 0 ≤ c by omega) (by omega), Int.emod_eq_of_lt (show 0 ≤ d by omega) (by omega)]
  omega

set_option maxRecDepth 100000 in
theorem mul64_any (a b : Int) (w : World) (ha : 0 ≤ a ∧ a < 18446744073709551616) (hb : 0 ≤ b ∧ b < 18446744073709551616) : Calls Try.prog 56 #[.int .u64 a, .int .u64 b] w fun e w' => e = .returned (.tuple #[.int .u64 (a * b / 18446744073709551616), .int .u64 (a * b % 18446744073709551616)]) ∧ w' = w := by
  have H := Lib.hid (mul_parts (a % 4294967296) (a / 4294967296) (b % 4294967296) (b / 4294967296) (by omega) (by omega) (by omega) (by omega) (a * b) (by congr 1 <;> omega))
  have hm : ∀ x : Int, bits BinOp.and IntKind.u64 (IntKind.u64.wrap x) 4294967295 = IntKind.u64.wrap x % 4294967296 := fun x => by
    refine and_mask _ ?_ ?_ <;> rw [wrapu] <;> omega
  go_enter Try.func56, Try.ntmps56
  go_wp2
  go_ret2
  rw [and_mask a (by omega) (by omega), and_mask b (by omega) (by omega)]
  refine ⟨?_, rfl⟩
  simp only [wrapu]
  rw [H.out]
  rfl

set_option maxRecDepth 100000 in
theorem or_any (v : Value) (x y : Int) (w : World) (h : RInts w v [x, y]) : Calls Try.prog 57 #[v] w fun e w' => e = .returned (.int .i64 (if x = 0 then y else x)) ∧ w' = w := by
  obtain ⟨a, cap, rfl, -, -, hl⟩ := h
  obtain ⟨b1, o1, rfl, q0, -⟩ := hl 0 (by simp)
  obtain ⟨b2, o2, he, q1, -⟩ := hl 1 (by simp)
  cases he
  simp only [List.getElem_cons_zero, List.getElem_cons_succ, Nat.zero_mul, Nat.add_zero, Nat.one_mul, List.length_cons, List.length_nil, Nat.zero_add, Nat.reduceAdd] at q0 q1 ⊢
  clear hl
  go_enter Try.func57, Try.ntmps57
  go_wp2
  go_loopw [8] (fun i wr => ∃ (k : Nat), k ≤ 2 ∧ i = .int .i64 k ∧ wr = w ∧ (1 ≤ k → x = 0) ∧ (2 ≤ k → y = 0)) (fun i _ => 2 - (intOf i).toNat)
  case atStart => exact ⟨0, by omega, rfl, rfl, by omega, by omega⟩
  case round =>
    obtain ⟨k, hk, rfl, rfl, h1, h2⟩ := hrel
    match k, hk with
    | 0, _ =>
      by_cases hx : x = 0
      · subst hx
        go_wp2
        go_roundw
        case rel => exact ⟨1, by omega, by go_num, by simp, fun _ => by simp, by omega⟩
        case measure => simp [intOf]
      · go_wp2
        go_ret
        exact ⟨ret_int (by simp [hx]), rfl⟩
    | 1, _ =>
      have hx := h1 (by omega)
      by_cases hy : y = 0
      · subst hy
        go_wp2
        go_roundw
        case rel => exact ⟨2, by omega, by go_num, by simp, fun _ => hx, fun _ => by simp⟩
        case measure => simp [intOf]
      · go_wp2
        go_ret
        exact ⟨ret_int (by simp [hx]), rfl⟩
    | 2, _ =>
      have hx := h1 (by omega)
      have hy := h2 (by omega)
      go_wp2
      go_ret
      exact ⟨ret_int (by simp [hx, hy]), rfl⟩

theorem cmp_parts {p q : Int} (hp : 0 ≤ p) (hq : 0 ≤ q) : ((if cmpI (p / 18446744073709551616) (q / 18446744073709551616) = 0 then cmpI (p % 18446744073709551616) (q % 18446744073709551616) else cmpI (p / 18446744073709551616) (q / 18446744073709551616)) ≤ 0) ↔ p ≤ q := by
  unfold cmpI
  by_cases h1 : p / 18446744073709551616 < q / 18446744073709551616
  · simp only [h1, if_true]
    constructor
    · intro _; omega
    · intro _; simp
  · by_cases h2 : q / 18446744073709551616 < p / 18446744073709551616
    · simp only [h1, h2, if_true, if_false]
      constructor
      · intro h; simp at h
      · intro h; omega
    · simp only [h1, h2, if_false, if_true]
      by_cases h3 : p % 18446744073709551616 < q % 18446744073709551616
      · simp only [h3, if_true]
        constructor
        · intro _; omega
        · intro _; omega
      · by_cases h4 : q % 18446744073709551616 < p % 18446744073709551616
        · simp only [h3, h4, if_true, if_false]
          constructor
          · intro h; omega
          · intro h; omega
        · simp only [h3, h4, if_false]
          constructor
          · intro _; omega
          · intro _; omega

theorem cmpI_I64 (a b : Int) : I64 (cmpI a b) := by unfold cmpI I64; split <;> (try split) <;> omega

set_option maxRecDepth 100000 in
theorem covers_any (a b c d : Int) (w : World) (ha : 0 ≤ a ∧ a ≤ 9223372036854775807) (hb : 0 ≤ b ∧ b ≤ 9223372036854775807) (hc : 0 ≤ c ∧ c ≤ 9223372036854775807) (hd : 0 ≤ d ∧ d ≤ 9223372036854775807) :
    Calls Try.prog 37 #[.agg #[.int .i64 a, .int .i64 b], .agg #[.int .i64 c, .int .i64 d]] w fun e w' => e = .returned (.bool (decide (c * b ≤ a * d))) ∧ Below w.heap.size w w' := by
  have hA : Below w.heap.size w ((w.alloc (.cells #[.int .i64 a, .int .i64 b] 67)).alloc (.cells #[.int .i64 c, .int .i64 d] 67)) := (below_box w _).alloc (by simp) _
  have hq := (Blk.new w #[.int .i64 a, .int .i64 b] 67).alloc (.cells #[.int .i64 c, .int .i64 d] 67)
  have ho := Blk.new (w.alloc (.cells #[.int .i64 a, .int .i64 b] 67)) #[.int .i64 c, .int .i64 d] 67
  simp only [World.size_alloc] at ho
  have q0 := hq.cell 0 _ rfl
  have q1 := hq.cell 1 _ rfl
  have o0 := ho.cell 0 _ rfl
  have o1 := ho.cell 1 _ rfl
  have za := IntWalk.u64_in a (by omega)
  have zb := IntWalk.u64_in b (by omega)
  have zc := IntWalk.u64_in c (by omega)
  have zd := IntWalk.u64_in d (by omega)
  have p1 := Int.mul_nonneg ha.1 hd.1
  have p2 := Int.mul_nonneg hc.1 hb.1
  have HM1 := fun V => mul64_any a d V (by omega) (by omega)
  have HM2 := fun V => mul64_any c b V (by omega) (by omega)
  have HC := Lib.hid (cmp_parts p2 p1)
  have HA := Lib.hid hA
  clear ha hb hc hd p1 p2 hA hq ho
  obtain ⟨p, hp⟩ : ∃ p, a * d = p := ⟨_, rfl⟩
  obtain ⟨q, hq⟩ : ∃ q, c * b = q := ⟨_, rfl⟩
  rw [hp] at HC HM1 ⊢
  rw [hq] at HC HM2 ⊢
  clear hp hq
  go_enter Try.func37, Try.ntmps37
  go_wp2_with fail
  refine (HM1 _).mono ?_
  rintro e w' ⟨rfl, rfl⟩
  go_wp2_with fail
  refine (HM2 _).mono ?_
  rintro e w' ⟨rfl, rfl⟩
  clear HM1 HM2
  obtain ⟨x1, hx1⟩ : ∃ x, cmpI (q / 18446744073709551616) (p / 18446744073709551616) = x := ⟨_, rfl⟩
  obtain ⟨x2, hx2⟩ : ∃ x, cmpI (q % 18446744073709551616) (p % 18446744073709551616) = x := ⟨_, rfl⟩
  have i1 := cmpI_I64 (q / 18446744073709551616) (p / 18446744073709551616)
  have i2 := cmpI_I64 (q % 18446744073709551616) (p % 18446744073709551616)
  have HC1 := fun V => compare_any (q / 18446744073709551616) (p / 18446744073709551616) V
  have HC2 := fun V => compare_any (q % 18446744073709551616) (p % 18446744073709551616) V
  rw [hx1] at i1 HC HC1
  rw [hx2] at i2 HC HC2
  generalize p / 18446744073709551616 = ph at *
  generalize p % 18446744073709551616 = pl at *
  generalize q / 18446744073709551616 = qh at *
  generalize q % 18446744073709551616 = ql at *
  clear hx1 hx2
  go_wp2_with fail
  refine (HC1 _).mono ?_
  rintro e w' ⟨rfl, rfl⟩
  go_wp2_with fail
  refine (HC2 _).mono ?_
  rintro e w' ⟨rfl, rfl⟩
  clear HC1 HC2 q0 q1 o0 o1
  go_wp2_with fail
  have hX := Blk.new ((w.alloc (.cells #[.int .i64 a, .int .i64 b] 67)).alloc (.cells #[.int .i64 c, .int .i64 d] 67)) #[.int .i64 x1, .int .i64 x2] 3
  simp only [World.size_alloc] at hX
  refine (or_any _ x1 x2 _ ⟨some ⟨w.heap.size + 1 + 1, 0, none⟩, 2, rfl, by simp, ⟨by simp, by simp⟩, fun i hi => ⟨_, _, rfl, ?_⟩⟩).mono ?_
  · match i, hi with
    | 0, _ => exact ⟨by simpa using hX.cell 0 _ rfl, i1⟩
    | 1, _ => exact ⟨by simpa using hX.cell 1 _ rfl, i2⟩
  rintro e w' ⟨rfl, rfl⟩
  clear hX
  have HA2 := Lib.hid (HA.out.alloc HA.out.size (.cells #[.int .i64 x1, .int .i64 x2] 3))
  have HC' : Hid ((if x1 = 0 then x2 else x1) ≤ 0 ↔ q ≤ p) := HC
  clear HC HA i1 i2
  generalize (if x1 = 0 then x2 else x1) = r at *
  go_wp2
  go_ret
  exact ⟨ret_bool (decide_eq_decide.2 HC'.out), HA2.out⟩
end Go.Proofs.Ytnldenjdbgfgmaa
