/- Whether stretches may be those of a cycle; no statement is proved here. -/
import Derived.Test.YtnldenjdbgfgmaaFmCov
namespace Go.Proofs.Ytnldenjdbgfgmaa
open Go.RowKit Go.PlainAid
set_option linter.unusedVariables false
set_option linter.unusedSimpArgs false

theorem bd_mulA {a b A B : Int} (ha : -A ≤ a ∧ a ≤ A) (hb : -B ≤ b ∧ b ≤ B) (hA : 0 ≤ A) : -(A * B) ≤ a * b ∧ a * b ≤ A * B := by
  have h1 : (a * b).natAbs ≤ (A * B).natAbs := by
    rw [Int.natAbs_mul, Int.natAbs_mul]
    exact Nat.mul_le_mul (by omega) (by omega)
  have h2 : 0 ≤ A * B := Int.mul_nonneg hA (by omega)
  omega
def TimeIn (c : Int) (r : Rt) : Prop := (1 ≤ r.d ∧ r.d ≤ 1000000 ∧ gI r.n r.d = 1) ∧ (0 ≤ r.n ∧ r.n ≤ c * r.d)
def StOk (c : Int) (s : St) : Prop := TimeIn c s.a ∧ TimeIn c s.b ∧ s.a.n * s.b.d ≤ s.b.n * s.a.d
instance (c : Int) (r : Rt) : Decidable (TimeIn c r) := by unfold TimeIn; infer_instance
instance (c : Int) (s : St) : Decidable (StOk c s) := by unfold StOk; infer_instance
def areS (c : Int) (l : List St) : Bool := decide (∀ s, s ∈ l → StOk c s)
theorem cyc_bd {c d : Int} (hc : 1 ≤ c ∧ c ≤ 3600) (hd : 1 ≤ d ∧ d ≤ 1000000) : 0 ≤ c * d ∧ c * d ≤ 3600000000 := by
  have h1 := Int.mul_nonneg (show 0 ≤ c by omega) (show 0 ≤ d by omega)
  have h2 := bd_mulA (a := c) (b := d) (A := 3600) (B := 1000000) (by omega) (by omega) (by omega)
  omega

set_option maxRecDepth 100000 in
theorem isTime_any (c : Int) (r : Rt) (Bc : Nat) (w : World) (hc : 1 ≤ c ∧ c ≤ 3600) (hr : I64q r) (hB : Blk w Bc #[.int .i64 c] 3) :
    Calls Try.prog 53 #[.agg #[.int .i64 r.n, .int .i64 r.d], .pointer (some ⟨Bc, 0, none⟩)] w fun e w' => e = .returned (.bool (decide (TimeIn c r))) ∧ Below w.heap.size w w' := by
  have hA := below_box w (.cells #[.int .i64 r.n, .int .i64 r.d] 24)
  have hq := Blk.new w #[.int .i64 r.n, .int .i64 r.d] 24
  have hc1 := hB.alloc (.cells #[.int .i64 r.n, .int .i64 r.d] 24)
  have q0 := hq.cell 0 _ rfl
  have q1 := hq.cell 1 _ rfl
  obtain ⟨R, hR⟩ : ∃ R, decide (TimeIn c r) = R := ⟨_, rfl⟩
  rw [hR]
  have HA := Lib.hid hA
  have HQ := Lib.hid hq
  have HC := Lib.hid hc1
  have HB := Lib.hid hB.lt
  clear hA hq hc1 hB
  go_enter Try.func53, Try.ntmps53
  go_wp2_with fail
  refine (isLowest_any r.n r.d _ hr.1).mono ?_
  rintro e w3 ⟨rfl, hb3⟩
  clear q0 q1
  have HA3 := Lib.hid (HA.out.trans (hb3.mono HA.out.size))
  by_cases h1 : 1 ≤ r.d ∧ r.d ≤ 1000000 ∧ gI r.n r.d = 1
  case neg =>
    rw [decide_eq_false h1]
    have hF : false = R := by rw [← hR]; exact (decide_eq_false (fun x => h1 x.1)).symm
    have HF := Lib.hid hF
    clear HA HQ HC hb3 h1 hF hR
    go_wp2
    go_ret
    exact ⟨ret_bool HF.out, HA3.out⟩
  rw [decide_eq_true h1]
  have hq3 := HQ.out.below hb3 HQ.out.lt
  have hc3 := HC.out.below hb3 HC.out.lt
  have q0 := hq3.cell 0 _ rfl
  have q1 := hq3.cell 1 _ rfl
  have c0 := hc3.cell 0 _ rfl
  have m1 := cyc_bd hc ⟨h1.1, h1.2.1⟩
  have z1 := wrap_id (c * r.d) (by unfold I64; omega)
  go_wp2_with fail
  refine (between_any r.n 0 (c * r.d) _).mono ?_
  rintro e w' ⟨rfl, hw'⟩
  subst hw'
  have hF : btw r.n 0 (c * r.d) = R := by
    rw [← hR]; unfold btw
    exact decide_eq_decide.2 ⟨fun x => ⟨h1, x⟩, fun x => x.2⟩
  rw [hF]
  go_wp2
  go_ret
  exact ⟨rfl, HA3.out⟩

set_option maxHeartbeats 2000000 in
set_option maxRecDepth 100000 in
theorem areS_any (c : Int) (v : Value) (l : List St) (w : World) (hr : RSts w v l) (hc : 1 ≤ c ∧ c ≤ 3600) :
    Calls Try.prog 34 #[.int .i64 c, v] w fun e w' => e = .returned (.bool (areS c l)) ∧ Below w.heap.size w w' := by
  have hmf : ∀ (fn : Fn) (first cap : Array Value) (w : World), (Instr.makeFunc fn first cap).run Try.prog w = .ok (.func fn first cap) w := fun _ _ _ _ => rfl
  obtain ⟨R, hR⟩ : ∃ R, areS c l = R := ⟨_, rfl⟩
  rw [hR]
  have hA := below_box w (.cells #[.int .i64 c] 3)
  have hq := Blk.new w #[.int .i64 c] 3
  have HQ := Lib.hid hq
  have hr1 := hr.mono (ext_of_below hA)
  obtain ⟨a, cap, rfl, -, ⟨-, hm⟩, hl⟩ := hr1
  have HL := Lib.hid hl
  clear hr hq hl
  go_enter Try.func34, Try.ntmps34
  go_wp2
  have HA := Lib.hid hA
  have hsz : w.heap.size < (w.alloc (.cells #[.int .i64 c] 3)).heap.size := by simp
  clear hA
  generalize w.alloc (.cells #[.int .i64 c] 3) = w1 at *
  go_loopw [11] (fun i wr => ∃ (k : Nat), k ≤ l.length ∧ i = .int .i64 k ∧ (∀ j (hj : j < l.length), j < k → StOk c (l[j]'hj)) ∧ Below w1.heap.size w1 wr) (fun i _ => l.length - (intOf i).toNat)
  case atStart => exact ⟨0, Nat.zero_le _, rfl, fun j hj h => absurd h (by omega), Below.refl _ _⟩
  case round =>
    obtain ⟨k, hk, rfl, hall, hB⟩ := hrel
    by_cases hlt : k < l.length
    · obtain ⟨b1, o1, rfl, ⟨y0, y1, y2, y3⟩, hi1, hi2⟩ := HL.out k hlt
      have e2 := ext_of_below hB
      have l1 := cell_lt y0
      simp only at l1
      have x0 := e2 _ _ y0
      have x1 := e2 _ _ y1
      have x2 := e2 _ _ y2
      have x3 := e2 _ _ y3
      have HNo : Hid (¬ StOk c (l[k]'hlt) → false = R) := Lib.hid (fun h => by rw [← hR]; exact (decide_eq_false (fun x => h (x _ (List.getElem_mem hlt)))).symm)
      have HSt : Hid (StOk c (l[k]'hlt) ↔ TimeIn c (l[k]'hlt).a ∧ TimeIn c (l[k]'hlt).b ∧ (l[k]'hlt).a.n * (l[k]'hlt).b.d ≤ (l[k]'hlt).b.n * (l[k]'hlt).a.d) := Lib.hid Iff.rfl
      have HAll : Hid (StOk c (l[k]'hlt) → ∀ j (hj : j < l.length), j < k + 1 → StOk c (l[j]'hj)) := Lib.hid (fun h j hj hjk => by
        by_cases e : j = k
        · subst e; exact h
        · exact hall j hj (by omega))
      clear y0 y1 y2 y3 e2 hall
      generalize l[k] = x at *
      have hqk := HQ.out.below hB hsz
      have j1 : (0 : Int) ≤ (k : Int) := Int.natCast_nonneg _
      have j2 : (k : Int) < (l.length : Int) := by omega
      have hX := Blk.new wr #[.int .i64 x.a.n, .int .i64 x.a.d, .int .i64 x.b.n, .int .i64 x.b.d] 41
      have hBx : Below w1.heap.size w1 (wr.alloc (.cells #[.int .i64 x.a.n, .int .i64 x.a.d, .int .i64 x.b.n, .int .i64 x.b.d] 41)) := hB.alloc hB.size _
      have hqx := hqk.alloc (.cells #[.int .i64 x.a.n, .int .i64 x.a.d, .int .i64 x.b.n, .int .i64 x.b.d] 41)
      have v0 := hX.cell 0 _ rfl
      have v1 := hX.cell 1 _ rfl
      have HT1 := Lib.hid (isTime_any c x.a w.heap.size _ hc hi1 hqx)
      go_wp2_with fail
      refine HT1.out.mono ?_
      rintro e w3 ⟨rfl, hb3⟩
      clear HT1 v0 v1
      have hB3 := hBx.trans (hb3.mono hBx.size)
      have hX3 := hX.below hb3 hX.lt
      have hq3 := hqx.below hb3 hqx.lt
      clear hBx hX hqx hb3 x0 x1 x2 x3
      generalize wr.alloc (.cells #[.int .i64 x.a.n, .int .i64 x.a.d, .int .i64 x.b.n, .int .i64 x.b.d] 41) = wq at *
      by_cases h1 : TimeIn c x.a
      case neg =>
        rw [decide_eq_false h1]
        have hF := HNo.out (fun x => h1 (HSt.out.1 x).1)
        have HF := Lib.hid hF
        have HE := Lib.hid (HA.out.trans (hB3.mono HA.out.size))
        clear hF h1 hR HNo HSt HAll
        go_wp2
        go_ret
        exact ⟨ret_bool HF.out, HE.out⟩
      rw [decide_eq_true h1]
      have v2 := hX3.cell 2 _ rfl
      have v3 := hX3.cell 3 _ rfl
      have HT2 := Lib.hid (isTime_any c x.b w.heap.size _ hc hi2 hq3)
      go_wp2_with fail
      refine HT2.out.mono ?_
      rintro e w4 ⟨rfl, hb4⟩
      clear HT2 v2 v3
      have hB4 := hB3.trans (hb4.mono hB3.size)
      have hX4 := hX3.below hb4 hX3.lt
      clear hB3 hX3 hq3 hb4
      by_cases h2 : TimeIn c x.b
      case neg =>
        rw [decide_eq_false h2]
        have hF := HNo.out (fun x => h2 (HSt.out.1 x).2.1)
        have HF := Lib.hid hF
        have HE := Lib.hid (HA.out.trans (hB4.mono HA.out.size))
        clear hF h1 h2 hR HNo HSt HAll
        go_wp2
        go_ret
        exact ⟨ret_bool HF.out, HE.out⟩
      rw [decide_eq_true h2]
      have v0 := hX4.cell 0 _ rfl
      have v1 := hX4.cell 1 _ rfl
      have v2 := hX4.cell 2 _ rfl
      have v3 := hX4.cell 3 _ rfl
      have b1 := cyc_bd hc ⟨h1.1.1, h1.1.2.1⟩
      have b2 := cyc_bd hc ⟨h2.1.1, h2.1.2.1⟩
      have c1 := h1.1; have c2 := h1.2; have c3 := h2.1; have c4 := h2.2
      have HCv := fun V => covers_any x.b.n x.b.d x.a.n x.a.d V (by omega) (by omega) (by omega) (by omega)
      clear b1 b2 c1 c2 c3 c4
      go_wp2_with fail
      refine (HCv _).mono ?_
      rintro e w5 ⟨rfl, hb5⟩
      clear HCv v0 v1 v2 v3
      have hB5 := hB4.trans (hb5.mono hB4.size)
      clear hB4 hX4 hb5
      by_cases h3 : x.a.n * x.b.d ≤ x.b.n * x.a.d
      case neg =>
        rw [decide_eq_false h3]
        have hF := HNo.out (fun x => h3 (HSt.out.1 x).2.2)
        have HF := Lib.hid hF
        have HE := Lib.hid (HA.out.trans (hB5.mono HA.out.size))
        clear hF h1 h2 h3 hR HNo HSt HAll
        go_wp2
        go_ret
        exact ⟨ret_bool HF.out, HE.out⟩
      rw [decide_eq_true h3]
      have HAL := Lib.hid (HAll.out (HSt.out.2 ⟨h1, h2, h3⟩))
      have HE := Lib.hid hB5
      clear hB5 h1 h2 h3
      go_wp2
      go_roundw
      case rel => exact ⟨k + 1, by omega, by go_num, HAL.out, HE.out⟩
      case measure => simp [intOf]; omega
    · have hF : true = R := by
        rw [← hR]
        exact (decide_eq_true (fun s hs => by
          obtain ⟨j, hj, rfl⟩ := List.getElem_of_mem hs
          exact hall j hj (by omega))).symm
      have HE := Lib.hid (HA.out.trans (hB.mono HA.out.size))
      clear hall hB
      go_wp2
      go_ret
      exact ⟨ret_bool hF, HE.out⟩
end Go.Proofs.Ytnldenjdbgfgmaa
