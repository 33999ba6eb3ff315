/- The search for the first number, and what a bottle's glass bears; no statement is proved here. -/
import Derived.Test.YtaldpalhckdcdaaGreatDoorTill
namespace Go.Proofs.YtaldpalhckdcdaaGreatDoor
open Go.RowKit Go.PlainAid
set_option linter.unusedVariables false
structure IsFirst (p : Int → Bool) (lo hi n : Int) : Prop where
  ge : lo ≤ n
  le : n ≤ hi + 1
  no : ∀ x, lo ≤ x → x < n → p x = false
  yes : ∀ x, n ≤ x → x ≤ hi → p x = true

set_option maxHeartbeats 1000000 in
set_option maxRecDepth 100000 in
theorem first5_any (gf : Nat) (caps : Array Value) (p : Int → Bool) (lo hi : Int) (w : World) (hfn : IsFn gf) (hlo : 0 ≤ lo) (hhi : hi ≤ 1000000000000000) (hle : lo ≤ hi + 1)
    (hm : ∀ x y, lo ≤ x → x ≤ y → y ≤ hi → p x = true → p y = true)
    (h : ∀ x, lo ≤ x → x ≤ hi → ∀ V, Below w.heap.size w V → Calls Tryz.prog gf (#[.int .i64 x] ++ caps) V fun e w' => e = .returned (.bool (p x)) ∧ Below V.heap.size V w') :
    Calls Tryz.prog 29 #[.int .i64 lo, .int .i64 hi, .func (.func gf) #[] caps] w fun e w' => ∃ n, e = .returned (.int .i64 n) ∧ IsFirst p lo hi n ∧ Below w.heap.size w w' := by
  have hen := fun xs w => hfn xs w
  have HM := Lib.hid hm
  have HH := Lib.hid h
  clear hm h
  go_enter Tryz.func29, Tryz.ntmps29
  go_wp2
  go_loopw [0, 1] (fun u v wr => ∃ (a c : Int), u = .int .i64 a ∧ v = .int .i64 c ∧ Hid (lo ≤ a ∧ a ≤ c + 1 ∧ c ≤ hi) ∧ Hid (∀ x, lo ≤ x → x < a → p x = false) ∧ Hid (∀ x, c < x → x ≤ hi → p x = true) ∧ Below w.heap.size w wr) (fun u v _ => (intOf v - intOf u + 1).toNat)
  case atStart => exact ⟨lo, hi, rfl, rfl, ⟨Int.le_refl _, hle, Int.le_refl _⟩, fun x h1 h2 => by omega, fun x h1 h2 => by omega, Below.refl _ _⟩
  case round =>
    obtain ⟨a, c, rfl, rfl, hb, hno, hyes, hB⟩ := hrel
    obtain ⟨b1, b2, b3⟩ := hb.out
    by_cases hac : a ≤ c
    · obtain ⟨m, hmd⟩ : ∃ m, a + (c - a) / 2 = m := ⟨_, rfl⟩
      have q1 := wrap_id (c - a) (by unfold I64; omega)
      have q2 : wrap64 ((c - a).tdiv 2) = (c - a) / 2 := by
        rw [Int.tdiv_eq_ediv_of_nonneg (by omega)]
        exact wrap_id _ (by unfold I64; omega)
      have q3 : wrap64 (a + (c - a) / 2) = m := by rw [hmd]; exact wrap_id _ (by unfold I64; omega)
      have m1 : a ≤ m := by omega
      have m2 : m ≤ c := by omega
      have q4 := wrap_id (m - 1) (by unfold I64; omega)
      have q5 := wrap_id (m + 1) (by unfold I64; omega)
      have hcall := HH.out m (by omega) (by omega) wr hB
      have n2 : ¬ (2 : Int) = 0 := by decide
      have HMD := Lib.hid hmd
      have HB := Lib.hid hB
      clear hmd hB hhi hlo hle
      go_wp2_with fail
      refine hcall.mono ?_
      rintro e w1 ⟨rfl, hb1⟩
      have HB1 := Lib.hid (HB.out.trans (hb1.mono HB.out.size))
      clear hcall hb1
      cases hp : p m with
      | true =>
        have Hy : Hid (∀ x, m - 1 < x → x ≤ hi → p x = true) := Lib.hid (fun x h1 h2 => HM.out m x (by omega) (by omega) h2 hp)
        have Hb : Hid (lo ≤ a ∧ a ≤ (m - 1) + 1 ∧ m - 1 ≤ hi) := Lib.hid ⟨by omega, by omega, by omega⟩
        clear hp
        go_wp2
        go_roundw
        case rel => exact ⟨a, m - 1, rfl, by rw [q4], Hb, hno, Hy, HB1.out⟩
        case measure => simp [intOf]; omega
      | false =>
        have Hn : Hid (∀ x, lo ≤ x → x < m + 1 → p x = false) := Lib.hid (fun x h1 h2 => by
          cases hx : p x with
          | false => rfl
          | true => rw [HM.out x m h1 (by omega) (by omega) hx] at hp; cases hp)
        have Hb : Hid (lo ≤ m + 1 ∧ m + 1 ≤ c + 1 ∧ c ≤ hi) := Lib.hid ⟨by omega, by omega, by omega⟩
        clear hp
        go_wp2
        go_roundw
        case rel => exact ⟨m + 1, c, by rw [q5], rfl, Hb, Hn, hyes, HB1.out⟩
        case measure => simp [intOf]; omega
    · have hF : Hid (IsFirst p lo hi a) := Lib.hid ⟨b1, by omega, hno.out, fun x h1 h2 => hyes.out x (by omega) h2⟩
      have HB := Lib.hid hB
      clear hB
      go_wp2
      go_ret
      exact ⟨a, rfl, hF.out, HB.out⟩

/-- the greatest number whose square is at most q. -/
structure IsRoot (q m : Int) : Prop where
  ge : 0 ≤ m
  sq : m * m ≤ q
  lt : q < (m + 1) * (m + 1)
theorem IsRoot.le_iff {q m s : Int} (h : IsRoot q m) (hs : 0 ≤ s) : s ≤ m ↔ s * s ≤ q := by
  constructor
  · intro h1
    exact Int.le_trans (Int.mul_le_mul h1 h1 hs (by omega)) h.sq
  · intro h1
    by_cases h2 : s ≤ m
    · exact h2
    · have h3 := Int.mul_le_mul (show m + 1 ≤ s by omega) (show m + 1 ≤ s by omega) (by have := h.ge; omega) (by omega)
      have := h.lt
      omega

def overP (q s : Int) : Bool := decide (q / s < s)
theorem overP_iff {q s : Int} (hs : 1 ≤ s) : overP q s = true ↔ q < s * s := by
  unfold overP
  rw [decide_eq_true_iff, Int.ediv_lt_iff_lt_mul (by omega)]

theorem isFn_bears1 : IsFn 100 := fun xs w => by kernel_rfl

set_option maxRecDepth 100000 in
theorem bears1_any (q s : Int) (p0 : Nat) (w : World) (hs : 1 ≤ s) (hq : 0 ≤ q ∧ q ≤ 1000000000000000) (hB : Blk w p0 #[.int .i64 q] 3) :
    Calls Tryz.prog 100 #[.int .i64 s, .pointer (some ⟨p0, 0, none⟩)] w fun e w' => e = .returned (.bool (overP q s)) ∧ Below w.heap.size w w' := by
  have c0 := hB.cell 0 _ rfl
  have hn : ¬ s = 0 := by omega
  have q2 : wrap64 (q.tdiv s) = q / s := by
    rw [Int.tdiv_eq_ediv_of_nonneg hq.1]
    have h1 := Int.ediv_nonneg hq.1 (show 0 ≤ s by omega)
    have h2 := Int.ediv_le_self s hq.1
    exact wrap_id _ (by unfold I64; omega)
  go_enter Tryz.func100, Tryz.ntmps100
  go_wp2
  go_ret
  exact ⟨rfl, Below.refl _ _⟩

set_option maxHeartbeats 1000000 in
set_option maxRecDepth 100000 in
theorem bears_any (v0 : Value) (b : Bot) (w : World) (h : RBot w (.agg #[v0, .int .i64 b.flaw, .int .i64 b.tough]) b) (hf : 1 ≤ b.flaw ∧ b.flaw ≤ 1000) (ht : 0 ≤ b.tough ∧ b.tough ≤ 1000000000000000) :
    Calls Tryz.prog 78 #[.agg #[v0, .int .i64 b.flaw, .int .i64 b.tough]] w fun e w' => ∃ m, e = .returned (.int .i64 m) ∧ IsRoot (b.tough / b.flaw) m ∧ m ≤ 1000000000000000 ∧ Below w.heap.size w w' := by
  obtain ⟨v1, he, hr, -⟩ := h
  cases he
  obtain ⟨a, cap, rfl, -, -, -⟩ := hr
  have hA := below_boxS w (.cells #[.slice a b.rings.length cap, .int .i64 b.flaw, .int .i64 b.tough] 24)
  have hq1 := Int.ediv_nonneg ht.1 (show 0 ≤ b.flaw by omega)
  have hq2 := Int.ediv_le_self b.flaw ht.1
  have hdn := fun V => down_any b.tough b.flaw V (by omega) (by omega)
  obtain ⟨q, hqd⟩ : ∃ q, b.tough / b.flaw = q := ⟨_, rfl⟩
  rw [hqd] at hdn hq1 hq2
  replace hqd := Lib.hid hqd
  go_enter Tryz.func78, Tryz.ntmps78
  have hmf : ∀ (fn : Fn) (first cap : Array Value) (w : World), (Instr.makeFunc fn first cap).run Tryz.prog w = .ok (.func fn first cap) w := fun _ _ _ _ => rfl
  go_wp2_with fail
  generalize w.alloc (.cells #[.slice a b.rings.length cap, .int .i64 b.flaw, .int .i64 b.tough] 24) = W0 at *
  refine (hdn _).mono ?_
  rintro e w1 ⟨rfl, hb1⟩
  have hA1 := hA.trans (hb1.mono hA.size)
  have hA2 := hA1.alloc hA1.size (.cells #[.int .i64 q] 3)
  have hB2 := Blk.new w1 #[.int .i64 q] 3
  clear hA hb1 hA1
  go_wp2_with fail
  generalize w1.alloc (.cells #[.int .i64 q] 3) = W2 at *
  refine (first5_any 100 #[.pointer (some ⟨w1.heap.size, 0, none⟩)] (overP q) 1 1000000000000000 W2 isFn_bears1 (by omega) (by omega) (by omega)
    (fun x y h1 h2 h3 hx => by
      rw [overP_iff (by omega)] at hx ⊢
      have := Int.mul_le_mul h2 h2 (by omega) (show 0 ≤ y by omega)
      omega)
    (fun x h1 h2 V hV => bears1_any q x _ V h1 (by omega) (hB2.below hV hB2.lt))).mono ?_
  rintro e w3 ⟨n, rfl, hn, hb3⟩
  have hF := Lib.hid (hA2.trans (hb3.mono hA2.size))
  have n1 := hn.ge
  have n2 := hn.le
  have q1 := wrap_id (n - 1) (by unfold I64; omega)
  have hR : Hid (IsRoot q (n - 1)) := Lib.hid (by
    refine ⟨by omega, ?_, ?_⟩
    · by_cases h1 : n = 1
      · subst h1; simpa using hq1
      · have h2 := hn.no (n - 1) (by omega) (by omega)
        by_cases h3 : (n - 1) * (n - 1) ≤ q
        · exact h3
        · rw [(overP_iff (by omega)).2 (by omega)] at h2; cases h2
    · by_cases h1 : n ≤ 1000000000000000
      · have h2 := (overP_iff (by omega)).1 (hn.yes n (Int.le_refl _) h1)
        rw [show n - 1 + 1 = n by omega]; exact h2
      · have h3 := hn.no 1000000000000000 (by omega) (by omega)
        rw [(overP_iff (by omega)).2 (by omega)] at h3; cases h3)
  clear hn hb3 hA2 hB2
  go_wp2
  go_ret
  exact ⟨n - 1, rfl, by rw [hqd.out]; exact hR.out, by omega, hF.out⟩

end Go.Proofs.YtaldpalhckdcdaaGreatDoor
