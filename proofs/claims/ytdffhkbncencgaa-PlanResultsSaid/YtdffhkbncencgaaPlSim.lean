/- Two lists compared by the laws: culletlaw01.SameInts, culletlaw08.ahead; no statement is proved here. -/
import Derived.Test.YtdffhkbncencgaaPlLw
import Derived.Deep.QuietTactic
import Derived.BigQuiet
namespace Go.Proofs.Ytdffhkbncencgaa
open Go.RowKit Go.PlainAid
set_option linter.unusedVariables false
set_option linter.unusedSimpArgs false

/-- a list comes ahead of another one. -/
def aheadB : List Int → List Int → Bool
  | x :: a, y :: b => if x = y then aheadB a b else decide (x < y)
  | _, _ => false
theorem aheadB_at {a b : List Int} {k : Nat} (h1 : k < a.length) (h2 : k < b.length) : aheadB (a.drop k) (b.drop k) = if a[k] = b[k] then aheadB (a.drop (k + 1)) (b.drop (k + 1)) else decide (a[k] < b[k]) := by
  rw [List.drop_eq_getElem_cons h1, List.drop_eq_getElem_cons h2]; rfl
theorem drop_eq_at {a b : List Int} {k : Nat} (h1 : k < a.length) (h2 : k < b.length) : a.drop k = b.drop k ↔ a[k] = b[k] ∧ a.drop (k + 1) = b.drop (k + 1) := by
  rw [List.drop_eq_getElem_cons h1, List.drop_eq_getElem_cons h2, List.cons_eq_cons]
def BoolD (b : Bool) (w : World) (e : Ending) (w' : World) : Prop := e = .returned (.bool b) ∧ ∃ n, w' = w.drewN n

set_option maxHeartbeats 4000000 in
set_option maxRecDepth 100000 in
theorem sameInts_any (v1 v2 : Value) (a b : List Int) (w : World) (h1 : RInts w v1 a) (h2 : RInts w v2 b) : Calls Try.prog 27 #[v1, v2] w (BoolD (decide (a = b)) w) := by
  obtain ⟨pa, ka, rfl, -, ⟨-, la⟩, hal⟩ := h1
  obtain ⟨pb, kb, rfl, -, ⟨-, lb⟩, hbl⟩ := h2
  by_cases hl : a.length = b.length
  case neg =>
    have HP : Hid (decide (a = b) = false) := Lib.hid (decide_eq_false (fun e => hl (by rw [e])))
    have hq : ((a.length : Int) != (b.length : Int)) = true := by simp; omega
    clear hal hbl
    generalize a.length = la at *
    generalize b.length = lb at *
    go_enter Try.func27, Try.ntmps27
    go_wp2
    go_ret
    exact ⟨by rw [HP.out]; rfl, 0, rfl⟩
  have hq : ((a.length : Int) != (b.length : Int)) = false := by simp; omega
  have HL := Lib.hid hl
  obtain ⟨lbn, hlb⟩ : ∃ n, b.length = n := ⟨_, rfl⟩
  have HLB := Lib.hid hlb
  rw [hlb] at hq
  rw [show (Value.slice pb b.length kb) = .slice pb lbn kb by rw [hlb]]
  clear hl hlb
  go_enter Try.func27, Try.ntmps27
  go_wp2
  go_loopw [5] (fun i wr => ∃ (k n : Nat), k ≤ a.length ∧ i = .int .i64 k ∧ wr = w.drewN n ∧ Hid (decide (a = b) = decide (a.drop k = b.drop k))) (fun i _ => a.length - (intOf i).toNat)
  case atStart => exact ⟨0, 0, Nat.zero_le _, rfl, rfl, Lib.hid (by simp)⟩
  case round =>
    obtain ⟨k, n, hk, rfl, rfl, hd⟩ := hrel
    by_cases hlt : k < a.length
    · have hlt2 : k < b.length := by rw [← HL.out]; exact hlt
      obtain ⟨b1, o1, rfl, q1, -⟩ := hal k hlt
      obtain ⟨b2, o2, rfl, q2, -⟩ := hbl k hlt2
      simp only [Nat.mul_one] at q1 q2
      have j1 : (0 : Int) ≤ (k : Int) := Int.natCast_nonneg _
      have j2 : (k : Int) < (a.length : Int) := by omega
      have j3 : (k : Int) < (lbn : Int) := by have := HL.out; have := HLB.out; omega
      have hda := drop_eq_at hlt hlt2
      have hd0 := hd.out
      clear hal hbl hd
      generalize a[k] = x at *
      generalize b[k] = y at *
      by_cases hxy : x = y
      · subst hxy
        have HD : Hid (decide (a = b) = decide (a.drop (k + 1) = b.drop (k + 1))) := Lib.hid (by rw [hd0]; simp only [hda, true_and])
        have hxq : (x != x) = false := by simp
        clear hda hd0
        go_wp2_with fail
        go_quiet (fail)
        go_wp2
        go_roundw
        case rel => exact ⟨k + 1, _, by omega, by go_num, rfl, HD⟩
        case measure => simp [intOf]; omega
      · have HD : Hid (decide (a = b) = false) := Lib.hid (by rw [hd0]; exact decide_eq_false (fun e => hxy (hda.1 e).1))
        have hxq : (x != y) = true := by simp [hxy]
        clear hda hd0
        go_wp2_with fail
        go_quiet (fail)
        go_wp2
        go_ret
        exact ⟨by rw [HD.out]; rfl, _, World.drewN_drewN _ _ _⟩
    · obtain rfl : k = a.length := by omega
      have HD : Hid (decide (a = b) = true) := Lib.hid (by rw [hd.out, HL.out, List.drop_length, ← HL.out, List.drop_length]; simp)
      clear hal hbl hd
      go_wp2
      go_ret
      exact ⟨by rw [HD.out]; rfl, n, rfl⟩

set_option maxHeartbeats 4000000 in
set_option maxRecDepth 100000 in
theorem ahead_any (p1 p2 : Option Addr) (c k1 k2 : Nat) (a b : List Int) (w : World) (h1 : RInts w (.slice p1 c k1) a) (h2 : RInts w (.slice p2 c k2) b) : Calls Try.prog 28 #[.slice p1 c k1, .slice p2 c k2] w (BoolD (aheadB a b) w) := by
  obtain ⟨pa, ka, hva, -, ⟨-, la⟩, hal⟩ := h1
  obtain ⟨pb, kb, hvb, -, ⟨-, lb⟩, hbl⟩ := h2
  simp only [Value.slice.injEq] at hva hvb
  obtain ⟨rfl, hca, rfl⟩ := hva
  obtain ⟨rfl, hcb, rfl⟩ := hvb
  have HCA := Lib.hid hca
  have HCB := Lib.hid hcb
  have hcl : c ≤ 140737488351232 := by omega
  clear hca hcb
  go_enter Try.func28, Try.ntmps28
  go_wp2
  go_loopw [5] (fun i wr => ∃ (k n : Nat), k ≤ c ∧ i = .int .i64 k ∧ Hid (wr = w.drewN n) ∧ Hid (aheadB a b = aheadB (a.drop k) (b.drop k))) (fun i _ => c - (intOf i).toNat)
  case atStart => exact ⟨0, 0, Nat.zero_le _, rfl, Lib.hid rfl, Lib.hid (by simp)⟩
  case round =>
    obtain ⟨k, n, hk, rfl, hw, hd⟩ := hrel
    by_cases hlt : k < c
    · have hlt1 : k < a.length := by rw [← HCA.out]; exact hlt
      have hlt2 : k < b.length := by rw [← HCB.out]; exact hlt
      obtain ⟨b1, o1, rfl, q1, -⟩ := hal k hlt1
      obtain ⟨b2, o2, rfl, q2, -⟩ := hbl k hlt2
      simp only [Nat.mul_one] at q1 q2
      have hbw : Below w.heap.size w wr := by rw [hw.out]; exact below_drewN (Below.refl _ _) _
      replace q1 := ext_of_below hbw _ _ q1
      replace q2 := ext_of_below hbw _ _ q2
      clear hbw
      have j1 : (0 : Int) ≤ (k : Int) := Int.natCast_nonneg _
      have j2 : (k : Int) < (c : Int) := by omega
      have hda := aheadB_at hlt1 hlt2
      have hd0 := hd.out
      rw [hda] at hd0
      clear hal hbl hd hda
      generalize a[k] = x at *
      generalize b[k] = y at *
      by_cases hxy : x = y
      · subst hxy
        rw [if_pos rfl] at hd0
        have HD := Lib.hid hd0
        have hxq : (x != x) = false := by simp
        clear hd0
        go_wp2_with fail
        go_quiet (fail)
        go_wp2
        go_roundw
        case rel => exact ⟨k + 1, _, by omega, by go_num, Lib.hid (by rw [hw.out]; exact World.drewN_drewN _ _ _), HD⟩
        case measure => simp [intOf]; omega
      · rw [if_neg hxy] at hd0
        have HD := Lib.hid hd0
        have hxq : (x != y) = true := by simp [hxy]
        clear hd0
        go_wp2_with fail
        go_quiet (fail)
        go_wp2_with fail
        have hxV := below_drewN (Below.refl wr.heap.size wr) nq
        replace q1 := ext_of_below hxV _ _ q1
        replace q2 := ext_of_below hxV _ _ q2
        clear hxV
        have HV : Hid (wr.drewN nq = w.drewN (n + nq)) := Lib.hid (by rw [hw.out]; exact World.drewN_drewN _ _ _)
        generalize wr.drewN nq = V at *
        go_quiet (fail)
        go_wp2
        go_ret
        exact ⟨by rw [HD.out]; rfl, _, by rw [HV.out]; exact World.drewN_drewN _ _ _⟩
    · obtain rfl : k = c := by omega
      have HD : Hid (aheadB a b = false) := Lib.hid (by
        rw [hd.out]
        have h1 : a.drop k = [] := by rw [List.drop_eq_nil_iff]; have := HCA.out; omega
        rw [h1]; rfl)
      clear hal hbl hd
      have j4 : ¬ (k : Int) < (k : Int) := by omega
      go_wp2
      go_ret
      exact ⟨by rw [HD.out]; rfl, n, by rw [hw.out]⟩
end Go.Proofs.Ytdffhkbncencgaa
