/- Products of numbers that stand in the same places; no statement is proved here. -/
import Derived.Test.YtpkggjfaefkiiaaLines4
namespace Go.Proofs.Ytpkggjfaefkiiaa
open Go.RowKit Go.PlainAid
set_option linter.unusedVariables false

def dotTo (a b : List Int) (k : Nat) : Int := ((List.range k).map fun i => a.getD i 0 * b.getD i 0).sum
def dotB (a b : List Int) : Int := wrap64 (dotTo a b a.length)

theorem dotTo_succ (a b : List Int) (k : Nat) (x : Int) (hx : x = wrap64 (dotTo a b k)) : wrap64 (x + wrap64 (a.getD k 0 * b.getD k 0)) = wrap64 (dotTo a b (k + 1)) := by
  rw [wrap_add', hx, wrap_add]
  unfold dotTo
  rw [List.range_succ, List.map_append, List.map_singleton, sum_snoc]

set_option maxRecDepth 100000 in
theorem dot_any (va vb : Value) (a b : List Int) (w : World) (ha : RInts w va a) (hb : RInts w vb b) (hl : a.length ≤ b.length) :
    Calls Try.prog 76 #[va, vb] w fun e w' => e = .returned (.int .i64 (dotB a b)) ∧ w = w' := by
  obtain ⟨pa, ka, rfl, -, ⟨-, hma⟩, hal⟩ := ha
  obtain ⟨pb, kb, rfl, -, ⟨-, hmb⟩, hbl⟩ := hb
  go_enter Try.func76, Try.ntmps76
  go_wp2
  go_loop [5, 10] (fun n i => ∃ (k : Nat) (x : Int), k ≤ a.length ∧ i = .int .i64 k ∧ n = .int .i64 x ∧ Hid (x = wrap64 (dotTo a b k))) (fun _ i => a.length - (intOf i).toNat)
  case atStart => exact ⟨0, 0, Nat.zero_le _, rfl, rfl, by simp [wrap64, Hid, dotTo]⟩
  case round =>
    obtain ⟨k, x, hk, rfl, rfl, hx⟩ := hrel
    by_cases hlt : k < a.length
    · obtain ⟨b1, o1, rfl, g1, -⟩ := hal k hlt
      obtain ⟨b2, o2, rfl, g2, -⟩ := hbl k (by omega)
      have hst := dotTo_succ a b k x hx.out
      rw [show a.getD k 0 = a[k]'hlt by simp [List.getD, List.getElem?_eq_getElem hlt], show b.getD k 0 = b[k]'(by omega) by simp [List.getD, List.getElem?_eq_getElem (show k < b.length by omega)]] at hst
      have HS := Lib.hid hst
      have hlb : k < b.length := by omega
      simp only [Nat.mul_one] at g1 g2
      clear hal hbl hst hx
      generalize a[k] = y at *
      generalize b[k]'(by omega) = z at *
      go_wp2
      go_round
      case rel => exact ⟨k + 1, _, by omega, by go_num, rfl, HS⟩
      case measure => simp [intOf]; omega
    · have hxx := hx.out
      rw [show k = a.length from by omega] at hxx
      have HX := Lib.hid hxx
      clear hx hxx hal hbl
      go_wp2
      go_ret
      exact ⟨ret_int HX.out, rfl⟩

end Go.Proofs.Ytpkggjfaefkiiaa
