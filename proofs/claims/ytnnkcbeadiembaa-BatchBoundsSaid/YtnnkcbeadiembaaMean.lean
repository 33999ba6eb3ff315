/- The greatest weighted mean; no statement is proved here. -/
import Derived.Test.YtnnkcbeadiembaaGrams2
namespace Go.Proofs.Ytnnkcbeadiembaa
open Go.RowKit Go.PlainAid
set_option linter.unusedVariables false

def maxTo (l : List Int) (k : Nat) : Int := (l.take k).foldl max (l.getD 0 0)
def maxB (l : List Int) : Int := l.foldl max (l.getD 0 0)

theorem maxTo_succ (l : List Int) (k : Nat) (h : k < l.length) : maxTo l (k + 1) = max (maxTo l k) l[k] := by
  unfold maxTo
  rw [List.take_succ_eq_append_getElem h, List.foldl_append]
  rfl

set_option maxRecDepth 100000 in
theorem max_any (v : Value) (l : List Int) (w : World) (h : RInts w v l) (hn : 1 ≤ l.length) :
    Calls Try.prog 112 #[v] w fun e w' => e = .returned (.int .i64 (maxB l)) ∧ w = w' := by
  obtain ⟨a, kap, rfl, hc1, ⟨hc2, hm⟩, hl⟩ := h
  obtain ⟨b, off, rfl, h0, -⟩ := hl 0 (by omega)
  simp only [Nat.zero_mul, Nat.add_zero] at h0
  have hge : ¬ (l.length : Int) < 1 := by omega
  have hpos : 0 < l.length := by omega
  have hM : l[0] = maxTo l 1 := by
    have := maxTo_succ l 0 (by omega)
    rw [this]; unfold maxTo
    simp [List.getD, List.getElem?_eq_getElem hpos]
  have HM := Lib.hid hM
  clear hM
  go_enter Try.func112, Try.ntmps112
  go_wp2
  go_loop [3, 4] (fun m i => ∃ (k : Nat) (x : Int), 1 ≤ k ∧ k ≤ l.length ∧ i = .int .i64 k ∧ m = .int .i64 x ∧ Hid (x = maxTo l k)) (fun _ i => l.length - (intOf i).toNat)
  case atStart => exact ⟨1, _, by omega, by omega, rfl, rfl, HM⟩
  case round =>
    obtain ⟨k, x, hk1, hk, rfl, rfl, hx⟩ := hrel
    by_cases hlt : k < l.length
    · obtain ⟨b', off', e, h1, -⟩ := hl k hlt
      simp only [Option.some.injEq, Addr.mk.injEq, and_true] at e
      obtain ⟨rfl, rfl⟩ := e
      simp only [Nat.mul_one] at h1
      have hst := maxTo_succ l k hlt
      rw [← hx.out] at hst
      have HS := Lib.hid hst
      clear hl hst hx h0
      generalize l[k] = y at *
      by_cases hxy : x < y
      · have hX : maxTo l (k + 1) = y := by rw [HS.out]; omega
        have HX := Lib.hid hX.symm
        clear hX HS
        go_wp2
        go_round
        case rel => exact ⟨k + 1, _, by omega, by omega, by go_num, rfl, HX⟩
        case measure => simp [intOf]; omega
      · have hX : maxTo l (k + 1) = x := by rw [HS.out]; omega
        have HX := Lib.hid hX.symm
        clear hX HS
        go_wp2
        go_round
        case rel => exact ⟨k + 1, _, by omega, by omega, by go_num, rfl, HX⟩
        case measure => simp [intOf]; omega
    · have hX : x = maxB l := by rw [hx.out]; unfold maxTo maxB; rw [List.take_of_length_le (by omega)]
      have HX := Lib.hid hX
      clear hX hx hl
      go_wp2
      go_ret
      exact ⟨ret_int HX.out, rfl⟩

end Go.Proofs.Ytnnkcbeadiembaa
