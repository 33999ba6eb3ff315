/- The specification's own words for names, lists of them and spans; no statement is proved here. -/
import Derived.Test.YtpkggjfaefkiiaaCheck
namespace Go.Proofs.Ytpkggjfaefkiiaa
open Go.RowKit Go.PlainAid
set_option linter.unusedVariables false

theorem len_bytes (s : ByteArray) : s.toList.length = s.size := by rw [ByteArray.toList_eq, Array.length_toList]; rfl

set_option maxRecDepth 100000 in
theorem rname_any (s : ByteArray) (w : World) (hm : s.size ≤ 140737488351232) :
    Calls Try.prog 56 #[.string s] w fun e w' => e = .returned (.bool (nameB s)) ∧ w = w' := by
  by_cases h0 : s.size = 0
  · have hn : nameB s = false := by simp [nameB, h0]
    rw [hn]
    have h1 : s.toList.isEmpty = true := by
      have : s.toList.length = 0 := by rw [len_bytes, h0]
      rw [List.length_eq_zero_iff.1 this]; rfl
    clear hn
    go_enter Try.func56, Try.ntmps56
    go_wp2
    go_ret
    exact ⟨rfl, rfl⟩
  have hlt0 : 0 < s.size := by omega
  have hne : s.toList.isEmpty = false := by
    cases h : s.toList with
    | nil =>
      have h2 : s.toList.length = 0 := by rw [h]; rfl
      rw [len_bytes] at h2
      omega
    | cons a t => rfl
  by_cases h16 : 16 < s.size
  · have hn : nameB s = false := by unfold nameB; rw [decide_eq_false (p := s.size ≤ 16) (by omega)]; simp
    rw [hn]
    clear hn
    go_enter Try.func56, Try.ntmps56
    go_wp2
    go_ret
    exact ⟨rfl, rfl⟩
  have h16b : decide ((16 : Int) < (s.size : Int)) = false := decide_eq_false (by omega)
  have hg := get_bt s 0 hlt0
  by_cases hl : 97 ≤ bt s 0 ∧ bt s 0 ≤ 122
  · obtain ⟨hl1, hl2⟩ := hl
    have hn : nameB s = chsB s 0 := by simp [nameB, letB, hl1, hl2]; omega
    rw [hn]
    clear hn
    go_enter Try.func56, Try.ntmps56
    go_wp2
    go_loop [3, 4, 5] (fun i _ _ => ∃ k : Nat, k ≤ s.size ∧ i = .int .i64 k ∧ Hid (chsB s 0 = chsB s k)) (fun i _ _ => s.size - (intOf i).toNat)
    case atStart => exact ⟨0, by omega, rfl, rfl⟩
    case round =>
      obtain ⟨k, hk, rfl, hx⟩ := hrel
      clear hg h0 h16 h16b hne hl1 hl2
      by_cases hlt : k < s.size
      · have hst := Lib.hid (chsB_step s k hlt)
        have hg := get_bt s k hlt
        have hge := bt_nonneg s k
        have hle := bt_le s k
        have hfin : ∀ x, chB (bt s k) = x → Hid (chsB s 0 = (x && chsB s (k + 1))) := fun x e => by
          unfold Hid; rw [hx.out, hst.out, e]
        have HFIN := Lib.hid hfin
        clear hx hst hfin
        generalize bt s k = c at *
        go_wp2
        all_goals first
          | (go_ret
             have HX := HFIN.out false (by simp [chB, letB] at *; omega)
             exact ⟨ret_bool (by have := HX.out; simpa using this.symm), rfl⟩)
          | (have HX := HFIN.out true (by simp [chB, letB] at *; omega)
             go_round
             case rel => exact ⟨k + 1, by omega, by go_num, by have := HX.out; simpa [Hid] using this⟩
             case measure => simp [intOf]; omega)
      · have HX := hx
        clear hx
        go_wp2
        go_ret
        exact ⟨ret_bool (by rw [HX.out, chsB_end s k (by omega)]), rfl⟩
  · have hn : nameB s = false := by simp [nameB, letB]; omega
    rw [hn]
    clear hn
    go_enter Try.func56, Try.ntmps56
    go_wp2
    all_goals go_ret
    all_goals exact ⟨rfl, rfl⟩

set_option maxRecDepth 100000 in
theorem rin_any (v : Value) (l : List ByteArray) (x : ByteArray) (w : World) (h : RStrs w v l) :
    Calls Try.prog 57 #[v, .string x] w fun e w' => e = .returned (.bool (l.any fun y => eqS y x)) ∧ w = w' := by
  obtain ⟨a, kap, rfl, hc1, ⟨hc2, hm⟩, hl⟩ := h
  go_enter Try.func57, Try.ntmps57
  go_wp2
  go_loop [5] (fun i => ∃ (k : Nat), k ≤ l.length ∧ i = .int .i64 k ∧ Hid ((l.take k).any (fun y => eqS y x) = false)) (fun i => l.length - (intOf i).toNat)
  case atStart => exact ⟨0, Nat.zero_le _, rfl, by simp [Hid]⟩
  case round =>
    obtain ⟨k, hk, rfl, hx⟩ := hrel
    by_cases hlt : k < l.length
    · obtain ⟨b, off, rfl, h1, h2⟩ := hl k hlt
      simp only [Nat.mul_one] at h1
      have hst := Lib.hid (any_take l (fun y => eqS y x) k hlt hx.out)
      have hfi := Lib.hid (any_of l (fun y => eqS y x) k hlt)
      clear hl hc1 h2
      generalize l[k] = s at *
      go_wp2
      · have hq : (s.toList == x.toList) = true := by assumption
        go_ret
        exact ⟨ret_bool (hfi.out hq).symm, rfl⟩
      · have hq : (s.toList == x.toList) = false := by assumption
        go_round
        case rel => exact ⟨k + 1, by omega, by go_num, hst.out.trans hq⟩
        case measure => simp [intOf]; omega
    · go_wp2
      go_ret
      refine ⟨ret_bool ?_, rfl⟩
      have := hx.out
      rw [List.take_of_length_le (by omega)] at this
      rw [this]

theorem rwithin_any (s : Sp) (a b : Int) (w : World) :
    Calls Try.prog 59 #[.agg #[.int .i64 s.lo, .int .i64 s.hi], .int .i64 a, .int .i64 b] w fun e w' => e = .returned (.bool (withinB s a b)) ∧ Below w.heap.size w w' := by
  go_enter Try.func59, Try.ntmps59
  go_wp2
  all_goals go_ret
  all_goals (refine ⟨?_, by go_grown⟩; simp [withinB]; try omega)

end Go.Proofs.Ytpkggjfaefkiiaa
