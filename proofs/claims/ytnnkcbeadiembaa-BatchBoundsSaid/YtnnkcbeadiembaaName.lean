/- Names, and lists of them; no statement is proved here. -/
import Derived.Test.YtnnkcbeadiembaaFind
import Derived.PlainAid
namespace Go.Proofs.Ytnnkcbeadiembaa
open Go.RowKit Go.PlainAid
set_option linter.unusedVariables false

def letB (c : Int) : Bool := decide (97 ≤ c) && decide (c ≤ 122)
def chB (c : Int) : Bool := letB c || c == 45 || (decide (48 ≤ c) && decide (c ≤ 57))
/-- the bytes of a string from place k on are those of a name. -/
def chsB (s : ByteArray) (k : Nat) : Bool := (List.range' k (s.size - k)).all fun i => chB (bt s i)
def nameB (s : ByteArray) : Bool := decide (1 ≤ s.size) && decide (s.size ≤ 16) && letB (bt s 0) && chsB s 0

theorem chsB_end (s : ByteArray) (k : Nat) (h : s.size ≤ k) : chsB s k = true := by unfold chsB; rw [show s.size - k = 0 from by omega]; rfl
theorem chsB_step (s : ByteArray) (k : Nat) (h : k < s.size) : chsB s k = (chB (bt s k) && chsB s (k + 1)) := by
  unfold chsB
  obtain ⟨n, hn⟩ : ∃ n, s.size - k = n + 1 := ⟨s.size - k - 1, by omega⟩
  rw [hn, show s.size - (k + 1) = n from by omega, List.range'_succ, List.all_cons]

theorem letter_any (n : Int) (w : World) :
    Calls Try.prog 118 #[.int .u8 n] w fun e w' => e = .returned (.bool (letB n)) ∧ w = w' := isLetter_any n w

set_option maxRecDepth 100000 in
theorem isName_any (s : ByteArray) (w : World) (hm : s.size ≤ 140737488351232) :
    Calls Try.prog 98 #[.string s] w fun e w' => e = .returned (.bool (nameB s)) ∧ w = w' := by
  by_cases h0 : s.size = 0
  · have hn : nameB s = false := by simp [nameB, h0]
    rw [hn]
    have h1 : ((s.size : Int) == 0) = true := by simp [h0]
    clear hn
    go_enter Try.func98, Try.ntmps98
    go_wp2
    go_ret
    exact ⟨rfl, rfl⟩
  have h1 : ((s.size : Int) == 0) = false := by simp [h0]
  by_cases h16 : 16 < s.size
  · have hn : nameB s = false := by unfold nameB; rw [decide_eq_false (p := s.size ≤ 16) (by omega)]; simp
    rw [hn]
    clear hn
    go_enter Try.func98, Try.ntmps98
    go_wp2
    go_ret
    exact ⟨rfl, rfl⟩
  have hlt0 : 0 < s.size := by omega
  have h16b : decide ((16 : Int) < (s.size : Int)) = false := decide_eq_false (by omega)
  cases hl : letB (bt s 0) with
  | false =>
    have hn : nameB s = false := by simp [nameB, hl]
    rw [hn]
    clear hn
    have HL := Lib.hid hl
    have hg := get_bt s 0 hlt0
    clear hl
    go_enter Try.func98, Try.ntmps98
    go_wp2_with fail
    refine (letter_any _ _).mono ?_
    rintro e w1 ⟨rfl, rfl⟩
    rw [HL.out]
    go_wp2
    go_ret
    exact ⟨rfl, rfl⟩
  | true =>
    have hn : nameB s = chsB s 0 := by simp [nameB, hl]; omega
    rw [hn]
    clear hn
    have HL := Lib.hid hl
    have hg := get_bt s 0 hlt0
    clear hl
    go_enter Try.func98, Try.ntmps98
    go_wp2_with fail
    refine (letter_any _ _).mono ?_
    rintro e w1 ⟨rfl, rfl⟩
    rw [HL.out]
    clear hg
    go_wp2
    go_loop [21] (fun i => ∃ k : Nat, k ≤ s.size ∧ i = .int .i64 k ∧ Hid (chsB s 0 = chsB s k)) (fun i => s.size - (intOf i).toNat)
    case atStart => exact ⟨0, by omega, rfl, rfl⟩
    case round =>
      obtain ⟨k, hk, rfl, hx⟩ := hrel
      clear HL h0 h1 h16 h16b
      by_cases hlt : k < s.size
      · have hst := Lib.hid (chsB_step s k hlt)
        have hg := get_bt s k hlt
        have hge := bt_nonneg s k
        have hle := bt_le s k
        have hfin : ∀ x, chB (bt s k) = x → Hid (chsB s 0 = (x && chsB s (k + 1))) := fun x e => by
          unfold Hid; rw [hx.out, hst.out, e]
        clear hx hst
        generalize bt s k = c at *
        cases hl : letB c with
        | true =>
          have HX := hfin true (by simp [chB, hl])
          have HL := Lib.hid hl
          clear hl hfin
          go_wp2_with fail
          refine (letter_any _ _).mono ?_
          rintro e w1 ⟨rfl, rfl⟩
          rw [HL.out]
          go_wp2
          go_round
          case rel => exact ⟨k + 1, by omega, by go_num, by have := HX.out; simpa [Hid] using this⟩
          case measure => simp [intOf]; omega
        | false =>
          have HL := Lib.hid hl
          by_cases hd : c = 45
          · have HX := hfin true (by simp [chB, hd])
            clear hl hfin
            have hb : (c != 45) = false := by simp [hd]
            clear hd
            go_wp2_with fail
            refine (letter_any _ _).mono ?_
            rintro e w1 ⟨rfl, rfl⟩
            rw [HL.out]
            go_wp2
            go_round
            case rel => exact ⟨k + 1, by omega, by go_num, by have := HX.out; simpa [Hid] using this⟩
            case measure => simp [intOf]; omega
          · have hb : (c != 45) = true := by simp [hd]
            by_cases h48 : c < 48
            · have HX := hfin false (by simp [chB, hl, hd]; omega)
              clear hl hfin hd
              go_wp2_with fail
              refine (letter_any _ _).mono ?_
              rintro e w1 ⟨rfl, rfl⟩
              rw [HL.out]
              go_wp2
              go_ret
              exact ⟨ret_bool (by have := HX.out; simpa using this.symm), rfl⟩
            · by_cases h57 : 57 < c
              · have HX := hfin false (by simp [chB, hl, hd]; omega)
                clear hl hfin hd
                go_wp2_with fail
                refine (letter_any _ _).mono ?_
                rintro e w1 ⟨rfl, rfl⟩
                rw [HL.out]
                go_wp2
                go_ret
                exact ⟨ret_bool (by have := HX.out; simpa using this.symm), rfl⟩
              · have HX := hfin true (by simp [chB, hl, hd]; omega)
                clear hl hfin hd
                go_wp2_with fail
                refine (letter_any _ _).mono ?_
                rintro e w1 ⟨rfl, rfl⟩
                rw [HL.out]
                go_wp2
                go_round
                case rel => exact ⟨k + 1, by omega, by go_num, by have := HX.out; simpa [Hid] using this⟩
                case measure => simp [intOf]; omega
      · have hfin : chsB s 0 = true := by rw [hx.out, chsB_end s k (by omega)]
        have HF := Lib.hid hfin
        clear hx hfin
        go_wp2
        go_ret
        exact ⟨ret_bool HF.out.symm, rfl⟩

end Go.Proofs.Ytnnkcbeadiembaa
