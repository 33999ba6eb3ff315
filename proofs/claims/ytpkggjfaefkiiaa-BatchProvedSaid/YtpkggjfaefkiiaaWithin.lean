/- Names, and lists of them; no statement is proved here. -/
import Derived.Test.YtpkggjfaefkiiaaFind
import Derived.PlainAid
namespace Go.Proofs.Ytpkggjfaefkiiaa
open Go.RowKit Go.PlainAid
set_option linter.unusedVariables false

def letB (c : Int) : Bool := decide (97 ≤ c) && decide (c ≤ 122)
def chB (c : Int) : Bool := letB c || c == 45 || (decide (48 ≤ c) && decide (c ≤ 57))
/-- the bytes of a string from place k on are those of a name. -/
def chsB (s : ByteArray) (k : Nat) : Bool := (List.range' k (s.size - k)).all fun i => chB (bt s i)
def nameB (s : ByteArray) : Bool := decide (1 ≤ s.size) && decide (s.size ≤ 16) && letB (bt s 0) && chsB s 0

theorem chsB_end (s : ByteArray) (k : Nat) (h : s.size ≤ k) : chsB s k = true := by unfold chsB; rw [show s.size - k = 0 from by omega]; rfl
theorem chsB_step (s : ByteArray) (k : Nat) (h : k < s.size) : chsB s k = (chB (bt s k) && chsB s (k + 1)) := by
  unfold chsB
  obtain ⟨n, hn⟩ : ∃ n, s.size - k = n + 1 := ⟨s.size - k - 1, by omega⟩
  rw [hn, show s.size - (k + 1) = n from by omega, List.range'_succ, List.all_cons]

theorem letter_any (n : Int) (w : World) :
    Calls Try.prog 128 #[.int .u8 n] w fun e w' => e = .returned (.bool (letB n)) ∧ w = w' := isLetter_any n w

set_option maxRecDepth 100000 in
theorem isName_any (s : ByteArray) (w : World) (hm : s.size ≤ 140737488351232) :
    Calls Try.prog 101 #[.string s] w fun e w' => e = .returned (.bool (nameB s)) ∧ w = w' := by
  by_cases h0 : s.size = 0
  · have hn : nameB s = false := by simp [nameB, h0]
    rw [hn]
    have h1 : ((s.size : Int) == 0) = true := by simp [h0]
    clear hn
    go_enter Try.func101, Try.ntmps101
    go_wp2
    go_ret
    exact ⟨rfl, rfl⟩
  have h1 : ((s.size : Int) == 0) = false := by simp [h0]
  by_cases h16 : 16 < s.size
  · have hn : nameB s = false := by unfold nameB; rw [decide_eq_false (p := s.size ≤ 16) (by omega)]; simp
    rw [hn]
    clear hn
    go_enter Try.func101, Try.ntmps101
    go_wp2
    go_ret
    exact ⟨rfl, rfl⟩
  have hlt0 : 0 < s.size := by omega
  have h16b : decide ((16 : Int) < (s.size : Int)) = false := decide_eq_false (by omega)
  cases hl : letB (bt s 0) with
  | false =>
    have hn : nameB s = false := by simp [nameB, hl]
    rw [hn]
    clear hn
    have HL := Lib.hid hl
    have hg := get_bt s 0 hlt0
    clear hl
    go_enter Try.func101, Try.ntmps101
    go_wp2_with fail
    refine (letter_any _ _).mono ?_
    rintro e w1 ⟨rfl, rfl⟩
    rw [HL.out]
    go_wp2
    go_ret
    exact ⟨rfl, rfl⟩
  | true =>
    have hn : nameB s = chsB s 0 := by simp [nameB, hl]; omega
    rw [hn]
    clear hn
    have HL := Lib.hid hl
    have hg := get_bt s 0 hlt0
    clear hl
    go_enter Try.func101, Try.ntmps101
    go_wp2_with fail
    refine (letter_any _ _).mono ?_
    rintro e w1 ⟨rfl, rfl⟩
    rw [HL.out]
    clear hg
    go_wp2
    go_loop [21] (fun i => ∃ k : Nat, k ≤ s.size ∧ i = .int .i64 k ∧ Hid (chsB s 0 = chsB s k)) (fun i => s.size - (intOf i).toNat)
    case atStart => exact ⟨0, by omega, rfl, rfl⟩
    case round =>
      obtain ⟨k, hk, rfl, hx⟩ := hrel
      clear HL h0 h1 h16 h16b
      by_cases hlt : k < s.size
      · have hst := Lib.hid (chsB_step s k hlt)
        have hg := get_bt s k hlt
        have hge := bt_nonneg s k
        have hle := bt_le s k
        have hfin : ∀ x, chB (bt s k) = x → Hid (chsB s 0 = (x && chsB s (k + 1))) := fun x e => by
          unfold Hid; rw [hx.out, hst.out, e]
        clear hx hst
        generalize bt s k = c at *
        cases hl : letB c with
        | true =>
          have HX := hfin true (by simp [chB, hl])
          have HL := Lib.hid hl
          clear hl hfin
          go_wp2_with fail
          refine (letter_any _ _).mono ?_
          rintro e w1 ⟨rfl, rfl⟩
          rw [HL.out]
          go_wp2
          go_round
          case rel => exact ⟨k + 1, by omega, by go_num, by have := HX.out; simpa [Hid] using this⟩
          case measure => simp [intOf]; omega
        | false =>
          have HL := Lib.hid hl
          by_cases hd : c = 45
          · have HX := hfin true (by simp [chB, hd])
            clear hl hfin
            have hb : (c != 45) = false := by simp [hd]
            clear hd
            go_wp2_with fail
            refine (letter_any _ _).mono ?_
            rintro e w1 ⟨rfl, rfl⟩
            rw [HL.out]
            go_wp2
            go_round
            case rel => exact ⟨k + 1, by omega, by go_num, by have := HX.out; simpa [Hid] using this⟩
            case measure => simp [intOf]; omega
          · have hb : (c != 45) = true := by simp [hd]
            by_cases h48 : c < 48
            · have HX := hfin false (by simp [chB, hl, hd]; omega)
              clear hl hfin hd
              go_wp2_with fail
              refine (letter_any _ _).mono ?_
              rintro e w1 ⟨rfl, rfl⟩
              rw [HL.out]
              go_wp2
              go_ret
              exact ⟨ret_bool (by have := HX.out; simpa using this.symm), rfl⟩
            · by_cases h57 : 57 < c
              · have HX := hfin false (by simp [chB, hl, hd]; omega)
                clear hl hfin hd
                go_wp2_with fail
                refine (letter_any _ _).mono ?_
                rintro e w1 ⟨rfl, rfl⟩
                rw [HL.out]
                go_wp2
                go_ret
                exact ⟨ret_bool (by have := HX.out; simpa using this.symm), rfl⟩
              · have HX := hfin true (by simp [chB, hl, hd]; omega)
                clear hl hfin hd
                go_wp2_with fail
                refine (letter_any _ _).mono ?_
                rintro e w1 ⟨rfl, rfl⟩
                rw [HL.out]
                go_wp2
                go_round
                case rel => exact ⟨k + 1, by omega, by go_num, by have := HX.out; simpa [Hid] using this⟩
                case measure => simp [intOf]; omega
      · have hfin : chsB s 0 = true := by rw [hx.out, chsB_end s k (by omega)]
        have HF := Lib.hid hfin
        clear hx hfin
        go_wp2
        go_ret
        exact ⟨ret_bool HF.out.symm, rfl⟩

end Go.Proofs.Ytpkggjfaefkiiaa

namespace Go.Proofs.Ytpkggjfaefkiiaa
open Go.RowKit Go.PlainAid
set_option linter.unusedVariables false

def eqS (a b : ByteArray) : Bool := a.toList == b.toList
theorem eqS_comm (a b : ByteArray) : eqS a b = eqS b a := by unfold eqS; exact Bool.beq_comm

set_option maxRecDepth 100000 in
theorem index_any (v : Value) (l : List ByteArray) (x : ByteArray) (w : World) (h : RStrs w v l) :
    Calls Try.prog 129 #[v, .string x] w fun e w' => ∃ n : Int, e = .returned (.int .i64 n) ∧ decide (0 ≤ n) = l.any (fun y => eqS y x) ∧ w = w' := by
  obtain ⟨a, kap, rfl, hc1, ⟨hc2, hm⟩, hl⟩ := h
  go_enter Try.func129, Try.ntmps129
  go_wp2
  go_loop [8] (fun i => ∃ (k : Nat), k ≤ l.length ∧ i = .int .i64 k ∧ Hid ((l.take k).any (fun y => eqS y x) = false)) (fun i => l.length - (intOf i).toNat)
  case atStart => exact ⟨0, Nat.zero_le _, rfl, by simp [Hid]⟩
  case round =>
    obtain ⟨k, hk, rfl, hx⟩ := hrel
    by_cases hlt : k < l.length
    · obtain ⟨b, off, rfl, h1, h2⟩ := hl k hlt
      simp only [Nat.mul_one] at h1
      have hst := Lib.hid (any_take l (fun y => eqS y x) k hlt hx.out)
      have hfi := Lib.hid (any_of l (fun y => eqS y x) k hlt)
      clear hl hc1 h2
      generalize l[k] = s at *
      go_wp2
      · have hq : (x.toList == s.toList) = true := by assumption
        go_ret
        exact ⟨_, rfl, by rw [hfi.out (by rw [eqS_comm]; exact hq)]; simp, rfl⟩
      · have hq : (x.toList == s.toList) = false := by assumption
        go_round
        case rel => exact ⟨k + 1, by omega, by go_num, hst.out.trans (by rw [eqS_comm]; exact hq)⟩
        case measure => simp [intOf]; omega
    · go_wp2
      go_ret
      refine ⟨_, rfl, ?_, rfl⟩
      have := hx.out
      rw [List.take_of_length_le (by omega)] at this
      rw [this]; rfl

theorem contains_any (v : Value) (l : List ByteArray) (x : ByteArray) (w : World) (h : RStrs w v l) :
    Calls Try.prog 102 #[v, .string x] w fun e w' => e = .returned (.bool (l.any (fun y => eqS y x))) ∧ w = w' := by
  go_enter Try.func102, Try.ntmps102
  go_wp2_with fail
  refine (index_any v l x _ h).mono ?_
  rintro e w1 ⟨n, rfl, hn, rfl⟩
  have HN := Lib.hid hn
  clear hn
  go_wp2
  go_ret
  exact ⟨ret_bool HN.out, rfl⟩

/-- named things one behind the other: the first error, behind those that were seen. -/
def seqB {α : Type} (name : α → ByteArray) (chk : α → Int) : List α → List α → Int
  | _, [] => 0
  | seen, x :: t => if nameB (name x) = false then 5 else if seen.any (fun y => eqS (name y) (name x)) = true then 6 else if chk x = 0 then seqB name chk (seen ++ [x]) t else chk x

theorem seqB_end {α : Type} (name : α → ByteArray) (chk : α → Int) (l : List α) (k : Nat) (h : l.length ≤ k) : seqB name chk (l.take k) (l.drop k) = 0 := by
  rw [List.drop_eq_nil_of_le h, seqB]
theorem seqB_step {α : Type} (name : α → ByteArray) (chk : α → Int) (l : List α) (k : Nat) (h : k < l.length) :
    seqB name chk (l.take k) (l.drop k) = if nameB (name l[k]) = false then 5 else if (l.take k).any (fun y => eqS (name y) (name l[k])) = true then 6 else if chk l[k] = 0 then seqB name chk (l.take (k + 1)) (l.drop (k + 1)) else chk l[k] := by
  rw [List.drop_eq_getElem_cons h, seqB, ← List.take_succ_eq_append_getElem h]

def oxB (l : List ByteArray) : Int := if 12 < l.length then 3 else if l.length = 0 then 1 else seqB (fun x => x) (fun _ => 0) [] l

set_option maxRecDepth 100000 in
theorem checkOxides_any (v : Value) (l : List ByteArray) (w : World) (h : RStrs w v l) :
    Calls Try.prog 50 #[v] w fun e w' => e = .returned (.int .i64 (oxB l)) ∧ w = w' := by
  have hR := h
  obtain ⟨a, kap, rfl, hc1, ⟨hc2, hm⟩, hl⟩ := h
  by_cases h12 : 12 < l.length
  · have he : oxB l = 3 := by simp [oxB, h12]
    rw [he]; clear he hl
    go_enter Try.func50, Try.ntmps50
    go_wp2
    go_ret
    exact ⟨rfl, rfl⟩
  by_cases h0 : l.length = 0
  · have he : oxB l = 1 := by simp [oxB, h0]
    rw [he]; clear he hl
    have h1 : ((l.length : Int) == 0) = true := by simp [h0]
    clear h0
    go_enter Try.func50, Try.ntmps50
    go_wp2
    go_ret
    exact ⟨rfl, rfl⟩
  have he : oxB l = seqB (fun x => x) (fun _ => 0) [] l := by simp [oxB, h12, h0]
  rw [he]; clear he
  have h1 : ((l.length : Int) == 0) = false := by simp [h0]
  have h2 : decide ((12 : Int) < (l.length : Int)) = false := decide_eq_false (by omega)
  clear h0
  go_enter Try.func50, Try.ntmps50
  go_wp2
  go_loop [13] (fun i => ∃ (k : Nat), k ≤ l.length ∧ i = .int .i64 k ∧ Hid (seqB (fun x => x) (fun _ => 0) [] l = seqB (fun x => x) (fun _ => 0) (l.take k) (l.drop k))) (fun i => l.length - (intOf i).toNat)
  case atStart => exact ⟨0, Nat.zero_le _, rfl, rfl⟩
  case round =>
    obtain ⟨k, hk, rfl, hx⟩ := hrel
    clear h1 h2 h12
    by_cases hlt : k < l.length
    · obtain ⟨b, off, rfl, h1, h2⟩ := hl k hlt
      simp only [Nat.mul_one] at h1
      have hst := Lib.hid (seqB_step (fun x => x) (fun _ => 0) l k hlt)
      have hT := hR.take k hk
      clear hl
      generalize l[k] = s at *
      go_wp2_with fail
      refine (isName_any s _ h2).mono ?_
      rintro e w1 ⟨rfl, rfl⟩
      cases hn : nameB s with
      | false =>
        have hfin := hx.out.trans hst.out
        rw [if_pos hn] at hfin
        have HF := Lib.hid hfin
        clear hfin hn
        go_wp2
        go_ret
        exact ⟨ret_int HF.out.symm, rfl⟩
      | true =>
        go_wp2_with fail
        refine (contains_any _ _ s _ hT).mono ?_
        rintro e w1 ⟨rfl, rfl⟩
        cases hs : (l.take k).any (fun y => eqS y s) with
        | true =>
          have hfin := hx.out.trans hst.out
          rw [if_neg (by simp [hn]), if_pos hs] at hfin
          have HF := Lib.hid hfin
          clear hfin hn hs
          go_wp2
          go_ret
          exact ⟨ret_int HF.out.symm, rfl⟩
        | false =>
          have hfin := hx.out.trans hst.out
          rw [if_neg (by simp [hn]), if_neg (by simp [hs]), if_true] at hfin
          have HF := Lib.hid hfin
          clear hfin hn hs
          go_wp2
          go_round
          case rel => exact ⟨k + 1, by omega, by go_num, HF⟩
          case measure => simp [intOf]; omega
    · have hfin := hx.out
      rw [seqB_end _ _ _ _ (by omega)] at hfin
      have HF := Lib.hid hfin
      clear hfin hx
      go_wp2
      go_ret
      exact ⟨ret_int HF.out.symm, rfl⟩

end Go.Proofs.Ytpkggjfaefkiiaa

namespace Go.Proofs.Ytpkggjfaefkiiaa
open Go.RowKit Go.PlainAid
set_option linter.unusedVariables false

def betweenB (n a b : Int) : Bool := decide (a ≤ n) && decide (n ≤ b)
def withinB (s : Sp) (a b : Int) : Bool := decide (a ≤ s.lo) && decide (s.lo ≤ s.hi) && decide (s.hi ≤ b)
def allWithinB (l : List Sp) (n a b : Int) : Bool := ((l.length : Int) == n) && !(l.any fun s => !withinB s a b)
def allBetweenB (l : List Int) (n a b : Int) : Bool := ((l.length : Int) == n) && !(l.any fun s => !betweenB s a b)

theorem withinS (s : Sp) (a b : Int) (w : World) :
    Calls Try.prog 54 #[.agg #[.int .i64 s.lo, .int .i64 s.hi], .int .i64 a, .int .i64 b] w fun e w' => e = .returned (.bool (withinB s a b)) ∧ Below w.heap.size w w' := within_any _ _ _ _ _
theorem betweenN (n a b : Int) (w : World) :
    Calls Try.prog 55 #[.int .i64 n, .int .i64 a, .int .i64 b] w fun e w' => e = .returned (.bool (betweenB n a b)) ∧ w = w' := between_any _ _ _ _

theorem not_within (s : Sp) (k1 k2 : Nat) (a b : Int) (w : World) (h1 : w.cell? ⟨k1, 0, none⟩ = some (.int .i64 a)) (h2 : w.cell? ⟨k2, 0, none⟩ = some (.int .i64 b)) :
    Calls Try.prog 107 #[.agg #[.int .i64 s.lo, .int .i64 s.hi], .pointer (some ⟨k1, 0, none⟩), .pointer (some ⟨k2, 0, none⟩)] w fun e w' => e = .returned (.bool (!withinB s a b)) ∧ Below w.heap.size w w' := by
  have b1 := cell_lt h1
  have b2 := cell_lt h2
  simp only at b1 b2
  go_enter Try.func107, Try.ntmps107
  go_wp2_with fail
  refine (withinS s _ _ _).mono ?_
  rintro e w1 ⟨rfl, hb1⟩
  go_wp2
  go_ret
  exact ⟨rfl, (Below.alloc (Below.refl _ _) (Nat.le_refl _) _).trans (hb1.mono (by simp))⟩

theorem not_between (n : Int) (k1 k2 : Nat) (a b : Int) (w : World) (h1 : w.cell? ⟨k1, 0, none⟩ = some (.int .i64 a)) (h2 : w.cell? ⟨k2, 0, none⟩ = some (.int .i64 b)) :
    Calls Try.prog 123 #[.int .i64 n, .pointer (some ⟨k1, 0, none⟩), .pointer (some ⟨k2, 0, none⟩)] w fun e w' => e = .returned (.bool (!betweenB n a b)) ∧ Below w.heap.size w w' := by
  go_enter Try.func123, Try.ntmps123
  go_wp2_with fail
  refine (betweenN _ _ _ _).mono ?_
  rintro e w1 ⟨rfl, rfl⟩
  go_wp2
  go_ret
  exact ⟨rfl, Below.refl _ _⟩

theorem isFn_within : IsFn 107 := fun xs w => by kernel_rfl
theorem isFn_between : IsFn 123 := fun xs w => by kernel_rfl

theorem two_boxes (w : World) (a b : Value) (t u : TypeId) :
    Blk ((w.alloc (.cells #[a] t)).alloc (.cells #[b] u)) w.heap.size #[a] t ∧ Blk ((w.alloc (.cells #[a] t)).alloc (.cells #[b] u)) (w.heap.size + 1) #[b] u := by
  refine ⟨(Blk.new w #[a] t).alloc _, ?_⟩
  have := Blk.new (w.alloc (.cells #[a] t)) #[b] u
  simpa using this

theorem below_two (w : World) (a b : Obj) : Below w.heap.size w ((w.alloc a).alloc b) := by go_grown

theorem tells_within (l : List Sp) (a b : Int) (w : World) (t u : TypeId) :
    Tells 107 #[.pointer (some ⟨w.heap.size, 0, none⟩), .pointer (some ⟨w.heap.size + 1, 0, none⟩)] VSp ((w.alloc (.cells #[.int .i64 a] t)).alloc (.cells #[.int .i64 b] u)) l (fun s => !withinB s a b) := by
  rintro x v w1 hx ⟨rfl, _, _⟩ hb
  obtain ⟨B1, B2⟩ := two_boxes w (.int .i64 a) (.int .i64 b) t u
  exact not_within x _ _ a b w1 ((B1.below hb (by simp; omega)).cell 0 _ rfl) ((B2.below hb (by simp)).cell 0 _ rfl)

theorem tells_between (l : List Int) (a b : Int) (w : World) (t u : TypeId) :
    Tells 123 #[.pointer (some ⟨w.heap.size, 0, none⟩), .pointer (some ⟨w.heap.size + 1, 0, none⟩)] VInt ((w.alloc (.cells #[.int .i64 a] t)).alloc (.cells #[.int .i64 b] u)) l (fun s => !betweenB s a b) := by
  rintro x v w1 hx ⟨rfl, _⟩ hb
  obtain ⟨B1, B2⟩ := two_boxes w (.int .i64 a) (.int .i64 b) t u
  exact not_between x _ _ a b w1 ((B1.below hb (by simp; omega)).cell 0 _ rfl) ((B2.below hb (by simp)).cell 0 _ rfl)

theorem allWithin_any (v : Value) (l : List Sp) (n a b : Int) (w : World) (h : RSps w v l) :
    Calls Try.prog 52 #[v, .int .i64 n, .int .i64 a, .int .i64 b] w fun e w' => e = .returned (.bool (allWithinB l n a b)) ∧ Below w.heap.size w w' := by
  have hR := h
  obtain ⟨p, kap, rfl, hc1, ⟨hc2, hm⟩, hl⟩ := h
  clear hl
  cases hn : ((l.length : Int) == n) with
  | false =>
    have he : allWithinB l n a b = false := by simp only [allWithinB, hn, Bool.false_and]
    rw [he]; clear he hR
    go_enter Try.func52, Try.ntmps52
    go_wp2
    go_ret
    exact ⟨rfl, by go_grown⟩
  | true =>
    have he : allWithinB l n a b = !(l.any fun s => !withinB s a b) := by simp only [allWithinB, hn, Bool.true_and]
    rw [he]; clear he
    go_enter Try.func52, Try.ntmps52
    go_wp2_with fail
    refine (containsFunc_sp _ isFn_within _ (fun s => !withinB s a b) _ l _ (hR.mono (ext_of_below (below_two _ _ _))) (tells_within l a b w _ _)).mono ?_
    rintro e w1 ⟨rfl, hb1⟩
    go_wp2
    go_ret
    exact ⟨rfl, (below_two _ _ _).trans (hb1.mono (by simp; omega))⟩

theorem allBetween_any (v : Value) (l : List Int) (n a b : Int) (w : World) (h : RInts w v l) :
    Calls Try.prog 88 #[v, .int .i64 n, .int .i64 a, .int .i64 b] w fun e w' => e = .returned (.bool (allBetweenB l n a b)) ∧ Below w.heap.size w w' := by
  have hR := h
  obtain ⟨p, kap, rfl, hc1, ⟨hc2, hm⟩, hl⟩ := h
  clear hl
  cases hn : ((l.length : Int) == n) with
  | false =>
    have he : allBetweenB l n a b = false := by simp only [allBetweenB, hn, Bool.false_and]
    rw [he]; clear he hR
    go_enter Try.func88, Try.ntmps88
    go_wp2
    go_ret
    exact ⟨rfl, by go_grown⟩
  | true =>
    have he : allBetweenB l n a b = !(l.any fun s => !betweenB s a b) := by simp only [allBetweenB, hn, Bool.true_and]
    rw [he]; clear he
    go_enter Try.func88, Try.ntmps88
    go_wp2_with fail
    refine (containsFunc_int _ isFn_between _ (fun s => !betweenB s a b) _ l _ (hR.mono (ext_of_below (below_two _ _ _))) (tells_between l a b w _ _)).mono ?_
    rintro e w1 ⟨rfl, hb1⟩
    go_wp2
    go_ret
    exact ⟨rfl, (below_two _ _ _).trans (hb1.mono (by simp; omega))⟩

end Go.Proofs.Ytpkggjfaefkiiaa
