/- Lists of names; no statement is proved here. -/
import Derived.Test.YtnnkcbeadiembaaName
namespace Go.Proofs.Ytnnkcbeadiembaa
open Go.RowKit Go.PlainAid
set_option linter.unusedVariables false

def eqS (a b : ByteArray) : Bool := a.toList == b.toList
theorem eqS_comm (a b : ByteArray) : eqS a b = eqS b a := by unfold eqS; exact Bool.beq_comm

set_option maxRecDepth 100000 in
theorem index_any (v : Value) (l : List ByteArray) (x : ByteArray) (w : World) (h : RStrs w v l) :
    Calls Try.prog 119 #[v, .string x] w fun e w' => ∃ n : Int, e = .returned (.int .i64 n) ∧ decide (0 ≤ n) = l.any (fun y => eqS y x) ∧ w = w' := by
  obtain ⟨a, kap, rfl, hc1, ⟨hc2, hm⟩, hl⟩ := h
  go_enter Try.func119, Try.ntmps119
  go_wp2
  go_loop [8] (fun i => ∃ (k : Nat), k ≤ l.length ∧ i = .int .i64 k ∧ Hid ((l.take k).any (fun y => eqS y x) = false)) (fun i => l.length - (intOf i).toNat)
  case atStart => exact ⟨0, Nat.zero_le _, rfl, by simp [Hid]⟩
  case round =>
    obtain ⟨k, hk, rfl, hx⟩ := hrel
    by_cases hlt : k < l.length
    · obtain ⟨b, off, rfl, h1, h2⟩ := hl k hlt
      simp only [Nat.mul_one] at h1
      have hst := Lib.hid (any_take l (fun y => eqS y x) k hlt hx.out)
      have hfi := Lib.hid (any_of l (fun y => eqS y x) k hlt)
      clear hl hc1 h2
      generalize l[k] = s at *
      go_wp2
      · have hq : (x.toList == s.toList) = true := by assumption
        go_ret
        exact ⟨_, rfl, by rw [hfi.out (by rw [eqS_comm]; exact hq)]; simp, rfl⟩
      · have hq : (x.toList == s.toList) = false := by assumption
        go_round
        case rel => exact ⟨k + 1, by omega, by go_num, hst.out.trans (by rw [eqS_comm]; exact hq)⟩
        case measure => simp [intOf]; omega
    · go_wp2
      go_ret
      refine ⟨_, rfl, ?_, rfl⟩
      have := hx.out
      rw [List.take_of_length_le (by omega)] at this
      rw [this]; rfl

theorem contains_any (v : Value) (l : List ByteArray) (x : ByteArray) (w : World) (h : RStrs w v l) :
    Calls Try.prog 99 #[v, .string x] w fun e w' => e = .returned (.bool (l.any (fun y => eqS y x))) ∧ w = w' := by
  go_enter Try.func99, Try.ntmps99
  go_wp2_with fail
  refine (index_any v l x _ h).mono ?_
  rintro e w1 ⟨n, rfl, hn, rfl⟩
  have HN := Lib.hid hn
  clear hn
  go_wp2
  go_ret
  exact ⟨ret_bool HN.out, rfl⟩

/-- named things one behind the other: the first error, behind those that were seen. -/
def seqB {α : Type} (name : α → ByteArray) (chk : α → Int) : List α → List α → Int
  | _, [] => 0
  | seen, x :: t => if nameB (name x) = false then 5 else if seen.any (fun y => eqS (name y) (name x)) = true then 6 else if chk x = 0 then seqB name chk (seen ++ [x]) t else chk x

theorem seqB_end {α : Type} (name : α → ByteArray) (chk : α → Int) (l : List α) (k : Nat) (h : l.length ≤ k) : seqB name chk (l.take k) (l.drop k) = 0 := by
  rw [List.drop_eq_nil_of_le h, seqB]
theorem seqB_step {α : Type} (name : α → ByteArray) (chk : α → Int) (l : List α) (k : Nat) (h : k < l.length) :
    seqB name chk (l.take k) (l.drop k) = if nameB (name l[k]) = false then 5 else if (l.take k).any (fun y => eqS (name y) (name l[k])) = true then 6 else if chk l[k] = 0 then seqB name chk (l.take (k + 1)) (l.drop (k + 1)) else chk l[k] := by
  rw [List.drop_eq_getElem_cons h, seqB, ← List.take_succ_eq_append_getElem h]

def oxB (l : List ByteArray) : Int := if 12 < l.length then 3 else if l.length = 0 then 1 else seqB (fun x => x) (fun _ => 0) [] l

set_option maxRecDepth 100000 in
theorem checkOxides_any (v : Value) (l : List ByteArray) (w : World) (h : RStrs w v l) :
    Calls Try.prog 58 #[v] w fun e w' => e = .returned (.int .i64 (oxB l)) ∧ w = w' := by
  have hR := h
  obtain ⟨a, kap, rfl, hc1, ⟨hc2, hm⟩, hl⟩ := h
  by_cases h12 : 12 < l.length
  · have he : oxB l = 3 := by simp [oxB, h12]
    rw [he]; clear he hl
    go_enter Try.func58, Try.ntmps58
    go_wp2
    go_ret
    exact ⟨rfl, rfl⟩
  by_cases h0 : l.length = 0
  · have he : oxB l = 1 := by simp [oxB, h0]
    rw [he]; clear he hl
    have h1 : ((l.length : Int) == 0) = true := by simp [h0]
    clear h0
    go_enter Try.func58, Try.ntmps58
    go_wp2
    go_ret
    exact ⟨rfl, rfl⟩
  have he : oxB l = seqB (fun x => x) (fun _ => 0) [] l := by simp [oxB, h12, h0]
  rw [he]; clear he
  have h1 : ((l.length : Int) == 0) = false := by simp [h0]
  have h2 : decide ((12 : Int) < (l.length : Int)) = false := decide_eq_false (by omega)
  clear h0
  go_enter Try.func58, Try.ntmps58
  go_wp2
  go_loop [13] (fun i => ∃ (k : Nat), k ≤ l.length ∧ i = .int .i64 k ∧ Hid (seqB (fun x => x) (fun _ => 0) [] l = seqB (fun x => x) (fun _ => 0) (l.take k) (l.drop k))) (fun i => l.length - (intOf i).toNat)
  case atStart => exact ⟨0, Nat.zero_le _, rfl, rfl⟩
  case round =>
    obtain ⟨k, hk, rfl, hx⟩ := hrel
    clear h1 h2 h12
    by_cases hlt : k < l.length
    · obtain ⟨b, off, rfl, h1, h2⟩ := hl k hlt
      simp only [Nat.mul_one] at h1
      have hst := Lib.hid (seqB_step (fun x => x) (fun _ => 0) l k hlt)
      have hT := hR.take k hk
      clear hl
      generalize l[k] = s at *
      go_wp2_with fail
      refine (isName_any s _ h2).mono ?_
      rintro e w1 ⟨rfl, rfl⟩
      cases hn : nameB s with
      | false =>
        have hfin := hx.out.trans hst.out
        rw [if_pos hn] at hfin
        have HF := Lib.hid hfin
        clear hfin hn
        go_wp2
        go_ret
        exact ⟨ret_int HF.out.symm, rfl⟩
      | true =>
        go_wp2_with fail
        refine (contains_any _ _ s _ hT).mono ?_
        rintro e w1 ⟨rfl, rfl⟩
        cases hs : (l.take k).any (fun y => eqS y s) with
        | true =>
          have hfin := hx.out.trans hst.out
          rw [if_neg (by simp [hn]), if_pos hs] at hfin
          have HF := Lib.hid hfin
          clear hfin hn hs
          go_wp2
          go_ret
          exact ⟨ret_int HF.out.symm, rfl⟩
        | false =>
          have hfin := hx.out.trans hst.out
          rw [if_neg (by simp [hn]), if_neg (by simp [hs]), if_true] at hfin
          have HF := Lib.hid hfin
          clear hfin hn hs
          go_wp2
          go_round
          case rel => exact ⟨k + 1, by omega, by go_num, HF⟩
          case measure => simp [intOf]; omega
    · have hfin := hx.out
      rw [seqB_end _ _ _ _ (by omega)] at hfin
      have HF := Lib.hid hfin
      clear hfin hx
      go_wp2
      go_ret
      exact ⟨ret_int HF.out.symm, rfl⟩

end Go.Proofs.Ytnnkcbeadiembaa
