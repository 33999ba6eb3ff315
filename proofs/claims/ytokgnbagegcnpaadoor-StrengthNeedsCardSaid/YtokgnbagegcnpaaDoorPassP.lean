/- Passes by its contract; no statement is proved here. -/
import Derived.Test.YtokgnbagegcnpaaDoorPassB
import Derived.Test.YtokgnbagegcnpaaDoorTill
namespace Go.Proofs.YtokgnbagegcnpaaDoor
open Go.RowKit Go.PlainAid
set_option linter.unusedVariables false
set_option linter.unusedSimpArgs false

/-- the first error of Passes. -/
def passE (b : Bot) (l : Ld) (ms : List Int) (acc : Int) : Int := if bothS b l = 0 then if allB ms b.rings.length 0 4000 = true then if btw acc 0 2000 = true then 0 else 1 else 1 else bothS b l
/-- ring number i was measured thick enough. -/
def PassAt (b : Bot) (l : Ld) (ms : List Int) (acc : Int) (i : Nat) : Prop := (needS b l).getD i 0 ≠ 0 ∧ (needS b l).getD i 0 ≤ ms.getD i 0 - acc ∧ ms.getD i 0 ≤ 2000
def AllPass (b : Bot) (l : Ld) (ms : List Int) (acc : Int) (k : Nat) : Prop := ∀ i, i < k → PassAt b l ms acc i
def PassQ (b : Bot) (l : Ld) (ms : List Int) (acc : Int) (r : Bool) : Prop := passE b l ms acc = 0 ∧ (r = true ↔ AllPass b l ms acc b.rings.length)

set_option maxHeartbeats 4000000 in
set_option maxRecDepth 100000 in
theorem passesC_any (a am : Option Addr) (cap km : Nat) (b : Bot) (l : Ld) (ms : List Int) (acc : Int) (p0 p1 p2 p3 : Nat) (w : World) (h : RBot w (.agg #[.slice a b.rings.length cap, .int .i64 b.flaw, .int .i64 b.tough]) b) (hms : RInts w (.slice am ms.length km) ms) (hC : Circ w) (hB : Blk w p0 #[.slice a b.rings.length cap, .int .i64 b.flaw, .int .i64 b.tough] 24) (hL : Blk w p1 #[.int .i64 l.press, .int .i64 l.force, .int .i64 l.speed, .int .i64 l.other] 27) (hM : Blk w p2 #[.slice am ms.length km] 30) (hQ : Blk w p3 #[.int .i64 acc] 3) :
    Calls Tryd.prog 92 #[.pointer (some ⟨p0, 0, none⟩), .pointer (some ⟨p1, 0, none⟩), .pointer (some ⟨p2, 0, none⟩), .pointer (some ⟨p3, 0, none⟩)] w (Finds_bool (PassQ b l ms acc) (fun n => n ≠ 0 ∧ n = passE b l ms acc) w) := by
  have hnb := needBoth_in _ b l w 9 h
  have c0 := hB.cell 0 _ rfl
  have c1 := hB.cell 1 _ rfl
  have c2 := hB.cell 2 _ rfl
  have l0 := hL.cell 0 _ rfl
  have l1 := hL.cell 1 _ rfl
  have l2 := hL.cell 2 _ rfl
  have l3 := hL.cell 3 _ rfl
  go_enter Tryd.func92, Tryd.ntmps92
  go_wp2_with fail
  refine (calls_p hnb).mono ?_
  rintro e w1 ⟨hc, hb1⟩
  clear c0 c1 c2 l0 l1 l2 l3 hnb
  rcases hc with ⟨hc, rfl⟩ | ⟨hc, rfl⟩
  case inr =>
    have HC : Hid (passE b l ms acc = bothS b l) := Lib.hid (by rw [passE, if_neg hc])
    have HN := Lib.hid hc
    have HB := Lib.hid hb1
    clear hc hb1 hB hL hM hQ hms
    go_wp2
    exact ⟨rfl, HB.out, .inr ⟨_, rfl, HN.out, HC.out.symm⟩⟩
  have HC := Lib.hid hc
  have hM1 := hM.below hb1 hM.lt
  have hB1 := hB.below hb1 hB.lt
  have hQ1 := hQ.below hb1 hQ.lt
  have hL1 := hL.below hb1 hL.lt
  have c0 := hB1.cell 0 _ rfl
  have m0 := hM1.cell 0 _ rfl
  have hE := ext_of_below hb1
  clear hc
  go_wp2_with fail
  refine (allBetween_any _ ms b.rings.length 0 4000 _ (hms.mono hE)).mono ?_
  rintro e w2 ⟨rfl, hb2⟩
  have hA2 := hb1.trans (hb2.mono hb1.size)
  have hQ2 := hQ1.below hb2 hQ1.lt
  have hB2 := hB1.below hb2 hB1.lt
  have hL2 := hL1.below hb2 hL1.lt
  have hM2 := hM1.below hb2 hM1.lt
  clear c0 m0 hb2 hQ1 hB1 hL1 hM1 hE
  cases hab : allB ms b.rings.length 0 4000 with
  | false =>
    have HP : Hid (passE b l ms acc = 1) := Lib.hid (by rw [passE, if_pos HC.out, if_neg (by rw [hab]; decide)])
    have HB := Lib.hid hA2
    clear hA2 hQ2 hB2 hL2 hM2
    go_wp2_with fail
    refine (calls_p (need_no 1 _ 9)).mono ?_
    rintro e w' ⟨rfl, rfl⟩
    go_wp2
    exact ⟨rfl, HB.out, .inr ⟨_, rfl, by decide, HP.out.symm⟩⟩
  | true =>
  go_wp2_with fail
  refine (calls_p (need_ok 1 _ 9)).mono ?_
  rintro e w' ⟨rfl, rfl⟩
  have q0 := hQ2.cell 0 _ rfl
  go_wp2_with fail
  refine (calls_p (between_in acc 0 2000 _ 9)).mono ?_
  rintro e w' ⟨rfl, rfl⟩
  cases hac : btw acc 0 2000 with
  | false =>
    have HP : Hid (passE b l ms acc = 1) := Lib.hid (by rw [passE, if_pos HC.out, if_pos hab, if_neg (by rw [hac]; decide)])
    have HB := Lib.hid hA2
    clear hA2 hQ2 hB2 hL2 hM2 q0
    go_wp2_with fail
    refine (calls_p (need_no 1 _ 9)).mono ?_
    rintro e w' ⟨rfl, rfl⟩
    go_wp2
    exact ⟨rfl, HB.out, .inr ⟨_, rfl, by decide, HP.out.symm⟩⟩
  | true =>
  have HP : Hid (passE b l ms acc = 0) := Lib.hid (by rw [passE, if_pos HC.out, if_pos hab, if_pos hac])
  obtain ⟨hok, hl⟩ := both_ok HC.out
  obtain ⟨hml, hmb⟩ := allB_true.1 hab
  have hacc := btw_true.1 hac
  clear hab hac q0
  go_wp2_with fail
  refine (calls_p (need_ok 1 _ 9)).mono ?_
  rintro e w' ⟨rfl, rfl⟩
  have c0 := hB2.cell 0 _ rfl
  have c1 := hB2.cell 1 _ rfl
  have c2 := hB2.cell 2 _ rfl
  have l0 := hL2.cell 0 _ rfl
  have l1 := hL2.cell 1 _ rfl
  have l2 := hL2.cell 2 _ rfl
  have l3 := hL2.cell 3 _ rfl
  have hE := ext_of_below hA2
  go_wp2_with fail
  refine (needed_any a cap b l _ (h.mono hE) hok hl (hC.mono hE)).mono ?_
  rintro e w3 ⟨v, rfl, hv, hb3⟩
  have hA3 := hA2.trans (hb3.mono hA2.size)
  have hQ3 := hQ2.below hb3 hQ2.lt
  have hM3 := hM2.below hb3 hM2.lt
  obtain ⟨an, kn, rfl, -, ⟨-, hnm⟩, hnl⟩ := hv
  obtain ⟨am', km', he, -, -, hmsl⟩ := hms
  cases he
  have hlen := needS_len b l
  have hmo := hok.most
  have hnb := needS_bd hok hl
  have HLEN := Lib.hid hlen
  have hnl24 : (needS b l).length ≤ 24 := by omega
  have hml' : ms.length = (needS b l).length := by omega
  have HML := Lib.hid hml'
  have hmle : (needS b l).length ≤ ms.length := by omega
  clear c0 c1 c2 l0 l1 l2 l3 hE hb1 hA2 hQ2 hB2 hL2 hM2 hb3 hB hL hM hQ h hC hml hml' hlen hok hl
  go_wp2_with fail
  go_loopw [23] (fun i wr => ∃ k : Nat, k ≤ (needS b l).length ∧ i = .int .i64 k ∧ Hid (AllPass b l ms acc k) ∧ Below w3.heap.size w3 wr) (fun i _ => (needS b l).length - (intOf i).toNat)
  case atStart => exact ⟨0, Nat.zero_le _, rfl, fun i hi => absurd hi (by omega), Below.refl _ _⟩
  case round =>
    obtain ⟨k, hk, rfl, hall, hb⟩ := hrel
    have hAr := hA3.trans (hb.mono hA3.size)
    by_cases hlt : k < (needS b l).length
    · obtain ⟨nb, no, rfl, hn1, -⟩ := hnl k hlt
      obtain ⟨mb, mo, rfl, hm1, -⟩ := hmsl k (by omega)
      have n1 := ext_of_below hb _ _ (vis_cell.1 hn1).2
      have m1 := ext_of_below hAr _ _ hm1
      simp only [Nat.mul_one] at n1 m1
      have r0 := (hM3.below hb hM3.lt).cell 0 _ rfl
      have q0 := (hQ3.below hb hQ3.lt).cell 0 _ rfl
      have i1 : (0 : Int) ≤ (k : Int) := Int.natCast_nonneg _
      have i2 : (k : Int) < ((needS b l).length : Int) := by omega
      have i3 : (k : Int) < (ms.length : Int) := by omega
      have hq := hnb _ (List.getElem_mem hlt)
      have hm := hmb _ (List.getElem_mem (show k < ms.length by omega))
      have HG1 : Hid ((needS b l).getD k 0 = (needS b l)[k]) := Lib.hid (by rw [List.getD_eq_getElem?_getD, List.getElem?_eq_getElem hlt]; rfl)
      have HG2 : Hid (ms.getD k 0 = ms[k]'(by omega)) := Lib.hid (by rw [List.getD_eq_getElem?_getD, List.getElem?_eq_getElem (show k < ms.length by omega)]; rfl)
      clear hnl hmsl hn1 hm1
      generalize (needS b l)[k] = q at *
      generalize ms[k]'_ = m at *
      have z1 : IntKind.i64.wrap (m - acc) = m - acc := (IntWalk.i64_left _).trans (wrap_id _ (by unfold I64; omega))
      have HNP : Hid (PassAt b l ms acc k ↔ q ≠ 0 ∧ q ≤ m - acc ∧ m ≤ 2000) := Lib.hid (by unfold PassAt; rw [HG1.out, HG2.out])
      have HA := Lib.hid hAr
      have HBB := Lib.hid hb
      by_cases h1 : q = 0
      · have HF : Hid (¬ AllPass b l ms acc b.rings.length) := Lib.hid (fun h => by
          have h2 := HLEN.out
          have := HNP.out.1 (h k (by omega))
          omega)
        subst h1
        clear hall hb hAr
        go_wp2_with fail
        refine wp_region_till (fun w' : World => w'.cell? ⟨p2, 0, none⟩ = some (.slice (some ⟨mb, mo, none⟩) ms.length km) ∧ w'.cell? ⟨p3, 0, none⟩ = some (.int .i64 acc) ∧ w'.cell? ⟨mb, mo + k, none⟩ = some (.int .i64 m)) 99 (by kernel_rfl) ⟨r0, q0, m1⟩ (fun hHeld => ?_)
        refine Till.take 0 (some 28) (v := ?_) rfl rfl (by kernel_rfl) (by kernel_rfl) (by kernel_rfl) (by kernel_rfl) (fun _ _ _ h => h) (Or.inl ⟨by rfl, ?_⟩) (by assumption) ?_
        rotate_left
        · (intro w hSw; (try dsimp only at hSw); go_simp; try with_reducible rfl)
        try simp only [Act.put, List.setIfInBounds_toArray, List.set_cons_zero, List.set_cons_succ]
        refine Till.take 1 (some 29) (v := ?_) rfl rfl (by kernel_rfl) (by kernel_rfl) (by kernel_rfl) (by kernel_rfl) (fun _ _ _ h => h) (Or.inl ⟨by rfl, ?_⟩) (by assumption) ?_
        rotate_left
        · (intro w hSw; (try dsimp only at hSw); go_simp; try with_reducible rfl)
        try simp only [Act.put, List.setIfInBounds_toArray, List.set_cons_zero, List.set_cons_succ]
        refine Till.take 2 (some 30) (v := ?_) rfl rfl (by kernel_rfl) (by kernel_rfl) (by kernel_rfl) (by kernel_rfl) (fun _ _ _ h => h) (Or.inl ⟨by rfl, ?_⟩) (by assumption) ?_
        rotate_left
        · (intro w hSw; (try dsimp only at hSw); go_simp; try with_reducible rfl)
        try simp only [Act.put, List.setIfInBounds_toArray, List.set_cons_zero, List.set_cons_succ]
        refine Till.take 3 (some 31) (v := undef) rfl rfl (by kernel_rfl) (by kernel_rfl) (by kernel_rfl) (by kernel_rfl) (fun _ _ _ h => h) (Or.inr ⟨by rfl, rfl⟩) (by assumption) ?_
        try simp only [Act.put, List.setIfInBounds_toArray, List.set_cons_zero, List.set_cons_succ]
        refine Till.take 4 (some 32) (v := undef) rfl rfl (by kernel_rfl) (by kernel_rfl) (by kernel_rfl) (by kernel_rfl) (fun _ _ _ h => h) (Or.inr ⟨by rfl, rfl⟩) (by assumption) ?_
        try simp only [Act.put, List.setIfInBounds_toArray, List.set_cons_zero, List.set_cons_succ]
        refine Till.take 5 (some 33) (v := undef) rfl rfl (by kernel_rfl) (by kernel_rfl) (by kernel_rfl) (by kernel_rfl) (fun _ _ _ h => h) (Or.inr ⟨by rfl, rfl⟩) (by assumption) ?_
        try simp only [Act.put, List.setIfInBounds_toArray, List.set_cons_zero, List.set_cons_succ]
        refine Till.take 6 (some 34) (v := undef) rfl rfl (by kernel_rfl) (by kernel_rfl) (by kernel_rfl) (by kernel_rfl) (fun _ _ _ h => h) (Or.inr ⟨by rfl, rfl⟩) (by assumption) ?_
        try simp only [Act.put, List.setIfInBounds_toArray, List.set_cons_zero, List.set_cons_succ]
        refine Till.take 7 (some 35) (v := undef) rfl rfl (by kernel_rfl) (by kernel_rfl) (by kernel_rfl) (by kernel_rfl) (fun _ _ _ h => h) (Or.inr ⟨by rfl, rfl⟩) (by assumption) ?_
        try simp only [Act.put, List.setIfInBounds_toArray, List.set_cons_zero, List.set_cons_succ]
        refine Till.take 8 (some 36) (v := undef) rfl rfl (by kernel_rfl) (by kernel_rfl) (by kernel_rfl) (by kernel_rfl) (fun _ _ _ h => h) (Or.inr ⟨by rfl, rfl⟩) (by assumption) ?_
        try simp only [Act.put, List.setIfInBounds_toArray, List.set_cons_zero, List.set_cons_succ]
        refine Till.take 9 (some 37) (v := undef) rfl rfl (by kernel_rfl) (by kernel_rfl) (by kernel_rfl) (by kernel_rfl) (fun _ _ _ h => h) (Or.inr ⟨by rfl, rfl⟩) (by assumption) ?_
        try simp only [Act.put, List.setIfInBounds_toArray, List.set_cons_zero, List.set_cons_succ]
        refine Till.take 10 (some 38) (v := undef) rfl rfl (by kernel_rfl) (by kernel_rfl) (by kernel_rfl) (by kernel_rfl) (fun _ _ _ h => h) (Or.inr ⟨by rfl, rfl⟩) (by assumption) ?_
        try simp only [Act.put, List.setIfInBounds_toArray, List.set_cons_zero, List.set_cons_succ]
        refine Till.take 11 (some 39) (v := ?_) rfl rfl (by kernel_rfl) (by kernel_rfl) (by kernel_rfl) (by kernel_rfl) (fun _ _ _ h => h) (Or.inl ⟨by rfl, ?_⟩) (by assumption) ?_
        rotate_left
        · (intro w hSw; (try dsimp only at hSw); go_simp; try with_reducible rfl)
        try simp only [Act.put, List.setIfInBounds_toArray, List.set_cons_zero, List.set_cons_succ]
        refine Till.take 12 (some 40) (v := ?_) rfl rfl (by kernel_rfl) (by kernel_rfl) (by kernel_rfl) (by kernel_rfl) (fun _ _ _ h => h) (Or.inl ⟨by rfl, ?_⟩) (by assumption) ?_
        rotate_left
        · (intro w hSw; (try dsimp only at hSw); go_simp; try with_reducible rfl)
        try simp only [Act.put, List.setIfInBounds_toArray, List.set_cons_zero, List.set_cons_succ]
        refine Till.take 13 (some 41) (v := undef) rfl rfl (by kernel_rfl) (by kernel_rfl) (by kernel_rfl) (by kernel_rfl) (fun _ _ _ h => h) (Or.inr ⟨by rfl, rfl⟩) (by assumption) ?_
        try simp only [Act.put, List.setIfInBounds_toArray, List.set_cons_zero, List.set_cons_succ]
        refine Till.take 14 (some 42) (v := undef) rfl rfl (by kernel_rfl) (by kernel_rfl) (by kernel_rfl) (by kernel_rfl) (fun _ _ _ h => h) (Or.inr ⟨by rfl, rfl⟩) (by assumption) ?_
        try simp only [Act.put, List.setIfInBounds_toArray, List.set_cons_zero, List.set_cons_succ]
        refine Till.take 15 (some 43) (v := undef) rfl rfl (by kernel_rfl) (by kernel_rfl) (by kernel_rfl) (by kernel_rfl) (fun _ _ _ h => h) (Or.inr ⟨by rfl, rfl⟩) (by assumption) ?_
        try simp only [Act.put, List.setIfInBounds_toArray, List.set_cons_zero, List.set_cons_succ]
        refine Till.take 16 (some 44) (v := undef) rfl rfl (by kernel_rfl) (by kernel_rfl) (by kernel_rfl) (by kernel_rfl) (fun _ _ _ h => h) (Or.inr ⟨by rfl, rfl⟩) (by assumption) ?_
        try simp only [Act.put, List.setIfInBounds_toArray, List.set_cons_zero, List.set_cons_succ]
        refine Till.take 17 (some 45) (v := undef) rfl rfl (by kernel_rfl) (by kernel_rfl) (by kernel_rfl) (by kernel_rfl) (fun _ _ _ h => h) (Or.inr ⟨by rfl, rfl⟩) (by assumption) ?_
        try simp only [Act.put, List.setIfInBounds_toArray, List.set_cons_zero, List.set_cons_succ]
        refine Till.take 18 (some 46) (v := ?_) rfl rfl (by kernel_rfl) (by kernel_rfl) (by kernel_rfl) (by kernel_rfl) (fun _ _ _ h => h) (Or.inl ⟨by rfl, ?_⟩) (by assumption) ?_
        rotate_left
        · (intro w hSw; (try dsimp only at hSw); go_simp; try with_reducible rfl)
        try simp only [Act.put, List.setIfInBounds_toArray, List.set_cons_zero, List.set_cons_succ]
        refine Till.done (by kernel_rfl) ?_ _
        clear hHeld
        go_wp2
        go_ret
        exact ⟨HA.out.drew, .inl ⟨false, rfl, HP.out, ⟨fun h => (by cases h), fun h => absurd h HF.out⟩⟩⟩
      have e1 : (q == 0) = false := by rw [beq_eq_false_iff_ne]; exact h1
      by_cases h2 : m - acc < q
      · have hd2 := decide_eq_true h2
        have HF : Hid (¬ AllPass b l ms acc b.rings.length) := Lib.hid (fun h => by
          have h3 := HLEN.out
          have := HNP.out.1 (h k (by omega))
          omega)
        clear hall hb hAr
        go_wp2_with fail
        refine wp_region_till (fun w' : World => w'.cell? ⟨p2, 0, none⟩ = some (.slice (some ⟨mb, mo, none⟩) ms.length km) ∧ w'.cell? ⟨p3, 0, none⟩ = some (.int .i64 acc) ∧ w'.cell? ⟨mb, mo + k, none⟩ = some (.int .i64 m)) 99 (by kernel_rfl) ⟨r0, q0, m1⟩ (fun hHeld => ?_)
        refine Till.take 0 (some 28) (v := ?_) rfl rfl (by kernel_rfl) (by kernel_rfl) (by kernel_rfl) (by kernel_rfl) (fun _ _ _ h => h) (Or.inl ⟨by rfl, ?_⟩) (by assumption) ?_
        rotate_left
        · (intro w hSw; (try dsimp only at hSw); go_simp; try with_reducible rfl)
        try simp only [Act.put, List.setIfInBounds_toArray, List.set_cons_zero, List.set_cons_succ]
        refine Till.take 1 (some 29) (v := ?_) rfl rfl (by kernel_rfl) (by kernel_rfl) (by kernel_rfl) (by kernel_rfl) (fun _ _ _ h => h) (Or.inl ⟨by rfl, ?_⟩) (by assumption) ?_
        rotate_left
        · (intro w hSw; (try dsimp only at hSw); go_simp; try with_reducible rfl)
        try simp only [Act.put, List.setIfInBounds_toArray, List.set_cons_zero, List.set_cons_succ]
        refine Till.take 2 (some 30) (v := ?_) rfl rfl (by kernel_rfl) (by kernel_rfl) (by kernel_rfl) (by kernel_rfl) (fun _ _ _ h => h) (Or.inl ⟨by rfl, ?_⟩) (by assumption) ?_
        rotate_left
        · (intro w hSw; (try dsimp only at hSw); go_simp; try with_reducible rfl)
        try simp only [Act.put, List.setIfInBounds_toArray, List.set_cons_zero, List.set_cons_succ]
        refine Till.take 3 (some 31) (v := ?_) rfl rfl (by kernel_rfl) (by kernel_rfl) (by kernel_rfl) (by kernel_rfl) (fun _ _ _ h => h) (Or.inl ⟨by rfl, ?_⟩) (by assumption) ?_
        rotate_left
        · (intro w hSw; (try dsimp only at hSw); go_simp; try with_reducible rfl)
        try simp only [Act.put, List.setIfInBounds_toArray, List.set_cons_zero, List.set_cons_succ]
        refine Till.take 4 (some 32) (v := ?_) rfl rfl (by kernel_rfl) (by kernel_rfl) (by kernel_rfl) (by kernel_rfl) (fun _ _ _ h => h) (Or.inl ⟨by rfl, ?_⟩) (by assumption) ?_
        rotate_left
        · (intro w hSw; (try dsimp only at hSw); go_simp; try with_reducible rfl)
        try simp only [Act.put, List.setIfInBounds_toArray, List.set_cons_zero, List.set_cons_succ]
        refine Till.take 5 (some 33) (v := ?_) rfl rfl (by kernel_rfl) (by kernel_rfl) (by kernel_rfl) (by kernel_rfl) (fun _ _ _ h => h) (Or.inl ⟨by rfl, ?_⟩) (by assumption) ?_
        rotate_left
        · (intro w hSw; (try dsimp only at hSw); go_simp; try with_reducible rfl)
        try simp only [Act.put, List.setIfInBounds_toArray, List.set_cons_zero, List.set_cons_succ]
        refine Till.take 6 (some 34) (v := ?_) rfl rfl (by kernel_rfl) (by kernel_rfl) (by kernel_rfl) (by kernel_rfl) (fun _ _ _ h => h) (Or.inl ⟨by rfl, ?_⟩) (by assumption) ?_
        rotate_left
        · (intro w hSw; (try dsimp only at hSw); go_simp; try with_reducible rfl)
        try simp only [Act.put, List.setIfInBounds_toArray, List.set_cons_zero, List.set_cons_succ]
        refine Till.take 7 (some 35) (v := ?_) rfl rfl (by kernel_rfl) (by kernel_rfl) (by kernel_rfl) (by kernel_rfl) (fun _ _ _ h => h) (Or.inl ⟨by rfl, ?_⟩) (by assumption) ?_
        rotate_left
        · (intro w hSw; (try dsimp only at hSw); go_simp; try with_reducible rfl)
        try simp only [Act.put, List.setIfInBounds_toArray, List.set_cons_zero, List.set_cons_succ]
        refine Till.take 8 (some 36) (v := ?_) rfl rfl (by kernel_rfl) (by kernel_rfl) (by kernel_rfl) (by kernel_rfl) (fun _ _ _ h => h) (Or.inl ⟨by rfl, ?_⟩) (by assumption) ?_
        rotate_left
        · (intro w hSw; (try dsimp only at hSw); go_simp; try with_reducible rfl)
        try simp only [Act.put, List.setIfInBounds_toArray, List.set_cons_zero, List.set_cons_succ]
        refine Till.take 9 (some 37) (v := ?_) rfl rfl (by kernel_rfl) (by kernel_rfl) (by kernel_rfl) (by kernel_rfl) (fun _ _ _ h => h) (Or.inl ⟨by rfl, ?_⟩) (by assumption) ?_
        rotate_left
        · (intro w hSw; (try dsimp only at hSw); go_simp; try with_reducible rfl)
        try simp only [Act.put, List.setIfInBounds_toArray, List.set_cons_zero, List.set_cons_succ]
        refine Till.take 10 (some 38) (v := ?_) rfl rfl (by kernel_rfl) (by kernel_rfl) (by kernel_rfl) (by kernel_rfl) (fun _ _ _ h => h) (Or.inl ⟨by rfl, ?_⟩) (by assumption) ?_
        rotate_left
        · (intro w hSw; (try dsimp only at hSw); go_simp; try with_reducible rfl)
        try simp only [Act.put, List.setIfInBounds_toArray, List.set_cons_zero, List.set_cons_succ]
        refine Till.take 11 (some 39) (v := ?_) rfl rfl (by kernel_rfl) (by kernel_rfl) (by kernel_rfl) (by kernel_rfl) (fun _ _ _ h => h) (Or.inl ⟨by rfl, ?_⟩) (by assumption) ?_
        rotate_left
        · (intro w hSw; (try dsimp only at hSw); go_simp; try with_reducible rfl)
        try simp only [Act.put, List.setIfInBounds_toArray, List.set_cons_zero, List.set_cons_succ]
        refine Till.take 12 (some 40) (v := ?_) rfl rfl (by kernel_rfl) (by kernel_rfl) (by kernel_rfl) (by kernel_rfl) (fun _ _ _ h => h) (Or.inl ⟨by rfl, ?_⟩) (by assumption) ?_
        rotate_left
        · (intro w hSw; (try dsimp only at hSw); go_simp; try with_reducible rfl)
        try simp only [Act.put, List.setIfInBounds_toArray, List.set_cons_zero, List.set_cons_succ]
        try simp only [hd2]
        refine Till.take 13 (some 41) (v := undef) rfl rfl (by kernel_rfl) (by kernel_rfl) (by kernel_rfl) (by kernel_rfl) (fun _ _ _ h => h) (Or.inr ⟨by rfl, rfl⟩) (by assumption) ?_
        try simp only [Act.put, List.setIfInBounds_toArray, List.set_cons_zero, List.set_cons_succ]
        refine Till.take 14 (some 42) (v := undef) rfl rfl (by kernel_rfl) (by kernel_rfl) (by kernel_rfl) (by kernel_rfl) (fun _ _ _ h => h) (Or.inr ⟨by rfl, rfl⟩) (by assumption) ?_
        try simp only [Act.put, List.setIfInBounds_toArray, List.set_cons_zero, List.set_cons_succ]
        refine Till.take 15 (some 43) (v := undef) rfl rfl (by kernel_rfl) (by kernel_rfl) (by kernel_rfl) (by kernel_rfl) (fun _ _ _ h => h) (Or.inr ⟨by rfl, rfl⟩) (by assumption) ?_
        try simp only [Act.put, List.setIfInBounds_toArray, List.set_cons_zero, List.set_cons_succ]
        refine Till.take 16 (some 44) (v := undef) rfl rfl (by kernel_rfl) (by kernel_rfl) (by kernel_rfl) (by kernel_rfl) (fun _ _ _ h => h) (Or.inr ⟨by rfl, rfl⟩) (by assumption) ?_
        try simp only [Act.put, List.setIfInBounds_toArray, List.set_cons_zero, List.set_cons_succ]
        refine Till.take 17 (some 45) (v := undef) rfl rfl (by kernel_rfl) (by kernel_rfl) (by kernel_rfl) (by kernel_rfl) (fun _ _ _ h => h) (Or.inr ⟨by rfl, rfl⟩) (by assumption) ?_
        try simp only [Act.put, List.setIfInBounds_toArray, List.set_cons_zero, List.set_cons_succ]
        refine Till.take 18 (some 46) (v := ?_) rfl rfl (by kernel_rfl) (by kernel_rfl) (by kernel_rfl) (by kernel_rfl) (fun _ _ _ h => h) (Or.inl ⟨by rfl, ?_⟩) (by assumption) ?_
        rotate_left
        · (intro w hSw; (try dsimp only at hSw); go_simp; try with_reducible rfl)
        try simp only [Act.put, List.setIfInBounds_toArray, List.set_cons_zero, List.set_cons_succ]
        refine Till.done (by kernel_rfl) ?_ _
        clear hHeld
        go_wp2
        go_ret
        exact ⟨HA.out.drew, .inl ⟨false, rfl, HP.out, ⟨fun h => (by cases h), fun h => absurd h HF.out⟩⟩⟩
      have hd2 := decide_eq_false h2
      by_cases h3 : 2000 < m
      · have hd3 := decide_eq_true h3
        have HF : Hid (¬ AllPass b l ms acc b.rings.length) := Lib.hid (fun h => by
          have h3 := HLEN.out
          have := HNP.out.1 (h k (by omega))
          omega)
        clear hall hb hAr
        go_wp2_with fail
        refine wp_region_till (fun w' : World => w'.cell? ⟨p2, 0, none⟩ = some (.slice (some ⟨mb, mo, none⟩) ms.length km) ∧ w'.cell? ⟨p3, 0, none⟩ = some (.int .i64 acc) ∧ w'.cell? ⟨mb, mo + k, none⟩ = some (.int .i64 m)) 99 (by kernel_rfl) ⟨r0, q0, m1⟩ (fun hHeld => ?_)
        refine Till.take 0 (some 28) (v := ?_) rfl rfl (by kernel_rfl) (by kernel_rfl) (by kernel_rfl) (by kernel_rfl) (fun _ _ _ h => h) (Or.inl ⟨by rfl, ?_⟩) (by assumption) ?_
        rotate_left
        · (intro w hSw; (try dsimp only at hSw); go_simp; try with_reducible rfl)
        try simp only [Act.put, List.setIfInBounds_toArray, List.set_cons_zero, List.set_cons_succ]
        refine Till.take 1 (some 29) (v := ?_) rfl rfl (by kernel_rfl) (by kernel_rfl) (by kernel_rfl) (by kernel_rfl) (fun _ _ _ h => h) (Or.inl ⟨by rfl, ?_⟩) (by assumption) ?_
        rotate_left
        · (intro w hSw; (try dsimp only at hSw); go_simp; try with_reducible rfl)
        try simp only [Act.put, List.setIfInBounds_toArray, List.set_cons_zero, List.set_cons_succ]
        refine Till.take 2 (some 30) (v := ?_) rfl rfl (by kernel_rfl) (by kernel_rfl) (by kernel_rfl) (by kernel_rfl) (fun _ _ _ h => h) (Or.inl ⟨by rfl, ?_⟩) (by assumption) ?_
        rotate_left
        · (intro w hSw; (try dsimp only at hSw); go_simp; try with_reducible rfl)
        try simp only [Act.put, List.setIfInBounds_toArray, List.set_cons_zero, List.set_cons_succ]
        refine Till.take 3 (some 31) (v := ?_) rfl rfl (by kernel_rfl) (by kernel_rfl) (by kernel_rfl) (by kernel_rfl) (fun _ _ _ h => h) (Or.inl ⟨by rfl, ?_⟩) (by assumption) ?_
        rotate_left
        · (intro w hSw; (try dsimp only at hSw); go_simp; try with_reducible rfl)
        try simp only [Act.put, List.setIfInBounds_toArray, List.set_cons_zero, List.set_cons_succ]
        refine Till.take 4 (some 32) (v := ?_) rfl rfl (by kernel_rfl) (by kernel_rfl) (by kernel_rfl) (by kernel_rfl) (fun _ _ _ h => h) (Or.inl ⟨by rfl, ?_⟩) (by assumption) ?_
        rotate_left
        · (intro w hSw; (try dsimp only at hSw); go_simp; try with_reducible rfl)
        try simp only [Act.put, List.setIfInBounds_toArray, List.set_cons_zero, List.set_cons_succ]
        refine Till.take 5 (some 33) (v := ?_) rfl rfl (by kernel_rfl) (by kernel_rfl) (by kernel_rfl) (by kernel_rfl) (fun _ _ _ h => h) (Or.inl ⟨by rfl, ?_⟩) (by assumption) ?_
        rotate_left
        · (intro w hSw; (try dsimp only at hSw); go_simp; try with_reducible rfl)
        try simp only [Act.put, List.setIfInBounds_toArray, List.set_cons_zero, List.set_cons_succ]
        refine Till.take 6 (some 34) (v := ?_) rfl rfl (by kernel_rfl) (by kernel_rfl) (by kernel_rfl) (by kernel_rfl) (fun _ _ _ h => h) (Or.inl ⟨by rfl, ?_⟩) (by assumption) ?_
        rotate_left
        · (intro w hSw; (try dsimp only at hSw); go_simp; try with_reducible rfl)
        try simp only [Act.put, List.setIfInBounds_toArray, List.set_cons_zero, List.set_cons_succ]
        refine Till.take 7 (some 35) (v := ?_) rfl rfl (by kernel_rfl) (by kernel_rfl) (by kernel_rfl) (by kernel_rfl) (fun _ _ _ h => h) (Or.inl ⟨by rfl, ?_⟩) (by assumption) ?_
        rotate_left
        · (intro w hSw; (try dsimp only at hSw); go_simp; try with_reducible rfl)
        try simp only [Act.put, List.setIfInBounds_toArray, List.set_cons_zero, List.set_cons_succ]
        refine Till.take 8 (some 36) (v := ?_) rfl rfl (by kernel_rfl) (by kernel_rfl) (by kernel_rfl) (by kernel_rfl) (fun _ _ _ h => h) (Or.inl ⟨by rfl, ?_⟩) (by assumption) ?_
        rotate_left
        · (intro w hSw; (try dsimp only at hSw); go_simp; try with_reducible rfl)
        try simp only [Act.put, List.setIfInBounds_toArray, List.set_cons_zero, List.set_cons_succ]
        refine Till.take 9 (some 37) (v := ?_) rfl rfl (by kernel_rfl) (by kernel_rfl) (by kernel_rfl) (by kernel_rfl) (fun _ _ _ h => h) (Or.inl ⟨by rfl, ?_⟩) (by assumption) ?_
        rotate_left
        · (intro w hSw; (try dsimp only at hSw); go_simp; try with_reducible rfl)
        try simp only [Act.put, List.setIfInBounds_toArray, List.set_cons_zero, List.set_cons_succ]
        refine Till.take 10 (some 38) (v := ?_) rfl rfl (by kernel_rfl) (by kernel_rfl) (by kernel_rfl) (by kernel_rfl) (fun _ _ _ h => h) (Or.inl ⟨by rfl, ?_⟩) (by assumption) ?_
        rotate_left
        · (intro w hSw; (try dsimp only at hSw); go_simp; try with_reducible rfl)
        try simp only [Act.put, List.setIfInBounds_toArray, List.set_cons_zero, List.set_cons_succ]
        refine Till.take 11 (some 39) (v := ?_) rfl rfl (by kernel_rfl) (by kernel_rfl) (by kernel_rfl) (by kernel_rfl) (fun _ _ _ h => h) (Or.inl ⟨by rfl, ?_⟩) (by assumption) ?_
        rotate_left
        · (intro w hSw; (try dsimp only at hSw); go_simp; try with_reducible rfl)
        try simp only [Act.put, List.setIfInBounds_toArray, List.set_cons_zero, List.set_cons_succ]
        refine Till.take 12 (some 40) (v := ?_) rfl rfl (by kernel_rfl) (by kernel_rfl) (by kernel_rfl) (by kernel_rfl) (fun _ _ _ h => h) (Or.inl ⟨by rfl, ?_⟩) (by assumption) ?_
        rotate_left
        · (intro w hSw; (try dsimp only at hSw); go_simp; try with_reducible rfl)
        try simp only [Act.put, List.setIfInBounds_toArray, List.set_cons_zero, List.set_cons_succ]
        try simp only [hd2]
        refine Till.take 13 (some 41) (v := ?_) rfl rfl (by kernel_rfl) (by kernel_rfl) (by kernel_rfl) (by kernel_rfl) (fun _ _ _ h => h) (Or.inl ⟨by rfl, ?_⟩) (by assumption) ?_
        rotate_left
        · (intro w hSw; (try dsimp only at hSw); go_simp; try with_reducible rfl)
        try simp only [Act.put, List.setIfInBounds_toArray, List.set_cons_zero, List.set_cons_succ]
        refine Till.take 14 (some 42) (v := ?_) rfl rfl (by kernel_rfl) (by kernel_rfl) (by kernel_rfl) (by kernel_rfl) (fun _ _ _ h => h) (Or.inl ⟨by rfl, ?_⟩) (by assumption) ?_
        rotate_left
        · (intro w hSw; (try dsimp only at hSw); go_simp; try with_reducible rfl)
        try simp only [Act.put, List.setIfInBounds_toArray, List.set_cons_zero, List.set_cons_succ]
        refine Till.take 15 (some 43) (v := ?_) rfl rfl (by kernel_rfl) (by kernel_rfl) (by kernel_rfl) (by kernel_rfl) (fun _ _ _ h => h) (Or.inl ⟨by rfl, ?_⟩) (by assumption) ?_
        rotate_left
        · (intro w hSw; (try dsimp only at hSw); go_simp; try with_reducible rfl)
        try simp only [Act.put, List.setIfInBounds_toArray, List.set_cons_zero, List.set_cons_succ]
        refine Till.take 16 (some 44) (v := ?_) rfl rfl (by kernel_rfl) (by kernel_rfl) (by kernel_rfl) (by kernel_rfl) (fun _ _ _ h => h) (Or.inl ⟨by rfl, ?_⟩) (by assumption) ?_
        rotate_left
        · (intro w hSw; (try dsimp only at hSw); go_simp; try with_reducible rfl)
        try simp only [Act.put, List.setIfInBounds_toArray, List.set_cons_zero, List.set_cons_succ]
        refine Till.take 17 (some 45) (v := ?_) rfl rfl (by kernel_rfl) (by kernel_rfl) (by kernel_rfl) (by kernel_rfl) (fun _ _ _ h => h) (Or.inl ⟨by rfl, ?_⟩) (by assumption) ?_
        rotate_left
        · (intro w hSw; (try dsimp only at hSw); go_simp; try with_reducible rfl)
        try simp only [Act.put, List.setIfInBounds_toArray, List.set_cons_zero, List.set_cons_succ]
        refine Till.take 18 (some 46) (v := ?_) rfl rfl (by kernel_rfl) (by kernel_rfl) (by kernel_rfl) (by kernel_rfl) (fun _ _ _ h => h) (Or.inl ⟨by rfl, ?_⟩) (by assumption) ?_
        rotate_left
        · (intro w hSw; (try dsimp only at hSw); go_simp; try with_reducible rfl)
        try simp only [Act.put, List.setIfInBounds_toArray, List.set_cons_zero, List.set_cons_succ]
        try simp only [hd3]
        refine Till.done (by kernel_rfl) ?_ _
        clear hHeld
        go_wp2
        go_ret
        exact ⟨HA.out.drew, .inl ⟨false, rfl, HP.out, ⟨fun h => (by cases h), fun h => absurd h HF.out⟩⟩⟩
      · have hd3 := decide_eq_false h3
        have HN : Hid (AllPass b l ms acc (k + 1)) := Lib.hid (fun i hi => by
          by_cases e : i = k
          · rw [e]; exact HNP.out.2 ⟨h1, by omega, by omega⟩
          · exact hall.out i (by omega))
        clear hall hb hAr
        go_wp2_with fail
        refine wp_region_till (fun w' : World => w'.cell? ⟨p2, 0, none⟩ = some (.slice (some ⟨mb, mo, none⟩) ms.length km) ∧ w'.cell? ⟨p3, 0, none⟩ = some (.int .i64 acc) ∧ w'.cell? ⟨mb, mo + k, none⟩ = some (.int .i64 m)) 99 (by kernel_rfl) ⟨r0, q0, m1⟩ (fun hHeld => ?_)
        refine Till.take 0 (some 28) (v := ?_) rfl rfl (by kernel_rfl) (by kernel_rfl) (by kernel_rfl) (by kernel_rfl) (fun _ _ _ h => h) (Or.inl ⟨by rfl, ?_⟩) (by assumption) ?_
        rotate_left
        · (intro w hSw; (try dsimp only at hSw); go_simp; try with_reducible rfl)
        try simp only [Act.put, List.setIfInBounds_toArray, List.set_cons_zero, List.set_cons_succ]
        refine Till.take 1 (some 29) (v := ?_) rfl rfl (by kernel_rfl) (by kernel_rfl) (by kernel_rfl) (by kernel_rfl) (fun _ _ _ h => h) (Or.inl ⟨by rfl, ?_⟩) (by assumption) ?_
        rotate_left
        · (intro w hSw; (try dsimp only at hSw); go_simp; try with_reducible rfl)
        try simp only [Act.put, List.setIfInBounds_toArray, List.set_cons_zero, List.set_cons_succ]
        refine Till.take 2 (some 30) (v := ?_) rfl rfl (by kernel_rfl) (by kernel_rfl) (by kernel_rfl) (by kernel_rfl) (fun _ _ _ h => h) (Or.inl ⟨by rfl, ?_⟩) (by assumption) ?_
        rotate_left
        · (intro w hSw; (try dsimp only at hSw); go_simp; try with_reducible rfl)
        try simp only [Act.put, List.setIfInBounds_toArray, List.set_cons_zero, List.set_cons_succ]
        refine Till.take 3 (some 31) (v := ?_) rfl rfl (by kernel_rfl) (by kernel_rfl) (by kernel_rfl) (by kernel_rfl) (fun _ _ _ h => h) (Or.inl ⟨by rfl, ?_⟩) (by assumption) ?_
        rotate_left
        · (intro w hSw; (try dsimp only at hSw); go_simp; try with_reducible rfl)
        try simp only [Act.put, List.setIfInBounds_toArray, List.set_cons_zero, List.set_cons_succ]
        refine Till.take 4 (some 32) (v := ?_) rfl rfl (by kernel_rfl) (by kernel_rfl) (by kernel_rfl) (by kernel_rfl) (fun _ _ _ h => h) (Or.inl ⟨by rfl, ?_⟩) (by assumption) ?_
        rotate_left
        · (intro w hSw; (try dsimp only at hSw); go_simp; try with_reducible rfl)
        try simp only [Act.put, List.setIfInBounds_toArray, List.set_cons_zero, List.set_cons_succ]
        refine Till.take 5 (some 33) (v := ?_) rfl rfl (by kernel_rfl) (by kernel_rfl) (by kernel_rfl) (by kernel_rfl) (fun _ _ _ h => h) (Or.inl ⟨by rfl, ?_⟩) (by assumption) ?_
        rotate_left
        · (intro w hSw; (try dsimp only at hSw); go_simp; try with_reducible rfl)
        try simp only [Act.put, List.setIfInBounds_toArray, List.set_cons_zero, List.set_cons_succ]
        refine Till.take 6 (some 34) (v := ?_) rfl rfl (by kernel_rfl) (by kernel_rfl) (by kernel_rfl) (by kernel_rfl) (fun _ _ _ h => h) (Or.inl ⟨by rfl, ?_⟩) (by assumption) ?_
        rotate_left
        · (intro w hSw; (try dsimp only at hSw); go_simp; try with_reducible rfl)
        try simp only [Act.put, List.setIfInBounds_toArray, List.set_cons_zero, List.set_cons_succ]
        refine Till.take 7 (some 35) (v := ?_) rfl rfl (by kernel_rfl) (by kernel_rfl) (by kernel_rfl) (by kernel_rfl) (fun _ _ _ h => h) (Or.inl ⟨by rfl, ?_⟩) (by assumption) ?_
        rotate_left
        · (intro w hSw; (try dsimp only at hSw); go_simp; try with_reducible rfl)
        try simp only [Act.put, List.setIfInBounds_toArray, List.set_cons_zero, List.set_cons_succ]
        refine Till.take 8 (some 36) (v := ?_) rfl rfl (by kernel_rfl) (by kernel_rfl) (by kernel_rfl) (by kernel_rfl) (fun _ _ _ h => h) (Or.inl ⟨by rfl, ?_⟩) (by assumption) ?_
        rotate_left
        · (intro w hSw; (try dsimp only at hSw); go_simp; try with_reducible rfl)
        try simp only [Act.put, List.setIfInBounds_toArray, List.set_cons_zero, List.set_cons_succ]
        refine Till.take 9 (some 37) (v := ?_) rfl rfl (by kernel_rfl) (by kernel_rfl) (by kernel_rfl) (by kernel_rfl) (fun _ _ _ h => h) (Or.inl ⟨by rfl, ?_⟩) (by assumption) ?_
        rotate_left
        · (intro w hSw; (try dsimp only at hSw); go_simp; try with_reducible rfl)
        try simp only [Act.put, List.setIfInBounds_toArray, List.set_cons_zero, List.set_cons_succ]
        refine Till.take 10 (some 38) (v := ?_) rfl rfl (by kernel_rfl) (by kernel_rfl) (by kernel_rfl) (by kernel_rfl) (fun _ _ _ h => h) (Or.inl ⟨by rfl, ?_⟩) (by assumption) ?_
        rotate_left
        · (intro w hSw; (try dsimp only at hSw); go_simp; try with_reducible rfl)
        try simp only [Act.put, List.setIfInBounds_toArray, List.set_cons_zero, List.set_cons_succ]
        refine Till.take 11 (some 39) (v := ?_) rfl rfl (by kernel_rfl) (by kernel_rfl) (by kernel_rfl) (by kernel_rfl) (fun _ _ _ h => h) (Or.inl ⟨by rfl, ?_⟩) (by assumption) ?_
        rotate_left
        · (intro w hSw; (try dsimp only at hSw); go_simp; try with_reducible rfl)
        try simp only [Act.put, List.setIfInBounds_toArray, List.set_cons_zero, List.set_cons_succ]
        refine Till.take 12 (some 40) (v := ?_) rfl rfl (by kernel_rfl) (by kernel_rfl) (by kernel_rfl) (by kernel_rfl) (fun _ _ _ h => h) (Or.inl ⟨by rfl, ?_⟩) (by assumption) ?_
        rotate_left
        · (intro w hSw; (try dsimp only at hSw); go_simp; try with_reducible rfl)
        try simp only [Act.put, List.setIfInBounds_toArray, List.set_cons_zero, List.set_cons_succ]
        try simp only [hd2]
        refine Till.take 13 (some 41) (v := ?_) rfl rfl (by kernel_rfl) (by kernel_rfl) (by kernel_rfl) (by kernel_rfl) (fun _ _ _ h => h) (Or.inl ⟨by rfl, ?_⟩) (by assumption) ?_
        rotate_left
        · (intro w hSw; (try dsimp only at hSw); go_simp; try with_reducible rfl)
        try simp only [Act.put, List.setIfInBounds_toArray, List.set_cons_zero, List.set_cons_succ]
        refine Till.take 14 (some 42) (v := ?_) rfl rfl (by kernel_rfl) (by kernel_rfl) (by kernel_rfl) (by kernel_rfl) (fun _ _ _ h => h) (Or.inl ⟨by rfl, ?_⟩) (by assumption) ?_
        rotate_left
        · (intro w hSw; (try dsimp only at hSw); go_simp; try with_reducible rfl)
        try simp only [Act.put, List.setIfInBounds_toArray, List.set_cons_zero, List.set_cons_succ]
        refine Till.take 15 (some 43) (v := ?_) rfl rfl (by kernel_rfl) (by kernel_rfl) (by kernel_rfl) (by kernel_rfl) (fun _ _ _ h => h) (Or.inl ⟨by rfl, ?_⟩) (by assumption) ?_
        rotate_left
        · (intro w hSw; (try dsimp only at hSw); go_simp; try with_reducible rfl)
        try simp only [Act.put, List.setIfInBounds_toArray, List.set_cons_zero, List.set_cons_succ]
        refine Till.take 16 (some 44) (v := ?_) rfl rfl (by kernel_rfl) (by kernel_rfl) (by kernel_rfl) (by kernel_rfl) (fun _ _ _ h => h) (Or.inl ⟨by rfl, ?_⟩) (by assumption) ?_
        rotate_left
        · (intro w hSw; (try dsimp only at hSw); go_simp; try with_reducible rfl)
        try simp only [Act.put, List.setIfInBounds_toArray, List.set_cons_zero, List.set_cons_succ]
        refine Till.take 17 (some 45) (v := ?_) rfl rfl (by kernel_rfl) (by kernel_rfl) (by kernel_rfl) (by kernel_rfl) (fun _ _ _ h => h) (Or.inl ⟨by rfl, ?_⟩) (by assumption) ?_
        rotate_left
        · (intro w hSw; (try dsimp only at hSw); go_simp; try with_reducible rfl)
        try simp only [Act.put, List.setIfInBounds_toArray, List.set_cons_zero, List.set_cons_succ]
        refine Till.take 18 (some 46) (v := ?_) rfl rfl (by kernel_rfl) (by kernel_rfl) (by kernel_rfl) (by kernel_rfl) (fun _ _ _ h => h) (Or.inl ⟨by rfl, ?_⟩) (by assumption) ?_
        rotate_left
        · (intro w hSw; (try dsimp only at hSw); go_simp; try with_reducible rfl)
        try simp only [Act.put, List.setIfInBounds_toArray, List.set_cons_zero, List.set_cons_succ]
        try simp only [hd3]
        refine Till.done (by kernel_rfl) ?_ _
        clear hHeld
        go_wp2
        go_roundw
        case rel => exact ⟨k + 1, by omega, by go_num, HN, HBB.out.drew⟩
        case measure => simp [intOf]; omega
    · obtain rfl : k = (needS b l).length := by omega
      have HF : Hid (AllPass b l ms acc b.rings.length) := Lib.hid (by rw [← HLEN.out]; exact hall.out)
      have HA := Lib.hid hAr
      clear hall hb hAr hnl hmsl hA3
      go_wp2
      go_ret
      exact ⟨HA.out, .inl ⟨true, rfl, HP.out, ⟨fun _ => HF.out, fun _ => rfl⟩⟩⟩

def PassP (w : World) (b : Bot) (l : Ld) (ms : List Int) (acc : Int) (e : Ending) (w' : World) : Prop :=
  ∃ r, e = .returned (.tuple #[.bool r, .int .i64 (passE b l ms acc)]) ∧ (passE b l ms acc = 0 → (r = true ↔ AllPass b l ms acc b.rings.length)) ∧ (passE b l ms acc ≠ 0 → r = false) ∧ Below w.heap.size w w'

set_option maxHeartbeats 1000000 in
set_option maxRecDepth 100000 in
theorem passesP_any (vb vm : Value) (b : Bot) (l : Ld) (ms : List Int) (acc : Int) (w : World) (h : RBot w vb b) (hms : RInts w vm ms) (hC : Circ w) :
    Calls Tryd.prog 33 #[vb, .agg #[.int .i64 l.press, .int .i64 l.force, .int .i64 l.speed, .int .i64 l.other], vm, .int .i64 acc] w (PassP w b l ms acc) := by
  have hmf : ∀ (fn : Fn) (first cap : Array Value) (w : World), (Instr.makeFunc fn first cap).run Tryd.prog w = .ok (.func fn first cap) w := fun _ _ _ _ => rfl
  have h0 := h
  have hms0 := hms
  obtain ⟨v0, rfl, hr, hI⟩ := h
  obtain ⟨a, cap, rfl, -, -, -⟩ := hr
  obtain ⟨am, km, rfl, -, -, -⟩ := hms
  have hA4 : Below w.heap.size w ((((w.alloc (.cells #[.slice a b.rings.length cap, .int .i64 b.flaw, .int .i64 b.tough] 24)).alloc (.cells #[.int .i64 l.press, .int .i64 l.force, .int .i64 l.speed, .int .i64 l.other] 27)).alloc (.cells #[.slice am ms.length km] 30)).alloc (.cells #[.int .i64 acc] 3)) := (((below_boxS w _).alloc (by simp) _).alloc (by simp only [World.size_alloc]; omega) _).alloc (by simp only [World.size_alloc]; omega) _
  have hB0 := (((Blk.new w #[.slice a b.rings.length cap, .int .i64 b.flaw, .int .i64 b.tough] 24).alloc (.cells #[.int .i64 l.press, .int .i64 l.force, .int .i64 l.speed, .int .i64 l.other] 27)).alloc (.cells #[.slice am ms.length km] 30)).alloc (.cells #[.int .i64 acc] 3)
  have hB1 := ((Blk.new (w.alloc (.cells #[.slice a b.rings.length cap, .int .i64 b.flaw, .int .i64 b.tough] 24)) #[.int .i64 l.press, .int .i64 l.force, .int .i64 l.speed, .int .i64 l.other] 27).alloc (.cells #[.slice am ms.length km] 30)).alloc (.cells #[.int .i64 acc] 3)
  have hB2 := (Blk.new ((w.alloc (.cells #[.slice a b.rings.length cap, .int .i64 b.flaw, .int .i64 b.tough] 24)).alloc (.cells #[.int .i64 l.press, .int .i64 l.force, .int .i64 l.speed, .int .i64 l.other] 27)) #[.slice am ms.length km] 30).alloc (.cells #[.int .i64 acc] 3)
  have hB3 := Blk.new (((w.alloc (.cells #[.slice a b.rings.length cap, .int .i64 b.flaw, .int .i64 b.tough] 24)).alloc (.cells #[.int .i64 l.press, .int .i64 l.force, .int .i64 l.speed, .int .i64 l.other] 27)).alloc (.cells #[.slice am ms.length km] 30)) #[.int .i64 acc] 3
  simp only [World.size_alloc] at hB1 hB2 hB3
  go_enter Tryd.func33, Tryd.ntmps33
  go_wp2_with fail
  generalize (((w.alloc (.cells #[.slice a b.rings.length cap, .int .i64 b.flaw, .int .i64 b.tough] 24)).alloc (.cells #[.int .i64 l.press, .int .i64 l.force, .int .i64 l.speed, .int .i64 l.other] 27)).alloc (.cells #[.slice am ms.length km] 30)).alloc (.cells #[.int .i64 acc] 3) = W2 at *
  have hE := ext_of_below hA4
  refine (told_bool_any 92 #[.pointer (some ⟨w.heap.size, 0, none⟩), .pointer (some ⟨w.heap.size + 1, 0, none⟩), .pointer (some ⟨w.heap.size + 1 + 1, 0, none⟩), .pointer (some ⟨w.heap.size + 1 + 1 + 1, 0, none⟩)] W2 (PassQ b l ms acc) (fun n => n ≠ 0 ∧ n = passE b l ms acc) isFn_passes1
    (fun W hW => passesC_any a am cap km b l ms acc _ _ _ _ W ((h0.mono hE).mono (ext_of_below hW)) ((hms0.mono hE).mono (ext_of_below hW)) ((hC.mono hE).mono (ext_of_below hW)) (hB0.below hW hB0.lt) (hB1.below hW hB1.lt) (hB2.below hW hB2.lt) (hB3.below hW hB3.lt))).mono ?_
  rintro e w' ⟨hb, (⟨r, rfl, h1, h2⟩ | ⟨n, rfl, hn, rfl⟩)⟩
  · have HF := Lib.hid (hA4.trans (hb.mono hA4.size))
    have H1 := Lib.hid h1
    have H2 := Lib.hid h2
    clear hb h1 h2 hB0 hB1 hB2 hB3 hA4 hE h0 hms0
    go_wp2
    go_ret2
    exact ⟨r, by rw [H1.out]; rfl, fun _ => H2.out, fun h => absurd H1.out h, HF.out⟩
  · have HF := Lib.hid (hA4.trans (hb.mono hA4.size))
    have HN := Lib.hid hn
    clear hb hn hB0 hB1 hB2 hB3 hA4 hE h0 hms0
    go_wp2
    go_ret2
    exact ⟨false, rfl, fun h => absurd h HN.out, fun _ => rfl, HF.out⟩

end Go.Proofs.YtokgnbagegcnpaaDoor
