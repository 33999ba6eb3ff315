/- Correct, and the specification's Best and Correct, by their contracts; no statement is proved here. -/
import Derived.Test.YtpkggjfaefkiiaaCorr
namespace Go.Proofs.Ytpkggjfaefkiiaa
open Go.RowKit Go.PlainAid
set_option linter.unusedVariables false

def RetF2 (w : World) (r : Option (List Int × Int) × Int) (e : Ending) (w' : World) : Prop :=
  ∃ v c f, e = .returned (.tuple #[v, .int .i64 c, .bool f, .int .i64 r.2]) ∧ Below w.heap.size w w' ∧ ResIs (fun _ => True) w' v c f r.1
theorem RetFound.two {w : World} {r : Option (List Int × Int) × Int} {e : Ending} {w' : World} (h : RetFound w r e w') : RetF2 w r e w' := by
  obtain ⟨v, c, f, h1, h2, h3⟩ := h
  exact ⟨v, c, f, h1, h2, res_more h3 (ext_vis_of (Ext.refl _) (fun _ _ _ => trivial))⟩
theorem ints_nil (w : World) : RInts w (.slice none 0 0) [] := ⟨none, 0, rfl, Nat.le_refl _, ⟨by omega, by simp⟩, fun i h => absurd h (by simp)⟩

set_option maxHeartbeats 1000000 in
set_option maxRecDepth 100000 in
theorem correct_any (vb vt : Value) (b : Bat) (there : List Int) (lots : Int) (w : World) (h : RBat w vb b) (ht : RInts w vt there) :
    Calls Try.prog 39 #[vb, vt, .int .i64 lots] w (RetFound w (correctB b there lots)) := by
  obtain ⟨a0, k0, a1, k1, a2, k2, a3, k3, rfl⟩ := h.agg
  obtain ⟨pt, jt, rfl, -⟩ := id ht
  have hA := below_box w (.cells #[.slice a0 b.oxides.length k0, .slice a1 b.mats.length k1, .slice a2 b.shares.length k2, .slice a3 b.props.length k3, .int .i64 b.redox.lo, .int .i64 b.redox.hi, .int .i64 b.wanted] 29)
  have hB := Blk.new w #[.slice a0 b.oxides.length k0, .slice a1 b.mats.length k1, .slice a2 b.shares.length k2, .slice a3 b.props.length k3, .int .i64 b.redox.lo, .int .i64 b.redox.hi, .int .i64 b.wanted] 29
  go_enter Try.func39, Try.ntmps39
  go_wp2_with fail
  generalize w.alloc (.cells #[.slice a0 b.oxides.length k0, .slice a1 b.mats.length k1, .slice a2 b.shares.length k2, .slice a3 b.props.length k3, .int .i64 b.redox.lo, .int .i64 b.redox.hi, .int .i64 b.wanted] 29) = W at *
  have f0 := hB.cell 0 _ rfl
  have f1 := hB.cell 1 _ rfl
  have f2 := hB.cell 2 _ rfl
  have f3 := hB.cell 3 _ rfl
  have f4 := hB.cell 4 _ rfl
  have f5 := hB.cell 5 _ rfl
  have f6 := hB.cell 6 _ rfl
  refine (checkBoth_any _ _ b there W (h.mono (ext_of_below hA)) (ht.mono (ext_of_below hA))).mono ?_
  rintro e w1 ⟨rfl, hb1⟩
  have hA1 := hA.trans (hb1.mono hA.size)
  have hB1 := hB.below hb1 hB.lt
  clear hA hB hb1 f0 f1 f2 f3 f4 f5 f6
  by_cases e1 : bothB b there = 0
  case neg =>
    have e1' : (bothB b there != 0) = true := by simp [e1]
    have hfin := Lib.hid (show correctB b there lots = (none, bothB b there) by simp [correctB, e1])
    clear hB1 e1
    go_wp2
    refine bodyPost_ret (v := .tuple #[.slice none 0 0, .int .i64 0, .bool false, .int .i64 (bothB b there)]) (by simp only [results, Try.results39]; simp [go_sem]) rfl ?_
    exact ⟨_, _, _, by rw [hfin.out], hA1, by rw [hfin.out]; exact res_none _ _⟩
  have e1' : (bothB b there != 0) = false := by simp [e1]
  obtain ⟨q1, q2, q3⟩ := rec_len e1
  have hok := ok_of q1
  have E1 := Lib.hid e1
  have Q1 := Lib.hid q1
  have Q2 := Lib.hid q2
  clear e1 q1 q2
  have hbw := fun V => between_any lots 1 100 V
  by_cases hlo : 1 ≤ lots ∧ lots ≤ 100
  case neg =>
    have hlf : (decide (1 ≤ lots) && decide (lots ≤ 100)) = false := by
      rw [Bool.and_eq_false_iff, decide_eq_false_iff_not, decide_eq_false_iff_not]; omega
    simp only [hlf] at hbw
    have hfin := Lib.hid (show correctB b there lots = (none, 1) by unfold correctB; rw [if_pos E1.out, if_neg hlo])
    clear hB1 hlo hlf
    go_wp2_with fail
    refine (hbw _).mono ?_
    rintro e w9 ⟨rfl, rfl⟩
    go_wp2
    refine bodyPost_ret (v := .tuple #[.slice none 0 0, .int .i64 0, .bool false, .int .i64 1]) (by simp only [results, Try.results39]; simp [go_sem]) rfl ?_
    exact ⟨_, _, _, by rw [hfin.out], hA1, by rw [hfin.out]; exact res_none _ _⟩
  have hlf : (decide (1 ≤ lots) && decide (lots ≤ 100)) = true := by
    rw [Bool.and_eq_true, decide_eq_true_eq, decide_eq_true_eq]; exact hlo
  simp only [hlf] at hbw
  have HLO := Lib.hid hlo
  obtain ⟨hlo1, hlo2⟩ := hlo
  clear hlf
  go_wp2_with fail
  refine (hbw _).mono ?_
  rintro e w9 ⟨rfl, rfl⟩
  have f0 := hB1.cell 0 _ rfl
  have f1 := hB1.cell 1 _ rfl
  have f2 := hB1.cell 2 _ rfl
  have f3 := hB1.cell 3 _ rfl
  have f4 := hB1.cell 4 _ rfl
  have f5 := hB1.cell 5 _ rfl
  have f6 := hB1.cell 6 _ rfl
  go_wp2_with fail
  refine (tooMany_any _ b w1 (h.mono (ext_of_below hA1)) hok).mono ?_
  rintro e w2 ⟨rfl, hb2⟩
  have hA2 := hA1.trans (hb2.mono hA1.size)
  have hB2 := hB1.below hb2 hB1.lt
  clear hA1 hB1 hb2 hbw f0 f1 f2 f3 f4 f5 f6
  by_cases hc : 100000 < cntB b
  · have hfin := Lib.hid (show correctB b there lots = (none, 9) by unfold correctB searchB; rw [if_pos E1.out, if_pos HLO.out, if_pos hc])
    have hd : decide (100000 < cntB b) = true := decide_eq_true hc
    clear hc hB2
    go_wp2
    refine bodyPost_ret (v := .tuple #[.slice none 0 0, .int .i64 0, .bool false, .int .i64 9]) (by simp only [results, Try.results39]; simp [go_sem]) rfl ?_
    exact ⟨_, _, _, by rw [hfin.out], hA2, by rw [hfin.out]; exact res_none _ _⟩
  · have hfin := Lib.hid (show correctB b there lots = (bestOf b there lots (lots + 1) (recsM b.mats), 0) by unfold correctB searchB; rw [if_pos E1.out, if_pos HLO.out, if_neg hc])
    have hd : decide (100000 < cntB b) = false := decide_eq_false hc
    clear hc
    have f0 := hB2.cell 0 _ rfl
    have f1 := hB2.cell 1 _ rfl
    have f2 := hB2.cell 2 _ rfl
    have f3 := hB2.cell 3 _ rfl
    have f4 := hB2.cell 4 _ rfl
    have f5 := hB2.cell 5 _ rfl
    have f6 := hB2.cell 6 _ rfl
    go_wp2_with fail
    refine (cheapest_any _ _ b there lots (lots + 1) w2 (h.mono (ext_of_below hA2)) hok (ht.mono (ext_of_below hA2)) Q2.out).mono ?_
    rintro e w3 ⟨v, c, f, rfl, hb3, hres⟩
    have hA3 := hA2.trans (hb3.mono hA2.size)
    have hsz := hA2.size
    clear hB2 f0 f1 f2 f3 f4 f5 f6
    go_wp2
    refine bodyPost_ret (v := .tuple #[v, .int .i64 c, .bool f, .int .i64 0]) (by simp only [results, Try.results39]; simp [go_sem]) rfl ?_
    exact ⟨v, c, f, by rw [hfin.out], hA3, by rw [hfin.out]; exact res_more hres (ext_vis_of (Ext.refl _) (fun _ _ h => Nat.le_trans hsz h))⟩

set_option maxHeartbeats 2000000 in
set_option maxRecDepth 100000 in
theorem rbest_any (vb : Value) (b : Bat) (w : World) (h : RBat w vb b) :
    Calls Try.prog 38 #[vb] w (RetF2 w (bestB b)) := by
  obtain ⟨a0, k0, a1, k1, a2, k2, a3, k3, rfl⟩ := h.agg
  have hA := below_box w (.cells #[.slice a0 b.oxides.length k0, .slice a1 b.mats.length k1, .slice a2 b.shares.length k2, .slice a3 b.props.length k3, .int .i64 b.redox.lo, .int .i64 b.redox.hi, .int .i64 b.wanted] 29)
  have hB := Blk.new w #[.slice a0 b.oxides.length k0, .slice a1 b.mats.length k1, .slice a2 b.shares.length k2, .slice a3 b.props.length k3, .int .i64 b.redox.lo, .int .i64 b.redox.hi, .int .i64 b.wanted] 29
  have he0 : ∀ V : World, (binOp .eql 37 (.slice none 0 0) (.slice none 0 0)).run Try.prog V = .ok (.bool true) V := fun _ => rfl
  have he1 : ∀ (A : Addr) (n c : Nat) (V : World), (binOp .eql 37 (.slice (some A) n c) (.slice none 0 0)).run Try.prog V = .ok (.bool false) V := fun _ _ _ _ => rfl
  go_enter Try.func38, Try.ntmps38
  go_wp2_with fail
  generalize w.alloc (.cells #[.slice a0 b.oxides.length k0, .slice a1 b.mats.length k1, .slice a2 b.shares.length k2, .slice a3 b.props.length k3, .int .i64 b.redox.lo, .int .i64 b.redox.hi, .int .i64 b.wanted] 29) = W at *
  have f0 := hB.cell 0 _ rfl
  have f1 := hB.cell 1 _ rfl
  have f2 := hB.cell 2 _ rfl
  have f3 := hB.cell 3 _ rfl
  have f4 := hB.cell 4 _ rfl
  have f5 := hB.cell 5 _ rfl
  have f6 := hB.cell 6 _ rfl
  refine (rcheck_any _ b W (h.mono (ext_of_below hA))).mono ?_
  rintro e w1 ⟨rfl, hb1⟩
  have hA1 := hA.trans (hb1.mono hA.size)
  have hB1 := hB.below hb1 hB.lt
  clear hA hB hb1 f0 f1 f2 f3 f4 f5 f6
  by_cases e1 : checkB b = 0
  case neg =>
    have e1' : (checkB b != 0) = true := by simp [e1]
    have hfin := Lib.hid (show bestB b = (none, checkB b) by simp [bestB, e1])
    clear hB1 e1
    go_wp2
    refine bodyPost_ret (v := .tuple #[.slice none 0 0, .int .i64 0, .bool false, .int .i64 (checkB b)]) (by simp only [results, Try.results38]; simp [go_sem]) rfl ?_
    exact ⟨_, _, _, by rw [hfin.out], hA1, by rw [hfin.out]; exact res_none _ _⟩
  have e1' : (checkB b != 0) = false := by simp [e1]
  have hok := ok_of e1
  have hmt := hok.mt
  have E1 := Lib.hid e1
  clear e1
  have f0 := hB1.cell 0 _ rfl
  have f1 := hB1.cell 1 _ rfl
  have f2 := hB1.cell 2 _ rfl
  have f3 := hB1.cell 3 _ rfl
  have f4 := hB1.cell 4 _ rfl
  have f5 := hB1.cell 5 _ rfl
  have f6 := hB1.cell 6 _ rfl
  go_wp2_with fail
  refine (choices_any _ b w1 (h.mono (ext_of_below hA1)) hok).mono ?_
  rintro e w2 ⟨cn, rfl, hcn, hb2⟩
  have hA2 := hA1.trans (hb2.mono hA1.size)
  have hB2 := hB1.below hb2 hB1.lt
  clear hA1 hB1 hb2 f0 f1 f2 f3 f4 f5 f6
  by_cases hc : 100000 < cntB b
  · have hfin := Lib.hid (show bestB b = (none, 9) by unfold bestB searchB; rw [if_pos E1.out, if_pos hc])
    have hd : 100000 < cn := hcn.2.2 hc
    clear hc hB2 hcn
    go_wp2
    refine bodyPost_ret (v := .tuple #[.slice none 0 0, .int .i64 0, .bool false, .int .i64 9]) (by simp only [results, Try.results38]; simp [go_sem]) rfl ?_
    exact ⟨_, _, _, by rw [hfin.out], hA2, by rw [hfin.out]; exact res_none _ _⟩
  · have hfin := Lib.hid (best_ref E1.out hc)
    have hd : cn ≤ 100000 := by have := hcn.2; omega
    clear hc hcn
    have f0 := hB2.cell 0 _ rfl
    have f1 := hB2.cell 1 _ rfl
    have f2 := hB2.cell 2 _ rfl
    have f3 := hB2.cell 3 _ rfl
    have f4 := hB2.cell 4 _ rfl
    have f5 := hB2.cell 5 _ rfl
    have f6 := hB2.cell 6 _ rfl
    go_wp2_with fail
    have D0 : Below w2.heap.size w2 w2.drew := (Below.refl _ _).drew
    have hsv : ∀ V, Below w2.heap.size w2 V → (fun w' : World => w'.cell? ⟨w.heap.size, 0, none⟩ = some (.slice a0 b.oxides.length k0) ∧ w'.cell? ⟨w.heap.size, 1, none⟩ = some (.slice a1 b.mats.length k1) ∧ w'.cell? ⟨w.heap.size, 2, none⟩ = some (.slice a2 b.shares.length k2) ∧ w'.cell? ⟨w.heap.size, 3, none⟩ = some (.slice a3 b.props.length k3) ∧ w'.cell? ⟨w.heap.size, 4, none⟩ = some (.int .i64 b.redox.lo) ∧ w'.cell? ⟨w.heap.size, 5, none⟩ = some (.int .i64 b.redox.hi) ∧ w'.cell? ⟨w.heap.size, 6, none⟩ = some (.int .i64 b.wanted)) V := fun V e => ⟨keepC e f0, keepC e f1, keepC e f2, keepC e f3, keepC e f4, keepC e f5, keepC e f6⟩
    have hrl := rlines_any _ b w2.drew (h.mono (ext_of_below (hA2.trans (D0.mono hA2.size)))) hok
    refine wp_region_till (fun w' => w'.cell? ⟨w.heap.size, 0, none⟩ = some (.slice a0 b.oxides.length k0) ∧ w'.cell? ⟨w.heap.size, 1, none⟩ = some (.slice a1 b.mats.length k1) ∧ w'.cell? ⟨w.heap.size, 2, none⟩ = some (.slice a2 b.shares.length k2) ∧ w'.cell? ⟨w.heap.size, 3, none⟩ = some (.slice a3 b.props.length k3) ∧ w'.cell? ⟨w.heap.size, 4, none⟩ = some (.int .i64 b.redox.lo) ∧ w'.cell? ⟨w.heap.size, 5, none⟩ = some (.int .i64 b.redox.hi) ∧ w'.cell? ⟨w.heap.size, 6, none⟩ = some (.int .i64 b.wanted)) 99 (by kernel_rfl) (hsv _ D0) (fun hHeld => ?_)
    refine Till.take 0 (some 16) (v := ?_) rfl rfl (by kernel_rfl) (by kernel_rfl) (by kernel_rfl) (by kernel_rfl) (fun _ _ _ h => h) (Or.inl ⟨by rfl, ?_⟩) (by assumption) ?_
    rotate_left
    · (intro w hSw; (try dsimp only at hSw); go_simp; try with_reducible rfl)
    try simp only [Act.put, List.setIfInBounds_toArray, List.set_cons_zero, List.set_cons_succ]
    refine Till.take 1 (some 17) (v := ?_) rfl rfl (by kernel_rfl) (by kernel_rfl) (by kernel_rfl) (by kernel_rfl) (fun _ _ _ h => h) (Or.inl ⟨by rfl, ?_⟩) (by assumption) ?_
    rotate_left
    · (intro w hSw; (try dsimp only at hSw); go_simp; try with_reducible rfl)
    try simp only [Act.put, List.setIfInBounds_toArray, List.set_cons_zero, List.set_cons_succ]
    refine Till.one 2 rfl (by kernel_rfl) (fun K hK => ?_)
    go_simp
    go_at_call 49
    refine hrl.mono ?_
    rintro e w3 ⟨vl, rfl, hvl, hb3⟩
    have D1 := D0.trans (hb3.mono D0.size)
    have E3 := (ext_of_below hA2).trans (ext_of_below D1)
    refine hK.out _ _ (fun _ => hsv _ D1) (fun hHeld => ?_)
    clear hK K
    try simp only [Act.put, List.setIfInBounds_toArray, List.set_cons_zero, List.set_cons_succ]
    refine Till.one 3 rfl (by kernel_rfl) (fun K hK => ?_)
    go_simp
    go_at_call 85
    refine (first_any b hok b.mats.length [] none _ _ _ _ w3 (h.mono E3) hvl (ints_nil _) rfl (by simp) (fun x hx => by cases hx)).mono ?_
    rintro e w4 ⟨v, rfl, hv, hb4⟩
    have D2 := D1.trans (hb4.mono D1.size)
    refine hK.out _ _ (fun _ => hsv _ D2) (fun hHeld => ?_)
    clear hK K
    try simp only [Act.put, List.setIfInBounds_toArray, List.set_cons_zero, List.set_cons_succ]
    have hw2 := hsv _ D2
    dsimp only at hw2
    refine Till.take 4 (some 7) (v := ?_) rfl rfl (by kernel_rfl) (by kernel_rfl) (by kernel_rfl) (by kernel_rfl) (fun _ _ _ h => h) (Or.inl ⟨by rfl, ?_⟩) (by assumption) ?_
    rotate_left
    · (intro w hSw; (try dsimp only at hSw); go_simp; try with_reducible rfl)
    try simp only [Act.put, List.setIfInBounds_toArray, List.set_cons_zero, List.set_cons_succ]
    refine Till.done (by kernel_rfl) ?_ _
    have hA4 := hA2.trans (D2.mono hA2.size)
    have hB4 := hB2.below D2 hB2.lt
    obtain ⟨oq, hoq⟩ : ∃ q, q = refOver b (keeps1 b) [] none := ⟨_, rfl⟩
    rw [← hoq] at hv hfin
    clear hw2 hHeld hsv f0 f1 f2 f3 f4 f5 f6 hrl hoq D0 D1 D2 hB2 hA2
    cases oq with
    | none =>
      have hv2 : v = .slice none 0 0 := hv
      subst hv2
      clear hB4
      go_wp2
      refine bodyPost_ret (v := .tuple #[.slice none 0 0, .int .i64 0, .bool false, .int .i64 0]) (by simp only [results, Try.results38]; simp [go_sem]) rfl ?_
      exact ⟨_, _, _, by rw [hfin.out], hA4, by rw [hfin.out]; exact res_none _ _⟩
    | some q =>
      obtain ⟨hq1, hq2⟩ := hv
      obtain ⟨qa, qk, rfl, -, -, hqc⟩ := id hq1
      obtain ⟨b9, o9, rfl, -⟩ := hqc 0 (by omega)
      have HQ := Lib.hid hq2
      clear hqc hq2
      have f0 := hB4.cell 0 _ rfl
      have f1 := hB4.cell 1 _ rfl
      have f2 := hB4.cell 2 _ rfl
      have f3 := hB4.cell 3 _ rfl
      have f4 := hB4.cell 4 _ rfl
      have f5 := hB4.cell 5 _ rfl
      have f6 := hB4.cell 6 _ rfl
      go_wp2_with fail
      refine (rcostI_any _ _ b q _ (h.mono (ext_of_below hA4)) hq1 HQ.out).mono ?_
      rintro e w5 ⟨rfl, hb5⟩
      have hA5 := hA4.trans (hb5.mono hA4.size)
      have hq5 := hq1.mono (ext_of_below hb5)
      clear hB4 f0 f1 f2 f3 f4 f5 f6 hq1
      go_wp2
      refine bodyPost_ret (v := .tuple #[.slice (some ⟨b9, o9, none⟩) q.length qk, .int .i64 (dotB (b.mats.map Mat.price) q), .bool true, .int .i64 0]) (by simp only [results, Try.results38]; simp [go_sem]) rfl ?_
      exact ⟨_, _, _, by rw [hfin.out], hA5, by rw [hfin.out]; exact ⟨rfl, rfl, hq5.mono (ext_vis_all (Ext.refl _) (fun _ _ => trivial))⟩⟩

set_option maxHeartbeats 2000000 in
set_option maxRecDepth 100000 in
theorem rcorrect_any (vb vt : Value) (b : Bat) (there : List Int) (lots : Int) (w : World) (h : RBat w vb b) (ht : RInts w vt there) :
    Calls Try.prog 40 #[vb, vt, .int .i64 lots] w (RetF2 w (correctB b there lots)) := by
  obtain ⟨a0, k0, a1, k1, a2, k2, a3, k3, rfl⟩ := h.agg
  obtain ⟨pt, jt, rfl, -⟩ := id ht
  have hA := below_box w (.cells #[.slice a0 b.oxides.length k0, .slice a1 b.mats.length k1, .slice a2 b.shares.length k2, .slice a3 b.props.length k3, .int .i64 b.redox.lo, .int .i64 b.redox.hi, .int .i64 b.wanted] 29)
  have hB := Blk.new w #[.slice a0 b.oxides.length k0, .slice a1 b.mats.length k1, .slice a2 b.shares.length k2, .slice a3 b.props.length k3, .int .i64 b.redox.lo, .int .i64 b.redox.hi, .int .i64 b.wanted] 29
  have he0 : ∀ V : World, (binOp .eql 37 (.slice none 0 0) (.slice none 0 0)).run Try.prog V = .ok (.bool true) V := fun _ => rfl
  have he1 : ∀ (A : Addr) (n c : Nat) (V : World), (binOp .eql 37 (.slice (some A) n c) (.slice none 0 0)).run Try.prog V = .ok (.bool false) V := fun _ _ _ _ => rfl
  go_enter Try.func40, Try.ntmps40
  go_wp2_with fail
  generalize w.alloc (.cells #[.slice a0 b.oxides.length k0, .slice a1 b.mats.length k1, .slice a2 b.shares.length k2, .slice a3 b.props.length k3, .int .i64 b.redox.lo, .int .i64 b.redox.hi, .int .i64 b.wanted] 29) = W at *
  have f0 := hB.cell 0 _ rfl
  have f1 := hB.cell 1 _ rfl
  have f2 := hB.cell 2 _ rfl
  have f3 := hB.cell 3 _ rfl
  have f4 := hB.cell 4 _ rfl
  have f5 := hB.cell 5 _ rfl
  have f6 := hB.cell 6 _ rfl
  refine (rasked_any _ _ b there W (h.mono (ext_of_below hA)) (ht.mono (ext_of_below hA))).mono ?_
  rintro e w1 ⟨rfl, hb1⟩
  have hA1 := hA.trans (hb1.mono hA.size)
  have hB1 := hB.below hb1 hB.lt
  clear hA hB hb1 f0 f1 f2 f3 f4 f5 f6
  by_cases e1 : bothB b there = 0
  case neg =>
    have e1' : (bothB b there != 0) = true := by simp [e1]
    have hfin := Lib.hid (show correctB b there lots = (none, bothB b there) by simp [correctB, e1])
    clear hB1 e1
    go_wp2
    refine bodyPost_ret (v := .tuple #[.slice none 0 0, .int .i64 0, .bool false, .int .i64 (bothB b there)]) (by simp only [results, Try.results40]; simp [go_sem]) rfl ?_
    exact ⟨_, _, _, by rw [hfin.out], hA1, by rw [hfin.out]; exact res_none _ _⟩
  have e1' : (bothB b there != 0) = false := by simp [e1]
  obtain ⟨q1, q2, q3⟩ := rec_len e1
  have hok := ok_of q1
  have hmt := hok.mt
  have Q2 := Lib.hid q2
  clear q1 q2 q3
  have E1 := Lib.hid e1
  clear e1
  by_cases hlo : 1 ≤ lots ∧ lots ≤ 100
  case neg =>
    have hfin := Lib.hid (show correctB b there lots = (none, 1) by unfold correctB; rw [if_pos E1.out, if_neg hlo])
    clear hB1
    by_cases hl1 : 1 ≤ lots
    · have hl2 : 100 < lots := by omega
      clear hlo
      go_wp2
      refine bodyPost_ret (v := .tuple #[.slice none 0 0, .int .i64 0, .bool false, .int .i64 1]) (by simp only [results, Try.results40]; simp [go_sem]) rfl ?_
      exact ⟨_, _, _, by rw [hfin.out], hA1, by rw [hfin.out]; exact res_none _ _⟩
    · have hl2 : lots < 1 := by omega
      clear hlo hl1
      go_wp2
      refine bodyPost_ret (v := .tuple #[.slice none 0 0, .int .i64 0, .bool false, .int .i64 1]) (by simp only [results, Try.results40]; simp [go_sem]) rfl ?_
      exact ⟨_, _, _, by rw [hfin.out], hA1, by rw [hfin.out]; exact res_none _ _⟩
  have HLO := Lib.hid hlo
  obtain ⟨hlo1, hlo2⟩ := hlo
  have f0 := hB1.cell 0 _ rfl
  have f1 := hB1.cell 1 _ rfl
  have f2 := hB1.cell 2 _ rfl
  have f3 := hB1.cell 3 _ rfl
  have f4 := hB1.cell 4 _ rfl
  have f5 := hB1.cell 5 _ rfl
  have f6 := hB1.cell 6 _ rfl
  go_wp2_with fail
  refine (choices_any _ b w1 (h.mono (ext_of_below hA1)) hok).mono ?_
  rintro e w2 ⟨cn, rfl, hcn, hb2⟩
  have hA2 := hA1.trans (hb2.mono hA1.size)
  have hB2 := hB1.below hb2 hB1.lt
  clear hA1 hB1 hb2 f0 f1 f2 f3 f4 f5 f6
  by_cases hc : 100000 < cntB b
  · have hfin := Lib.hid (show correctB b there lots = (none, 9) by unfold correctB searchB; rw [if_pos E1.out, if_pos HLO.out, if_pos hc])
    have hd : 100000 < cn := hcn.2.2 hc
    clear hc hB2 hcn
    go_wp2
    refine bodyPost_ret (v := .tuple #[.slice none 0 0, .int .i64 0, .bool false, .int .i64 9]) (by simp only [results, Try.results40]; simp [go_sem]) rfl ?_
    exact ⟨_, _, _, by rw [hfin.out], hA2, by rw [hfin.out]; exact res_none _ _⟩
  · have hfin := Lib.hid (correct_ref E1.out HLO.out hc)
    have hd : cn ≤ 100000 := by have := hcn.2; omega
    clear hc hcn
    have f0 := hB2.cell 0 _ rfl
    have f1 := hB2.cell 1 _ rfl
    have f2 := hB2.cell 2 _ rfl
    have f3 := hB2.cell 3 _ rfl
    have f4 := hB2.cell 4 _ rfl
    have f5 := hB2.cell 5 _ rfl
    have f6 := hB2.cell 6 _ rfl
    go_wp2_with fail
    have D0 : Below w2.heap.size w2 w2.drew := (Below.refl _ _).drew
    have hsv : ∀ V, Below w2.heap.size w2 V → (fun w' : World => w'.cell? ⟨w.heap.size, 0, none⟩ = some (.slice a0 b.oxides.length k0) ∧ w'.cell? ⟨w.heap.size, 1, none⟩ = some (.slice a1 b.mats.length k1) ∧ w'.cell? ⟨w.heap.size, 2, none⟩ = some (.slice a2 b.shares.length k2) ∧ w'.cell? ⟨w.heap.size, 3, none⟩ = some (.slice a3 b.props.length k3) ∧ w'.cell? ⟨w.heap.size, 4, none⟩ = some (.int .i64 b.redox.lo) ∧ w'.cell? ⟨w.heap.size, 5, none⟩ = some (.int .i64 b.redox.hi) ∧ w'.cell? ⟨w.heap.size, 6, none⟩ = some (.int .i64 b.wanted)) V := fun V e => ⟨keepC e f0, keepC e f1, keepC e f2, keepC e f3, keepC e f4, keepC e f5, keepC e f6⟩
    have hrl := rlines_any _ b w2.drew (h.mono (ext_of_below (hA2.trans (D0.mono hA2.size)))) hok
    refine wp_region_till (fun w' => w'.cell? ⟨w.heap.size, 0, none⟩ = some (.slice a0 b.oxides.length k0) ∧ w'.cell? ⟨w.heap.size, 1, none⟩ = some (.slice a1 b.mats.length k1) ∧ w'.cell? ⟨w.heap.size, 2, none⟩ = some (.slice a2 b.shares.length k2) ∧ w'.cell? ⟨w.heap.size, 3, none⟩ = some (.slice a3 b.props.length k3) ∧ w'.cell? ⟨w.heap.size, 4, none⟩ = some (.int .i64 b.redox.lo) ∧ w'.cell? ⟨w.heap.size, 5, none⟩ = some (.int .i64 b.redox.hi) ∧ w'.cell? ⟨w.heap.size, 6, none⟩ = some (.int .i64 b.wanted)) 99 (by kernel_rfl) (hsv _ D0) (fun hHeld => ?_)
    refine Till.take 0 (some 27) (v := ?_) rfl rfl (by kernel_rfl) (by kernel_rfl) (by kernel_rfl) (by kernel_rfl) (fun _ _ _ h => h) (Or.inl ⟨by rfl, ?_⟩) (by assumption) ?_
    rotate_left
    · (intro w hSw; (try dsimp only at hSw); go_simp; try with_reducible rfl)
    try simp only [Act.put, List.setIfInBounds_toArray, List.set_cons_zero, List.set_cons_succ]
    refine Till.take 1 (some 28) (v := ?_) rfl rfl (by kernel_rfl) (by kernel_rfl) (by kernel_rfl) (by kernel_rfl) (fun _ _ _ h => h) (Or.inl ⟨by rfl, ?_⟩) (by assumption) ?_
    rotate_left
    · (intro w hSw; (try dsimp only at hSw); go_simp; try with_reducible rfl)
    try simp only [Act.put, List.setIfInBounds_toArray, List.set_cons_zero, List.set_cons_succ]
    refine Till.take 3 (some 30) (v := ?_) rfl rfl (by kernel_rfl) (by kernel_rfl) (by kernel_rfl) (by kernel_rfl) (fun _ _ _ h => h) (Or.inl ⟨by rfl, ?_⟩) (by assumption) ?_
    rotate_left
    · (intro w hSw; (try dsimp only at hSw); go_simp; try with_reducible rfl)
    try simp only [Act.put, List.setIfInBounds_toArray, List.set_cons_zero, List.set_cons_succ]
    refine Till.take 4 (some 31) (v := ?_) rfl rfl (by kernel_rfl) (by kernel_rfl) (by kernel_rfl) (by kernel_rfl) (fun _ _ _ h => h) (Or.inl ⟨by rfl, ?_⟩) (by assumption) ?_
    rotate_left
    · (intro w hSw; (try dsimp only at hSw); go_simp; try with_reducible rfl)
    try simp only [Act.put, List.setIfInBounds_toArray, List.set_cons_zero, List.set_cons_succ]
    refine Till.one 2 rfl (by kernel_rfl) (fun K hK => ?_)
    go_simp
    go_at_call 49
    refine hrl.mono ?_
    rintro e w3 ⟨vl, rfl, hvl, hb3⟩
    have D1 := D0.trans (hb3.mono D0.size)
    have E3 := (ext_of_below hA2).trans (ext_of_below D1)
    refine hK.out _ _ (fun _ => hsv _ D1) (fun hHeld => ?_)
    clear hK K
    try simp only [Act.put, List.setIfInBounds_toArray, List.set_cons_zero, List.set_cons_succ]
    refine Till.one 5 rfl (by kernel_rfl) (fun K hK => ?_)
    go_simp
    go_at_call 86
    refine (search_any b hok there lots HLO.out Q2.out b.mats.length [] none _ _ _ _ _ w3 (h.mono E3) hvl (ht.mono E3) (ints_nil _) rfl (by simp) (fun x hx => by cases hx)).mono ?_
    rintro e w4 ⟨v, rfl, hv, hb4⟩
    have D2 := D1.trans (hb4.mono D1.size)
    refine hK.out _ _ (fun _ => hsv _ D2) (fun hHeld => ?_)
    clear hK K
    try simp only [Act.put, List.setIfInBounds_toArray, List.set_cons_zero, List.set_cons_succ]
    have hw2 := hsv _ D2
    dsimp only at hw2
    refine Till.take 6 (some 11) (v := ?_) rfl rfl (by kernel_rfl) (by kernel_rfl) (by kernel_rfl) (by kernel_rfl) (fun _ _ _ h => h) (Or.inl ⟨by rfl, ?_⟩) (by assumption) ?_
    rotate_left
    · (intro w hSw; (try dsimp only at hSw); go_simp; try with_reducible rfl)
    try simp only [Act.put, List.setIfInBounds_toArray, List.set_cons_zero, List.set_cons_succ]
    refine Till.done (by kernel_rfl) ?_ _
    have hA4 := hA2.trans (D2.mono hA2.size)
    have hB4 := hB2.below D2 hB2.lt
    obtain ⟨oq, hoq⟩ : ∃ q, q = refOver b (keepsS b there lots) [] none := ⟨_, rfl⟩
    rw [← hoq] at hv hfin
    clear hw2 hHeld hsv f0 f1 f2 f3 f4 f5 f6 hrl hoq D0 D1 D2 hB2 hA2
    cases oq with
    | none =>
      have hv2 : v = .slice none 0 0 := hv
      subst hv2
      clear hB4
      go_wp2
      refine bodyPost_ret (v := .tuple #[.slice none 0 0, .int .i64 0, .bool false, .int .i64 0]) (by simp only [results, Try.results40]; simp [go_sem]) rfl ?_
      exact ⟨_, _, _, by rw [hfin.out], hA4, by rw [hfin.out]; exact res_none _ _⟩
    | some q =>
      obtain ⟨hq1, hq2⟩ := hv
      obtain ⟨qa, qk, rfl, -, -, hqc⟩ := id hq1
      obtain ⟨b9, o9, rfl, -⟩ := hqc 0 (by omega)
      have HQ := Lib.hid hq2
      clear hqc hq2
      have f0 := hB4.cell 0 _ rfl
      have f1 := hB4.cell 1 _ rfl
      have f2 := hB4.cell 2 _ rfl
      have f3 := hB4.cell 3 _ rfl
      have f4 := hB4.cell 4 _ rfl
      have f5 := hB4.cell 5 _ rfl
      have f6 := hB4.cell 6 _ rfl
      go_wp2_with fail
      refine (rcostI_any _ _ b q _ (h.mono (ext_of_below hA4)) hq1 HQ.out).mono ?_
      rintro e w5 ⟨rfl, hb5⟩
      have hA5 := hA4.trans (hb5.mono hA4.size)
      have hq5 := hq1.mono (ext_of_below hb5)
      clear hB4 f0 f1 f2 f3 f4 f5 f6 hq1
      go_wp2
      refine bodyPost_ret (v := .tuple #[.slice (some ⟨b9, o9, none⟩) q.length qk, .int .i64 (dotB (b.mats.map Mat.price) q), .bool true, .int .i64 0]) (by simp only [results, Try.results40]; simp [go_sem]) rfl ?_
      exact ⟨_, _, _, by rw [hfin.out], hA5, by rw [hfin.out]; exact ⟨rfl, rfl, hq5.mono (ext_vis_all (Ext.refl _) (fun _ _ => trivial))⟩⟩

end Go.Proofs.Ytpkggjfaefkiiaa
