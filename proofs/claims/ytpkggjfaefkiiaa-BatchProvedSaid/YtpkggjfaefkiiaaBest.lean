/- Best and Correct, by their contracts; no statement is proved here. -/
import Derived.Test.YtpkggjfaefkiiaaCheap2
import Derived.Test.YtpkggjfaefkiiaaMany
import Derived.Test.YtpkggjfaefkiiaaProv1
import Derived.Deep.OwnRows
namespace Go.Proofs.Ytpkggjfaefkiiaa
open Go.RowKit Go.PlainAid
set_option linter.unusedVariables false

def searchB (b : Bat) (there : List Int) (lots times : Int) : Option (List Int × Int) × Int := if 100000 < cntB b then (none, 9) else (bestOf b there lots times (recsM b.mats), 0)
def bestB (b : Bat) : Option (List Int × Int) × Int := if checkB b = 0 then searchB b (List.replicate b.mats.length 0) 1 1 else (none, checkB b)
def RetFound (w : World) (r : Option (List Int × Int) × Int) (e : Ending) (w' : World) : Prop :=
  ∃ v c f, e = .returned (.tuple #[v, .int .i64 c, .bool f, .int .i64 r.2]) ∧ Below w.heap.size w w' ∧ ResIs (w.heap.size ≤ ·) w' v c f r.1
theorem res_none (T : Nat → Prop) (w : World) : ResIs T w (.slice none 0 0) 0 false none := ⟨rfl, rfl, rfl⟩
theorem res_slice {T : Nat → Prop} {w : World} {v : Value} {c : Int} {f : Bool} {o : Option (List Int × Int)} (h : ResIs T w v c f o) : ∃ a n k, v = .slice a n k := by
  cases o with
  | none => exact ⟨_, _, _, h.2.2⟩
  | some p =>
    obtain ⟨r, c0⟩ := p
    obtain ⟨a, k, e, -⟩ := h.2.2
    exact ⟨a, _, k, e⟩
theorem res_more {S T : Nat → Prop} {w w' : World} {v : Value} {c : Int} {f : Bool} {o : Option (List Int × Int)} (h : ResIs S w v c f o) (hx : Ext (vis S w) (vis T w')) : ResIs T w' v c f o := by
  cases o with
  | none => exact h
  | some p =>
    obtain ⟨r, c0⟩ := p
    exact ⟨h.1, h.2.1, h.2.2.mono hx⟩

set_option maxHeartbeats 1000000 in
set_option maxRecDepth 100000 in
theorem best_any (vb : Value) (b : Bat) (w : World) (h : RBat w vb b) :
    Calls Try.prog 37 #[vb] w (RetFound w (bestB b)) := by
  obtain ⟨a0, k0, a1, k1, a2, k2, a3, k3, rfl⟩ := h.agg
  have hA := below_box w (.cells #[.slice a0 b.oxides.length k0, .slice a1 b.mats.length k1, .slice a2 b.shares.length k2, .slice a3 b.props.length k3, .int .i64 b.redox.lo, .int .i64 b.redox.hi, .int .i64 b.wanted] 29)
  have hB := Blk.new w #[.slice a0 b.oxides.length k0, .slice a1 b.mats.length k1, .slice a2 b.shares.length k2, .slice a3 b.props.length k3, .int .i64 b.redox.lo, .int .i64 b.redox.hi, .int .i64 b.wanted] 29
  have hz := World.size_alloc w (.cells #[.slice a0 b.oxides.length k0, .slice a1 b.mats.length k1, .slice a2 b.shares.length k2, .slice a3 b.props.length k3, .int .i64 b.redox.lo, .int .i64 b.redox.hi, .int .i64 b.wanted] 29)
  go_enter Try.func37, Try.ntmps37
  go_wp2_with fail
  generalize w.alloc (.cells #[.slice a0 b.oxides.length k0, .slice a1 b.mats.length k1, .slice a2 b.shares.length k2, .slice a3 b.props.length k3, .int .i64 b.redox.lo, .int .i64 b.redox.hi, .int .i64 b.wanted] 29) = W at *
  have f0 := hB.cell 0 _ rfl
  have f1 := hB.cell 1 _ rfl
  have f2 := hB.cell 2 _ rfl
  have f3 := hB.cell 3 _ rfl
  have f4 := hB.cell 4 _ rfl
  have f5 := hB.cell 5 _ rfl
  have f6 := hB.cell 6 _ rfl
  refine (check_any _ b W (h.mono (ext_of_below hA))).mono ?_
  rintro e w1 ⟨rfl, hb1⟩
  have hA1 := hA.trans (hb1.mono hA.size)
  have hB1 := hB.below hb1 hB.lt
  clear hA hB hb1 f0 f1 f2 f3 f4 f5 f6
  by_cases e1 : checkB b = 0
  case neg =>
    have e1' : (checkB b != 0) = true := by simp [e1]
    have hfin := Lib.hid (show bestB b = (none, checkB b) by simp [bestB, e1])
    clear hB1 e1
    go_wp2
    refine bodyPost_ret (v := .tuple #[.slice none 0 0, .int .i64 0, .bool false, .int .i64 (checkB b)]) (by simp only [results, Try.results37]; simp [go_sem]) rfl ?_
    exact ⟨_, _, _, by rw [hfin.out], hA1, by rw [hfin.out]; exact res_none _ _⟩
  have e1' : (checkB b != 0) = false := by simp [e1]
  have hok := ok_of e1
  have f0 := hB1.cell 0 _ rfl
  have f1 := hB1.cell 1 _ rfl
  have f2 := hB1.cell 2 _ rfl
  have f3 := hB1.cell 3 _ rfl
  have f4 := hB1.cell 4 _ rfl
  have f5 := hB1.cell 5 _ rfl
  have f6 := hB1.cell 6 _ rfl
  have E1 := Lib.hid e1
  clear e1
  go_wp2_with fail
  refine (tooMany_any _ b w1 (h.mono (ext_of_below hA1)) hok).mono ?_
  rintro e w2 ⟨rfl, hb2⟩
  have hA2 := hA1.trans (hb2.mono hA1.size)
  have hB2 := hB1.below hb2 hB1.lt
  clear hA1 hB1 hb2 f0 f1 f2 f3 f4 f5 f6
  by_cases hc : 100000 < cntB b
  · have hfin := Lib.hid (show bestB b = (none, 9) by unfold bestB searchB; rw [if_pos E1.out, if_pos hc])
    have hd : decide (100000 < cntB b) = true := decide_eq_true hc
    clear hc hB2
    go_wp2
    refine bodyPost_ret (v := .tuple #[.slice none 0 0, .int .i64 0, .bool false, .int .i64 9]) (by simp only [results, Try.results37]; simp [go_sem]) rfl ?_
    exact ⟨_, _, _, by rw [hfin.out], hA2, by rw [hfin.out]; exact res_none _ _⟩
  · have hfin := Lib.hid (show bestB b = (bestOf b (List.replicate b.mats.length 0) 1 1 (recsM b.mats), 0) by unfold bestB searchB; rw [if_pos E1.out, if_neg hc])
    have hd : decide (100000 < cntB b) = false := decide_eq_false hc
    clear hc
    have f0 := hB2.cell 0 _ rfl
    have f1 := hB2.cell 1 _ rfl
    have f2 := hB2.cell 2 _ rfl
    have f3 := hB2.cell 3 _ rfl
    have f4 := hB2.cell 4 _ rfl
    have f5 := hB2.cell 5 _ rfl
    have f6 := hB2.cell 6 _ rfl
    have hmt := hok.mt
    have hmk := fun w => run_make_row' (P := Try.prog) 37 3 (.int .i64 0) 8 Try.underlying37 info_int rfl .i64 .i64 b.mats.length (by omega) (by omega) w
    go_wp2_with fail
    have D0 : Below w2.heap.size w2 w2.drew := (Below.refl _ _).drew
    have DM : Below w2.heap.size w2 (w2.drew.alloc (.cells (madeCells #[Value.int .i64 0] b.mats.length) 3)) := D0.alloc D0.size _
    have hsv : ∀ V, Below w2.heap.size w2 V → (fun w' : World => w'.cell? ⟨w.heap.size, 0, none⟩ = some (.slice a0 b.oxides.length k0) ∧ w'.cell? ⟨w.heap.size, 1, none⟩ = some (.slice a1 b.mats.length k1) ∧ w'.cell? ⟨w.heap.size, 2, none⟩ = some (.slice a2 b.shares.length k2) ∧ w'.cell? ⟨w.heap.size, 3, none⟩ = some (.slice a3 b.props.length k3) ∧ w'.cell? ⟨w.heap.size, 4, none⟩ = some (.int .i64 b.redox.lo) ∧ w'.cell? ⟨w.heap.size, 5, none⟩ = some (.int .i64 b.redox.hi) ∧ w'.cell? ⟨w.heap.size, 6, none⟩ = some (.int .i64 b.wanted)) V := fun V e => ⟨keepC e f0, keepC e f1, keepC e f2, keepC e f3, keepC e f4, keepC e f5, keepC e f6⟩
    have hch := cheapest_any _ _ b (List.replicate b.mats.length 0) 1 1 _ (h.mono (ext_of_below (hA2.trans (DM.mono hA2.size)))) hok (made_ints w2.drew b.mats.length (by omega)) (by simp)
    refine wp_region_till (fun w' => w'.cell? ⟨w.heap.size, 0, none⟩ = some (.slice a0 b.oxides.length k0) ∧ w'.cell? ⟨w.heap.size, 1, none⟩ = some (.slice a1 b.mats.length k1) ∧ w'.cell? ⟨w.heap.size, 2, none⟩ = some (.slice a2 b.shares.length k2) ∧ w'.cell? ⟨w.heap.size, 3, none⟩ = some (.slice a3 b.props.length k3) ∧ w'.cell? ⟨w.heap.size, 4, none⟩ = some (.int .i64 b.redox.lo) ∧ w'.cell? ⟨w.heap.size, 5, none⟩ = some (.int .i64 b.redox.hi) ∧ w'.cell? ⟨w.heap.size, 6, none⟩ = some (.int .i64 b.wanted)) 99 (by kernel_rfl) ⟨f0, f1, f2, f3, f4, f5, f6⟩ (fun hHeld => ?_)
    refine Till.take 0 (some 15) (v := ?_) rfl rfl (by kernel_rfl) (by kernel_rfl) (by kernel_rfl) (by kernel_rfl) (fun _ _ _ h => h) (Or.inl ⟨by rfl, ?_⟩) (by assumption) ?_
    rotate_left
    · (intro w hSw; (try dsimp only at hSw); go_simp; try with_reducible rfl)
    try simp only [Act.put, List.setIfInBounds_toArray, List.set_cons_zero, List.set_cons_succ]
    refine Till.take 1 (some 16) (v := ?_) rfl rfl (by kernel_rfl) (by kernel_rfl) (by kernel_rfl) (by kernel_rfl) (fun _ _ _ h => h) (Or.inl ⟨by rfl, ?_⟩) (by assumption) ?_
    rotate_left
    · (intro w hSw; (try dsimp only at hSw); go_simp; try with_reducible rfl)
    try simp only [Act.put, List.setIfInBounds_toArray, List.set_cons_zero, List.set_cons_succ]
    refine Till.take 2 (some 17) (v := ?_) rfl rfl (by kernel_rfl) (by kernel_rfl) (by kernel_rfl) (by kernel_rfl) (fun _ _ _ h => h) (Or.inl ⟨by rfl, ?_⟩) (by assumption) ?_
    rotate_left
    · (intro w hSw; (try dsimp only at hSw); go_simp; try with_reducible rfl)
    try simp only [Act.put, List.setIfInBounds_toArray, List.set_cons_zero, List.set_cons_succ]
    refine Till.take 3 (some 18) (v := ?_) rfl rfl (by kernel_rfl) (by kernel_rfl) (by kernel_rfl) (by kernel_rfl) (fun _ _ _ h => h) (Or.inl ⟨by rfl, ?_⟩) (by assumption) ?_
    rotate_left
    · (intro w hSw; (try dsimp only at hSw); go_simp; try with_reducible rfl)
    try simp only [Act.put, List.setIfInBounds_toArray, List.set_cons_zero, List.set_cons_succ]
    refine Till.one 4 rfl (by kernel_rfl) (fun K hK => ?_)
    go_simp
    refine hK.out _ _ (fun _ => hsv _ DM) (fun hHeld => ?_)
    clear hK K
    try simp only [Act.put, List.setIfInBounds_toArray, List.set_cons_zero, List.set_cons_succ]
    refine Till.one 5 rfl (by kernel_rfl) (fun K hK => ?_)
    go_simp
    go_at_call 84
    refine hch.mono ?_
    rintro e w3 ⟨v, c, f, rfl, hb3, hres⟩
    have hA3 := DM.trans (hb3.mono DM.size)
    refine hK.out _ _ (fun _ => hsv _ hA3) (fun hHeld => ?_)
    clear hK K
    try simp only [Act.put, List.setIfInBounds_toArray, List.set_cons_zero, List.set_cons_succ]
    have hw3 := hsv _ hA3
    dsimp only at hw3
    refine Till.take 6 (some 14) (v := ?_) rfl rfl (by kernel_rfl) (by kernel_rfl) (by kernel_rfl) (by kernel_rfl) (fun _ _ _ h => h) (Or.inl ⟨by rfl, ?_⟩) (by assumption) ?_
    rotate_left
    · (intro w hSw; (try dsimp only at hSw); go_simp; try with_reducible rfl)
    try simp only [Act.put, List.setIfInBounds_toArray, List.set_cons_zero, List.set_cons_succ]
    refine Till.take 7 (some 21) (v := ?_) rfl rfl (by kernel_rfl) (by kernel_rfl) (by kernel_rfl) (by kernel_rfl) (fun _ _ _ h => h) (Or.inl ⟨by rfl, ?_⟩) (by assumption) ?_
    rotate_left
    · (intro w hSw; (try dsimp only at hSw); go_simp; try with_reducible rfl)
    try simp only [Act.put, List.setIfInBounds_toArray, List.set_cons_zero, List.set_cons_succ]
    refine Till.take 8 (some 22) (v := ?_) rfl rfl (by kernel_rfl) (by kernel_rfl) (by kernel_rfl) (by kernel_rfl) (fun _ _ _ h => h) (Or.inl ⟨by rfl, ?_⟩) (by assumption) ?_
    rotate_left
    · (intro w hSw; (try dsimp only at hSw); go_simp; try with_reducible rfl)
    try simp only [Act.put, List.setIfInBounds_toArray, List.set_cons_zero, List.set_cons_succ]
    refine Till.take 9 (some 23) (v := ?_) rfl rfl (by kernel_rfl) (by kernel_rfl) (by kernel_rfl) (by kernel_rfl) (fun _ _ _ h => h) (Or.inl ⟨by rfl, ?_⟩) (by assumption) ?_
    rotate_left
    · (intro w hSw; (try dsimp only at hSw); go_simp; try with_reducible rfl)
    try simp only [Act.put, List.setIfInBounds_toArray, List.set_cons_zero, List.set_cons_succ]
    refine Till.take 10 (some 2) (v := ?_) rfl rfl (by kernel_rfl) (by kernel_rfl) (by kernel_rfl) (by kernel_rfl) (fun _ _ _ h => h) (Or.inl ⟨by rfl, ?_⟩) (by assumption) ?_
    rotate_left
    · (intro w hSw; (try dsimp only at hSw); go_simp; try with_reducible rfl)
    try simp only [Act.put, List.setIfInBounds_toArray, List.set_cons_zero, List.set_cons_succ]
    refine Till.take 11 (some 3) (v := ?_) rfl rfl (by kernel_rfl) (by kernel_rfl) (by kernel_rfl) (by kernel_rfl) (fun _ _ _ h => h) (Or.inl ⟨by rfl, ?_⟩) (by assumption) ?_
    rotate_left
    · (intro w hSw; (try dsimp only at hSw); go_simp; try with_reducible rfl)
    try simp only [Act.put, List.setIfInBounds_toArray, List.set_cons_zero, List.set_cons_succ]
    refine Till.take 12 (some 4) (v := ?_) rfl rfl (by kernel_rfl) (by kernel_rfl) (by kernel_rfl) (by kernel_rfl) (fun _ _ _ h => h) (Or.inl ⟨by rfl, ?_⟩) (by assumption) ?_
    rotate_left
    · (intro w hSw; (try dsimp only at hSw); go_simp; try with_reducible rfl)
    try simp only [Act.put, List.setIfInBounds_toArray, List.set_cons_zero, List.set_cons_succ]
    refine Till.done (by kernel_rfl) ?_ _
    clear hsv hHeld hw3 f0 f1 f2 f3 f4 f5 f6 hmk
    go_wp2
    refine bodyPost_ret (v := .tuple #[v, .int .i64 c, .bool f, .int .i64 0]) (by simp only [results, Try.results37]; simp [go_sem]) rfl ?_
    have hsz := (hA2.trans (DM.mono hA2.size)).size
    exact ⟨v, c, f, by rw [hfin.out], hA2.trans (hA3.mono hA2.size), by rw [hfin.out]; exact res_more hres (ext_vis_of (Ext.refl _) (fun _ _ h => Nat.le_trans hsz h))⟩

end Go.Proofs.Ytpkggjfaefkiiaa
