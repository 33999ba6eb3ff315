/- The examples of chapter 04 that the laws about motions end with; no statement is proved here. -/
import Derived.Test.YtnldenjdbgfgmaaFmTm
namespace Go.Proofs.Ytnldenjdbgfgmaa
open Go.RowKit Go.PlainAid
set_option linter.unusedVariables false
set_option linter.unusedSimpArgs false
attribute [local go_sem] beq_self_eq_true bne_self_eq_false

theorem i64e (n : Int) (h : (-9223372036854775808 ≤ n ∧ n ≤ 9223372036854775807) := by decide) : I64 n := h
theorem hnd_of {W : World} {p : Nat} {T : TypeId} (hK : Blk W p #[.int .i64 0, .int .i64 0, .int .i64 20, .int .i64 100, .int .i64 60, .int .i64 100, .int .i64 80, .int .i64 0] T) : RSps W (.slice (some ⟨p, 0, none⟩) 4 4) hndL := by
  have k0 := hK.cell 0 _ rfl
  have k1 := hK.cell 1 _ rfl
  have k2 := hK.cell 2 _ rfl
  have k3 := hK.cell 3 _ rfl
  have k4 := hK.cell 4 _ rfl
  have k5 := hK.cell 5 _ rfl
  have k6 := hK.cell 6 _ rfl
  have k7 := hK.cell 7 _ rfl
  simp only [List.getElem_toArray, List.getElem_cons_zero, List.getElem_cons_succ] at k0 k1 k2 k3 k4 k5 k6 k7
  exact ⟨_, 4, rfl, Nat.le_refl _, ⟨by omega, by simp [hndL]⟩, fun i hi => ⟨p, 0, rfl, by
    have hi4 : i = 0 ∨ i = 1 ∨ i = 2 ∨ i = 3 := by have : i < 4 := hi; omega
    rcases hi4 with rfl | rfl | rfl | rfl
    · exact ⟨k0, k1, i64e 0, i64e 0⟩
    · exact ⟨k2, k3, i64e 20, i64e 100⟩
    · exact ⟨k4, k5, i64e 60, i64e 100⟩
    · exact ⟨k6, k7, i64e 80, i64e 0⟩⟩⟩
theorem z_of {W : World} {p : Nat} {T : TypeId} (hK : Blk W p #[.int .i64 80, .int .i64 1, .int .i64 100, .int .i64 1] T) : RSts W (.slice (some ⟨p, 0, none⟩) 1 1) tuZ := by
  have k0 := hK.cell 0 _ rfl
  have k1 := hK.cell 1 _ rfl
  have k2 := hK.cell 2 _ rfl
  have k3 := hK.cell 3 _ rfl
  simp only [List.getElem_toArray, List.getElem_cons_zero, List.getElem_cons_succ] at k0 k1 k2 k3
  exact ⟨_, 1, rfl, Nat.le_refl _, ⟨by omega, by simp [tuZ]⟩, fun i hi => ⟨p, 0, rfl, by
    have hi0 : i = 0 := by have : i < 1 := hi; omega
    subst hi0
    exact ⟨⟨k0, k1, k2, k3⟩, ⟨i64e 80, i64e 1⟩, ⟨i64e 100, i64e 1⟩⟩⟩⟩

set_option maxRecDepth 100000 in
theorem hand_any (w : World) : Calls Try.prog 22 #[] w fun e w' => (∃ g, e = .returned (.slice (some ⟨g, 0, none⟩) 4 4) ∧ RSps w' (.slice (some ⟨g, 0, none⟩) 4 4) hndL) ∧ Below w.heap.size w w' := by
  have hK := Blk.new w #[.int .i64 0, .int .i64 0, .int .i64 20, .int .i64 100, .int .i64 60, .int .i64 100, .int .i64 80, .int .i64 0] 47
  have hA := below_box w (.cells #[.int .i64 0, .int .i64 0, .int .i64 20, .int .i64 100, .int .i64 60, .int .i64 100, .int .i64 80, .int .i64 0] 47)
  go_enter Try.func22, Try.ntmps22
  go_wp2
  go_ret
  exact ⟨⟨_, rfl, hnd_of hK⟩, hA⟩

set_option maxRecDepth 100000 in
theorem lwhole_any (n : Int) (w : World) : Calls Try.prog 17 #[.int .i64 n] w fun e w' => e = .returned (.agg #[.int .i64 n, .int .i64 1]) ∧ Below w.heap.size w w' := by
  have hA := below_box w (.cells #[.int .i64 n, .int .i64 1] 24)
  go_enter Try.func17, Try.ntmps17
  go_wp2
  refine ⟨rfl, .agg #[.int .i64 n, .int .i64 1], ?_, rfl, hA⟩
  simp [results, Try.results17, go_sem]

theorem eqR (x1 x2 : Int) (w : World) : Sem.run Try.prog (Go.binOp .eql 24 (.agg #[.int .i64 x1, .int .i64 x2]) (.agg #[.int .i64 x1, .int .i64 x2])) w = .ok (.bool true) w := by
  rw [run_eql_struct]
  simp [go_sem]
theorem eqS (x1 x2 x3 x4 : Int) (w : World) : Sem.run Try.prog (Go.binOp .eql 41 (.agg #[.int .i64 x1, .int .i64 x2, .int .i64 x3, .int .i64 x4]) (.agg #[.int .i64 x1, .int .i64 x2, .int .i64 x3, .int .i64 x4])) w = .ok (.bool true) w := by
  rw [run_eql_struct]
  simp [go_sem]

set_option maxHeartbeats 4000000 in
set_option maxRecDepth 100000 in
theorem one_any (b o c : Nat) (p q : Int) (w : World) (c0 : w.cell? ⟨b, o, none⟩ = some (.int .i64 p)) (c1 : w.cell? ⟨b, o + 1, none⟩ = some (.int .i64 1)) (c2 : w.cell? ⟨b, o + 2, none⟩ = some (.int .i64 q)) (c3 : w.cell? ⟨b, o + 3, none⟩ = some (.int .i64 1)) :
    Calls Try.prog 23 #[.slice (some ⟨b, o, none⟩) 1 c, .int .i64 0, .int .i64 p, .int .i64 q] w fun e w' => e = .returned (.bool true) ∧ Below w.heap.size w w' := by
  have hS := fun V => eqS p 1 q 1 V
  have e1 := cell_lt c0
  simp only at e1
  have D0 : Below w.heap.size w w.drew := (Below.refl _ _).drew
  have HSV : Hid (∀ V, Below w.heap.size w V → (fun w' : World => w'.cell? ⟨b, o, none⟩ = some (.int .i64 p) ∧ w'.cell? ⟨b, o + 1, none⟩ = some (.int .i64 1) ∧ w'.cell? ⟨b, o + 2, none⟩ = some (.int .i64 q) ∧ w'.cell? ⟨b, o + 3, none⟩ = some (.int .i64 1)) V) := Lib.hid (fun V hV => ⟨ext_of_below hV _ _ c0, ext_of_below hV _ _ c1, ext_of_below hV _ _ c2, ext_of_below hV _ _ c3⟩)
  clear c0 c1 c2 c3
  go_enter Try.func23, Try.ntmps23
  go_wp2_with fail
  refine wp_region_till (fun w' : World => w'.cell? ⟨b, o, none⟩ = some (.int .i64 p) ∧ w'.cell? ⟨b, o + 1, none⟩ = some (.int .i64 1) ∧ w'.cell? ⟨b, o + 2, none⟩ = some (.int .i64 q) ∧ w'.cell? ⟨b, o + 3, none⟩ = some (.int .i64 1)) 19 (by kernel_rfl) (HSV.out _ D0) (fun hHeld => ?_)
  generalize w.drew = wd at *
  refine Till.take 0 (some 9) (v := ?_) rfl rfl (by kernel_rfl) (by kernel_rfl) (by kernel_rfl) (by kernel_rfl) (fun _ _ _ h => h) (Or.inl ⟨by rfl, ?_⟩) (by assumption) ?_
  rotate_left
  · (intro w hSw; (try dsimp only at hSw); go_simp; try with_reducible rfl)
  try simp only [Act.put, List.setIfInBounds_toArray, List.set_cons_zero, List.set_cons_succ]
  refine Till.take 1 (some 10) (v := ?_) rfl rfl (by kernel_rfl) (by kernel_rfl) (by kernel_rfl) (by kernel_rfl) (fun _ _ _ h => h) (Or.inl ⟨by rfl, ?_⟩) (by assumption) ?_
  rotate_left
  · (intro w hSw; (try dsimp only at hSw); go_simp; try with_reducible rfl)
  try simp only [Act.put, List.setIfInBounds_toArray, List.set_cons_zero, List.set_cons_succ]
  refine Till.take 2 (some 11) (v := ?_) rfl rfl (by kernel_rfl) (by kernel_rfl) (by kernel_rfl) (by kernel_rfl) (fun _ _ _ h => h) (Or.inl ⟨by rfl, ?_⟩) (by assumption) ?_
  rotate_left
  · (intro w hSw; (try dsimp only at hSw); go_simp; try with_reducible rfl)
  try simp only [Act.put, List.setIfInBounds_toArray, List.set_cons_zero, List.set_cons_succ]
  refine Till.take 3 (some 12) (v := ?_) rfl rfl (by kernel_rfl) (by kernel_rfl) (by kernel_rfl) (by kernel_rfl) (fun _ _ _ h => h) (Or.inl ⟨by rfl, ?_⟩) (by assumption) ?_
  rotate_left
  · (intro w hSw; (try dsimp only at hSw); go_simp; try with_reducible rfl)
  try simp only [Act.put, List.setIfInBounds_toArray, List.set_cons_zero, List.set_cons_succ]
  refine Till.take 4 (some 13) (v := ?_) rfl rfl (by kernel_rfl) (by kernel_rfl) (by kernel_rfl) (by kernel_rfl) (fun _ _ _ h => h) (Or.inl ⟨by rfl, ?_⟩) (by assumption) ?_
  rotate_left
  · (intro w hSw; (try dsimp only at hSw); go_simp; try with_reducible rfl)
  try simp only [Act.put, List.setIfInBounds_toArray, List.set_cons_zero, List.set_cons_succ]
  refine Till.take 5 (some 14) (v := ?_) rfl rfl (by kernel_rfl) (by kernel_rfl) (by kernel_rfl) (by kernel_rfl) (fun _ _ _ h => h) (Or.inl ⟨by rfl, ?_⟩) (by assumption) ?_
  rotate_left
  · (intro w hSw; (try dsimp only at hSw); go_simp; try with_reducible rfl)
  try simp only [Act.put, List.setIfInBounds_toArray, List.set_cons_zero, List.set_cons_succ]
  refine Till.take 6 (some 15) (v := ?_) rfl rfl (by kernel_rfl) (by kernel_rfl) (by kernel_rfl) (by kernel_rfl) (fun _ _ _ h => h) (Or.inl ⟨by rfl, ?_⟩) (by assumption) ?_
  rotate_left
  · (intro w hSw; (try dsimp only at hSw); go_simp; try with_reducible rfl)
  try simp only [Act.put, List.setIfInBounds_toArray, List.set_cons_zero, List.set_cons_succ]
  refine Till.take 7 (some 16) (v := ?_) rfl rfl (by kernel_rfl) (by kernel_rfl) (by kernel_rfl) (by kernel_rfl) (fun _ _ _ h => h) (Or.inl ⟨by rfl, ?_⟩) (by assumption) ?_
  rotate_left
  · (intro w hSw; (try dsimp only at hSw); go_simp; try with_reducible rfl)
  try simp only [Act.put, List.setIfInBounds_toArray, List.set_cons_zero, List.set_cons_succ]
  refine Till.take 8 (some 17) (v := ?_) rfl rfl (by kernel_rfl) (by kernel_rfl) (by kernel_rfl) (by kernel_rfl) (fun _ _ _ h => h) (Or.inl ⟨by rfl, ?_⟩) (by assumption) ?_
  rotate_left
  · (intro w hSw; (try dsimp only at hSw); go_simp; try with_reducible rfl)
  try simp only [Act.put, List.setIfInBounds_toArray, List.set_cons_zero, List.set_cons_succ]
  refine Till.take 9 (some 18) (v := ?_) rfl rfl (by kernel_rfl) (by kernel_rfl) (by kernel_rfl) (by kernel_rfl) (fun _ _ _ h => h) (Or.inl ⟨by rfl, ?_⟩) (by assumption) ?_
  rotate_left
  · (intro w hSw; (try dsimp only at hSw); go_simp; try with_reducible rfl)
  try simp only [Act.put, List.setIfInBounds_toArray, List.set_cons_zero, List.set_cons_succ]
  refine Till.take 10 (some 19) (v := ?_) rfl rfl (by kernel_rfl) (by kernel_rfl) (by kernel_rfl) (by kernel_rfl) (fun _ _ _ h => h) (Or.inl ⟨by rfl, ?_⟩) (by assumption) ?_
  rotate_left
  · (intro w hSw; (try dsimp only at hSw); go_simp; try with_reducible rfl)
  try simp only [Act.put, List.setIfInBounds_toArray, List.set_cons_zero, List.set_cons_succ]
  refine Till.take 11 (some 20) (v := ?_) rfl rfl (by kernel_rfl) (by kernel_rfl) (by kernel_rfl) (by kernel_rfl) (fun _ _ _ h => h) (Or.inl ⟨by rfl, ?_⟩) (by assumption) ?_
  rotate_left
  · (intro w hSw; (try dsimp only at hSw); go_simp; try with_reducible rfl)
  try simp only [Act.put, List.setIfInBounds_toArray, List.set_cons_zero, List.set_cons_succ]
  refine Till.take 13 (some 22) (v := ?_) rfl rfl (by kernel_rfl) (by kernel_rfl) (by kernel_rfl) (by kernel_rfl) (fun _ _ _ h => h) (Or.inl ⟨by rfl, ?_⟩) (by assumption) ?_
  rotate_left
  · (intro w hSw; (try dsimp only at hSw); go_simp; try with_reducible rfl)
  try simp only [Act.put, List.setIfInBounds_toArray, List.set_cons_zero, List.set_cons_succ]
  refine Till.one 12 rfl (by kernel_rfl) (fun K hK => ?_)
  go_simp
  go_at_call 17
  refine (lwhole_any p _).mono ?_
  rintro e v1 ⟨rfl, hb1⟩
  have D1 := D0.trans (hb1.mono D0.size)
  have hh1 := HSV.out _ D1
  refine hK.out _ _ (fun _ => hh1) (fun hHeld1 => ?_)
  clear hK K hb1
  try simp only [Act.put, List.setIfInBounds_toArray, List.set_cons_zero, List.set_cons_succ]
  refine Till.one 14 rfl (by kernel_rfl) (fun K hK => ?_)
  go_simp
  go_at_call 17
  refine (lwhole_any q _).mono ?_
  rintro e v2 ⟨rfl, hb2⟩
  have D2 := D1.trans (hb2.mono D1.size)
  have hh2 := HSV.out _ D2
  refine hK.out _ _ (fun _ => hh2) (fun hHeld2 => ?_)
  clear hK K hb2
  try simp only [Act.put, List.setIfInBounds_toArray, List.set_cons_zero, List.set_cons_succ]
  refine Till.take 15 (some 24) (v := ?_) rfl rfl (by kernel_rfl) (by kernel_rfl) (by kernel_rfl) (by kernel_rfl) (fun _ _ _ h => h) (Or.inl ⟨by rfl, ?_⟩) (by assumption) ?_
  rotate_left
  · (intro w hSw; (try dsimp only at hSw); go_simp; try with_reducible rfl)
  try simp only [Act.put, List.setIfInBounds_toArray, List.set_cons_zero, List.set_cons_succ]
  refine Till.take 16 (some 25) (v := ?_) rfl rfl (by kernel_rfl) (by kernel_rfl) (by kernel_rfl) (by kernel_rfl) (fun _ _ _ h => h) (Or.inl ⟨by rfl, ?_⟩) (by assumption) ?_
  rotate_left
  · (intro w hSw; (try dsimp only at hSw); go_simp; try with_reducible rfl)
  try simp only [Act.put, List.setIfInBounds_toArray, List.set_cons_zero, List.set_cons_succ]
  refine Till.take 17 (some 26) (v := ?_) rfl rfl (by kernel_rfl) (by kernel_rfl) (by kernel_rfl) (by kernel_rfl) (fun _ _ _ h => h) (Or.inl ⟨by rfl, ?_⟩) (by assumption) ?_
  rotate_left
  · (intro w hSw; (try dsimp only at hSw); go_simp; try with_reducible rfl)
  try simp only [Act.put, List.setIfInBounds_toArray, List.set_cons_zero, List.set_cons_succ]
  refine Till.take 18 (some 8) (v := ?_) rfl rfl (by kernel_rfl) (by kernel_rfl) (by kernel_rfl) (by kernel_rfl) (fun _ _ _ h => h) (Or.inl ⟨by rfl, ?_⟩) (by assumption) ?_
  rotate_left
  · (intro w hSw; (try dsimp only at hSw); go_simp; try with_reducible rfl)
  try simp only [Act.put, List.setIfInBounds_toArray, List.set_cons_zero, List.set_cons_succ]
  refine Till.done (by kernel_rfl) ?_ _
  go_wp2
  go_ret
  exact ⟨rfl, D2⟩

set_option maxHeartbeats 16000000 in
set_option maxRecDepth 100000 in
theorem turns_any (w : World) : Calls Try.prog 8 #[] w fun e w' => e = .returned (.bool true) ∧ Below w.heap.size w w' := by
  have hA := Below.refl w.heap.size w
  go_enter Try.func8, Try.ntmps8
  go_wp2_with fail
  refine (hand_any _).mono ?_
  rintro e w1 ⟨⟨g1, rfl, hK⟩, hb⟩
  have hA := hA.trans (hb.mono hA.size)
  clear hb
  go_wp2_with fail
  refine (lwhole_any 10 _).mono ?_
  rintro e w2 ⟨rfl, hb⟩
  have hK := hK.mono (ext_of_below hb)
  have hA := hA.trans (hb.mono hA.size)
  clear hb
  go_wp2_with fail
  refine (where_any 100 0 (some ⟨g1, 0, none⟩) 4 hndL 10 1 _ hK (i64e 10)).mono ?_
  rintro e w3 ⟨hW, hb⟩
  obtain rfl := t_w1 hW
  clear hW
  have hK := hK.mono (ext_of_below hb)
  have hA := hA.trans (hb.mono hA.size)
  clear hb
  clear hK
  have hR1 := Blk.new w3 #[.int .i64 50, .int .i64 1] 24
  have hb := below_box w3 (.cells #[.int .i64 50, .int .i64 1] 24)
  have hA := hA.trans (hb.mono hA.size)
  clear hb
  go_wp2_with fail
  generalize (w3.alloc (.cells #[.int .i64 50, .int .i64 1] 24)) = w4 at *
  refine (hand_any _).mono ?_
  rintro e w5 ⟨⟨g2, rfl, hK⟩, hb⟩
  have hR1 := hR1.below hb hR1.lt
  have hA := hA.trans (hb.mono hA.size)
  clear hb
  go_wp2_with fail
  refine (lwhole_any 130 _).mono ?_
  rintro e w6 ⟨rfl, hb⟩
  have hR1 := hR1.below hb hR1.lt
  have hK := hK.mono (ext_of_below hb)
  have hA := hA.trans (hb.mono hA.size)
  clear hb
  go_wp2_with fail
  refine (where_any 100 0 (some ⟨g2, 0, none⟩) 4 hndL 130 1 _ hK (i64e 130)).mono ?_
  rintro e w7 ⟨hW, hb⟩
  obtain rfl := t_w2 hW
  clear hW
  have hR1 := hR1.below hb hR1.lt
  have hK := hK.mono (ext_of_below hb)
  have hA := hA.trans (hb.mono hA.size)
  clear hb
  clear hK
  have hR2 := Blk.new w7 #[.int .i64 100, .int .i64 1] 24
  have hb := below_box w7 (.cells #[.int .i64 100, .int .i64 1] 24)
  have hR1 := hR1.below hb hR1.lt
  have hA := hA.trans (hb.mono hA.size)
  clear hb
  go_wp2_with fail
  generalize (w7.alloc (.cells #[.int .i64 100, .int .i64 1] 24)) = w8 at *
  refine (hand_any _).mono ?_
  rintro e w9 ⟨⟨g3, rfl, hK⟩, hb⟩
  have hR1 := hR1.below hb hR1.lt
  have hR2 := hR2.below hb hR2.lt
  have hA := hA.trans (hb.mono hA.size)
  clear hb
  go_wp2_with fail
  refine (where_any 100 0 (some ⟨g3, 0, none⟩) 4 hndL 1 3 _ hK (i64e 1)).mono ?_
  rintro e w10 ⟨hW, hb⟩
  obtain rfl := t_w3 hW
  clear hW
  have hR1 := hR1.below hb hR1.lt
  have hR2 := hR2.below hb hR2.lt
  have hK := hK.mono (ext_of_below hb)
  have hA := hA.trans (hb.mono hA.size)
  clear hb
  clear hK
  have hR3 := Blk.new w10 #[.int .i64 5, .int .i64 3] 24
  have hb := below_box w10 (.cells #[.int .i64 5, .int .i64 3] 24)
  have hR1 := hR1.below hb hR1.lt
  have hR2 := hR2.below hb hR2.lt
  have hA := hA.trans (hb.mono hA.size)
  clear hb
  go_wp2_with fail
  generalize (w10.alloc (.cells #[.int .i64 5, .int .i64 3] 24)) = w11 at *
  refine (hand_any _).mono ?_
  rintro e w12 ⟨⟨g1s, rfl, hK⟩, hb⟩
  have hR1 := hR1.below hb hR1.lt
  have hR2 := hR2.below hb hR2.lt
  have hR3 := hR3.below hb hR3.lt
  have hA := hA.trans (hb.mono hA.size)
  clear hb
  go_wp2_with fail
  refine (stretches_any 100 0 (some ⟨g1s, 0, none⟩) 4 hndL ⟨50, 100⟩ _ hK ⟨i64e 50, i64e 100⟩).mono ?_
  rintro e w13 ⟨hW, hb⟩
  obtain ⟨Xv, rfl, hX⟩ := t_s1 hW
  have hX := sts_vis hX
  clear hW
  have hR1 := hR1.below hb hR1.lt
  have hR2 := hR2.below hb hR2.lt
  have hR3 := hR3.below hb hR3.lt
  have hK := hK.mono (ext_of_below hb)
  have hA := hA.trans (hb.mono hA.size)
  clear hb
  clear hK
  obtain ⟨bx, ox, cx, hev, hcx⟩ := sts_cells hX (by decide)
  rw [show tuX.length = 1 from rfl] at hev
  subst hev
  clear hcx
  go_wp2_with fail
  refine (hand_any _).mono ?_
  rintro e w14 ⟨⟨g2s, rfl, hK⟩, hb⟩
  have hR1 := hR1.below hb hR1.lt
  have hR2 := hR2.below hb hR2.lt
  have hR3 := hR3.below hb hR3.lt
  have hX := hX.mono (ext_of_below hb)
  have hA := hA.trans (hb.mono hA.size)
  clear hb
  go_wp2_with fail
  refine (stretches_any 100 0 (some ⟨g2s, 0, none⟩) 4 hndL ⟨0, 0⟩ _ hK ⟨i64e 0, i64e 0⟩).mono ?_
  rintro e w15 ⟨hW, hb⟩
  obtain ⟨Yv, rfl, hY⟩ := t_s2 hW
  have hY := sts_vis hY
  clear hW
  have hR1 := hR1.below hb hR1.lt
  have hR2 := hR2.below hb hR2.lt
  have hR3 := hR3.below hb hR3.lt
  have hX := hX.mono (ext_of_below hb)
  have hK := hK.mono (ext_of_below hb)
  have hA := hA.trans (hb.mono hA.size)
  clear hb
  clear hK
  obtain ⟨by1, oy, cy, hev, hcy⟩ := sts_cells hY (by decide)
  rw [show tuY.length = 2 from rfl] at hev
  subst hev
  clear hcy
  have hX0 := hX
  obtain ⟨bx2, ox2, cx2, hev, hcx⟩ := sts_cells hX (by decide)
  simp only [Value.slice.injEq, Option.some.injEq, Addr.mk.injEq, and_true] at hev
  obtain ⟨⟨rfl, rfl⟩, -, rfl⟩ := hev
  obtain ⟨x0, x1, x2, x3⟩ := hcx 0 (by decide)
  simp only [Nat.zero_mul, Nat.add_zero] at x0 x1 x2 x3
  have HOne := Lib.hid (one_any bx ox cx 10 70 _ x0 x1 x2 x3)
  clear hcx x0 x1 x2 x3 hX0
  go_wp2_with fail
  refine (HOne.out).mono ?_
  rintro e w16 ⟨rfl, hb⟩
  have hR1 := hR1.below hb hR1.lt
  have hR2 := hR2.below hb hR2.lt
  have hR3 := hR3.below hb hR3.lt
  have hX := hX.mono (ext_of_below hb)
  have hY := hY.mono (ext_of_below hb)
  have hA := hA.trans (hb.mono hA.size)
  clear hb
  clear HOne
  go_wp2_with fail
  refine (lwhole_any 80 _).mono ?_
  rintro e w17 ⟨rfl, hb⟩
  have hR1 := hR1.below hb hR1.lt
  have hR2 := hR2.below hb hR2.lt
  have hR3 := hR3.below hb hR3.lt
  have hX := hX.mono (ext_of_below hb)
  have hY := hY.mono (ext_of_below hb)
  have hA := hA.trans (hb.mono hA.size)
  clear hb
  go_wp2_with fail
  refine (lwhole_any 100 _).mono ?_
  rintro e w18 ⟨rfl, hb⟩
  have hR1 := hR1.below hb hR1.lt
  have hR2 := hR2.below hb hR2.lt
  have hR3 := hR3.below hb hR3.lt
  have hX := hX.mono (ext_of_below hb)
  have hY := hY.mono (ext_of_below hb)
  have hA := hA.trans (hb.mono hA.size)
  clear hb
  have hZ := Blk.new w18 #[.int .i64 80, .int .i64 1, .int .i64 100, .int .i64 1] 41
  have hb := below_box w18 (.cells #[.int .i64 80, .int .i64 1, .int .i64 100, .int .i64 1] 41)
  have hR1 := hR1.below hb hR1.lt
  have hR2 := hR2.below hb hR2.lt
  have hR3 := hR3.below hb hR3.lt
  have hX := hX.mono (ext_of_below hb)
  have hY := hY.mono (ext_of_below hb)
  have hA := hA.trans (hb.mono hA.size)
  clear hb
  go_wp2_with fail
  generalize (w18.alloc (.cells #[.int .i64 80, .int .i64 1, .int .i64 100, .int .i64 1] 41)) = w19 at *
  generalize w18.heap.size = pz at *
  have hZs := z_of hZ
  refine (gap_any 100 0 (some ⟨bx, ox, none⟩) (some ⟨pz, 0, none⟩) cx 1 tuX tuZ _ hX hZs (i64e 100)).mono ?_
  rintro e w20 ⟨hW, hb⟩
  obtain rfl := t_g1 hW
  clear hW
  have hR1 := hR1.below hb hR1.lt
  have hR2 := hR2.below hb hR2.lt
  have hR3 := hR3.below hb hR3.lt
  have hX := hX.mono (ext_of_below hb)
  have hY := hY.mono (ext_of_below hb)
  have hZ := hZ.below hb hZ.lt
  have hZs := hZs.mono (ext_of_below hb)
  have hA := hA.trans (hb.mono hA.size)
  clear hb
  have hG1 := Blk.new w20 #[.int .i64 10, .int .i64 1] 24
  have hb := below_box w20 (.cells #[.int .i64 10, .int .i64 1] 24)
  have hR1 := hR1.below hb hR1.lt
  have hR2 := hR2.below hb hR2.lt
  have hR3 := hR3.below hb hR3.lt
  have hX := hX.mono (ext_of_below hb)
  have hY := hY.mono (ext_of_below hb)
  have hZ := hZ.below hb hZ.lt
  have hZs := hZs.mono (ext_of_below hb)
  have hA := hA.trans (hb.mono hA.size)
  clear hb
  go_wp2_with fail
  generalize (w20.alloc (.cells #[.int .i64 10, .int .i64 1] 24)) = w21 at *
  refine (gap_any 100 15 (some ⟨bx, ox, none⟩) (some ⟨pz, 0, none⟩) cx 1 tuX tuZ _ hX hZs (i64e 100)).mono ?_
  rintro e w22 ⟨hW, hb⟩
  obtain rfl := t_g2 hW
  clear hW
  have hR1 := hR1.below hb hR1.lt
  have hR2 := hR2.below hb hR2.lt
  have hR3 := hR3.below hb hR3.lt
  have hX := hX.mono (ext_of_below hb)
  have hY := hY.mono (ext_of_below hb)
  have hZ := hZ.below hb hZ.lt
  have hZs := hZs.mono (ext_of_below hb)
  have hG1 := hG1.below hb hG1.lt
  have hA := hA.trans (hb.mono hA.size)
  clear hb
  have hG2 := Blk.new w22 #[.int .i64 0, .int .i64 1] 24
  have hb := below_box w22 (.cells #[.int .i64 0, .int .i64 1] 24)
  have hR1 := hR1.below hb hR1.lt
  have hR2 := hR2.below hb hR2.lt
  have hR3 := hR3.below hb hR3.lt
  have hX := hX.mono (ext_of_below hb)
  have hY := hY.mono (ext_of_below hb)
  have hZ := hZ.below hb hZ.lt
  have hZs := hZs.mono (ext_of_below hb)
  have hG1 := hG1.below hb hG1.lt
  have hA := hA.trans (hb.mono hA.size)
  clear hb
  go_upto_region 11 with fail
  generalize (w22.alloc (.cells #[.int .i64 0, .int .i64 1] 24)) = w23 at *
  obtain ⟨by2, oy2, cy2, hev, hcy⟩ := sts_cells hY (by decide)
  simp only [Value.slice.injEq, Option.some.injEq, Addr.mk.injEq, and_true] at hev
  obtain ⟨⟨rfl, rfl⟩, -, rfl⟩ := hev
  obtain ⟨y0, y1, y2, y3⟩ := hcy 0 (by decide)
  obtain ⟨y4, y5, y6, y7⟩ := hcy 1 (by decide)
  simp only [Nat.zero_mul, Nat.add_zero, Nat.one_mul, Nat.add_assoc, Nat.reduceAdd] at y0 y1 y2 y3 y4 y5 y6 y7
  have ly := cell_lt y0
  simp only at ly
  have e1 := fun V => eqR 50 1 V
  have e2 := fun V => eqR 100 1 V
  have e3 := fun V => eqR 5 3 V
  have e4 := fun V => eqS 0 1 0 1 V
  have e5 := fun V => eqS 80 1 100 1 V
  have e6 := fun V => eqR 10 1 V
  have e7 := fun V => eqR 0 1 V
  have D0 : Below w23.heap.size w23 w23.drew := (Below.refl _ _).drew
  have HSV : Hid (∀ V, Below w23.heap.size w23 V → (fun w' : World => w'.cell? ⟨w3.heap.size, 0, none⟩ = some (.int .i64 50) ∧ w'.cell? ⟨w3.heap.size, 1, none⟩ = some (.int .i64 1) ∧ w'.cell? ⟨w7.heap.size, 0, none⟩ = some (.int .i64 100) ∧ w'.cell? ⟨w7.heap.size, 1, none⟩ = some (.int .i64 1) ∧ w'.cell? ⟨w10.heap.size, 0, none⟩ = some (.int .i64 5) ∧ w'.cell? ⟨w10.heap.size, 1, none⟩ = some (.int .i64 3) ∧ w'.cell? ⟨by1, oy, none⟩ = some (.int .i64 0) ∧ w'.cell? ⟨by1, oy + 1, none⟩ = some (.int .i64 1) ∧ w'.cell? ⟨by1, oy + 2, none⟩ = some (.int .i64 0) ∧ w'.cell? ⟨by1, oy + 3, none⟩ = some (.int .i64 1) ∧ w'.cell? ⟨by1, oy + 4, none⟩ = some (.int .i64 80) ∧ w'.cell? ⟨by1, oy + 5, none⟩ = some (.int .i64 1) ∧ w'.cell? ⟨by1, oy + 6, none⟩ = some (.int .i64 100) ∧ w'.cell? ⟨by1, oy + 7, none⟩ = some (.int .i64 1) ∧ w'.cell? ⟨pz, 0, none⟩ = some (.int .i64 80) ∧ w'.cell? ⟨pz, 1, none⟩ = some (.int .i64 1) ∧ w'.cell? ⟨pz, 2, none⟩ = some (.int .i64 100) ∧ w'.cell? ⟨pz, 3, none⟩ = some (.int .i64 1) ∧ w'.cell? ⟨w20.heap.size, 0, none⟩ = some (.int .i64 10) ∧ w'.cell? ⟨w20.heap.size, 1, none⟩ = some (.int .i64 1) ∧ w'.cell? ⟨w22.heap.size, 0, none⟩ = some (.int .i64 0) ∧ w'.cell? ⟨w22.heap.size, 1, none⟩ = some (.int .i64 1)) V) := Lib.hid (fun V hV => ⟨ext_of_below hV _ _ (hR1.cell 0 _ rfl), ext_of_below hV _ _ (hR1.cell 1 _ rfl), ext_of_below hV _ _ (hR2.cell 0 _ rfl), ext_of_below hV _ _ (hR2.cell 1 _ rfl), ext_of_below hV _ _ (hR3.cell 0 _ rfl), ext_of_below hV _ _ (hR3.cell 1 _ rfl), ext_of_below hV _ _ y0, ext_of_below hV _ _ y1, ext_of_below hV _ _ y2, ext_of_below hV _ _ y3, ext_of_below hV _ _ y4, ext_of_below hV _ _ y5, ext_of_below hV _ _ y6, ext_of_below hV _ _ y7, ext_of_below hV _ _ (hZ.cell 0 _ rfl), ext_of_below hV _ _ (hZ.cell 1 _ rfl), ext_of_below hV _ _ (hZ.cell 2 _ rfl), ext_of_below hV _ _ (hZ.cell 3 _ rfl), ext_of_below hV _ _ (hG1.cell 0 _ rfl), ext_of_below hV _ _ (hG1.cell 1 _ rfl), ext_of_below hV _ _ (hG2.cell 0 _ rfl), ext_of_below hV _ _ (hG2.cell 1 _ rfl)⟩)
  have HAB := Lib.hid hA
  clear hA hR1 hR2 hR3 hX hY hZ hZs hG1 hG2 hcy y0 y1 y2 y3 y4 y5 y6 y7
  go_wp2_with fail
  refine wp_region_till (fun w' : World => w'.cell? ⟨w3.heap.size, 0, none⟩ = some (.int .i64 50) ∧ w'.cell? ⟨w3.heap.size, 1, none⟩ = some (.int .i64 1) ∧ w'.cell? ⟨w7.heap.size, 0, none⟩ = some (.int .i64 100) ∧ w'.cell? ⟨w7.heap.size, 1, none⟩ = some (.int .i64 1) ∧ w'.cell? ⟨w10.heap.size, 0, none⟩ = some (.int .i64 5) ∧ w'.cell? ⟨w10.heap.size, 1, none⟩ = some (.int .i64 3) ∧ w'.cell? ⟨by1, oy, none⟩ = some (.int .i64 0) ∧ w'.cell? ⟨by1, oy + 1, none⟩ = some (.int .i64 1) ∧ w'.cell? ⟨by1, oy + 2, none⟩ = some (.int .i64 0) ∧ w'.cell? ⟨by1, oy + 3, none⟩ = some (.int .i64 1) ∧ w'.cell? ⟨by1, oy + 4, none⟩ = some (.int .i64 80) ∧ w'.cell? ⟨by1, oy + 5, none⟩ = some (.int .i64 1) ∧ w'.cell? ⟨by1, oy + 6, none⟩ = some (.int .i64 100) ∧ w'.cell? ⟨by1, oy + 7, none⟩ = some (.int .i64 1) ∧ w'.cell? ⟨pz, 0, none⟩ = some (.int .i64 80) ∧ w'.cell? ⟨pz, 1, none⟩ = some (.int .i64 1) ∧ w'.cell? ⟨pz, 2, none⟩ = some (.int .i64 100) ∧ w'.cell? ⟨pz, 3, none⟩ = some (.int .i64 1) ∧ w'.cell? ⟨w20.heap.size, 0, none⟩ = some (.int .i64 10) ∧ w'.cell? ⟨w20.heap.size, 1, none⟩ = some (.int .i64 1) ∧ w'.cell? ⟨w22.heap.size, 0, none⟩ = some (.int .i64 0) ∧ w'.cell? ⟨w22.heap.size, 1, none⟩ = some (.int .i64 1)) 58 (by kernel_rfl) (HSV.out _ D0) (fun hHeld => ?_)
  generalize w23.drew = wd at *
  refine Till.take 0 (some 91) (v := ?_) rfl rfl (by kernel_rfl) (by kernel_rfl) (by kernel_rfl) (by kernel_rfl) (fun _ _ _ h => h) (Or.inl ⟨by rfl, ?_⟩) (by assumption) ?_
  rotate_left
  · (intro w hSw; (try dsimp only at hSw); go_simp; try with_reducible rfl)
  try simp only [Act.put, List.setIfInBounds_toArray, List.set_cons_zero, List.set_cons_succ]
  refine Till.one 1 rfl (by kernel_rfl) (fun K hK => ?_)
  go_simp
  go_at_call 17
  refine (lwhole_any 50 _).mono ?_
  rintro e v1 ⟨rfl, hb1⟩
  have D1 := D0.trans (hb1.mono D0.size)
  have hh1 := HSV.out _ D1
  refine hK.out _ _ (fun _ => hh1) (fun hHeld1 => ?_)
  clear hK K hb1
  try simp only [Act.put, List.setIfInBounds_toArray, List.set_cons_zero, List.set_cons_succ]
  refine Till.take 2 (some 93) (v := ?_) rfl rfl (by kernel_rfl) (by kernel_rfl) (by kernel_rfl) (by kernel_rfl) (fun _ _ _ h => h) (Or.inl ⟨by rfl, ?_⟩) (by assumption) ?_
  rotate_left
  · (intro w hSw; (try dsimp only at hSw); go_simp; try with_reducible rfl)
  try simp only [Act.put, List.setIfInBounds_toArray, List.set_cons_zero, List.set_cons_succ]
  refine Till.take 3 (some 94) (v := ?_) rfl rfl (by kernel_rfl) (by kernel_rfl) (by kernel_rfl) (by kernel_rfl) (fun _ _ _ h => h) (Or.inl ⟨by rfl, ?_⟩) (by assumption) ?_
  rotate_left
  · (intro w hSw; (try dsimp only at hSw); go_simp; try with_reducible rfl)
  try simp only [Act.put, List.setIfInBounds_toArray, List.set_cons_zero, List.set_cons_succ]
  refine Till.take 4 (some 95) (v := ?_) rfl rfl (by kernel_rfl) (by kernel_rfl) (by kernel_rfl) (by kernel_rfl) (fun _ _ _ h => h) (Or.inl ⟨by rfl, ?_⟩) (by assumption) ?_
  rotate_left
  · (intro w hSw; (try dsimp only at hSw); go_simp; try with_reducible rfl)
  try simp only [Act.put, List.setIfInBounds_toArray, List.set_cons_zero, List.set_cons_succ]
  refine Till.one 5 rfl (by kernel_rfl) (fun K hK => ?_)
  go_simp
  go_at_call 17
  refine (lwhole_any 100 _).mono ?_
  rintro e v2 ⟨rfl, hb2⟩
  have D2 := D1.trans (hb2.mono D1.size)
  have hh2 := HSV.out _ D2
  refine hK.out _ _ (fun _ => hh2) (fun hHeld2 => ?_)
  clear hK K hb2
  try simp only [Act.put, List.setIfInBounds_toArray, List.set_cons_zero, List.set_cons_succ]
  refine Till.take 6 (some 97) (v := ?_) rfl rfl (by kernel_rfl) (by kernel_rfl) (by kernel_rfl) (by kernel_rfl) (fun _ _ _ h => h) (Or.inl ⟨by rfl, ?_⟩) (by assumption) ?_
  rotate_left
  · (intro w hSw; (try dsimp only at hSw); go_simp; try with_reducible rfl)
  try simp only [Act.put, List.setIfInBounds_toArray, List.set_cons_zero, List.set_cons_succ]
  refine Till.take 7 (some 98) (v := ?_) rfl rfl (by kernel_rfl) (by kernel_rfl) (by kernel_rfl) (by kernel_rfl) (fun _ _ _ h => h) (Or.inl ⟨by rfl, ?_⟩) (by assumption) ?_
  rotate_left
  · (intro w hSw; (try dsimp only at hSw); go_simp; try with_reducible rfl)
  try simp only [Act.put, List.setIfInBounds_toArray, List.set_cons_zero, List.set_cons_succ]
  refine Till.take 8 (some 99) (v := ?_) rfl rfl (by kernel_rfl) (by kernel_rfl) (by kernel_rfl) (by kernel_rfl) (fun _ _ _ h => h) (Or.inl ⟨by rfl, ?_⟩) (by assumption) ?_
  rotate_left
  · (intro w hSw; (try dsimp only at hSw); go_simp; try with_reducible rfl)
  try simp only [Act.put, List.setIfInBounds_toArray, List.set_cons_zero, List.set_cons_succ]
  refine Till.take 9 (some 100) (v := ?_) rfl rfl (by kernel_rfl) (by kernel_rfl) (by kernel_rfl) (by kernel_rfl) (fun _ _ _ h => h) (Or.inl ⟨by rfl, ?_⟩) (by assumption) ?_
  rotate_left
  · (intro w hSw; (try dsimp only at hSw); go_simp; try with_reducible rfl)
  try simp only [Act.put, List.setIfInBounds_toArray, List.set_cons_zero, List.set_cons_succ]
  refine Till.take 10 (some 101) (v := ?_) rfl rfl (by kernel_rfl) (by kernel_rfl) (by kernel_rfl) (by kernel_rfl) (fun _ _ _ h => h) (Or.inl ⟨by rfl, ?_⟩) (by assumption) ?_
  rotate_left
  · (intro w hSw; (try dsimp only at hSw); go_simp; try with_reducible rfl)
  try simp only [Act.put, List.setIfInBounds_toArray, List.set_cons_zero, List.set_cons_succ]
  refine Till.take 11 (some 102) (v := ?_) rfl rfl (by kernel_rfl) (by kernel_rfl) (by kernel_rfl) (by kernel_rfl) (fun _ _ _ h => h) (Or.inl ⟨by rfl, ?_⟩) (by assumption) ?_
  rotate_left
  · (intro w hSw; (try dsimp only at hSw); go_simp; try with_reducible rfl)
  try simp only [Act.put, List.setIfInBounds_toArray, List.set_cons_zero, List.set_cons_succ]
  refine Till.take 12 (some 103) (v := ?_) rfl rfl (by kernel_rfl) (by kernel_rfl) (by kernel_rfl) (by kernel_rfl) (fun _ _ _ h => h) (Or.inl ⟨by rfl, ?_⟩) (by assumption) ?_
  rotate_left
  · (intro w hSw; (try dsimp only at hSw); go_simp; try with_reducible rfl)
  try simp only [Act.put, List.setIfInBounds_toArray, List.set_cons_zero, List.set_cons_succ]
  refine Till.take 13 (some 104) (v := ?_) rfl rfl (by kernel_rfl) (by kernel_rfl) (by kernel_rfl) (by kernel_rfl) (fun _ _ _ h => h) (Or.inl ⟨by rfl, ?_⟩) (by assumption) ?_
  rotate_left
  · (intro w hSw; (try dsimp only at hSw); go_simp; try with_reducible rfl)
  try simp only [Act.put, List.setIfInBounds_toArray, List.set_cons_zero, List.set_cons_succ]
  refine Till.take 14 (some 105) (v := ?_) rfl rfl (by kernel_rfl) (by kernel_rfl) (by kernel_rfl) (by kernel_rfl) (fun _ _ _ h => h) (Or.inl ⟨by rfl, ?_⟩) (by assumption) ?_
  rotate_left
  · (intro w hSw; (try dsimp only at hSw); go_simp; try with_reducible rfl)
  try simp only [Act.put, List.setIfInBounds_toArray, List.set_cons_zero, List.set_cons_succ]
  refine Till.take 15 (some 106) (v := ?_) rfl rfl (by kernel_rfl) (by kernel_rfl) (by kernel_rfl) (by kernel_rfl) (fun _ _ _ h => h) (Or.inl ⟨by rfl, ?_⟩) (by assumption) ?_
  rotate_left
  · (intro w hSw; (try dsimp only at hSw); go_simp; try with_reducible rfl)
  try simp only [Act.put, List.setIfInBounds_toArray, List.set_cons_zero, List.set_cons_succ]
  refine Till.take 16 (some 107) (v := ?_) rfl rfl (by kernel_rfl) (by kernel_rfl) (by kernel_rfl) (by kernel_rfl) (fun _ _ _ h => h) (Or.inl ⟨by rfl, ?_⟩) (by assumption) ?_
  rotate_left
  · (intro w hSw; (try dsimp only at hSw); go_simp; try with_reducible rfl)
  try simp only [Act.put, List.setIfInBounds_toArray, List.set_cons_zero, List.set_cons_succ]
  refine Till.one 17 rfl (by kernel_rfl) (fun K hK => ?_)
  go_simp
  go_at_call 17
  refine (lwhole_any 0 _).mono ?_
  rintro e v3 ⟨rfl, hb3⟩
  have D3 := D2.trans (hb3.mono D2.size)
  have hh3 := HSV.out _ D3
  refine hK.out _ _ (fun _ => hh3) (fun hHeld3 => ?_)
  clear hK K hb3
  try simp only [Act.put, List.setIfInBounds_toArray, List.set_cons_zero, List.set_cons_succ]
  refine Till.one 18 rfl (by kernel_rfl) (fun K hK => ?_)
  go_simp
  go_at_call 17
  refine (lwhole_any 0 _).mono ?_
  rintro e v4 ⟨rfl, hb4⟩
  have D4 := D3.trans (hb4.mono D3.size)
  have hh4 := HSV.out _ D4
  refine hK.out _ _ (fun _ => hh4) (fun hHeld4 => ?_)
  clear hK K hb4
  try simp only [Act.put, List.setIfInBounds_toArray, List.set_cons_zero, List.set_cons_succ]
  refine Till.take 19 (some 110) (v := ?_) rfl rfl (by kernel_rfl) (by kernel_rfl) (by kernel_rfl) (by kernel_rfl) (fun _ _ _ h => h) (Or.inl ⟨by rfl, ?_⟩) (by assumption) ?_
  rotate_left
  · (intro w hSw; (try dsimp only at hSw); go_simp; try with_reducible rfl)
  try simp only [Act.put, List.setIfInBounds_toArray, List.set_cons_zero, List.set_cons_succ]
  refine Till.take 20 (some 111) (v := ?_) rfl rfl (by kernel_rfl) (by kernel_rfl) (by kernel_rfl) (by kernel_rfl) (fun _ _ _ h => h) (Or.inl ⟨by rfl, ?_⟩) (by assumption) ?_
  rotate_left
  · (intro w hSw; (try dsimp only at hSw); go_simp; try with_reducible rfl)
  try simp only [Act.put, List.setIfInBounds_toArray, List.set_cons_zero, List.set_cons_succ]
  refine Till.take 21 (some 112) (v := ?_) rfl rfl (by kernel_rfl) (by kernel_rfl) (by kernel_rfl) (by kernel_rfl) (fun _ _ _ h => h) (Or.inl ⟨by rfl, ?_⟩) (by assumption) ?_
  rotate_left
  · (intro w hSw; (try dsimp only at hSw); go_simp; try with_reducible rfl)
  try simp only [Act.put, List.setIfInBounds_toArray, List.set_cons_zero, List.set_cons_succ]
  refine Till.take 22 (some 113) (v := ?_) rfl rfl (by kernel_rfl) (by kernel_rfl) (by kernel_rfl) (by kernel_rfl) (fun _ _ _ h => h) (Or.inl ⟨by rfl, ?_⟩) (by assumption) ?_
  rotate_left
  · (intro w hSw; (try dsimp only at hSw); go_simp; try with_reducible rfl)
  try simp only [Act.put, List.setIfInBounds_toArray, List.set_cons_zero, List.set_cons_succ]
  refine Till.take 23 (some 114) (v := ?_) rfl rfl (by kernel_rfl) (by kernel_rfl) (by kernel_rfl) (by kernel_rfl) (fun _ _ _ h => h) (Or.inl ⟨by rfl, ?_⟩) (by assumption) ?_
  rotate_left
  · (intro w hSw; (try dsimp only at hSw); go_simp; try with_reducible rfl)
  try simp only [Act.put, List.setIfInBounds_toArray, List.set_cons_zero, List.set_cons_succ]
  refine Till.take 24 (some 115) (v := ?_) rfl rfl (by kernel_rfl) (by kernel_rfl) (by kernel_rfl) (by kernel_rfl) (fun _ _ _ h => h) (Or.inl ⟨by rfl, ?_⟩) (by assumption) ?_
  rotate_left
  · (intro w hSw; (try dsimp only at hSw); go_simp; try with_reducible rfl)
  try simp only [Act.put, List.setIfInBounds_toArray, List.set_cons_zero, List.set_cons_succ]
  refine Till.take 25 (some 116) (v := ?_) rfl rfl (by kernel_rfl) (by kernel_rfl) (by kernel_rfl) (by kernel_rfl) (fun _ _ _ h => h) (Or.inl ⟨by rfl, ?_⟩) (by assumption) ?_
  rotate_left
  · (intro w hSw; (try dsimp only at hSw); go_simp; try with_reducible rfl)
  try simp only [Act.put, List.setIfInBounds_toArray, List.set_cons_zero, List.set_cons_succ]
  refine Till.take 26 (some 117) (v := ?_) rfl rfl (by kernel_rfl) (by kernel_rfl) (by kernel_rfl) (by kernel_rfl) (fun _ _ _ h => h) (Or.inl ⟨by rfl, ?_⟩) (by assumption) ?_
  rotate_left
  · (intro w hSw; (try dsimp only at hSw); go_simp; try with_reducible rfl)
  try simp only [Act.put, List.setIfInBounds_toArray, List.set_cons_zero, List.set_cons_succ]
  refine Till.take 27 (some 118) (v := ?_) rfl rfl (by kernel_rfl) (by kernel_rfl) (by kernel_rfl) (by kernel_rfl) (fun _ _ _ h => h) (Or.inl ⟨by rfl, ?_⟩) (by assumption) ?_
  rotate_left
  · (intro w hSw; (try dsimp only at hSw); go_simp; try with_reducible rfl)
  try simp only [Act.put, List.setIfInBounds_toArray, List.set_cons_zero, List.set_cons_succ]
  refine Till.take 28 (some 119) (v := ?_) rfl rfl (by kernel_rfl) (by kernel_rfl) (by kernel_rfl) (by kernel_rfl) (fun _ _ _ h => h) (Or.inl ⟨by rfl, ?_⟩) (by assumption) ?_
  rotate_left
  · (intro w hSw; (try dsimp only at hSw); go_simp; try with_reducible rfl)
  try simp only [Act.put, List.setIfInBounds_toArray, List.set_cons_zero, List.set_cons_succ]
  refine Till.take 29 (some 120) (v := ?_) rfl rfl (by kernel_rfl) (by kernel_rfl) (by kernel_rfl) (by kernel_rfl) (fun _ _ _ h => h) (Or.inl ⟨by rfl, ?_⟩) (by assumption) ?_
  rotate_left
  · (intro w hSw; (try dsimp only at hSw); go_simp; try with_reducible rfl)
  try simp only [Act.put, List.setIfInBounds_toArray, List.set_cons_zero, List.set_cons_succ]
  refine Till.take 30 (some 121) (v := ?_) rfl rfl (by kernel_rfl) (by kernel_rfl) (by kernel_rfl) (by kernel_rfl) (fun _ _ _ h => h) (Or.inl ⟨by rfl, ?_⟩) (by assumption) ?_
  rotate_left
  · (intro w hSw; (try dsimp only at hSw); go_simp; try with_reducible rfl)
  try simp only [Act.put, List.setIfInBounds_toArray, List.set_cons_zero, List.set_cons_succ]
  refine Till.take 31 (some 122) (v := ?_) rfl rfl (by kernel_rfl) (by kernel_rfl) (by kernel_rfl) (by kernel_rfl) (fun _ _ _ h => h) (Or.inl ⟨by rfl, ?_⟩) (by assumption) ?_
  rotate_left
  · (intro w hSw; (try dsimp only at hSw); go_simp; try with_reducible rfl)
  try simp only [Act.put, List.setIfInBounds_toArray, List.set_cons_zero, List.set_cons_succ]
  refine Till.take 32 (some 123) (v := ?_) rfl rfl (by kernel_rfl) (by kernel_rfl) (by kernel_rfl) (by kernel_rfl) (fun _ _ _ h => h) (Or.inl ⟨by rfl, ?_⟩) (by assumption) ?_
  rotate_left
  · (intro w hSw; (try dsimp only at hSw); go_simp; try with_reducible rfl)
  try simp only [Act.put, List.setIfInBounds_toArray, List.set_cons_zero, List.set_cons_succ]
  refine Till.one 33 rfl (by kernel_rfl) (fun K hK => ?_)
  go_simp
  go_at_call 17
  refine (lwhole_any 10 _).mono ?_
  rintro e v5 ⟨rfl, hb5⟩
  have D5 := D4.trans (hb5.mono D4.size)
  have hh5 := HSV.out _ D5
  refine hK.out _ _ (fun _ => hh5) (fun hHeld5 => ?_)
  clear hK K hb5
  try simp only [Act.put, List.setIfInBounds_toArray, List.set_cons_zero, List.set_cons_succ]
  refine Till.take 34 (some 125) (v := ?_) rfl rfl (by kernel_rfl) (by kernel_rfl) (by kernel_rfl) (by kernel_rfl) (fun _ _ _ h => h) (Or.inl ⟨by rfl, ?_⟩) (by assumption) ?_
  rotate_left
  · (intro w hSw; (try dsimp only at hSw); go_simp; try with_reducible rfl)
  try simp only [Act.put, List.setIfInBounds_toArray, List.set_cons_zero, List.set_cons_succ]
  refine Till.take 35 (some 126) (v := ?_) rfl rfl (by kernel_rfl) (by kernel_rfl) (by kernel_rfl) (by kernel_rfl) (fun _ _ _ h => h) (Or.inl ⟨by rfl, ?_⟩) (by assumption) ?_
  rotate_left
  · (intro w hSw; (try dsimp only at hSw); go_simp; try with_reducible rfl)
  try simp only [Act.put, List.setIfInBounds_toArray, List.set_cons_zero, List.set_cons_succ]
  refine Till.take 36 (some 127) (v := ?_) rfl rfl (by kernel_rfl) (by kernel_rfl) (by kernel_rfl) (by kernel_rfl) (fun _ _ _ h => h) (Or.inl ⟨by rfl, ?_⟩) (by assumption) ?_
  rotate_left
  · (intro w hSw; (try dsimp only at hSw); go_simp; try with_reducible rfl)
  try simp only [Act.put, List.setIfInBounds_toArray, List.set_cons_zero, List.set_cons_succ]
  refine Till.take 37 (some 128) (v := ?_) rfl rfl (by kernel_rfl) (by kernel_rfl) (by kernel_rfl) (by kernel_rfl) (fun _ _ _ h => h) (Or.inl ⟨by rfl, ?_⟩) (by assumption) ?_
  rotate_left
  · (intro w hSw; (try dsimp only at hSw); go_simp; try with_reducible rfl)
  try simp only [Act.put, List.setIfInBounds_toArray, List.set_cons_zero, List.set_cons_succ]
  refine Till.take 38 (some 129) (v := ?_) rfl rfl (by kernel_rfl) (by kernel_rfl) (by kernel_rfl) (by kernel_rfl) (fun _ _ _ h => h) (Or.inl ⟨by rfl, ?_⟩) (by assumption) ?_
  rotate_left
  · (intro w hSw; (try dsimp only at hSw); go_simp; try with_reducible rfl)
  try simp only [Act.put, List.setIfInBounds_toArray, List.set_cons_zero, List.set_cons_succ]
  refine Till.take 39 (some 130) (v := ?_) rfl rfl (by kernel_rfl) (by kernel_rfl) (by kernel_rfl) (by kernel_rfl) (fun _ _ _ h => h) (Or.inl ⟨by rfl, ?_⟩) (by assumption) ?_
  rotate_left
  · (intro w hSw; (try dsimp only at hSw); go_simp; try with_reducible rfl)
  try simp only [Act.put, List.setIfInBounds_toArray, List.set_cons_zero, List.set_cons_succ]
  refine Till.take 40 (some 131) (v := ?_) rfl rfl (by kernel_rfl) (by kernel_rfl) (by kernel_rfl) (by kernel_rfl) (fun _ _ _ h => h) (Or.inl ⟨by rfl, ?_⟩) (by assumption) ?_
  rotate_left
  · (intro w hSw; (try dsimp only at hSw); go_simp; try with_reducible rfl)
  try simp only [Act.put, List.setIfInBounds_toArray, List.set_cons_zero, List.set_cons_succ]
  refine Till.take 41 (some 132) (v := ?_) rfl rfl (by kernel_rfl) (by kernel_rfl) (by kernel_rfl) (by kernel_rfl) (fun _ _ _ h => h) (Or.inl ⟨by rfl, ?_⟩) (by assumption) ?_
  rotate_left
  · (intro w hSw; (try dsimp only at hSw); go_simp; try with_reducible rfl)
  try simp only [Act.put, List.setIfInBounds_toArray, List.set_cons_zero, List.set_cons_succ]
  refine Till.take 42 (some 133) (v := ?_) rfl rfl (by kernel_rfl) (by kernel_rfl) (by kernel_rfl) (by kernel_rfl) (fun _ _ _ h => h) (Or.inl ⟨by rfl, ?_⟩) (by assumption) ?_
  rotate_left
  · (intro w hSw; (try dsimp only at hSw); go_simp; try with_reducible rfl)
  try simp only [Act.put, List.setIfInBounds_toArray, List.set_cons_zero, List.set_cons_succ]
  refine Till.take 43 (some 134) (v := ?_) rfl rfl (by kernel_rfl) (by kernel_rfl) (by kernel_rfl) (by kernel_rfl) (fun _ _ _ h => h) (Or.inl ⟨by rfl, ?_⟩) (by assumption) ?_
  rotate_left
  · (intro w hSw; (try dsimp only at hSw); go_simp; try with_reducible rfl)
  try simp only [Act.put, List.setIfInBounds_toArray, List.set_cons_zero, List.set_cons_succ]
  refine Till.take 44 (some 135) (v := ?_) rfl rfl (by kernel_rfl) (by kernel_rfl) (by kernel_rfl) (by kernel_rfl) (fun _ _ _ h => h) (Or.inl ⟨by rfl, ?_⟩) (by assumption) ?_
  rotate_left
  · (intro w hSw; (try dsimp only at hSw); go_simp; try with_reducible rfl)
  try simp only [Act.put, List.setIfInBounds_toArray, List.set_cons_zero, List.set_cons_succ]
  refine Till.take 45 (some 136) (v := ?_) rfl rfl (by kernel_rfl) (by kernel_rfl) (by kernel_rfl) (by kernel_rfl) (fun _ _ _ h => h) (Or.inl ⟨by rfl, ?_⟩) (by assumption) ?_
  rotate_left
  · (intro w hSw; (try dsimp only at hSw); go_simp; try with_reducible rfl)
  try simp only [Act.put, List.setIfInBounds_toArray, List.set_cons_zero, List.set_cons_succ]
  refine Till.one 46 rfl (by kernel_rfl) (fun K hK => ?_)
  go_simp
  go_at_call 17
  refine (lwhole_any 0 _).mono ?_
  rintro e v6 ⟨rfl, hb6⟩
  have D6 := D5.trans (hb6.mono D5.size)
  have hh6 := HSV.out _ D6
  refine hK.out _ _ (fun _ => hh6) (fun hHeld6 => ?_)
  clear hK K hb6
  try simp only [Act.put, List.setIfInBounds_toArray, List.set_cons_zero, List.set_cons_succ]
  refine Till.take 47 (some 138) (v := ?_) rfl rfl (by kernel_rfl) (by kernel_rfl) (by kernel_rfl) (by kernel_rfl) (fun _ _ _ h => h) (Or.inl ⟨by rfl, ?_⟩) (by assumption) ?_
  rotate_left
  · (intro w hSw; (try dsimp only at hSw); go_simp; try with_reducible rfl)
  try simp only [Act.put, List.setIfInBounds_toArray, List.set_cons_zero, List.set_cons_succ]
  refine Till.take 48 (some 139) (v := ?_) rfl rfl (by kernel_rfl) (by kernel_rfl) (by kernel_rfl) (by kernel_rfl) (fun _ _ _ h => h) (Or.inl ⟨by rfl, ?_⟩) (by assumption) ?_
  rotate_left
  · (intro w hSw; (try dsimp only at hSw); go_simp; try with_reducible rfl)
  try simp only [Act.put, List.setIfInBounds_toArray, List.set_cons_zero, List.set_cons_succ]
  refine Till.take 49 (some 140) (v := ?_) rfl rfl (by kernel_rfl) (by kernel_rfl) (by kernel_rfl) (by kernel_rfl) (fun _ _ _ h => h) (Or.inl ⟨by rfl, ?_⟩) (by assumption) ?_
  rotate_left
  · (intro w hSw; (try dsimp only at hSw); go_simp; try with_reducible rfl)
  try simp only [Act.put, List.setIfInBounds_toArray, List.set_cons_zero, List.set_cons_succ]
  refine Till.take 50 (some 141) (v := ?_) rfl rfl (by kernel_rfl) (by kernel_rfl) (by kernel_rfl) (by kernel_rfl) (fun _ _ _ h => h) (Or.inl ⟨by rfl, ?_⟩) (by assumption) ?_
  rotate_left
  · (intro w hSw; (try dsimp only at hSw); go_simp; try with_reducible rfl)
  try simp only [Act.put, List.setIfInBounds_toArray, List.set_cons_zero, List.set_cons_succ]
  refine Till.take 51 (some 142) (v := ?_) rfl rfl (by kernel_rfl) (by kernel_rfl) (by kernel_rfl) (by kernel_rfl) (fun _ _ _ h => h) (Or.inl ⟨by rfl, ?_⟩) (by assumption) ?_
  rotate_left
  · (intro w hSw; (try dsimp only at hSw); go_simp; try with_reducible rfl)
  try simp only [Act.put, List.setIfInBounds_toArray, List.set_cons_zero, List.set_cons_succ]
  refine Till.take 52 (some 143) (v := ?_) rfl rfl (by kernel_rfl) (by kernel_rfl) (by kernel_rfl) (by kernel_rfl) (fun _ _ _ h => h) (Or.inl ⟨by rfl, ?_⟩) (by assumption) ?_
  rotate_left
  · (intro w hSw; (try dsimp only at hSw); go_simp; try with_reducible rfl)
  try simp only [Act.put, List.setIfInBounds_toArray, List.set_cons_zero, List.set_cons_succ]
  refine Till.take 53 (some 144) (v := ?_) rfl rfl (by kernel_rfl) (by kernel_rfl) (by kernel_rfl) (by kernel_rfl) (fun _ _ _ h => h) (Or.inl ⟨by rfl, ?_⟩) (by assumption) ?_
  rotate_left
  · (intro w hSw; (try dsimp only at hSw); go_simp; try with_reducible rfl)
  try simp only [Act.put, List.setIfInBounds_toArray, List.set_cons_zero, List.set_cons_succ]
  refine Till.take 54 (some 145) (v := ?_) rfl rfl (by kernel_rfl) (by kernel_rfl) (by kernel_rfl) (by kernel_rfl) (fun _ _ _ h => h) (Or.inl ⟨by rfl, ?_⟩) (by assumption) ?_
  rotate_left
  · (intro w hSw; (try dsimp only at hSw); go_simp; try with_reducible rfl)
  try simp only [Act.put, List.setIfInBounds_toArray, List.set_cons_zero, List.set_cons_succ]
  refine Till.take 55 (some 146) (v := ?_) rfl rfl (by kernel_rfl) (by kernel_rfl) (by kernel_rfl) (by kernel_rfl) (fun _ _ _ h => h) (Or.inl ⟨by rfl, ?_⟩) (by assumption) ?_
  rotate_left
  · (intro w hSw; (try dsimp only at hSw); go_simp; try with_reducible rfl)
  try simp only [Act.put, List.setIfInBounds_toArray, List.set_cons_zero, List.set_cons_succ]
  refine Till.take 56 (some 147) (v := ?_) rfl rfl (by kernel_rfl) (by kernel_rfl) (by kernel_rfl) (by kernel_rfl) (fun _ _ _ h => h) (Or.inl ⟨by rfl, ?_⟩) (by assumption) ?_
  rotate_left
  · (intro w hSw; (try dsimp only at hSw); go_simp; try with_reducible rfl)
  try simp only [Act.put, List.setIfInBounds_toArray, List.set_cons_zero, List.set_cons_succ]
  refine Till.take 57 (some 0) (v := ?_) rfl rfl (by kernel_rfl) (by kernel_rfl) (by kernel_rfl) (by kernel_rfl) (fun _ _ _ h => h) (Or.inl ⟨by rfl, ?_⟩) (by assumption) ?_
  rotate_left
  · (intro w hSw; (try dsimp only at hSw); go_simp; try with_reducible rfl)
  try simp only [Act.put, List.setIfInBounds_toArray, List.set_cons_zero, List.set_cons_succ]
  have HE := Lib.hid (HAB.out.trans (D6.mono HAB.out.size))
  refine Till.done (by kernel_rfl) ?_ _
  go_wp2
  go_ret
  exact ⟨rfl, HE.out⟩
end Go.Proofs.Ytnldenjdbgfgmaa
