/- The pieces of a lehr's curve: how long, how steep, how long hot; no statement is proved here. -/
import Derived.Test.YtaldpalhckdcdaaGreatDoorLeIt0
import Derived.Test.YtaldpalhckdcdaaGreatDoorTill
namespace Go.Proofs.YtaldpalhckdcdaaGreatDoor
open Go.RowKit Go.PlainAid
set_option linter.unusedVariables false
set_option linter.unusedSimpArgs false
set_option maxRecDepth 100000 in
theorem minutes_any (x y : Sp) (w : World) (hm : I64 (y.lo - x.lo)) :
    Calls Tryz.prog 102 #[.agg #[.int .i64 x.lo, .int .i64 x.hi, .int .i64 y.lo, .int .i64 y.hi]] w fun e w' => e = .returned (.int .i64 (y.lo - x.lo)) ∧ Below w.heap.size w w' := by
  have hA := below_boxS w (.cells #[.int .i64 x.lo, .int .i64 x.hi, .int .i64 y.lo, .int .i64 y.hi] 128)
  have q := wrap_id _ hm
  go_enter Tryz.func102, Tryz.ntmps102
  go_wp2
  go_ret
  exact ⟨by rw [q]; rfl, hA⟩

set_option maxHeartbeats 1000000 in
set_option maxRecDepth 100000 in
theorem falls_any (x y : Sp) (w : World) (hm : I64 (y.lo - x.lo)) (hf : I64 (x.hi - y.hi)) :
    Calls Tryz.prog 87 #[.agg #[.int .i64 x.lo, .int .i64 x.hi, .int .i64 y.lo, .int .i64 y.hi]] w fun e w' => e = .returned (.agg #[.int .i64 (x.hi - y.hi), .int .i64 (y.lo - x.lo)]) ∧ Below w.heap.size w w' := by
  have hA : Below w.heap.size w ((w.alloc (.cells #[.int .i64 x.lo, .int .i64 x.hi, .int .i64 y.lo, .int .i64 y.hi] 128)).alloc (.cells #[.int .i64 0, .int .i64 0] 96)) := (below_boxS w _).alloc (by simp) _
  have hX := (Blk.new w #[.int .i64 x.lo, .int .i64 x.hi, .int .i64 y.lo, .int .i64 y.hi] 128).alloc (.cells #[.int .i64 0, .int .i64 0] 96)
  have hB := Blk.new (w.alloc (.cells #[.int .i64 x.lo, .int .i64 x.hi, .int .i64 y.lo, .int .i64 y.hi] 128)) #[.int .i64 0, .int .i64 0] 96
  rw [World.size_alloc] at hB
  have z := (IntWalk.i64_left (x.hi - y.hi)).trans (wrap_id _ hf)
  go_enter Tryz.func87, Tryz.ntmps87
  go_wp2_with fail
  generalize (w.alloc (.cells #[.int .i64 x.lo, .int .i64 x.hi, .int .i64 y.lo, .int .i64 y.hi] 128)).alloc (.cells #[.int .i64 0, .int .i64 0] 96) = W at *
  have x0 := hX.cell 0 _ rfl
  have x1 := hX.cell 1 _ rfl
  have x2 := hX.cell 2 _ rfl
  have x3 := hX.cell 3 _ rfl
  have lX := hX.lt
  have lB := hB.lt
  have D0 : Below W.heap.size W W.drew := (Below.refl _ _).drew
  have hsv : ∀ V, Below W.heap.size W V → (fun w' : World => w'.cell? ⟨w.heap.size, 0, none⟩ = some (.int .i64 x.lo) ∧ w'.cell? ⟨w.heap.size, 1, none⟩ = some (.int .i64 x.hi) ∧ w'.cell? ⟨w.heap.size, 2, none⟩ = some (.int .i64 y.lo) ∧ w'.cell? ⟨w.heap.size, 3, none⟩ = some (.int .i64 y.hi)) V := fun V hV => ⟨ext_of_below hV _ _ x0, ext_of_below hV _ _ x1, ext_of_below hV _ _ x2, ext_of_below hV _ _ x3⟩
  have hmi := fun V => minutes_any x y V hm
  refine wp_region_till (fun w' : World => w'.cell? ⟨w.heap.size, 0, none⟩ = some (.int .i64 x.lo) ∧ w'.cell? ⟨w.heap.size, 1, none⟩ = some (.int .i64 x.hi) ∧ w'.cell? ⟨w.heap.size, 2, none⟩ = some (.int .i64 y.lo) ∧ w'.cell? ⟨w.heap.size, 3, none⟩ = some (.int .i64 y.hi)) 10 (by kernel_rfl) (hsv _ D0) (fun hHeld => ?_)
  refine Till.take 0 (some 3) (v := ?_) rfl rfl (by kernel_rfl) (by kernel_rfl) (by kernel_rfl) (by kernel_rfl) (fun _ _ _ h => h) (Or.inl ⟨by rfl, ?_⟩) (by assumption) ?_
  rotate_left
  · (intro w hSw; (try dsimp only at hSw); go_simp; try with_reducible rfl)
  try simp only [Act.put, List.setIfInBounds_toArray, List.set_cons_zero, List.set_cons_succ]
  refine Till.take 1 (some 4) (v := ?_) rfl rfl (by kernel_rfl) (by kernel_rfl) (by kernel_rfl) (by kernel_rfl) (fun _ _ _ h => h) (Or.inl ⟨by rfl, ?_⟩) (by assumption) ?_
  rotate_left
  · (intro w hSw; (try dsimp only at hSw); go_simp; try with_reducible rfl)
  try simp only [Act.put, List.setIfInBounds_toArray, List.set_cons_zero, List.set_cons_succ]
  refine Till.take 2 (some 5) (v := ?_) rfl rfl (by kernel_rfl) (by kernel_rfl) (by kernel_rfl) (by kernel_rfl) (fun _ _ _ h => h) (Or.inl ⟨by rfl, ?_⟩) (by assumption) ?_
  rotate_left
  · (intro w hSw; (try dsimp only at hSw); go_simp; try with_reducible rfl)
  try simp only [Act.put, List.setIfInBounds_toArray, List.set_cons_zero, List.set_cons_succ]
  refine Till.take 3 (some 6) (v := ?_) rfl rfl (by kernel_rfl) (by kernel_rfl) (by kernel_rfl) (by kernel_rfl) (fun _ _ _ h => h) (Or.inl ⟨by rfl, ?_⟩) (by assumption) ?_
  rotate_left
  · (intro w hSw; (try dsimp only at hSw); go_simp; try with_reducible rfl)
  try simp only [Act.put, List.setIfInBounds_toArray, List.set_cons_zero, List.set_cons_succ]
  refine Till.take 4 (some 7) (v := ?_) rfl rfl (by kernel_rfl) (by kernel_rfl) (by kernel_rfl) (by kernel_rfl) (fun _ _ _ h => h) (Or.inl ⟨by rfl, ?_⟩) (by assumption) ?_
  rotate_left
  · (intro w hSw; (try dsimp only at hSw); go_simp; try with_reducible rfl)
  try simp only [Act.put, List.setIfInBounds_toArray, List.set_cons_zero, List.set_cons_succ]
  refine Till.take 5 (some 8) (v := ?_) rfl rfl (by kernel_rfl) (by kernel_rfl) (by kernel_rfl) (by kernel_rfl) (fun _ _ _ h => h) (Or.inl ⟨by rfl, ?_⟩) (by assumption) ?_
  rotate_left
  · (intro w hSw; (try dsimp only at hSw); go_simp; try with_reducible rfl)
  try simp only [Act.put, List.setIfInBounds_toArray, List.set_cons_zero, List.set_cons_succ]
  refine Till.take 6 (some 9) (v := ?_) rfl rfl (by kernel_rfl) (by kernel_rfl) (by kernel_rfl) (by kernel_rfl) (fun _ _ _ h => h) (Or.inl ⟨by rfl, ?_⟩) (by assumption) ?_
  rotate_left
  · (intro w hSw; (try dsimp only at hSw); go_simp; try with_reducible rfl)
  try simp only [Act.put, List.setIfInBounds_toArray, List.set_cons_zero, List.set_cons_succ]
  refine Till.take 7 (some 10) (v := ?_) rfl rfl (by kernel_rfl) (by kernel_rfl) (by kernel_rfl) (by kernel_rfl) (fun _ _ _ h => h) (Or.inl ⟨by rfl, ?_⟩) (by assumption) ?_
  rotate_left
  · (intro w hSw; (try dsimp only at hSw); go_simp; try with_reducible rfl)
  try simp only [Act.put, List.setIfInBounds_toArray, List.set_cons_zero, List.set_cons_succ]
  refine Till.one 8 rfl (by kernel_rfl) (fun K hK => ?_)
  go_simp
  go_at_call 102
  refine (hmi _).mono ?_
  rintro e1 w1 ⟨rfl, hb1⟩
  have D1 := D0.trans (hb1.mono D0.size)
  refine hK.out _ _ (fun _ => hsv _ D1) (fun hHeld2 => ?_)
  clear hK K hmi
  try simp only [Act.put, List.setIfInBounds_toArray, List.set_cons_zero, List.set_cons_succ]
  have hh := hsv _ D1
  dsimp only at hh
  refine Till.take 9 (some 12) (v := ?_) rfl rfl (by kernel_rfl) (by kernel_rfl) (by kernel_rfl) (by kernel_rfl) (fun _ _ _ h => h) (Or.inl ⟨by rfl, ?_⟩) (by assumption) ?_
  rotate_left
  · (intro w hSw; (try dsimp only at hSw); go_simp; try with_reducible rfl)
  try simp only [Act.put, List.setIfInBounds_toArray, List.set_cons_zero, List.set_cons_succ]
  have hB1 := hB.below D1 lB
  have c0 := hB1.cell 0 _ rfl
  have c1 := hB1.cell 1 _ rfl
  have f0 := hB1.frozen 0
  have f1 := hB1.frozen 1
  have hb' := hA.trans (D1.mono hA.size)
  have HF : Hid (Blk ((w1.setCell ⟨w.heap.size + 1, 0, none⟩ (.int .i64 (x.hi - y.hi))).setCell ⟨w.heap.size + 1, 1, none⟩ (.int .i64 (y.lo - x.lo))) (w.heap.size + 1) #[.int .i64 (x.hi - y.hi), .int .i64 (y.lo - x.lo)] 96) := Lib.hid (by
    have := (hB1.set 0 (.int .i64 (x.hi - y.hi))).set 1 (.int .i64 (y.lo - x.lo))
    simpa using this)
  have HB := Lib.hid ((hb'.setCell (p := ⟨w.heap.size + 1, 0, none⟩) (by simp) (.int .i64 (x.hi - y.hi))).setCell (p := ⟨w.heap.size + 1, 1, none⟩) (by simp) (.int .i64 (y.lo - x.lo)))
  clear hh hHeld hHeld2 D0 D1 hX hB hB1 hA hb' hsv x0 x1 x2 x3 hb1
  refine Till.one 10 rfl (by kernel_rfl) (fun K hK => ?_)
  go_simp
  refine hK.out _ _ (fun h => absurd rfl h) (fun _ => ?_)
  clear hK K
  refine Till.done (by kernel_rfl) ?_ _
  go_wp2
  have r0 := HF.out.cell 0 _ rfl
  have r1 := HF.out.cell 1 _ rfl
  refine ⟨rfl, .agg #[.int .i64 (x.hi - y.hi), .int .i64 (y.lo - x.lo)], ?_, rfl, HB.out⟩
  simp only [List.getElem_toArray, List.getElem_cons_zero, List.getElem_cons_succ] at r0 r1
  simp [results, Tryz.results87, go_sem, r0, r1]

set_option maxRecDepth 100000 in
theorem exceeds_any (a b c d : Int) (w : World) (h1 : I64 (a * d)) (h2 : I64 (c * b)) :
    Calls Tryz.prog 88 #[.agg #[.int .i64 a, .int .i64 b], .agg #[.int .i64 c, .int .i64 d]] w fun e w' => e = .returned (.bool (decide (c * b < a * d))) ∧ Below w.heap.size w w' := by
  have hA : Below w.heap.size w ((w.alloc (.cells #[.int .i64 a, .int .i64 b] 96)).alloc (.cells #[.int .i64 c, .int .i64 d] 96)) := (below_boxS w _).alloc (by simp) _
  have q1 := wrap_id _ h1
  have q2 := wrap_id _ h2
  go_enter Tryz.func88, Tryz.ntmps88
  go_wp2
  go_ret
  exact ⟨by rw [q1, q2]; rfl, hA⟩

/-- what a piece is hot, of its two knees. -/
def heldQ (x y : Sp) (t : Int) : Int := if t ≤ min x.hi y.hi then y.lo - x.lo else if max x.hi y.hi < t then 0 else (y.lo - x.lo) * (max x.hi y.hi - t) / (max x.hi y.hi - min x.hi y.hi)
theorem heldQ_eq (ks : List Sp) (t : Int) (i : Nat) : heldQ (kn ks i) (kn ks (i + 1)) t = heldP ks t i := rfl

structure POk (x y : Sp) : Prop where
  m1 : 1 ≤ y.lo - x.lo
  m2 : y.lo - x.lo ≤ 2000
  a1 : 0 ≤ x.hi
  a2 : x.hi ≤ 10000
  b1 : 0 ≤ y.hi
  b2 : y.hi ≤ 10000
  c1 : 0 ≤ x.lo
  c2 : x.lo ≤ 2000
  d1 : 0 ≤ y.lo
  d2 : y.lo ≤ 2000
theorem pOk_of {ks : List Sp} {i : Nat} (h : PieceOk ks i) : POk (kn ks i) (kn ks (i + 1)) := ⟨h.m1, h.m2, h.a1, h.a2, h.b1, h.b2, h.c1, h.c2, h.d1, h.d2⟩

set_option maxHeartbeats 1000000 in
set_option maxRecDepth 100000 in
theorem pheld_any (x y : Sp) (t : Int) (w : World) (h : POk x y) (ht : 0 ≤ t ∧ t ≤ 10000) :
    Calls Tryz.prog 89 #[.agg #[.int .i64 x.lo, .int .i64 x.hi, .int .i64 y.lo, .int .i64 y.hi], .int .i64 t] w fun e w' => e = .returned (.int .i64 (heldQ x y t)) ∧ Below w.heap.size w w' := by
  have hA := below_boxS w (.cells #[.int .i64 x.lo, .int .i64 x.hi, .int .i64 y.lo, .int .i64 y.hi] 128)
  have hX := Blk.new w #[.int .i64 x.lo, .int .i64 x.hi, .int .i64 y.lo, .int .i64 y.hi] 128
  obtain ⟨m1, m2, a1, a2, b1, b2, -, -, -, -⟩ := h
  have hmi := fun V => minutes_any x y V (by unfold I64; omega)
  obtain ⟨Q, hQ⟩ : ∃ Q, heldQ x y t = Q := ⟨_, rfl⟩
  rw [hQ]
  unfold heldQ at hQ
  have HQ := Lib.hid hQ
  clear hQ
  have hmn : min x.hi y.hi ≤ max x.hi y.hi := by omega
  have hb3 : 0 ≤ min x.hi y.hi ∧ max x.hi y.hi ≤ 10000 := by omega
  go_enter Tryz.func89, Tryz.ntmps89
  go_wp2_with fail
  generalize w.alloc (.cells #[.int .i64 x.lo, .int .i64 x.hi, .int .i64 y.lo, .int .i64 y.hi] 128) = W at *
  have x0 := hX.cell 0 _ rfl
  have x1 := hX.cell 1 _ rfl
  have x2 := hX.cell 2 _ rfl
  have x3 := hX.cell 3 _ rfl
  have D0 : Below W.heap.size W W.drew := (Below.refl _ _).drew
  have hsv : ∀ V, Below W.heap.size W V → (fun w' : World => w'.cell? ⟨w.heap.size, 0, none⟩ = some (.int .i64 x.lo) ∧ w'.cell? ⟨w.heap.size, 1, none⟩ = some (.int .i64 x.hi) ∧ w'.cell? ⟨w.heap.size, 2, none⟩ = some (.int .i64 y.lo) ∧ w'.cell? ⟨w.heap.size, 3, none⟩ = some (.int .i64 y.hi)) V := fun V hV => ⟨ext_of_below hV _ _ x0, ext_of_below hV _ _ x1, ext_of_below hV _ _ x2, ext_of_below hV _ _ x3⟩
  refine wp_region_till (fun w' : World => w'.cell? ⟨w.heap.size, 0, none⟩ = some (.int .i64 x.lo) ∧ w'.cell? ⟨w.heap.size, 1, none⟩ = some (.int .i64 x.hi) ∧ w'.cell? ⟨w.heap.size, 2, none⟩ = some (.int .i64 y.lo) ∧ w'.cell? ⟨w.heap.size, 3, none⟩ = some (.int .i64 y.hi)) 99 (by kernel_rfl) (hsv _ D0) (fun hHeld => ?_)
  refine Till.take 0 (some 7) (v := ?_) rfl rfl (by kernel_rfl) (by kernel_rfl) (by kernel_rfl) (by kernel_rfl) (fun _ _ _ h => h) (Or.inl ⟨by rfl, ?_⟩) (by assumption) ?_
  rotate_left
  · (intro w hSw; (try dsimp only at hSw); go_simp; try with_reducible rfl)
  try simp only [Act.put, List.setIfInBounds_toArray, List.set_cons_zero, List.set_cons_succ]
  refine Till.take 1 (some 8) (v := ?_) rfl rfl (by kernel_rfl) (by kernel_rfl) (by kernel_rfl) (by kernel_rfl) (fun _ _ _ h => h) (Or.inl ⟨by rfl, ?_⟩) (by assumption) ?_
  rotate_left
  · (intro w hSw; (try dsimp only at hSw); go_simp; try with_reducible rfl)
  try simp only [Act.put, List.setIfInBounds_toArray, List.set_cons_zero, List.set_cons_succ]
  refine Till.take 2 (some 9) (v := ?_) rfl rfl (by kernel_rfl) (by kernel_rfl) (by kernel_rfl) (by kernel_rfl) (fun _ _ _ h => h) (Or.inl ⟨by rfl, ?_⟩) (by assumption) ?_
  rotate_left
  · (intro w hSw; (try dsimp only at hSw); go_simp; try with_reducible rfl)
  try simp only [Act.put, List.setIfInBounds_toArray, List.set_cons_zero, List.set_cons_succ]
  refine Till.take 3 (some 10) (v := ?_) rfl rfl (by kernel_rfl) (by kernel_rfl) (by kernel_rfl) (by kernel_rfl) (fun _ _ _ h => h) (Or.inl ⟨by rfl, ?_⟩) (by assumption) ?_
  rotate_left
  · (intro w hSw; (try dsimp only at hSw); go_simp; try with_reducible rfl)
  try simp only [Act.put, List.setIfInBounds_toArray, List.set_cons_zero, List.set_cons_succ]
  refine Till.take 4 (some 11) (v := ?_) rfl rfl (by kernel_rfl) (by kernel_rfl) (by kernel_rfl) (by kernel_rfl) (fun _ _ _ h => h) (Or.inl ⟨by rfl, ?_⟩) (by assumption) ?_
  rotate_left
  · (intro w hSw; (try dsimp only at hSw); go_simp; try with_reducible rfl)
  try simp only [Act.put, List.setIfInBounds_toArray, List.set_cons_zero, List.set_cons_succ]
  refine Till.take 5 (some 12) (v := ?_) rfl rfl (by kernel_rfl) (by kernel_rfl) (by kernel_rfl) (by kernel_rfl) (fun _ _ _ h => h) (Or.inl ⟨by rfl, ?_⟩) (by assumption) ?_
  rotate_left
  · (intro w hSw; (try dsimp only at hSw); go_simp; try with_reducible rfl)
  try simp only [Act.put, List.setIfInBounds_toArray, List.set_cons_zero, List.set_cons_succ]
  refine Till.take 6 (some 13) (v := ?_) rfl rfl (by kernel_rfl) (by kernel_rfl) (by kernel_rfl) (by kernel_rfl) (fun _ _ _ h => h) (Or.inl ⟨by rfl, ?_⟩) (by assumption) ?_
  rotate_left
  · (intro w hSw; (try dsimp only at hSw); go_simp; try with_reducible rfl)
  try simp only [Act.put, List.setIfInBounds_toArray, List.set_cons_zero, List.set_cons_succ]
  refine Till.take 7 (some 14) (v := ?_) rfl rfl (by kernel_rfl) (by kernel_rfl) (by kernel_rfl) (by kernel_rfl) (fun _ _ _ h => h) (Or.inl ⟨by rfl, ?_⟩) (by assumption) ?_
  rotate_left
  · (intro w hSw; (try dsimp only at hSw); go_simp; try with_reducible rfl)
  try simp only [Act.put, List.setIfInBounds_toArray, List.set_cons_zero, List.set_cons_succ]
  refine Till.take 8 (some 15) (v := ?_) rfl rfl (by kernel_rfl) (by kernel_rfl) (by kernel_rfl) (by kernel_rfl) (fun _ _ _ h => h) (Or.inl ⟨by rfl, ?_⟩) (by assumption) ?_
  rotate_left
  · (intro w hSw; (try dsimp only at hSw); go_simp; try with_reducible rfl)
  try simp only [Act.put, List.setIfInBounds_toArray, List.set_cons_zero, List.set_cons_succ]
  refine Till.take 9 (some 16) (v := ?_) rfl rfl (by kernel_rfl) (by kernel_rfl) (by kernel_rfl) (by kernel_rfl) (fun _ _ _ h => h) (Or.inl ⟨by rfl, ?_⟩) (by assumption) ?_
  rotate_left
  · (intro w hSw; (try dsimp only at hSw); go_simp; try with_reducible rfl)
  try simp only [Act.put, List.setIfInBounds_toArray, List.set_cons_zero, List.set_cons_succ]
  refine Till.take 10 (some 17) (v := ?_) rfl rfl (by kernel_rfl) (by kernel_rfl) (by kernel_rfl) (by kernel_rfl) (fun _ _ _ h => h) (Or.inl ⟨by rfl, ?_⟩) (by assumption) ?_
  rotate_left
  · (intro w hSw; (try dsimp only at hSw); go_simp; try with_reducible rfl)
  try simp only [Act.put, List.setIfInBounds_toArray, List.set_cons_zero, List.set_cons_succ]
  refine Till.take 11 (some 18) (v := ?_) rfl rfl (by kernel_rfl) (by kernel_rfl) (by kernel_rfl) (by kernel_rfl) (fun _ _ _ h => h) (Or.inl ⟨by rfl, ?_⟩) (by assumption) ?_
  rotate_left
  · (intro w hSw; (try dsimp only at hSw); go_simp; try with_reducible rfl)
  try simp only [Act.put, List.setIfInBounds_toArray, List.set_cons_zero, List.set_cons_succ]
  refine Till.take 12 (some 19) (v := ?_) rfl rfl (by kernel_rfl) (by kernel_rfl) (by kernel_rfl) (by kernel_rfl) (fun _ _ _ h => h) (Or.inl ⟨by rfl, ?_⟩) (by assumption) ?_
  rotate_left
  · (intro w hSw; (try dsimp only at hSw); go_simp; try with_reducible rfl)
  try simp only [Act.put, List.setIfInBounds_toArray, List.set_cons_zero, List.set_cons_succ]
  refine Till.take 13 (some 20) (v := ?_) rfl rfl (by kernel_rfl) (by kernel_rfl) (by kernel_rfl) (by kernel_rfl) (fun _ _ _ h => h) (Or.inl ⟨by rfl, ?_⟩) (by assumption) ?_
  rotate_left
  · (intro w hSw; (try dsimp only at hSw); go_simp; try with_reducible rfl)
  try simp only [Act.put, List.setIfInBounds_toArray, List.set_cons_zero, List.set_cons_succ]
  refine Till.take 14 (some 5) (v := ?_) rfl rfl (by kernel_rfl) (by kernel_rfl) (by kernel_rfl) (by kernel_rfl) (fun _ _ _ h => h) (Or.inl ⟨by rfl, ?_⟩) (by assumption) ?_
  rotate_left
  · (intro w hSw; (try dsimp only at hSw); go_simp; try with_reducible rfl)
  try simp only [Act.put, List.setIfInBounds_toArray, List.set_cons_zero, List.set_cons_succ]
  refine Till.take 15 (some 6) (v := ?_) rfl rfl (by kernel_rfl) (by kernel_rfl) (by kernel_rfl) (by kernel_rfl) (fun _ _ _ h => h) (Or.inl ⟨by rfl, ?_⟩) (by assumption) ?_
  rotate_left
  · (intro w hSw; (try dsimp only at hSw); go_simp; try with_reducible rfl)
  try simp only [Act.put, List.setIfInBounds_toArray, List.set_cons_zero, List.set_cons_succ]
  refine Till.done (by kernel_rfl) ?_ _
  clear hHeld
  have he1 : (if y.hi < x.hi then y.hi else x.hi) = min x.hi y.hi := by split <;> omega
  have he2 : (if x.hi < y.hi then y.hi else x.hi) = max x.hi y.hi := by split <;> omega
  simp only [he1, he2]
  clear he1 he2
  generalize min x.hi y.hi = lo at *
  generalize max x.hi y.hi = hi at *
  by_cases h1 : t ≤ lo
  · have hR := HQ.out
    rw [if_pos h1] at hR
    have HR := Lib.hid hR
    clear hR HQ
    have g1 := decide_eq_true h1
    go_wp2_with fail
    refine (hmi _).mono ?_
    rintro e w1 ⟨rfl, hb1⟩
    have hb := hA.trans ((D0.trans (hb1.mono D0.size)).mono hA.size)
    clear hb1 D0 hsv hA hX x0 x1 x2 x3
    go_wp2
    go_ret
    exact ⟨ret_int HR.out, hb⟩
  by_cases h2 : hi < t
  · have hR := HQ.out
    rw [if_neg h1, if_pos h2] at hR
    have HR := Lib.hid hR
    clear hR HQ
    have hb := hA.trans (D0.mono hA.size)
    have g1 := decide_eq_false h1
    have g2 := decide_eq_true h2
    clear D0 hsv hA hX x0 x1 x2 x3
    go_wp2
    go_ret
    exact ⟨ret_int HR.out, hb⟩
  · have hR := HQ.out
    rw [if_neg h1, if_neg h2] at hR
    have HR := Lib.hid hR
    clear hR HQ
    have g1 := decide_eq_false h1
    have g2 := decide_eq_false h2
    have b0 := mulB (a := y.lo - x.lo) (b := hi - t) (A := 2000) (B := 10000) (by omega) (by omega)
    have q1 := wrap_id (hi - t) (by unfold I64; omega)
    have q2 := wrap_id (hi - lo) (by unfold I64; omega)
    have q3 := wrap_id ((y.lo - x.lo) * (hi - t)) (by unfold I64; omega)
    have hdn := fun V => down_any ((y.lo - x.lo) * (hi - t)) (hi - lo) V (by omega) (by omega)
    go_wp2_with fail
    refine (hmi _).mono ?_
    rintro e w1 ⟨rfl, hb1⟩
    have D1 := D0.trans (hb1.mono D0.size)
    have hb := hA.trans (D1.mono hA.size)
    clear hb1 D0 hsv hA hX x0 x1 x2 x3
    go_wp2_with fail
    refine (hdn _).mono ?_
    rintro e w2 ⟨rfl, hb2⟩
    have hb' := hb.trans (hb2.mono hb.size)
    clear hb hb2 D1
    go_wp2
    go_ret
    exact ⟨ret_int HR.out, hb'⟩

end Go.Proofs.YtaldpalhckdcdaaGreatDoor
