/- The specification's Thickness; no statement is proved here. -/
import Derived.Test.YtmmlocjiegkjeaaDoorSRef
import Derived.Test.YtmmlocjiegkjeaaDoorSOwn
import Derived.Test.YtmmlocjiegkjeaaDoorTill
namespace Go.Proofs.YtmmlocjiegkjeaaDoor
open Go.RowKit Go.PlainAid
set_option linter.unusedVariables false

theorem rsps_nil' (w : World) : RSps w (.slice none 0 0) [] := ⟨none, 0, rfl, Nat.le_refl _, ⟨by omega, by simp⟩, fun i hi => by simp at hi⟩

set_option maxHeartbeats 4000000 in
set_option maxRecDepth 100000 in
theorem rthick_any (vb : Value) (b : Bot) (s : Sp) (w : World) (h : RBot w vb b) :
    Calls Tryd.prog 32 #[vb, .agg #[.int .i64 s.lo, .int .i64 s.hi]] w fun e w' => ∃ v, e = .returned (.tuple #[v, .int .i64 (thickS b s).2]) ∧ RSps (vis (w.heap.size ≤ ·) w') v (thickS b s).1 ∧ Below w.heap.size w w' := by
  have h0 := h
  obtain ⟨v0, rfl, hr, i1, i2⟩ := h
  obtain ⟨a, cap, rfl, hc1, ⟨hc2, hm⟩, hl⟩ := hr
  have hA : Below w.heap.size w ((w.alloc (.cells #[.slice a b.rings.length cap, .int .i64 b.flaw, .int .i64 b.tough] 47)).alloc (.cells #[.int .i64 s.lo, .int .i64 s.hi] 29)) := (below_boxS w _).alloc (by simp) _
  have hB := (Blk.new w #[.slice a b.rings.length cap, .int .i64 b.flaw, .int .i64 b.tough] 47).alloc (.cells #[.int .i64 s.lo, .int .i64 s.hi] 29)
  have hS := Blk.new (w.alloc (.cells #[.slice a b.rings.length cap, .int .i64 b.flaw, .int .i64 b.tough] 47)) #[.int .i64 s.lo, .int .i64 s.hi] 29
  rw [World.size_alloc] at hS
  have hA0 : Ext w ((w.alloc (.cells #[.slice a b.rings.length cap, .int .i64 b.flaw, .int .i64 b.tough] 47)).alloc (.cells #[.int .i64 s.lo, .int .i64 s.hi] 29)) := ext_of_below hA
  have hck := rcheck5_any _ b ((w.alloc (.cells #[.slice a b.rings.length cap, .int .i64 b.flaw, .int .i64 b.tough] 47)).alloc (.cells #[.int .i64 s.lo, .int .i64 s.hi] 29)) (h0.mono hA0)
  go_enter Tryd.func32, Tryd.ntmps32
  go_wp2_with fail
  generalize (w.alloc (.cells #[.slice a b.rings.length cap, .int .i64 b.flaw, .int .i64 b.tough] 47)).alloc (.cells #[.int .i64 s.lo, .int .i64 s.hi] 29) = W2 at *
  refine hck.mono ?_
  rintro e w1 ⟨rfl, hb1⟩
  have hA1 := hA.trans (hb1.mono hA.size)
  have hB1 := hB.below hb1 hB.lt
  have hS1 := hS.below hb1 hS.lt
  by_cases hc : checkS b = 0
  case neg =>
    have hq : (checkS b != 0) = true := by rw [bne_iff_ne]; exact hc
    have HT := Lib.hid (show thickS b s = ([], checkS b) by simp [thickS, hc])
    clear hc hck hB hS hB1 hS1 hl hb1
    go_wp2
    go_ret2
    exact ⟨_, by rw [HT.out]; rfl, by rw [HT.out]; exact rsps_nil' _, hA1⟩
  have hq : (checkS b != 0) = false := by rw [hc]; rfl
  have d0 := hS1.cell 0 _ rfl
  have d1 := hS1.cell 1 _ rfl
  have HC := Lib.hid hc
  clear hc hck hB hS hb1 hA
  go_wp2_with fail
  refine (rwithin_any s 1 100000 _).mono ?_
  rintro e w2 ⟨rfl, hb2⟩
  have hA2 := hA1.trans (hb2.mono hA1.size)
  have hB2 := hB1.below hb2 hB1.lt
  have hS2 := hS1.below hb2 hS1.lt
  clear hA1 hB1 hS1 d0 d1 hb2
  cases hw : wi s 1 100000 with
  | false =>
    have HT := Lib.hid (show thickS b s = ([], 1) by simp [thickS, HC.out, hw])
    clear hl
    go_wp2
    go_ret2
    exact ⟨_, by rw [HT.out]; rfl, by rw [HT.out]; exact rsps_nil' _, hA2⟩
  | true =>
  have HW := Lib.hid hw
  have HT := Lib.hid (show thickS b s = (thickL b s, 0) by simp [thickS, HC.out, hw])
  have hok := okS_of HC.out
  have hmo := hok.most
  have hOkw : OkW s := by
    obtain ⟨q1, q2, q3⟩ := wi_true.1 hw
    exact ⟨q1, q2, q3⟩
  have hlen : (thickL b s).length = b.rings.length := by simp [thickL]
  have HL := Lib.hid hlen
  clear hw hlen
  go_wp2_with fail
  clear hq
  go_loopw [7, 8] (fun v i wr => ∃ (k : Nat) (l : List Sp), k ≤ b.rings.length ∧ i = .int .i64 k ∧ Hid (l = (thickL b s).take k) ∧ wr.ownsRow w2.heap.size 29 2 v l.length (l.flatMap spCells) ∧ Below w2.heap.size w2 wr) (fun _ i _ => b.rings.length - (intOf i).toNat)
  case atStart => exact ⟨0, [], Nat.zero_le _, rfl, rfl, World.ownsRow_nil _ _ _ _, Below.refl _ _⟩
  case round =>
    obtain ⟨k, l, hk, rfl, hlt, hown, hb⟩ := hrel
    have hBr := hB2.below hb hB2.lt
    have hSr := hS2.below hb hS2.lt
    have c0 := hBr.cell 0 _ rfl
    by_cases hkl : k < b.rings.length
    · obtain ⟨b1, o1, rfl, hcr, hir⟩ := hl k hkl
      have hkL : k < (thickL b s).length := by rw [HL.out]; exact hkl
      have hLk : (thickL b s)[k] = thickR b.rings[k] s := by simp [thickL]
      have hOkr := hok.rings k hkl
      have hllen : l.length = k := by rw [hlt.out, List.length_take, HL.out]; omega
      have hnx : l ++ [thickR b.rings[k] s] = (thickL b s).take (k + 1) := by rw [hlt.out, List.take_succ_eq_append_getElem hkL, hLk]
      have hTb := thickR_bd hOkr hOkw
      have hdef1 : (thickR b.rings[k] s).lo = (200 * s.lo * b.rings[k].share.lo * 113) / (b.rings[k].radius.hi * b.rings[k].height.hi * 355) := rfl
      have hdef2 : (thickR b.rings[k] s).hi = (200 * s.hi * b.rings[k].share.hi * 106 + b.rings[k].radius.lo * b.rings[k].height.lo * 333 - 1) / (b.rings[k].radius.lo * b.rings[k].height.lo * 333) := rfl
      generalize b.rings[k] = r at *
      generalize thickR r s = T at *
      have hx : ∀ j, j < 10 → wr.cell? ⟨b1, o1 + k * 10 + j, none⟩ = (rgCells r)[j]? := fun j hj => by
        have hj' : j < (rgCells r).length := hj
        rw [List.getElem?_eq_getElem hj']
        exact ext_of_below hb _ _ (ext_of_below hA2 _ _ (hcr j _ (List.getElem?_eq_getElem hj')))
      have x0 := hx 0 (by omega)
      have x1 := hx 1 (by omega)
      have x2 := hx 2 (by omega)
      have x3 := hx 3 (by omega)
      have x4 := hx 4 (by omega)
      have x5 := hx 5 (by omega)
      have x6 := hx 6 (by omega)
      have x7 := hx 7 (by omega)
      have x8 := hx 8 (by omega)
      have x9 := hx 9 (by omega)
      have i3 : (0 : Int) ≤ (k : Int) := Int.natCast_nonneg _
      have i4 : (k : Int) < (b.rings.length : Int) := by omega
      simp only [rgCells, Nat.add_zero, List.getElem?_cons_zero, List.getElem?_cons_succ] at x0 x1 x2 x3 x4 x5 x6 x7 x8 x9
      have hX := Blk.new wr #[.int .i64 r.radius.lo, .int .i64 r.radius.hi, .int .i64 r.height.lo, .int .i64 r.height.hi, .int .i64 r.share.lo, .int .i64 r.share.hi, .int .i64 r.factor.lo, .int .i64 r.factor.hi, .int .i64 r.hit.lo, .int .i64 r.hit.hi] 115
      have hbX : Below w2.heap.size w2 (wr.alloc (.cells #[.int .i64 r.radius.lo, .int .i64 r.radius.hi, .int .i64 r.height.lo, .int .i64 r.height.hi, .int .i64 r.share.lo, .int .i64 r.share.hi, .int .i64 r.factor.lo, .int .i64 r.factor.hi, .int .i64 r.hit.lo, .int .i64 r.hit.hi] 115)) := hb.alloc hb.size _
      have hownX := hown.alloc (.cells #[.int .i64 r.radius.lo, .int .i64 r.radius.hi, .int .i64 r.height.lo, .int .i64 r.height.hi, .int .i64 r.share.lo, .int .i64 r.share.hi, .int .i64 r.factor.lo, .int .i64 r.factor.hi, .int .i64 r.hit.lo, .int .i64 r.hit.hi] 115)
      have hSX := hSr.alloc (.cells #[.int .i64 r.radius.lo, .int .i64 r.radius.hi, .int .i64 r.height.lo, .int .i64 r.height.hi, .int .i64 r.share.lo, .int .i64 r.share.hi, .int .i64 r.factor.lo, .int .i64 r.factor.hi, .int .i64 r.hit.lo, .int .i64 r.hit.hi] 115)
      obtain ⟨b1', b2', b3', b4', b5', b6'⟩ := thick_bd hOkr hOkw
      have HLL := Lib.hid hllen
      have HNX := Lib.hid hnx
      have HD1 := Lib.hid hdef1
      have HD2 := Lib.hid hdef2
      have HLt := Lib.hid hl
      have hwl := own_lt hown
      have hwb : ∀ g, u7.ownBlock = some g → w2.heap.size ≤ g := fun g hg => (hown.lt g hg).1
      have hn1 : u7.ownBlock ≠ some wr.heap.size := fun e => by have := hwl _ e; omega
      have hn2 : u7.ownBlock ≠ some (w.heap.size + 1) := fun e => by have := hwb _ e; have := hS2.lt; omega
      clear hl hcr hx hir hllen hnx hdef1 hdef2 hLk hb hown hBr hSr hkL
      go_wp2_with fail
      generalize wr.alloc (.cells #[.int .i64 r.radius.lo, .int .i64 r.radius.hi, .int .i64 r.height.lo, .int .i64 r.height.hi, .int .i64 r.share.lo, .int .i64 r.share.hi, .int .i64 r.factor.lo, .int .i64 r.factor.hi, .int .i64 r.hit.lo, .int .i64 r.hit.hi] 115) = V0 at *
      have qR := hOkr.radius
      have qH := hOkr.height
      have e1 : 355 * r.radius.hi * r.height.hi = r.radius.hi * r.height.hi * 355 := by rw [Int.mul_assoc, Int.mul_comm]
      have e2 : 333 * r.radius.lo * r.height.lo = r.radius.lo * r.height.lo * 333 := by rw [Int.mul_assoc, Int.mul_comm]
      have q1 : IntKind.i64.wrap (200 * s.lo) = 200 * s.lo := (IntWalk.i64_left _).trans (wrap_id (200 * s.lo) (by unfold I64; omega))
      have q2 : IntKind.i64.wrap (200 * s.lo * r.share.lo) = 200 * s.lo * r.share.lo := (IntWalk.i64_left _).trans (wrap_id (200 * s.lo * r.share.lo) (by unfold I64; omega))
      have q3 : IntKind.i64.wrap (200 * s.lo * r.share.lo * 113) = 200 * s.lo * r.share.lo * 113 := (IntWalk.i64_left _).trans (wrap_id (200 * s.lo * r.share.lo * 113) (by unfold I64; omega))
      have q4 : IntKind.i64.wrap (355 * r.radius.hi) = 355 * r.radius.hi := (IntWalk.i64_left _).trans (wrap_id (355 * r.radius.hi) (by unfold I64; omega))
      have q5 : IntKind.i64.wrap (355 * r.radius.hi * r.height.hi) = r.radius.hi * r.height.hi * 355 := by rw [IntWalk.i64_left, e1]; exact wrap_id _ (by unfold I64; omega)
      have q6 : IntKind.i64.wrap (200 * s.hi) = 200 * s.hi := (IntWalk.i64_left _).trans (wrap_id (200 * s.hi) (by unfold I64; omega))
      have q7 : IntKind.i64.wrap (200 * s.hi * r.share.hi) = 200 * s.hi * r.share.hi := (IntWalk.i64_left _).trans (wrap_id (200 * s.hi * r.share.hi) (by unfold I64; omega))
      have q8 : IntKind.i64.wrap (200 * s.hi * r.share.hi * 106) = 200 * s.hi * r.share.hi * 106 := (IntWalk.i64_left _).trans (wrap_id (200 * s.hi * r.share.hi * 106) (by unfold I64; omega))
      have q9 : IntKind.i64.wrap (333 * r.radius.lo) = 333 * r.radius.lo := (IntWalk.i64_left _).trans (wrap_id (333 * r.radius.lo) (by unfold I64; omega))
      have q10 : IntKind.i64.wrap (333 * r.radius.lo * r.height.lo) = r.radius.lo * r.height.lo * 333 := by rw [IntWalk.i64_left, e2]; exact wrap_id _ (by unfold I64; omega)
      have hdn := fun V => rdown_any (200 * s.lo * r.share.lo * 113) (r.radius.hi * r.height.hi * 355) V (by omega) (by omega)
      have hup := fun V => rup_any (200 * s.hi * r.share.hi * 106) (r.radius.lo * r.height.lo * 333) V (by omega) (by omega)
      rw [← HD1.out] at hdn
      rw [← HD2.out] at hup
      have HB := Lib.hid hbX
      have HO := Lib.hid hownX
      have hsX := hSX.lt
      have hxl := hX.lt
      clear e1 e2 qR qH b1' b2' b3' b4' b5' b6' hOkr x0 x1 x2 x3 x4 x5 x6 x7 x8 x9 hbX hownX c0
      have g0 := hX.cell 0 _ rfl
      have g1 := hX.cell 1 _ rfl
      have g2 := hX.cell 2 _ rfl
      have g3 := hX.cell 3 _ rfl
      have g4 := hX.cell 4 _ rfl
      have g5 := hX.cell 5 _ rfl
      have g6 := hSX.cell 0 _ rfl
      have g7 := hSX.cell 1 _ rfl
      simp only [List.getElem_toArray, List.getElem_cons_zero, List.getElem_cons_succ] at g0 g1 g2 g3 g4 g5 g6 g7
      have HSV : Hid (∀ V, Below V0.heap.size V0 V → (fun w' : World => w'.cell? ⟨wr.heap.size, 0, none⟩ = some (.int .i64 r.radius.lo) ∧ w'.cell? ⟨wr.heap.size, 1, none⟩ = some (.int .i64 r.radius.hi) ∧ w'.cell? ⟨wr.heap.size, 2, none⟩ = some (.int .i64 r.height.lo) ∧ w'.cell? ⟨wr.heap.size, 3, none⟩ = some (.int .i64 r.height.hi) ∧ w'.cell? ⟨wr.heap.size, 4, none⟩ = some (.int .i64 r.share.lo) ∧ w'.cell? ⟨wr.heap.size, 5, none⟩ = some (.int .i64 r.share.hi) ∧ w'.cell? ⟨w.heap.size + 1, 0, none⟩ = some (.int .i64 s.lo) ∧ w'.cell? ⟨w.heap.size + 1, 1, none⟩ = some (.int .i64 s.hi)) V) := Lib.hid (fun V hV => ⟨ext_of_below hV _ _ g0, ext_of_below hV _ _ g1, ext_of_below hV _ _ g2, ext_of_below hV _ _ g3, ext_of_below hV _ _ g4, ext_of_below hV _ _ g5, ext_of_below hV _ _ g6, ext_of_below hV _ _ g7⟩)
      have HD : Hid (Below V0.heap.size V0 (V0.alloc (.cells #[.int .i64 T.lo, .int .i64 T.hi] 29)).drew) := Lib.hid ((below_boxS V0 _).drew)
      refine wp_region_till (fun w' : World => w'.cell? ⟨wr.heap.size, 0, none⟩ = some (.int .i64 r.radius.lo) ∧ w'.cell? ⟨wr.heap.size, 1, none⟩ = some (.int .i64 r.radius.hi) ∧ w'.cell? ⟨wr.heap.size, 2, none⟩ = some (.int .i64 r.height.lo) ∧ w'.cell? ⟨wr.heap.size, 3, none⟩ = some (.int .i64 r.height.hi) ∧ w'.cell? ⟨wr.heap.size, 4, none⟩ = some (.int .i64 r.share.lo) ∧ w'.cell? ⟨wr.heap.size, 5, none⟩ = some (.int .i64 r.share.hi) ∧ w'.cell? ⟨w.heap.size + 1, 0, none⟩ = some (.int .i64 s.lo) ∧ w'.cell? ⟨w.heap.size + 1, 1, none⟩ = some (.int .i64 s.hi)) 99 (by kernel_rfl) ⟨g0, g1, g2, g3, g4, g5, g6, g7⟩ (fun hHeld => ?_)
      refine Till.take 0 (some 30) (v := ?_) rfl rfl (by kernel_rfl) (by kernel_rfl) (by kernel_rfl) (by kernel_rfl) (fun _ _ _ h => h) (Or.inl ⟨by rfl, ?_⟩) (by assumption) ?_
      rotate_left
      · (intro w hSw; (try dsimp only at hSw); go_simp; try with_reducible rfl)
      try simp only [Act.put, List.setIfInBounds_toArray, List.set_cons_zero, List.set_cons_succ]
      refine Till.take 1 (some 31) (v := ?_) rfl rfl (by kernel_rfl) (by kernel_rfl) (by kernel_rfl) (by kernel_rfl) (fun _ _ _ h => h) (Or.inl ⟨by rfl, ?_⟩) (by assumption) ?_
      rotate_left
      · (intro w hSw; (try dsimp only at hSw); go_simp; try with_reducible rfl)
      try simp only [Act.put, List.setIfInBounds_toArray, List.set_cons_zero, List.set_cons_succ]
      refine Till.take 2 (some 32) (v := ?_) rfl rfl (by kernel_rfl) (by kernel_rfl) (by kernel_rfl) (by kernel_rfl) (fun _ _ _ h => h) (Or.inl ⟨by rfl, ?_⟩) (by assumption) ?_
      rotate_left
      · (intro w hSw; (try dsimp only at hSw); go_simp; try with_reducible rfl)
      try simp only [Act.put, List.setIfInBounds_toArray, List.set_cons_zero, List.set_cons_succ]
      refine Till.take 3 (some 33) (v := ?_) rfl rfl (by kernel_rfl) (by kernel_rfl) (by kernel_rfl) (by kernel_rfl) (fun _ _ _ h => h) (Or.inl ⟨by rfl, ?_⟩) (by assumption) ?_
      rotate_left
      · (intro w hSw; (try dsimp only at hSw); go_simp; try with_reducible rfl)
      try simp only [Act.put, List.setIfInBounds_toArray, List.set_cons_zero, List.set_cons_succ]
      refine Till.take 4 (some 34) (v := ?_) rfl rfl (by kernel_rfl) (by kernel_rfl) (by kernel_rfl) (by kernel_rfl) (fun _ _ _ h => h) (Or.inl ⟨by rfl, ?_⟩) (by assumption) ?_
      rotate_left
      · (intro w hSw; (try dsimp only at hSw); go_simp; try with_reducible rfl)
      try simp only [Act.put, List.setIfInBounds_toArray, List.set_cons_zero, List.set_cons_succ]
      refine Till.take 5 (some 35) (v := ?_) rfl rfl (by kernel_rfl) (by kernel_rfl) (by kernel_rfl) (by kernel_rfl) (fun _ _ _ h => h) (Or.inl ⟨by rfl, ?_⟩) (by assumption) ?_
      rotate_left
      · (intro w hSw; (try dsimp only at hSw); go_simp; try with_reducible rfl)
      try simp only [Act.put, List.setIfInBounds_toArray, List.set_cons_zero, List.set_cons_succ]
      refine Till.take 6 (some 36) (v := ?_) rfl rfl (by kernel_rfl) (by kernel_rfl) (by kernel_rfl) (by kernel_rfl) (fun _ _ _ h => h) (Or.inl ⟨by rfl, ?_⟩) (by assumption) ?_
      rotate_left
      · (intro w hSw; (try dsimp only at hSw); go_simp; try with_reducible rfl)
      try simp only [Act.put, List.setIfInBounds_toArray, List.set_cons_zero, List.set_cons_succ]
      refine Till.take 7 (some 37) (v := ?_) rfl rfl (by kernel_rfl) (by kernel_rfl) (by kernel_rfl) (by kernel_rfl) (fun _ _ _ h => h) (Or.inl ⟨by rfl, ?_⟩) (by assumption) ?_
      rotate_left
      · (intro w hSw; (try dsimp only at hSw); go_simp; try with_reducible rfl)
      try simp only [Act.put, List.setIfInBounds_toArray, List.set_cons_zero, List.set_cons_succ]
      refine Till.take 8 (some 38) (v := ?_) rfl rfl (by kernel_rfl) (by kernel_rfl) (by kernel_rfl) (by kernel_rfl) (fun _ _ _ h => h) (Or.inl ⟨by rfl, ?_⟩) (by assumption) ?_
      rotate_left
      · (intro w hSw; (try dsimp only at hSw); go_simp; try with_reducible rfl)
      try simp only [Act.put, List.setIfInBounds_toArray, List.set_cons_zero, List.set_cons_succ]
      refine Till.take 9 (some 39) (v := ?_) rfl rfl (by kernel_rfl) (by kernel_rfl) (by kernel_rfl) (by kernel_rfl) (fun _ _ _ h => h) (Or.inl ⟨by rfl, ?_⟩) (by assumption) ?_
      rotate_left
      · (intro w hSw; (try dsimp only at hSw); go_simp; try with_reducible rfl)
      try simp only [Act.put, List.setIfInBounds_toArray, List.set_cons_zero, List.set_cons_succ]
      refine Till.take 10 (some 40) (v := ?_) rfl rfl (by kernel_rfl) (by kernel_rfl) (by kernel_rfl) (by kernel_rfl) (fun _ _ _ h => h) (Or.inl ⟨by rfl, ?_⟩) (by assumption) ?_
      rotate_left
      · (intro w hSw; (try dsimp only at hSw); go_simp; try with_reducible rfl)
      try simp only [Act.put, List.setIfInBounds_toArray, List.set_cons_zero, List.set_cons_succ]
      refine Till.take 11 (some 41) (v := ?_) rfl rfl (by kernel_rfl) (by kernel_rfl) (by kernel_rfl) (by kernel_rfl) (fun _ _ _ h => h) (Or.inl ⟨by rfl, ?_⟩) (by assumption) ?_
      rotate_left
      · (intro w hSw; (try dsimp only at hSw); go_simp; try with_reducible rfl)
      try simp only [Act.put, List.setIfInBounds_toArray, List.set_cons_zero, List.set_cons_succ]
      refine Till.take 12 (some 42) (v := ?_) rfl rfl (by kernel_rfl) (by kernel_rfl) (by kernel_rfl) (by kernel_rfl) (fun _ _ _ h => h) (Or.inl ⟨by rfl, ?_⟩) (by assumption) ?_
      rotate_left
      · (intro w hSw; (try dsimp only at hSw); go_simp; try with_reducible rfl)
      try simp only [Act.put, List.setIfInBounds_toArray, List.set_cons_zero, List.set_cons_succ]
      refine Till.take 13 (some 43) (v := ?_) rfl rfl (by kernel_rfl) (by kernel_rfl) (by kernel_rfl) (by kernel_rfl) (fun _ _ _ h => h) (Or.inl ⟨by rfl, ?_⟩) (by assumption) ?_
      rotate_left
      · (intro w hSw; (try dsimp only at hSw); go_simp; try with_reducible rfl)
      try simp only [Act.put, List.setIfInBounds_toArray, List.set_cons_zero, List.set_cons_succ]
      refine Till.take 14 (some 44) (v := ?_) rfl rfl (by kernel_rfl) (by kernel_rfl) (by kernel_rfl) (by kernel_rfl) (fun _ _ _ h => h) (Or.inl ⟨by rfl, ?_⟩) (by assumption) ?_
      rotate_left
      · (intro w hSw; (try dsimp only at hSw); go_simp; try with_reducible rfl)
      try simp only [Act.put, List.setIfInBounds_toArray, List.set_cons_zero, List.set_cons_succ]
      refine Till.take 15 (some 45) (v := ?_) rfl rfl (by kernel_rfl) (by kernel_rfl) (by kernel_rfl) (by kernel_rfl) (fun _ _ _ h => h) (Or.inl ⟨by rfl, ?_⟩) (by assumption) ?_
      rotate_left
      · (intro w hSw; (try dsimp only at hSw); go_simp; try with_reducible rfl)
      try simp only [Act.put, List.setIfInBounds_toArray, List.set_cons_zero, List.set_cons_succ]
      refine Till.take 16 (some 46) (v := ?_) rfl rfl (by kernel_rfl) (by kernel_rfl) (by kernel_rfl) (by kernel_rfl) (fun _ _ _ h => h) (Or.inl ⟨by rfl, ?_⟩) (by assumption) ?_
      rotate_left
      · (intro w hSw; (try dsimp only at hSw); go_simp; try with_reducible rfl)
      try simp only [Act.put, List.setIfInBounds_toArray, List.set_cons_zero, List.set_cons_succ]
      refine Till.take 18 (some 48) (v := ?_) rfl rfl (by kernel_rfl) (by kernel_rfl) (by kernel_rfl) (by kernel_rfl) (fun _ _ _ h => h) (Or.inl ⟨by rfl, ?_⟩) (by assumption) ?_
      rotate_left
      · (intro w hSw; (try dsimp only at hSw); go_simp; try with_reducible rfl)
      try simp only [Act.put, List.setIfInBounds_toArray, List.set_cons_zero, List.set_cons_succ]
      refine Till.take 19 (some 49) (v := ?_) rfl rfl (by kernel_rfl) (by kernel_rfl) (by kernel_rfl) (by kernel_rfl) (fun _ _ _ h => h) (Or.inl ⟨by rfl, ?_⟩) (by assumption) ?_
      rotate_left
      · (intro w hSw; (try dsimp only at hSw); go_simp; try with_reducible rfl)
      try simp only [Act.put, List.setIfInBounds_toArray, List.set_cons_zero, List.set_cons_succ]
      refine Till.take 20 (some 50) (v := ?_) rfl rfl (by kernel_rfl) (by kernel_rfl) (by kernel_rfl) (by kernel_rfl) (fun _ _ _ h => h) (Or.inl ⟨by rfl, ?_⟩) (by assumption) ?_
      rotate_left
      · (intro w hSw; (try dsimp only at hSw); go_simp; try with_reducible rfl)
      try simp only [Act.put, List.setIfInBounds_toArray, List.set_cons_zero, List.set_cons_succ]
      refine Till.take 21 (some 51) (v := ?_) rfl rfl (by kernel_rfl) (by kernel_rfl) (by kernel_rfl) (by kernel_rfl) (fun _ _ _ h => h) (Or.inl ⟨by rfl, ?_⟩) (by assumption) ?_
      rotate_left
      · (intro w hSw; (try dsimp only at hSw); go_simp; try with_reducible rfl)
      try simp only [Act.put, List.setIfInBounds_toArray, List.set_cons_zero, List.set_cons_succ]
      refine Till.take 22 (some 52) (v := ?_) rfl rfl (by kernel_rfl) (by kernel_rfl) (by kernel_rfl) (by kernel_rfl) (fun _ _ _ h => h) (Or.inl ⟨by rfl, ?_⟩) (by assumption) ?_
      rotate_left
      · (intro w hSw; (try dsimp only at hSw); go_simp; try with_reducible rfl)
      try simp only [Act.put, List.setIfInBounds_toArray, List.set_cons_zero, List.set_cons_succ]
      refine Till.take 23 (some 53) (v := ?_) rfl rfl (by kernel_rfl) (by kernel_rfl) (by kernel_rfl) (by kernel_rfl) (fun _ _ _ h => h) (Or.inl ⟨by rfl, ?_⟩) (by assumption) ?_
      rotate_left
      · (intro w hSw; (try dsimp only at hSw); go_simp; try with_reducible rfl)
      try simp only [Act.put, List.setIfInBounds_toArray, List.set_cons_zero, List.set_cons_succ]
      refine Till.take 24 (some 54) (v := ?_) rfl rfl (by kernel_rfl) (by kernel_rfl) (by kernel_rfl) (by kernel_rfl) (fun _ _ _ h => h) (Or.inl ⟨by rfl, ?_⟩) (by assumption) ?_
      rotate_left
      · (intro w hSw; (try dsimp only at hSw); go_simp; try with_reducible rfl)
      try simp only [Act.put, List.setIfInBounds_toArray, List.set_cons_zero, List.set_cons_succ]
      refine Till.take 25 (some 55) (v := ?_) rfl rfl (by kernel_rfl) (by kernel_rfl) (by kernel_rfl) (by kernel_rfl) (fun _ _ _ h => h) (Or.inl ⟨by rfl, ?_⟩) (by assumption) ?_
      rotate_left
      · (intro w hSw; (try dsimp only at hSw); go_simp; try with_reducible rfl)
      try simp only [Act.put, List.setIfInBounds_toArray, List.set_cons_zero, List.set_cons_succ]
      refine Till.take 26 (some 56) (v := ?_) rfl rfl (by kernel_rfl) (by kernel_rfl) (by kernel_rfl) (by kernel_rfl) (fun _ _ _ h => h) (Or.inl ⟨by rfl, ?_⟩) (by assumption) ?_
      rotate_left
      · (intro w hSw; (try dsimp only at hSw); go_simp; try with_reducible rfl)
      try simp only [Act.put, List.setIfInBounds_toArray, List.set_cons_zero, List.set_cons_succ]
      refine Till.take 27 (some 57) (v := ?_) rfl rfl (by kernel_rfl) (by kernel_rfl) (by kernel_rfl) (by kernel_rfl) (fun _ _ _ h => h) (Or.inl ⟨by rfl, ?_⟩) (by assumption) ?_
      rotate_left
      · (intro w hSw; (try dsimp only at hSw); go_simp; try with_reducible rfl)
      try simp only [Act.put, List.setIfInBounds_toArray, List.set_cons_zero, List.set_cons_succ]
      refine Till.take 28 (some 58) (v := ?_) rfl rfl (by kernel_rfl) (by kernel_rfl) (by kernel_rfl) (by kernel_rfl) (fun _ _ _ h => h) (Or.inl ⟨by rfl, ?_⟩) (by assumption) ?_
      rotate_left
      · (intro w hSw; (try dsimp only at hSw); go_simp; try with_reducible rfl)
      try simp only [Act.put, List.setIfInBounds_toArray, List.set_cons_zero, List.set_cons_succ]
      refine Till.take 29 (some 59) (v := ?_) rfl rfl (by kernel_rfl) (by kernel_rfl) (by kernel_rfl) (by kernel_rfl) (fun _ _ _ h => h) (Or.inl ⟨by rfl, ?_⟩) (by assumption) ?_
      rotate_left
      · (intro w hSw; (try dsimp only at hSw); go_simp; try with_reducible rfl)
      try simp only [Act.put, List.setIfInBounds_toArray, List.set_cons_zero, List.set_cons_succ]
      refine Till.take 30 (some 60) (v := ?_) rfl rfl (by kernel_rfl) (by kernel_rfl) (by kernel_rfl) (by kernel_rfl) (fun _ _ _ h => h) (Or.inl ⟨by rfl, ?_⟩) (by assumption) ?_
      rotate_left
      · (intro w hSw; (try dsimp only at hSw); go_simp; try with_reducible rfl)
      try simp only [Act.put, List.setIfInBounds_toArray, List.set_cons_zero, List.set_cons_succ]
      refine Till.take 31 (some 61) (v := ?_) rfl rfl (by kernel_rfl) (by kernel_rfl) (by kernel_rfl) (by kernel_rfl) (fun _ _ _ h => h) (Or.inl ⟨by rfl, ?_⟩) (by assumption) ?_
      rotate_left
      · (intro w hSw; (try dsimp only at hSw); go_simp; try with_reducible rfl)
      try simp only [Act.put, List.setIfInBounds_toArray, List.set_cons_zero, List.set_cons_succ]
      refine Till.take 32 (some 62) (v := ?_) rfl rfl (by kernel_rfl) (by kernel_rfl) (by kernel_rfl) (by kernel_rfl) (fun _ _ _ h => h) (Or.inl ⟨by rfl, ?_⟩) (by assumption) ?_
      rotate_left
      · (intro w hSw; (try dsimp only at hSw); go_simp; try with_reducible rfl)
      try simp only [Act.put, List.setIfInBounds_toArray, List.set_cons_zero, List.set_cons_succ]
      refine Till.take 33 (some 63) (v := ?_) rfl rfl (by kernel_rfl) (by kernel_rfl) (by kernel_rfl) (by kernel_rfl) (fun _ _ _ h => h) (Or.inl ⟨by rfl, ?_⟩) (by assumption) ?_
      rotate_left
      · (intro w hSw; (try dsimp only at hSw); go_simp; try with_reducible rfl)
      try simp only [Act.put, List.setIfInBounds_toArray, List.set_cons_zero, List.set_cons_succ]
      refine Till.one 17 rfl (by kernel_rfl) (fun K hK => ?_)
      go_simp
      go_at_call 89
      refine (hdn _).mono ?_
      rintro e3 w3 ⟨rfl, hw3⟩
      subst hw3
      refine hK.out _ _ (fun _ => hHeld) (fun _ => ?_)
      clear hK K hdn
      try simp only [Act.put, List.setIfInBounds_toArray, List.set_cons_zero, List.set_cons_succ]
      refine Till.one 34 rfl (by kernel_rfl) (fun K hK => ?_)
      go_simp
      go_at_call 90
      refine (hup _).mono ?_
      rintro e3 w3 ⟨rfl, hw3⟩
      subst hw3
      refine hK.out _ _ (fun _ => hHeld) (fun _ => ?_)
      clear hK K hup
      try simp only [Act.put, List.setIfInBounds_toArray, List.set_cons_zero, List.set_cons_succ]
      refine Till.take 35 (some 65) (v := ?_) rfl rfl (by kernel_rfl) (by kernel_rfl) (by kernel_rfl) (by kernel_rfl) (fun _ _ _ h => h) (Or.inl ⟨by rfl, ?_⟩) (by assumption) ?_
      rotate_left
      · (intro w hSw; (try dsimp only at hSw); go_simp; try with_reducible rfl)
      try simp only [Act.put, List.setIfInBounds_toArray, List.set_cons_zero, List.set_cons_succ]
      refine Till.one 36 rfl (by kernel_rfl) (fun K hK => ?_)
      go_simp
      refine hK.out _ _ (fun _ => HSV.out _ HD.out) (fun hHeld3 => ?_)
      clear hK K
      try simp only [Act.put, List.setIfInBounds_toArray]
      have hownA := own_drew (HO.out.alloc (.cells #[.int .i64 T.lo, .int .i64 T.hi] 29))
      have hnews : ∀ j u, [Value.int .i64 T.lo, .int .i64 T.hi][j]? = some u → (V0.alloc (.cells #[.int .i64 T.lo, .int .i64 T.hi] 29)).drew.cell? ((⟨V0.heap.size, 0, none⟩ : Addr).add j) = some u := World.news_of_block (w := (V0.alloc (.cells #[.int .i64 T.lo, .int .i64 T.hi] 29)).drew) (Blk.new V0 #[.int .i64 T.lo, .int .i64 T.hi] 29)
      have hHS := HSV.out _ HD.out
      dsimp only at hHS
      obtain ⟨j0, j1, j2, j3, j4, j5, j6, j7⟩ := hHS
      have hll := HLL.out
      obtain ⟨i0, hi, hzz⟩ := Option.map_eq_some_iff.1 info_span
      simp only [Prod.mk.injEq] at hzz
      obtain ⟨hz0, hz1, hz2⟩ := hzz
      refine Till.one 37 rfl (by kernel_rfl) (fun K hK => ?_)
      refine step_append_lies _ (by rfl) _ _ _ (by rfl) w2.heap.size 29 i0 _ 2 16 Tryd.underlying25 hi hz0 hz1 hz2 rfl (by omega) _ l.length _ (by rfl) hownA ⟨V0.heap.size, 0, none⟩ 1 1 [.int .i64 T.lo, .int .i64 T.hi] (by rfl) (by rfl) hnews (by simp [Value.oneCell']) (by omega) (by unfold maxLen; omega) (by omega) (Nat.le_trans HB.out.size HD.out.size) _ rfl ?_
      intro g6' k6 w6 hown6 hgrow6 hat6 hlt6
      refine hK.out _ _ (fun _ => ⟨hgrow6.cell j0 (fun e => hn1 e.symm), hgrow6.cell j1 (fun e => hn1 e.symm), hgrow6.cell j2 (fun e => hn1 e.symm), hgrow6.cell j3 (fun e => hn1 e.symm), hgrow6.cell j4 (fun e => hn1 e.symm), hgrow6.cell j5 (fun e => hn1 e.symm), hgrow6.cell j6 (fun e => hn2 e.symm), hgrow6.cell j7 (fun e => hn2 e.symm)⟩) (fun hHeld4 => ?_)
      clear hK K
      try simp only [Act.put]
      have hb6 : Below w2.heap.size w2 w6 := (HB.out.trans (HD.out.mono HB.out.size)).grown hgrow6 (Nat.le_trans HB.out.size HD.out.size) (fun k e => hwb k e)
      have hownF : w6.ownsRow w2.heap.size 29 2 (.slice (some ⟨g6', 0, none⟩) (k + 1) k6) (l ++ [T]).length ((l ++ [T]).flatMap spCells) := by rw [← hll]; simpa [spCells] using hown6
      have HF := Lib.hid hownF
      have HF2 := Lib.hid hb6
      have hh4 := hHeld4 (by decide)
      clear hown6 hgrow6 hownF hb6 hownA hnews j0 j1 j2 j3 j4 j5 j6 j7 hHeld hHeld3 hi hz0 hz1 hz2
      refine Till.take 38 (some 7) (v := ?_) rfl rfl (by kernel_rfl) (by kernel_rfl) (by kernel_rfl) (by kernel_rfl) (fun _ _ _ h => h) (Or.inl ⟨by rfl, ?_⟩) (by assumption) ?_
      rotate_left
      · (intro w hSw; (try dsimp only at hSw); go_simp; try with_reducible rfl)
      try simp only [Act.put, List.setIfInBounds_toArray]
      refine Till.done (by kernel_rfl) ?_ _
      clear hh4 hHeld4 g0 g1 g2 g3 g4 g5 g6 g7
      go_wp2
      go_roundw
      case rel => exact ⟨k + 1, l ++ [T], by omega, by go_num, HNX, HF.out, HF2.out⟩
      case measure => simp [intOf]; omega
    · have hke : k = b.rings.length := by omega
      have hfull : l = thickL b s := by rw [hlt.out, hke, ← HL.out]; exact List.take_of_length_le (Nat.le_refl _)
      have hwl := hown
      have hrd : RSps (vis (w.heap.size ≤ ·) wr) u7 l := own_RSps (own_vis hown (fun g hg => Nat.le_trans hA2.size (hown.lt g hg).1)) (by rw [hfull, HL.out]; omega) (fun x hx => by
        rw [hfull] at hx
        obtain ⟨r, hr, rfl⟩ := List.mem_map.1 hx
        obtain ⟨j, hj, rfl⟩ := List.getElem_of_mem hr
        have := thickR_bd (hok.rings j hj) hOkw
        unfold I64
        omega)
      rw [hfull] at hrd
      have hAF := hA2.trans (hb.mono hA2.size)
      have HR := Lib.hid hrd
      have HA := Lib.hid hAF
      clear hrd hAF hown hwl hfull hl hb hBr hSr hke
      go_wp2
      go_ret2
      exact ⟨u7, by rw [HT.out]; rfl, by rw [HT.out]; exact HR.out, HA.out⟩

end Go.Proofs.YtmmlocjiegkjeaaDoor
